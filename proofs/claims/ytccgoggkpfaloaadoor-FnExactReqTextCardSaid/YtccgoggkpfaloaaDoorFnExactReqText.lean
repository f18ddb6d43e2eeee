/-
  For every request the program's ReqText answers as its model does, and leaves the request as it was, where the library's tables hold what its text lays in them (the card ties them to it).
-/
import Derived.Test.YtccgoggkpfaloaaDoorCards
import Derived.Test.YtccgoggkpfaloaaDoorTie
import Derived.WalkKit
import Derived.ProofKit
import Derived.OpenShut
import Derived.ShutString
import Derived.ChangeOld
import Derived.Below
import Derived.Deep.DeepHandedRow
import Derived.Lib.LaidTab
import Derived.Test.YtccgoggkpfaloaaDoorText2
import Derived.Test.YtccgoggkpfaloaaDoorOpenReq
namespace Go.Proofs.YtccgoggkpfaloaaDoor.fnExactReqText
open Go.ChangeShapes Go.WideShapes Go.ChangeAt Go.RowKit
open Go.ChangeMaps (open_string shut_string)
set_option linter.unusedVariables false

theorem own : ownKnob Tryd.prog.godebug = none := by kernel_rfl
theorem laidOut : laidOutB Tryd.prog = true := by kernel_rfl
open Num Rows3
theorem pow_of {w : World} (h : laidMetH Tryd.prog Rows.fnExactReqTextRow.laid w) : Pow w :=
  Lib.tabIs_of_head (rest := []) gPow (t := 90) (e := 77) (n := 20) (by kernel_rfl) Tryd.underlying90 Tryd.underlying77 (by kernel_rfl) (by kernel_rfl)
    (show laidMetH Tryd.prog [("internal/strconv.uint64pow10", Rows.laid_internal_strconv_uint64pow10)] w from h.filter (fun x => x.1 == "internal/strconv.uint64pow10"))
set_option maxHeartbeats 4000000 in
set_option maxRecDepth 100000 in
theorem walk (q0 : Bool) (x0 y0 z0 : Int) (l0 : Bool) (a0 : Option Addr) (len0 cap0 : Nat) (s0 : List Int) (w : World) (w0 : Rows3.IsRowQ w a0 len0 cap0 s0) (wx0 : (Lit.int .i64 x0).wf = true) (wy0 : (Lit.int .i64 y0).wf = true) (wz0 : (Lit.int .i64 z0).wf = true) (hL : laidMetH Tryd.prog Rows.fnExactReqTextRow.laid w) :
    Calls Tryd.prog 3 #[.agg #[.bool q0, .int .i64 x0, .int .i64 y0, .int .i64 z0, .bool l0, .slice a0 len0 cap0]] w fun e w' => e = .returned (.bool true) ∧ Below w.heap.size w w' := by
  have Htab := Lib.hid (pow_of hL)
  clear hL
  have hlen := w0.len
  by_cases hbig : 1048576 < len0
  · have hsz := szW_no hbig
    have Hsz := Lib.hid hsz
    clear w0 hsz
    go_enter Tryd.func3, Tryd.ntmps3
    go_wp2_with fail
    refine (szReq_any _ _ _ _ _ _ len0 _ ⟨_, _, rfl⟩ hlen).mono ?_
    rintro e w1 ⟨rfl, hb1⟩
    rw [Hsz.out]
    go_wp2
    go_ret
    exact ⟨rfl, below_alloc1 (Below.refl _ _) (Nat.le_refl _) hb1⟩
  · obtain ⟨l, hl, hr⟩ := rdIn w0
    have hl2 : Hid (l.length ≤ 2000000) := Lib.hid (by omega)
    have Hr := Lib.hid hr
    have B0 := Blk.new 24 (.bool q0) (.int .i64 x0) (.int .i64 y0) (.int .i64 z0) (.bool l0) (.slice a0 len0 cap0) w
    have Hsz := Lib.hid (szW_yes (by omega : len0 ≤ 1048576))
    have hb : len0 ≤ 1048576 := by omega
    clear w0 hr hl hbig
    go_enter Tryd.func3, Tryd.ntmps3
    go_wp2_with fail
    refine (szReq_any _ _ _ _ _ _ len0 _ ⟨_, _, rfl⟩ hlen).mono ?_
    rintro e w1 ⟨rfl, hb1⟩
    rw [Hsz.out]
    obtain ⟨g0, g1, g2, g3, g4, g5⟩ := (B0.later hb1).cells
    have B1 := Lib.hid (B0.later hb1)
    have hb01 := below_alloc1 (Below.refl w.heap.size w) (Nat.le_refl _) hb1
    have Hb1 := Lib.hid hb01
    clear hb1 B0 hb01
    go_wp2_with fail
    refine (toReq_any _ _ _ _ _ _ l hl2.out _ (Hr.out.below Hb1.out)).mono ?_
    rintro e w2 ⟨v1, rfl, ho1, hb2⟩
    have H1 := Lib.hid ho1.rd
    have B2 := Lib.hid (B1.out.later hb2)
    have Hb2 := Lib.hid (Hb1.out.trans (hb2.mono Hb1.out.size))
    clear ho1 hb2 g0 g1 g2 g3 g4 g5
    obtain ⟨B, hB⟩ : ∃ B, txtB q0 x0 y0 z0 l0 l = B := ⟨_, rfl⟩
    have HB := Lib.hid hB
    clear hB
    go_wp2_with fail
    refine (specText _ _ _ _ _ _ l hl2.out _ H1.out).mono ?_
    rintro e w3 ⟨rfl, hb3⟩
    rw [HB.out]
    obtain ⟨g0, g1, g2, g3, g4, g5⟩ := (B2.out.later hb3).cells
    have B3 := Lib.hid (B2.out.later hb3)
    have Hb3 := Lib.hid (Hb2.out.trans (hb3.mono Hb2.out.size))
    clear hb3
    go_wp2_with fail
    refine (toReq_any _ _ _ _ _ _ l hl2.out _ (Hr.out.below Hb3.out)).mono ?_
    rintro e w4 ⟨v2, rfl, ho2, hb4⟩
    have H2 := Lib.hid ho2.rd
    obtain ⟨ad2, cap2, rfl⟩ := ho2.slice
    have B4 := Lib.hid (B3.out.later hb4)
    have Hb4 := Lib.hid (Hb3.out.trans (hb4.mono Hb3.out.size))
    have X4 := Lib.hid (Blk.new 27 (.bool q0) (.int .i64 x0) (.int .i64 y0) (.int .i64 z0) (.bool l0) (.slice ad2 l.length cap2) w4)
    clear ho2 hb4 g0 g1 g2 g3 g4 g5
    go_wp2_with fail
    refine (implText _ _ _ _ _ _ l hl2.out _ (rdI_alloc H2.out _) (Htab.out.below (Hb4.out.alloc Hb4.out.size _))).mono ?_
    rintro e w5 ⟨rfl, hb5⟩
    rw [HB.out]
    have B5 := Lib.hid ((B4.out.later ((Below.refl _ _).alloc (Nat.le_refl _) _)).later hb5)
    have X5 := Lib.hid (X4.out.later hb5)
    have H5 := Lib.hid ((rdI_alloc H2.out _).below hb5)
    have Hb5 := Lib.hid (below_alloc1 Hb4.out Hb4.out.size hb5)
    obtain ⟨g0, g1, g2, g3, g4, g5⟩ := B5.out.cells
    obtain ⟨k0, k1, k2, k3, k4, k5⟩ := X5.out.cells
    have hlt := X5.out.lt
    have hlt2 := B5.out.lt
    have hBB : (B.toList != B.toList) = false := by simp
    have hBB2 : (B.toList == B.toList) = true := by simp
    clear hb5 B4 B3 B2 B1 X4
    go_wp2_with fail
    go_region_held3 (fun w' => w'.cell? ⟨w.heap.size, 0, none⟩ = some (.bool q0) ∧ w'.cell? ⟨w.heap.size, 1, none⟩ = some (.int .i64 x0) ∧ w'.cell? ⟨w.heap.size, 2, none⟩ = some (.int .i64 y0) ∧ w'.cell? ⟨w.heap.size, 3, none⟩ = some (.int .i64 z0) ∧ w'.cell? ⟨w.heap.size, 4, none⟩ = some (.bool l0) ∧ w'.cell? ⟨w.heap.size, 5, none⟩ = some (.slice a0 len0 cap0) ∧
      w'.cell? ⟨w4.heap.size, 0, none⟩ = some (.bool q0) ∧ w'.cell? ⟨w4.heap.size, 1, none⟩ = some (.int .i64 x0) ∧ w'.cell? ⟨w4.heap.size, 2, none⟩ = some (.int .i64 y0) ∧ w'.cell? ⟨w4.heap.size, 3, none⟩ = some (.int .i64 z0) ∧ w'.cell? ⟨w4.heap.size, 4, none⟩ = some (.bool l0) ∧ w'.cell? ⟨w4.heap.size, 5, none⟩ = some (.slice ad2 l.length cap2)) (go_keep) (first
      | (go_at_call 7; refine (toReq_any _ _ _ _ _ _ l hl2.out _ (Hr.out.below Hb5.out.drew)).mono ?_; rintro e w6 ⟨v3, rfl, ho3, hb6⟩; have hk : ∀ i, w6.cell? ⟨w4.heap.size, i, none⟩ = w5.cell? ⟨w4.heap.size, i, none⟩ := fun i => hb6.cell (p := ⟨w4.heap.size, i, none⟩) hlt; have hk' : ∀ i, w6.cell? ⟨w.heap.size, i, none⟩ = w5.cell? ⟨w.heap.size, i, none⟩ := fun i => hb6.cell (p := ⟨w.heap.size, i, none⟩) hlt2)
      | (go_at_call 9; (refine (eqReq_same _ _ _ _ _ _ _ l hl2.out _ ((show RdI (.slice ad2 l.length cap2) l w5.drew from H5.out).below hb6) ho3.rd).mono ?_); rintro e w7 ⟨rfl, hb7⟩; have hk2 : ∀ i, w7.cell? ⟨w4.heap.size, i, none⟩ = w6.cell? ⟨w4.heap.size, i, none⟩ := fun i => hb7.cell (p := ⟨w4.heap.size, i, none⟩) (Nat.lt_of_lt_of_le hlt hb6.size); have hk2' : ∀ i, w7.cell? ⟨w.heap.size, i, none⟩ = w6.cell? ⟨w.heap.size, i, none⟩ := fun i => hb7.cell (p := ⟨w.heap.size, i, none⟩) (Nat.lt_of_lt_of_le hlt2 hb6.size)))
    all_goals
      go_wp2
      go_ret
      exact ⟨rfl, (Hb5.out.drew.trans (hb6.mono Hb5.out.size)).trans (hb7.mono (Nat.le_trans Hb5.out.size hb6.size))⟩

set_option maxRecDepth 100000 in
theorem contract (H : Type) (enc : TypeId × Value → H) (W : World) (base : Nat) (args : Array Value) (ds gs : List (DataW H)) (before : List MemPlace)
    (hval : ∀ (j : Nat) t v, Tryd.f3.params[j]? = some t → args[j]? = some v → Value.okWide Tryd.prog W .any base t v)
    (hW : DataW.Whole enc Tryd.prog Tryd.f3.params.toList Rows.fnExactReqTextSpec.vars false W args.toList ds gs before) (hL : laidMetH Tryd.prog Rows.fnExactReqTextRow.laid W) :
    Calls Tryd.prog 3 args W fun e W' => ∃ v, e = .returned v ∧ Rows.fnExactReqTextSpec.post enc Tryd.prog Tryd.f3 false true false false W args v W' := by
  have hW' := hW
  obtain ⟨p, q, hA0, hV, rfl, hfz, hnd⟩ := hW
  have hA : DataW.TrodAll enc Tryd.prog W 0 (fun _ => true) true Tryd.f3.params.toList args.toList ds p := hA0
  rw [Tryd.params3] at hA hval
  obtain ⟨v0, vs0, d0, ds0, p0, q0, hargs, rfl, rfl, h0, r0⟩ := trodAll_cons hA
  obtain ⟨rfl, rfl, rfl⟩ := trodAll_nil r0
  obtain rfl : args = #[v0] := by cases args; simp_all
  obtain ⟨rfl, rfl⟩ := trodVars_none hV
  have k0 := h0
  have lt0 : ∀ x ∈ p0, x.block < W.heap.size := by obtain ⟨m, hm⟩ := k0; exact DataW.trod_lt m _ _ _ hm
  obtain ⟨q0, x0, y0, z0, l0, a0, len0, cap0, s0, rfl, w0, wx0, wy0, wz0⟩ := Rows3.open_req (hval 0 24 v0 rfl rfl) h0
  clear hA0
  refine (walk q0 x0 y0 z0 l0 a0 len0 cap0 s0 W w0 wx0 wy0 wz0 hL).mono fun e W' ⟨he, bel⟩ => ?_
  subst he
  exact ⟨_, rfl, _, _, _, [], _, [], hW', (trodAll_cons_mk (shut_bool Tryd.underlying4 _) trodAll_mk0), (trodAll_cons_mk (Below.trod laidOut (by kernel_rfl) (of_decide_eq_true (by kernel_rfl)) k0 bel lt0) trodAll_mk0), rfl, bel.frame _, fun h => by cases h⟩

noncomputable def laidWorld (os : Os) : World :=
  let w0 := World.holding Tryd.prog os ⟨#[], #[], []⟩
  { w0 with heap := (((w0.heap.modify 6 fun
      | .cells _ t frozen => .cells #[.int .u8 0, .int .u8 1, .int .u8 28, .int .u8 2, .int .u8 29, .int .u8 14, .int .u8 24, .int .u8 3, .int .u8 30, .int .u8 22, .int .u8 20, .int .u8 15, .int .u8 25, .int .u8 17, .int .u8 4, .int .u8 8, .int .u8 31, .int .u8 27, .int .u8 13, .int .u8 23, .int .u8 21, .int .u8 19, .int .u8 16, .int .u8 7, .int .u8 26, .int .u8 12, .int .u8 18, .int .u8 6, .int .u8 11, .int .u8 5, .int .u8 10, .int .u8 9] t frozen
      | o => o).modify 7 fun
      | .cells _ t frozen => .cells #[.int .u8 0, .int .u8 1, .int .u8 56, .int .u8 2, .int .u8 57, .int .u8 49, .int .u8 28, .int .u8 3, .int .u8 61, .int .u8 58, .int .u8 42, .int .u8 50, .int .u8 38, .int .u8 29, .int .u8 17, .int .u8 4, .int .u8 62, .int .u8 47, .int .u8 59, .int .u8 36, .int .u8 45, .int .u8 43, .int .u8 51, .int .u8 22, .int .u8 53, .int .u8 39, .int .u8 33, .int .u8 30, .int .u8 24, .int .u8 18, .int .u8 12, .int .u8 5, .int .u8 63, .int .u8 55, .int .u8 48, .int .u8 27, .int .u8 60, .int .u8 41, .int .u8 37, .int .u8 16, .int .u8 46, .int .u8 35, .int .u8 44, .int .u8 21, .int .u8 52, .int .u8 32, .int .u8 23, .int .u8 11, .int .u8 54, .int .u8 26, .int .u8 40, .int .u8 15, .int .u8 34, .int .u8 20, .int .u8 31, .int .u8 10, .int .u8 25, .int .u8 14, .int .u8 19, .int .u8 9, .int .u8 13, .int .u8 8, .int .u8 7, .int .u8 6] t frozen
      | o => o).modify 1 fun
      | .cells _ t frozen => .cells #[.int .u64 1, .int .u64 10, .int .u64 100, .int .u64 1000, .int .u64 10000, .int .u64 100000, .int .u64 1000000, .int .u64 10000000, .int .u64 100000000, .int .u64 1000000000, .int .u64 10000000000, .int .u64 100000000000, .int .u64 1000000000000, .int .u64 10000000000000, .int .u64 100000000000000, .int .u64 1000000000000000, .int .u64 10000000000000000, .int .u64 100000000000000000, .int .u64 1000000000000000000, .int .u64 10000000000000000000] t frozen
      | o => o) }
theorem laid_met (os : Os) : laidMet Tryd.prog Rows.fnExactReqTextRow.laid ((laidWorld os).forCall (fun _ _ => 0) ⟨#[], #[.agg #[.bool false, .int .i64 0, .int .i64 0, .int .i64 0, .bool false, .slice none 0 0]], []⟩).memory :=
  laidMet_of_run' 8 (by kernel_rfl) (by kernel_rfl)
theorem reads (os : Os) {H : Type} (enc : TypeId × Value → H) : ∃ places, DataW.whole enc Tryd.prog ((laidWorld os).forCall (fun _ _ => 0) ⟨#[], #[.agg #[.bool false, .int .i64 0, .int .i64 0, .int .i64 0, .bool false, .slice none 0 0]], []⟩).memory Tryd.f3.params.toList Rows.fnExactReqTextSpec.vars false (#[.agg #[.bool false, .int .i64 0, .int .i64 0, .int .i64 0, .bool false, .slice none 0 0]] : Array Value).toList 8 = some ([.agg [.lit (.bool false), .lit (.int .i64 0), .lit (.int .i64 0), .lit (.int .i64 0), .lit (.bool false), .nil]], [], places) :=
  ⟨[], by kernel_rfl⟩

set_option maxRecDepth 100000 in
theorem lifted (os : Os) (started : os.Started) (H : Type) (enc : TypeId × Value → H) (F : Stop.Interp) :
    ReturnsInHanded {} Tryd.checked os 3 .any ((OpenSpec.ofChange Rows.fnExactReqTextSpec).preRow enc Tryd.prog Tryd.f3 Rows.fnExactReqTextRow.domain false Rows.fnExactReqTextRow.laid) (((OpenSpec.ofChange Rows.fnExactReqTextSpec).at F).post enc Tryd.prog Tryd.f3 false true false false) := by
  obtain ⟨places, hx⟩ := reads os enc
  refine returnsInHanded_of_row (C := Tryd.checked) (s := OpenSpec.ofChange Rows.fnExactReqTextSpec) own started (by kernel_rfl) Tryd.func3
    (witness_row_at (enc := enc) (C := Tryd.checked) false (laidWorld os) #[.agg #[.bool false, .int .i64 0, .int .i64 0, .int .i64 0, .bool false, .slice none 0 0]] rfl (by kernel_rfl) (by kernel_rfl) (by kernel_rfl)
      (OpenSpec.preRow_of_cond 8 hx (by kernel_rfl) (fun k hk => by cases hk) (by kernel_rfl) (laid_met os))) ?_
  intro W base args ds gs before hval hW _ _ _ hL _ _
  exact contract H enc W base args ds gs before hval hW hL

theorem said : Rows.FnExactReqTextSaid :=
  OpenClaim.holds_of_cond 3 Tryd.f3 rfl rfl rfl rfl rfl rfl rfl ⟨rfl, rfl, rfl, rfl, rfl⟩ rfl rfl rfl rfl rfl (by kernel_rfl) Tryd.func3 (by kernel_rfl)
    (of_decide_eq_true (by kernel_rfl)) (by unfold Func.isWrapper; first | (rw [if_pos (by decide +kernel)]; kernel_rfl) | (rw [if_neg (by decide +kernel)]; exact ⟨rfl, rfl⟩))
    (fun os started H enc _ F => by rw [OpenClaim.pre_eq_preRow]; exact lifted os started H enc F)

theorem plain (f : FuncId) (fn : Func) (hf : Tryd.pinned.checked.prog.funcNamed "loop.example/g01623/laws.FnExactReqText" = some f) (hfn : Tryd.pinned.checked.prog.funcs[f]? = some fn) :
    true = Tryd.pinned.checked.prog.looks [] ∧ ∀ (j : Nat) t, fn.params[j]? = some t → Tryd.pinned.checked.prog.wantsStandIn t = false := by
  obtain rfl : f = 3 := Option.some.inj ((show Tryd.prog.funcNamed "loop.example/g01623/laws.FnExactReqText" = some 3 by kernel_rfl).symm.trans hf) |>.symm
  obtain rfl : fn = Tryd.f3 := (Option.some.inj (Tryd.func3.symm.trans hfn)).symm
  refine ⟨by kernel_rfl, fun j t ht => ?_⟩
  rw [Tryd.params3] at ht
  have hm : t ∈ (#[24] : Array TypeId) := Array.mem_of_getElem? ht
  obtain rfl : t = 24 := by simpa using hm
  exact (show Tryd.prog.wantsStandIn 24 = false by kernel_rfl)

theorem proved : Rows.FnExactReqTextCardSaid :=
  Claim7.holds_tied_plain_at .later [] _ _ _ _ said (fun _ h => by cases h) (by kernel_rfl) (fun _ h => by cases h) fnExactReqText_row_tie rfl ⟨rfl, rfl⟩ (by kernel_rfl) rfl plain (by kernel_rfl)
#print axioms proved
end Go.Proofs.YtccgoggkpfaloaaDoor.fnExactReqText
