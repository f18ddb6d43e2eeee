/-
  For every configuration the program's ConfText answers as its model does, and leaves the configuration as it was, where the library's tables hold what its text lays in them (the card ties them to it).
-/
import Derived.Test.YtcggaihooepglaaDoorCards
import Derived.Test.YtcggaihooepglaaDoorTie
import Derived.WalkKit
import Derived.ProofKit
import Derived.OpenShut
import Derived.ShutString
import Derived.ChangeOld
import Derived.Below
import Derived.Deep.DeepHandedRow
import Derived.Lib.LaidTab
import Derived.Test.YtcggaihooepglaaDoorCText2
import Derived.Test.YtcggaihooepglaaDoorOpenConf
import Derived.Deep.RegionHeld3
namespace Go.Proofs.YtcggaihooepglaaDoor.fnExactConfText
open Go.ChangeShapes Go.WideShapes Go.ChangeAt Go.RowKit
open Go.ChangeMaps (open_string shut_string)
set_option linter.unusedVariables false

theorem own : ownKnob Tryd.prog.godebug = none := by kernel_rfl
theorem laidOut : laidOutB Tryd.prog = true := by kernel_rfl
open Num GR
theorem pow_of {w : World} (h : laidMetH Tryd.prog Rows.fnExactConfTextRow.laid w) : Pow w :=
  Lib.tabIs_of_head (rest := []) gPow (t := 127) (e := 108) (n := 20) (by kernel_rfl) Tryd.underlying127 Tryd.underlying108 (by kernel_rfl) (by kernel_rfl)
    (show laidMetH Tryd.prog [("internal/strconv.uint64pow10", Rows.laid_internal_strconv_uint64pow10)] w from h.filter (fun x => x.1 == "internal/strconv.uint64pow10"))
set_option maxHeartbeats 4000000 in
set_option maxRecDepth 100000 in
theorem walk (u0 : Value) (l0 : List Num.MC) (q0 mw0 mr0 ms0 lm0 : Int) (w : World) (R0 : GR.Rd Num.mcK u0 l0 w) (hl0 : l0.length ≤ 9223372036854775807) (hL : laidMetH Tryd.prog Rows.fnExactConfTextRow.laid w) :
    Calls Tryd.prog 4 #[.agg #[u0, .int .i64 q0, .int .i64 mw0, .int .i64 mr0, .int .i64 ms0, .int .i64 lm0]] w fun e w' => e = .returned (.bool true) ∧ Below w.heap.size w w' := by
  have Htab := Lib.hid (pow_of hL)
  clear hL
  obtain ⟨ad0, cap0, rfl⟩ := R0.slice
  by_cases hbig : 1048576 < l0.length
  · have Hsz := Lib.hid (szL_no (L := 1048576) (n := l0.length) (by omega))
    clear R0
    go_enter Tryd.func4, Tryd.ntmps4
    go_wp2_with fail
    refine (szConf_any _ _ _ _ _ _ 1048576 l0.length _ ⟨_, _, rfl⟩ (by omega) (by omega) hl0).mono ?_
    rintro e w1 ⟨rfl, hb1⟩
    rw [Hsz.out]
    go_wp2
    go_ret
    exact ⟨rfl, below_alloc1 (Below.refl _ _) (Nat.le_refl _) hb1⟩
  · have hl2 : Hid (l0.length ≤ 2000000) := Lib.hid (by omega)
    have Hr := Lib.hid R0
    have B0 := Bx.new 36 #[.slice ad0 l0.length cap0, .int .i64 q0, .int .i64 mw0, .int .i64 mr0, .int .i64 ms0, .int .i64 lm0] w
    have Hsz := Lib.hid (szL_yes (L := 1048576) (n := l0.length) (by omega))
    have hb : l0.length ≤ 1048576 := by omega
    clear R0 hbig
    go_enter Tryd.func4, Tryd.ntmps4
    go_wp2_with fail
    refine (szConf_any _ _ _ _ _ _ 1048576 l0.length _ ⟨_, _, rfl⟩ (by omega) (by omega) hl0).mono ?_
    rintro e w1 ⟨rfl, hb1⟩
    rw [Hsz.out]
    obtain ⟨g0, g1, g2, g3, g4, g5⟩ := (B0.later hb1).cells6
    have B1 := Lib.hid (B0.later hb1)
    have Hb1 := Lib.hid (below_alloc1 (Below.refl w.heap.size w) (Nat.le_refl _) hb1)
    clear hb1 B0
    go_wp2_with fail
    refine (toConf_any _ l0 _ _ _ _ _ hl2.out _ (Hr.out.below Hb1.out)).mono ?_
    rintro e w2 ⟨v1, rfl, ho1, hb2⟩
    obtain ⟨ad1, cap1, rfl⟩ := ho1.slice
    have H1 := Lib.hid ho1.rd
    have B2 := Lib.hid (B1.out.later hb2)
    have Hb2 := Lib.hid (Hb1.out.trans (hb2.mono Hb1.out.size))
    clear ho1 hb2 g0 g1 g2 g3 g4 g5
    obtain ⟨B, hB⟩ : ∃ B, txtC l0 q0 mw0 mr0 ms0 lm0 = B := ⟨_, rfl⟩
    have HB := Lib.hid hB
    clear hB
    go_wp2_with fail
    refine (specConfText _ l0 _ _ _ _ _ hl2.out _ H1.out).mono ?_
    rintro e w3 ⟨rfl, hb3⟩
    rw [HB.out]
    obtain ⟨g0, g1, g2, g3, g4, g5⟩ := (B2.out.later hb3).cells6
    have B3 := Lib.hid (B2.out.later hb3)
    have Hb3 := Lib.hid (Hb2.out.trans (hb3.mono Hb2.out.size))
    clear hb3
    go_wp2_with fail
    refine (toConf_any _ l0 _ _ _ _ _ hl2.out _ (Hr.out.below Hb3.out)).mono ?_
    rintro e w4 ⟨v2, rfl, ho2, hb4⟩
    have H2 := Lib.hid ho2.rd
    obtain ⟨ad2, cap2, rfl⟩ := ho2.slice
    have B4 := Lib.hid (B3.out.later hb4)
    have Hb4 := Lib.hid (Hb3.out.trans (hb4.mono Hb3.out.size))
    have X4 := Lib.hid (Bx.new 26 #[.slice ad2 l0.length cap2, .int .i64 q0, .int .i64 mw0, .int .i64 mr0, .int .i64 ms0, .int .i64 lm0] w4)
    clear ho2 hb4 g0 g1 g2 g3 g4 g5
    go_wp2_with fail
    refine (implConfText _ l0 _ _ _ _ _ hl2.out _ (H2.out.alloc _) (Htab.out.below (Hb4.out.alloc Hb4.out.size _))).mono ?_
    rintro e w5 ⟨rfl, hb5⟩
    rw [HB.out]
    have B5 := Lib.hid ((B4.out.later ((Below.refl _ _).alloc (Nat.le_refl _) _)).later hb5)
    have X5 := Lib.hid (X4.out.later hb5)
    have H5 := Lib.hid ((H2.out.alloc _).below hb5)
    have Hb5 := Lib.hid (below_alloc1 Hb4.out Hb4.out.size hb5)
    obtain ⟨g0, g1, g2, g3, g4, g5⟩ := B5.out.cells6
    obtain ⟨k0, k1, k2, k3, k4, k5⟩ := X5.out.cells6
    have hlt := X5.out.lt
    have hlt2 := B5.out.lt
    have hBB : (B.toList != B.toList) = false := by simp
    have hBB2 : (B.toList == B.toList) = true := by simp
    clear hb5 B4 B3 B2 B1 X4
    go_wp2_with fail
    go_region_held3 (fun w' => w'.cell? ⟨w.heap.size, 0, none⟩ = some (.slice ad0 l0.length cap0) ∧ w'.cell? ⟨w.heap.size, 1, none⟩ = some (.int .i64 q0) ∧ w'.cell? ⟨w.heap.size, 2, none⟩ = some (.int .i64 mw0) ∧ w'.cell? ⟨w.heap.size, 3, none⟩ = some (.int .i64 mr0) ∧ w'.cell? ⟨w.heap.size, 4, none⟩ = some (.int .i64 ms0) ∧ w'.cell? ⟨w.heap.size, 5, none⟩ = some (.int .i64 lm0) ∧
      w'.cell? ⟨w4.heap.size, 0, none⟩ = some (.slice ad2 l0.length cap2) ∧ w'.cell? ⟨w4.heap.size, 1, none⟩ = some (.int .i64 q0) ∧ w'.cell? ⟨w4.heap.size, 2, none⟩ = some (.int .i64 mw0) ∧ w'.cell? ⟨w4.heap.size, 3, none⟩ = some (.int .i64 mr0) ∧ w'.cell? ⟨w4.heap.size, 4, none⟩ = some (.int .i64 ms0) ∧ w'.cell? ⟨w4.heap.size, 5, none⟩ = some (.int .i64 lm0)) (go_keep) (first
      | (go_at_call 18; refine (toConf_any _ l0 _ _ _ _ _ hl2.out _ (Hr.out.below Hb5.out.drew)).mono ?_; rintro e w6 ⟨v3, rfl, ho3, hb6⟩; have hk : ∀ i, w6.cell? ⟨w4.heap.size, i, none⟩ = w5.cell? ⟨w4.heap.size, i, none⟩ := fun i => hb6.cell (p := ⟨w4.heap.size, i, none⟩) hlt; have hk' : ∀ i, w6.cell? ⟨w.heap.size, i, none⟩ = w5.cell? ⟨w.heap.size, i, none⟩ := fun i => hb6.cell (p := ⟨w.heap.size, i, none⟩) hlt2)
      | (go_at_call 19; (refine (eqConf_same _ _ l0 _ _ _ _ _ hl2.out _ ((show Rd mcK (.slice ad2 l0.length cap2) l0 w5.drew from H5.out).below hb6) ho3.rd).mono ?_); rintro e w7 ⟨rfl, hb7⟩; have hk2 : ∀ i, w7.cell? ⟨w4.heap.size, i, none⟩ = w6.cell? ⟨w4.heap.size, i, none⟩ := fun i => hb7.cell (p := ⟨w4.heap.size, i, none⟩) (Nat.lt_of_lt_of_le hlt hb6.size); have hk2' : ∀ i, w7.cell? ⟨w.heap.size, i, none⟩ = w6.cell? ⟨w.heap.size, i, none⟩ := fun i => hb7.cell (p := ⟨w.heap.size, i, none⟩) (Nat.lt_of_lt_of_le hlt2 hb6.size)))
    all_goals
      go_wp2
      go_ret
      exact ⟨rfl, (Hb5.out.drew.trans (hb6.mono Hb5.out.size)).trans (hb7.mono (Nat.le_trans Hb5.out.size hb6.size))⟩

set_option maxRecDepth 100000 in
theorem contract (H : Type) (enc : TypeId × Value → H) (W : World) (base : Nat) (args : Array Value) (ds gs : List (DataW H)) (before : List MemPlace)
    (hval : ∀ (j : Nat) t v, Tryd.f4.params[j]? = some t → args[j]? = some v → Value.okWide Tryd.prog W .any base t v)
    (hW : DataW.Whole enc Tryd.prog Tryd.f4.params.toList Rows.fnExactConfTextSpec.vars false W args.toList ds gs before) (hL : laidMetH Tryd.prog Rows.fnExactConfTextRow.laid W) :
    Calls Tryd.prog 4 args W fun e W' => ∃ v, e = .returned v ∧ Rows.fnExactConfTextSpec.post enc Tryd.prog Tryd.f4 false true false false W args v W' := by
  have hW' := hW
  obtain ⟨p, q, hA0, hV, rfl, hfz, hnd⟩ := hW
  have hA : DataW.TrodAll enc Tryd.prog W 0 (fun _ => true) true Tryd.f4.params.toList args.toList ds p := hA0
  rw [Tryd.params4] at hA hval
  obtain ⟨v0, vs0, d0, ds0, p0, q0, hargs, rfl, rfl, h0, r0⟩ := trodAll_cons hA
  obtain ⟨rfl, rfl, rfl⟩ := trodAll_nil r0
  obtain rfl : args = #[v0] := by cases args; simp_all
  obtain ⟨rfl, rfl⟩ := trodVars_none hV
  have k0 := h0
  have lt0 : ∀ x ∈ p0, x.block < W.heap.size := by obtain ⟨m, hm⟩ := k0; exact DataW.trod_lt m _ _ _ hm
  obtain ⟨u0, l0, q0, mw0, mr0, ms0, lm0, rfl, R0, hl0⟩ := GR.open_conf (hval 0 36 v0 rfl rfl) h0
  clear hA0
  refine (walk u0 l0 q0 mw0 mr0 ms0 lm0 W R0 hl0 hL).mono fun e W' ⟨he, bel⟩ => ?_
  subst he
  exact ⟨_, rfl, _, _, _, [], _, [], hW', (trodAll_cons_mk (shut_bool Tryd.underlying4 _) trodAll_mk0), (trodAll_cons_mk (Below.trod laidOut (by kernel_rfl) (of_decide_eq_true (by kernel_rfl)) k0 bel lt0) trodAll_mk0), rfl, bel.frame _, fun h => by cases h⟩

noncomputable def laidWorld (os : Os) : World :=
  let w0 := World.holding Tryd.prog os ⟨#[], #[], []⟩
  { w0 with heap := (((w0.heap.modify 6 fun
      | .cells _ t frozen => .cells #[.int .u8 0, .int .u8 1, .int .u8 28, .int .u8 2, .int .u8 29, .int .u8 14, .int .u8 24, .int .u8 3, .int .u8 30, .int .u8 22, .int .u8 20, .int .u8 15, .int .u8 25, .int .u8 17, .int .u8 4, .int .u8 8, .int .u8 31, .int .u8 27, .int .u8 13, .int .u8 23, .int .u8 21, .int .u8 19, .int .u8 16, .int .u8 7, .int .u8 26, .int .u8 12, .int .u8 18, .int .u8 6, .int .u8 11, .int .u8 5, .int .u8 10, .int .u8 9] t frozen
      | o => o).modify 7 fun
      | .cells _ t frozen => .cells #[.int .u8 0, .int .u8 1, .int .u8 56, .int .u8 2, .int .u8 57, .int .u8 49, .int .u8 28, .int .u8 3, .int .u8 61, .int .u8 58, .int .u8 42, .int .u8 50, .int .u8 38, .int .u8 29, .int .u8 17, .int .u8 4, .int .u8 62, .int .u8 47, .int .u8 59, .int .u8 36, .int .u8 45, .int .u8 43, .int .u8 51, .int .u8 22, .int .u8 53, .int .u8 39, .int .u8 33, .int .u8 30, .int .u8 24, .int .u8 18, .int .u8 12, .int .u8 5, .int .u8 63, .int .u8 55, .int .u8 48, .int .u8 27, .int .u8 60, .int .u8 41, .int .u8 37, .int .u8 16, .int .u8 46, .int .u8 35, .int .u8 44, .int .u8 21, .int .u8 52, .int .u8 32, .int .u8 23, .int .u8 11, .int .u8 54, .int .u8 26, .int .u8 40, .int .u8 15, .int .u8 34, .int .u8 20, .int .u8 31, .int .u8 10, .int .u8 25, .int .u8 14, .int .u8 19, .int .u8 9, .int .u8 13, .int .u8 8, .int .u8 7, .int .u8 6] t frozen
      | o => o).modify 5 fun
      | .cells _ t frozen => .cells #[.int .u64 1, .int .u64 10, .int .u64 100, .int .u64 1000, .int .u64 10000, .int .u64 100000, .int .u64 1000000, .int .u64 10000000, .int .u64 100000000, .int .u64 1000000000, .int .u64 10000000000, .int .u64 100000000000, .int .u64 1000000000000, .int .u64 10000000000000, .int .u64 100000000000000, .int .u64 1000000000000000, .int .u64 10000000000000000, .int .u64 100000000000000000, .int .u64 1000000000000000000, .int .u64 10000000000000000000] t frozen
      | o => o) }
theorem laid_met (os : Os) : laidMet Tryd.prog Rows.fnExactConfTextRow.laid ((laidWorld os).forCall (fun _ _ => 0) ⟨#[], #[.agg #[.slice none 0 0, .int .i64 0, .int .i64 0, .int .i64 0, .int .i64 0, .int .i64 0]], []⟩).memory :=
  laidMet_of_run' 8 (by kernel_rfl) (by kernel_rfl)
theorem reads (os : Os) {H : Type} (enc : TypeId × Value → H) : ∃ places, DataW.whole enc Tryd.prog ((laidWorld os).forCall (fun _ _ => 0) ⟨#[], #[.agg #[.slice none 0 0, .int .i64 0, .int .i64 0, .int .i64 0, .int .i64 0, .int .i64 0]], []⟩).memory Tryd.f4.params.toList Rows.fnExactConfTextSpec.vars false (#[.agg #[.slice none 0 0, .int .i64 0, .int .i64 0, .int .i64 0, .int .i64 0, .int .i64 0]] : Array Value).toList 8 = some ([.agg [.nil, .lit (.int .i64 0), .lit (.int .i64 0), .lit (.int .i64 0), .lit (.int .i64 0), .lit (.int .i64 0)]], [], places) :=
  ⟨[], by kernel_rfl⟩

set_option maxRecDepth 100000 in
theorem lifted (os : Os) (started : os.Started) (H : Type) (enc : TypeId × Value → H) (F : Stop.Interp) :
    ReturnsInHanded {} Tryd.checked os 4 .any ((OpenSpec.ofChange Rows.fnExactConfTextSpec).preRow enc Tryd.prog Tryd.f4 Rows.fnExactConfTextRow.domain false Rows.fnExactConfTextRow.laid) (((OpenSpec.ofChange Rows.fnExactConfTextSpec).at F).post enc Tryd.prog Tryd.f4 false true false false) := by
  obtain ⟨places, hx⟩ := reads os enc
  refine returnsInHanded_of_row (C := Tryd.checked) (s := OpenSpec.ofChange Rows.fnExactConfTextSpec) own started (by kernel_rfl) Tryd.func4
    (witness_row_at (enc := enc) (C := Tryd.checked) false (laidWorld os) #[.agg #[.slice none 0 0, .int .i64 0, .int .i64 0, .int .i64 0, .int .i64 0, .int .i64 0]] rfl (by kernel_rfl) (by kernel_rfl) (by kernel_rfl)
      (OpenSpec.preRow_of_cond 8 hx (by kernel_rfl) (fun k hk => by cases hk) (by kernel_rfl) (laid_met os))) ?_
  intro W base args ds gs before hval hW _ _ _ hL _ _
  exact contract H enc W base args ds gs before hval hW hL

theorem said : Rows.FnExactConfTextSaid :=
  OpenClaim.holds_of_cond 4 Tryd.f4 rfl rfl rfl rfl rfl rfl rfl ⟨rfl, rfl, rfl, rfl, rfl⟩ rfl rfl rfl rfl rfl (by kernel_rfl) Tryd.func4 (by kernel_rfl)
    (of_decide_eq_true (by kernel_rfl)) (by unfold Func.isWrapper; first | (rw [if_pos (by decide +kernel)]; kernel_rfl) | (rw [if_neg (by decide +kernel)]; exact ⟨rfl, rfl⟩))
    (fun os started H enc _ F => by rw [OpenClaim.pre_eq_preRow]; exact lifted os started H enc F)

theorem plain (f : FuncId) (fn : Func) (hf : Tryd.pinned.checked.prog.funcNamed "loop.example/g01623/laws.FnExactConfText" = some f) (hfn : Tryd.pinned.checked.prog.funcs[f]? = some fn) :
    true = Tryd.pinned.checked.prog.looks [] ∧ ∀ (j : Nat) t, fn.params[j]? = some t → Tryd.pinned.checked.prog.wantsStandIn t = false := by
  obtain rfl : f = 4 := Option.some.inj ((show Tryd.prog.funcNamed "loop.example/g01623/laws.FnExactConfText" = some 4 by kernel_rfl).symm.trans hf) |>.symm
  obtain rfl : fn = Tryd.f4 := (Option.some.inj (Tryd.func4.symm.trans hfn)).symm
  refine ⟨by kernel_rfl, fun j t ht => ?_⟩
  rw [Tryd.params4] at ht
  have hm : t ∈ (#[36] : Array TypeId) := Array.mem_of_getElem? ht
  obtain rfl : t = 36 := by simpa using hm
  exact (show Tryd.prog.wantsStandIn 36 = false by kernel_rfl)

theorem proved : Rows.FnExactConfTextCardSaid :=
  Claim7.holds_tied_plain_at .later [] _ _ _ _ said (fun _ h => by cases h) (by kernel_rfl) (fun _ h => by cases h) fnExactConfText_row_tie rfl ⟨rfl, rfl⟩ (by kernel_rfl) rfl plain (by kernel_rfl)
#print axioms proved
end Go.Proofs.YtcggaihooepglaaDoor.fnExactConfText
