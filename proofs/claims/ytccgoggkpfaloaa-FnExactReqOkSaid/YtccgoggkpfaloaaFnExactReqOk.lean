/-
  For every request the program's ReqOk answers as its model does, and leaves the request as it was. No condition.
-/
import Derived.Test.YtccgoggkpfaloaaRows
import Derived.WalkKit
import Derived.ProofKit
import Derived.OpenShut
import Derived.ShutString
import Derived.ChangeOld
import Derived.Below
import Derived.Test.YtccgoggkpfaloaaReqOk
import Derived.Test.YtccgoggkpfaloaaOpenReq
namespace Go.Proofs.Ytccgoggkpfaloaa.fnExactReqOk
open Go.ChangeShapes Go.WideShapes Go.ChangeAt Go.RowKit
open Go.ChangeMaps (open_string shut_string)
set_option linter.unusedVariables false

theorem own : ownKnob Try.prog.godebug = none := by kernel_rfl
theorem laidOut : laidOutB Try.prog = true := by kernel_rfl
open Num Rows3
set_option maxHeartbeats 4000000 in
set_option maxRecDepth 100000 in
theorem walk (q0 : Bool) (x0 y0 z0 : Int) (l0 : Bool) (a0 : Option Addr) (len0 cap0 : Nat) (s0 : List Int) (w : World) (w0 : Rows3.IsRowQ w a0 len0 cap0 s0) (wx0 : (Lit.int .i64 x0).wf = true) (wy0 : (Lit.int .i64 y0).wf = true) (wz0 : (Lit.int .i64 z0).wf = true) :
    Calls Try.prog 3 #[.agg #[.bool q0, .int .i64 x0, .int .i64 y0, .int .i64 z0, .bool l0, .slice a0 len0 cap0]] w fun e w' => e = .returned (.bool true) ∧ Below w.heap.size w w' := by
  have hlen := w0.len
  by_cases hbig : 1048576 < len0
  · have hsz := szW_no hbig
    have Hsz := Lib.hid hsz
    clear w0 hsz
    go_enter Try.func3, Try.ntmps3
    go_wp2_with fail
    refine (szReq_any _ _ _ _ _ _ len0 _ ⟨_, _, rfl⟩ hlen).mono ?_
    rintro e w1 ⟨rfl, hb1⟩
    rw [Hsz.out]
    go_wp2
    go_ret
    exact ⟨rfl, below_alloc1 (Below.refl _ _) (Nat.le_refl _) hb1⟩
  · obtain ⟨l, hl, hr⟩ := rdIn w0
    have hl2 : Hid (l.length ≤ 2000000) := Lib.hid (by omega)
    have Hr := Lib.hid hr
    have B0 := Blk.new 24 (.bool q0) (.int .i64 x0) (.int .i64 y0) (.int .i64 z0) (.bool l0) (.slice a0 len0 cap0) w
    have Hsz := Lib.hid (szW_yes (by omega : len0 ≤ 1048576))
    have hb : len0 ≤ 1048576 := by omega
    clear w0 hr hl hbig
    go_enter Try.func3, Try.ntmps3
    go_wp2_with fail
    refine (szReq_any _ _ _ _ _ _ len0 _ ⟨_, _, rfl⟩ hlen).mono ?_
    rintro e w1 ⟨rfl, hb1⟩
    rw [Hsz.out]
    obtain ⟨g0, g1, g2, g3, g4, g5⟩ := (B0.later hb1).cells
    have B1 := Lib.hid (B0.later hb1)
    have hb01 := below_alloc1 (Below.refl w.heap.size w) (Nat.le_refl _) hb1
    have Hb1 := Lib.hid hb01
    clear hb1 B0 hb01
    go_wp2_with fail
    refine (toReq_any _ _ _ _ _ _ l hl2.out _ (Hr.out.below Hb1.out)).mono ?_
    rintro e w2 ⟨v1, rfl, ho1, hb2⟩
    have H1 := Lib.hid ho1.rd
    have B2 := Lib.hid (B1.out.later hb2)
    have Hb2 := Lib.hid (Hb1.out.trans (hb2.mono Hb1.out.size))
    clear ho1 hb2 g0 g1 g2 g3 g4 g5
    obtain ⟨B, hB⟩ : ∃ B, okR q0 x0 y0 z0 l = B := ⟨_, rfl⟩
    have HB := Lib.hid hB
    clear hB
    go_wp2_with fail
    refine (specReqOk _ _ _ _ _ _ l hl2.out _ H1.out).mono ?_
    rintro e w3 ⟨rfl, hb3⟩
    rw [HB.out]
    obtain ⟨g0, g1, g2, g3, g4, g5⟩ := (B2.out.later hb3).cells
    have B3 := Lib.hid (B2.out.later hb3)
    have Hb3 := Lib.hid (Hb2.out.trans (hb3.mono Hb2.out.size))
    clear hb3
    go_wp2_with fail
    refine (toReq_any _ _ _ _ _ _ l hl2.out _ (Hr.out.below Hb3.out)).mono ?_
    rintro e w4 ⟨v2, rfl, ho2, hb4⟩
    have H2 := Lib.hid ho2.rd
    obtain ⟨ad2, cap2, rfl⟩ := ho2.slice
    have B4 := Lib.hid (B3.out.later hb4)
    have Hb4 := Lib.hid (Hb3.out.trans (hb4.mono Hb3.out.size))
    have X4 := Lib.hid (Blk.new 27 (.bool q0) (.int .i64 x0) (.int .i64 y0) (.int .i64 z0) (.bool l0) (.slice ad2 l.length cap2) w4)
    clear ho2 hb4 g0 g1 g2 g3 g4 g5
    go_wp2_with fail
    refine (implReqOk _ _ _ _ _ _ l hl2.out _ (rdI_alloc H2.out _)).mono ?_
    rintro e w5 ⟨rfl, hb5⟩
    rw [HB.out]
    have B5 := Lib.hid ((B4.out.later ((Below.refl _ _).alloc (Nat.le_refl _) _)).later hb5)
    have X5 := Lib.hid (X4.out.later hb5)
    have H5 := Lib.hid ((rdI_alloc H2.out _).below hb5)
    have Hb5 := Lib.hid (below_alloc1 Hb4.out Hb4.out.size hb5)
    obtain ⟨g0, g1, g2, g3, g4, g5⟩ := B5.out.cells
    obtain ⟨k0, k1, k2, k3, k4, k5⟩ := X5.out.cells
    have hlt := X5.out.lt
    have hlt2 := B5.out.lt
    have hBB : (B != B) = false := by simp
    clear hb5 B4 B3 B2 B1 X4
    go_wp2_with fail
    go_region_with (first
      | (go_at_call 7; refine (toReq_any _ _ _ _ _ _ l hl2.out _ (Hr.out.below Hb5.out.drew)).mono ?_; rintro e w6 ⟨v3, rfl, ho3, hb6⟩; have hk : ∀ i, w6.cell? ⟨w4.heap.size, i, none⟩ = w5.cell? ⟨w4.heap.size, i, none⟩ := fun i => hb6.cell (p := ⟨w4.heap.size, i, none⟩) hlt)
      | (go_at_call 9; (refine (eqReq_same _ _ _ _ _ _ _ l hl2.out _ ((show RdI (.slice ad2 l.length cap2) l w5.drew from H5.out).below hb6) ho3.rd).mono ?_); rintro e w7 ⟨rfl, hb7⟩))
    all_goals
      go_wp2
      go_ret
      exact ⟨rfl, (Hb5.out.drew.trans (hb6.mono Hb5.out.size)).trans (hb7.mono (Nat.le_trans Hb5.out.size hb6.size))⟩

set_option maxRecDepth 100000 in
theorem lifted (os : Os) (started : os.Started) (H : Type) (enc : TypeId × Value → H) :
    ReturnsInHanded {} Try.checked os 3 .any (Rows.fnExactReqOkSpec.pre6 enc Try.prog Try.f3 Rows.fnExactReqOkRow.domain false) (Rows.fnExactReqOkSpec.post enc Try.prog Try.f3 false true false false) := by
  refine returnsInHanded_of_change (C := Try.checked) own started (by kernel_rfl) Try.func3
    (ChangeSpec.witness6 (enc := enc) (C := Try.checked) false ⟨#[], #[.agg #[.bool false, .int .i64 0, .int .i64 0, .int .i64 0, .bool false, .slice none 0 0]], []⟩ 8 (by kernel_rfl) (by kernel_rfl) (by kernel_rfl) (by kernel_rfl)) ?_
  intro W base args ds gs before hval0 hW hcnd _
  have hval : ∀ (j : Nat) t v, Try.f3.params[j]? = some t → args[j]? = some v → Value.okWide Try.prog W .any base t v := hval0
  have hW' := hW
  obtain ⟨p, q, hA0, hV, rfl, hfz, hnd⟩ := hW
  have hA : DataW.TrodAll enc Try.prog W 0 (fun _ => true) true Try.f3.params.toList args.toList ds p := hA0
  rw [Try.params3] at hA hval
  obtain ⟨v0, vs0, d0, ds0, p0, q0, hargs, rfl, rfl, h0, r0⟩ := trodAll_cons hA
  obtain ⟨rfl, rfl, rfl⟩ := trodAll_nil r0
  obtain rfl : args = #[v0] := by cases args; simp_all
  obtain ⟨rfl, rfl⟩ := trodVars_none hV
  have k0 := h0
  have lt0 : ∀ x ∈ p0, x.block < W.heap.size := by obtain ⟨m, hm⟩ := k0; exact DataW.trod_lt m _ _ _ hm
  obtain ⟨q0, x0, y0, z0, l0, a0, len0, cap0, s0, rfl, w0, wx0, wy0, wz0⟩ := Rows3.open_req (hval 0 24 v0 rfl rfl) h0
  clear hA0 hval0
  refine (walk q0 x0 y0 z0 l0 a0 len0 cap0 s0 W w0 wx0 wy0 wz0).mono fun e W' ⟨he, bel⟩ => ?_
  subst he
  exact ⟨_, rfl, _, _, _, [], _, [], hW', trodAll_mk1 (shut_bool Try.underlying4 _), (trodAll_cons_mk (Below.trod laidOut (by kernel_rfl) (of_decide_eq_true (by kernel_rfl)) k0 bel lt0) trodAll_mk0), rfl, bel.frame _, fun h => by cases h⟩

theorem over : Rows.fnExactReqOkRow.holds Try.pinned (OpenSpec.ofChange Rows.fnExactReqOkSpec) :=
  OpenClaim.holds_of_wide 3 Try.f3 rfl rfl rfl rfl rfl rfl rfl ⟨rfl, rfl, rfl, rfl, rfl⟩ rfl rfl rfl rfl rfl (by kernel_rfl) Try.func3 (by kernel_rfl)
    (of_decide_eq_true (by kernel_rfl)) (by unfold Func.isWrapper; first | (rw [if_pos (by decide +kernel)]; kernel_rfl) | (rw [if_neg (by decide +kernel)]; exact ⟨rfl, rfl⟩))
    (fun os started H enc _ => lifted os started H enc)

theorem proved : Rows.FnExactReqOkSaid := over
#print axioms proved
end Go.Proofs.Ytccgoggkpfaloaa.fnExactReqOk
