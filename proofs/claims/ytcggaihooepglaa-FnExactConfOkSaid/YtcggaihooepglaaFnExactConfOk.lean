/-
  For every configuration the program's ConfOk answers as its model does, and leaves the configuration as it was. No condition.
-/
import Derived.Test.YtcggaihooepglaaRows
import Derived.WalkKit
import Derived.ProofKit
import Derived.OpenShut
import Derived.ShutString
import Derived.ChangeOld
import Derived.Below
import Derived.Test.YtcggaihooepglaaConf4
import Derived.Test.YtcggaihooepglaaOpenConf
import Derived.Deep.RegionHeld3
namespace Go.Proofs.Ytcggaihooepglaa.fnExactConfOk
open Go.ChangeShapes Go.WideShapes Go.ChangeAt Go.RowKit
open Go.ChangeMaps (open_string shut_string)
set_option linter.unusedVariables false

theorem own : ownKnob Try.prog.godebug = none := by kernel_rfl
theorem laidOut : laidOutB Try.prog = true := by kernel_rfl
open Num GR
set_option maxHeartbeats 4000000 in
set_option maxRecDepth 100000 in
theorem walk (u0 : Value) (l0 : List Num.MC) (q0 mw0 mr0 ms0 lm0 : Int) (w : World) (R0 : GR.Rd Num.mcK u0 l0 w) (hl0 : l0.length ≤ 9223372036854775807) :
    Calls Try.prog 5 #[.agg #[u0, .int .i64 q0, .int .i64 mw0, .int .i64 mr0, .int .i64 ms0, .int .i64 lm0]] w fun e w' => e = .returned (.bool true) ∧ Below w.heap.size w w' := by
  obtain ⟨ad0, cap0, rfl⟩ := R0.slice
  by_cases hbig : 1048576 < l0.length
  · have Hsz := Lib.hid (szL_no (L := 1048576) (n := l0.length) (by omega))
    clear R0
    go_enter Try.func5, Try.ntmps5
    go_wp2_with fail
    refine (szConf_any _ _ _ _ _ _ 1048576 l0.length _ ⟨_, _, rfl⟩ (by omega) (by omega) hl0).mono ?_
    rintro e w1 ⟨rfl, hb1⟩
    rw [Hsz.out]
    go_wp2
    go_ret
    exact ⟨rfl, below_alloc1 (Below.refl _ _) (Nat.le_refl _) hb1⟩
  · have hl2 : Hid (l0.length ≤ 2000000) := Lib.hid (by omega)
    have Hr := Lib.hid R0
    have B0 := Bx.new 24 #[.slice ad0 l0.length cap0, .int .i64 q0, .int .i64 mw0, .int .i64 mr0, .int .i64 ms0, .int .i64 lm0] w
    have Hsz := Lib.hid (szL_yes (L := 1048576) (n := l0.length) (by omega))
    have hb : l0.length ≤ 1048576 := by omega
    clear R0 hbig
    go_enter Try.func5, Try.ntmps5
    go_wp2_with fail
    refine (szConf_any _ _ _ _ _ _ 1048576 l0.length _ ⟨_, _, rfl⟩ (by omega) (by omega) hl0).mono ?_
    rintro e w1 ⟨rfl, hb1⟩
    rw [Hsz.out]
    obtain ⟨g0, g1, g2, g3, g4, g5⟩ := (B0.later hb1).cells6
    have B1 := Lib.hid (B0.later hb1)
    have Hb1 := Lib.hid (below_alloc1 (Below.refl w.heap.size w) (Nat.le_refl _) hb1)
    clear hb1 B0
    go_wp2_with fail
    refine (toConf_any _ l0 _ _ _ _ _ hl2.out _ (Hr.out.below Hb1.out)).mono ?_
    rintro e w2 ⟨v1, rfl, ho1, hb2⟩
    obtain ⟨ad1, cap1, rfl⟩ := ho1.slice
    have H1 := Lib.hid ho1.rd
    have B2 := Lib.hid (B1.out.later hb2)
    have Hb2 := Lib.hid (Hb1.out.trans (hb2.mono Hb1.out.size))
    clear ho1 hb2 g0 g1 g2 g3 g4 g5
    obtain ⟨B, hB⟩ : ∃ B, okC l0 q0 mw0 mr0 ms0 lm0 = B := ⟨_, rfl⟩
    have HB := Lib.hid hB
    clear hB
    go_wp2_with fail
    refine (specConfOk _ l0 _ _ _ _ _ hl2.out _ H1.out).mono ?_
    rintro e w3 ⟨rfl, hb3⟩
    rw [HB.out]
    obtain ⟨g0, g1, g2, g3, g4, g5⟩ := (B2.out.later hb3).cells6
    have B3 := Lib.hid (B2.out.later hb3)
    have Hb3 := Lib.hid (Hb2.out.trans (hb3.mono Hb2.out.size))
    clear hb3
    go_wp2_with fail
    refine (toConf_any _ l0 _ _ _ _ _ hl2.out _ (Hr.out.below Hb3.out)).mono ?_
    rintro e w4 ⟨v2, rfl, ho2, hb4⟩
    have H2 := Lib.hid ho2.rd
    obtain ⟨ad2, cap2, rfl⟩ := ho2.slice
    have B4 := Lib.hid (B3.out.later hb4)
    have Hb4 := Lib.hid (Hb3.out.trans (hb4.mono Hb3.out.size))
    have X4 := Lib.hid (Bx.new 29 #[.slice ad2 l0.length cap2, .int .i64 q0, .int .i64 mw0, .int .i64 mr0, .int .i64 ms0, .int .i64 lm0] w4)
    clear ho2 hb4 g0 g1 g2 g3 g4 g5
    go_wp2_with fail
    refine (implConfOk _ l0 _ _ _ _ _ hl2.out _ (H2.out.alloc _)).mono ?_
    rintro e w5 ⟨rfl, hb5⟩
    rw [HB.out]
    have B5 := Lib.hid ((B4.out.later ((Below.refl _ _).alloc (Nat.le_refl _) _)).later hb5)
    have X5 := Lib.hid (X4.out.later hb5)
    have H5 := Lib.hid ((H2.out.alloc _).below hb5)
    have Hb5 := Lib.hid (below_alloc1 Hb4.out Hb4.out.size hb5)
    obtain ⟨g0, g1, g2, g3, g4, g5⟩ := B5.out.cells6
    obtain ⟨k0, k1, k2, k3, k4, k5⟩ := X5.out.cells6
    have hlt := X5.out.lt
    have hlt2 := B5.out.lt
    have hBB : (B != B) = false := by simp
    clear hb5 B4 B3 B2 B1 X4
    go_wp2_with fail
    go_region_held3 (fun w' => w'.cell? ⟨w.heap.size, 0, none⟩ = some (.slice ad0 l0.length cap0) ∧ w'.cell? ⟨w.heap.size, 1, none⟩ = some (.int .i64 q0) ∧ w'.cell? ⟨w.heap.size, 2, none⟩ = some (.int .i64 mw0) ∧ w'.cell? ⟨w.heap.size, 3, none⟩ = some (.int .i64 mr0) ∧ w'.cell? ⟨w.heap.size, 4, none⟩ = some (.int .i64 ms0) ∧ w'.cell? ⟨w.heap.size, 5, none⟩ = some (.int .i64 lm0) ∧
      w'.cell? ⟨w4.heap.size, 0, none⟩ = some (.slice ad2 l0.length cap2) ∧ w'.cell? ⟨w4.heap.size, 1, none⟩ = some (.int .i64 q0) ∧ w'.cell? ⟨w4.heap.size, 2, none⟩ = some (.int .i64 mw0) ∧ w'.cell? ⟨w4.heap.size, 3, none⟩ = some (.int .i64 mr0) ∧ w'.cell? ⟨w4.heap.size, 4, none⟩ = some (.int .i64 ms0) ∧ w'.cell? ⟨w4.heap.size, 5, none⟩ = some (.int .i64 lm0)) (go_keep) (first
      | (go_at_call 9; refine (toConf_any _ l0 _ _ _ _ _ hl2.out _ (Hr.out.below Hb5.out.drew)).mono ?_; rintro e w6 ⟨v3, rfl, ho3, hb6⟩; have hk : ∀ i, w6.cell? ⟨w4.heap.size, i, none⟩ = w5.cell? ⟨w4.heap.size, i, none⟩ := fun i => hb6.cell (p := ⟨w4.heap.size, i, none⟩) hlt; have hk' : ∀ i, w6.cell? ⟨w.heap.size, i, none⟩ = w5.cell? ⟨w.heap.size, i, none⟩ := fun i => hb6.cell (p := ⟨w.heap.size, i, none⟩) hlt2)
      | (go_at_call 11; (refine (eqConf_same _ _ l0 _ _ _ _ _ hl2.out _ ((show Rd mcK (.slice ad2 l0.length cap2) l0 w5.drew from H5.out).below hb6) ho3.rd).mono ?_); rintro e w7 ⟨rfl, hb7⟩; have hk2 : ∀ i, w7.cell? ⟨w4.heap.size, i, none⟩ = w6.cell? ⟨w4.heap.size, i, none⟩ := fun i => hb7.cell (p := ⟨w4.heap.size, i, none⟩) (Nat.lt_of_lt_of_le hlt hb6.size); have hk2' : ∀ i, w7.cell? ⟨w.heap.size, i, none⟩ = w6.cell? ⟨w.heap.size, i, none⟩ := fun i => hb7.cell (p := ⟨w.heap.size, i, none⟩) (Nat.lt_of_lt_of_le hlt2 hb6.size)))
    all_goals
      go_wp2
      go_ret
      exact ⟨rfl, (Hb5.out.drew.trans (hb6.mono Hb5.out.size)).trans (hb7.mono (Nat.le_trans Hb5.out.size hb6.size))⟩

set_option maxRecDepth 100000 in
set_option maxRecDepth 100000 in
theorem lifted (os : Os) (started : os.Started) (H : Type) (enc : TypeId × Value → H) :
    ReturnsInHanded {} Try.checked os 5 .any (Rows.fnExactConfOkSpec.pre6 enc Try.prog Try.f5 Rows.fnExactConfOkRow.domain false) (Rows.fnExactConfOkSpec.post enc Try.prog Try.f5 false true false false) := by
  refine returnsInHanded_of_change (C := Try.checked) own started (by kernel_rfl) Try.func5
    (ChangeSpec.witness6 (enc := enc) (C := Try.checked) false ⟨#[], #[.agg #[.slice none 0 0, .int .i64 0, .int .i64 0, .int .i64 0, .int .i64 0, .int .i64 0]], []⟩ 8 (by kernel_rfl) (by kernel_rfl) (by kernel_rfl) (by kernel_rfl)) ?_
  intro W base args ds gs before hval0 hW hcnd _
  have hval : ∀ (j : Nat) t v, Try.f5.params[j]? = some t → args[j]? = some v → Value.okWide Try.prog W .any base t v := hval0
  have hW' := hW
  obtain ⟨p, q, hA0, hV, rfl, hfz, hnd⟩ := hW
  have hA : DataW.TrodAll enc Try.prog W 0 (fun _ => true) true Try.f5.params.toList args.toList ds p := hA0
  rw [Try.params5] at hA hval
  obtain ⟨v0, vs0, d0, ds0, p0, q0, hargs, rfl, rfl, h0, r0⟩ := trodAll_cons hA
  obtain ⟨rfl, rfl, rfl⟩ := trodAll_nil r0
  obtain rfl : args = #[v0] := by cases args; simp_all
  obtain ⟨rfl, rfl⟩ := trodVars_none hV
  have k0 := h0
  have lt0 : ∀ x ∈ p0, x.block < W.heap.size := by obtain ⟨m, hm⟩ := k0; exact DataW.trod_lt m _ _ _ hm
  obtain ⟨u0, l0, q0, mw0, mr0, ms0, lm0, rfl, R0, hl0⟩ := GR.open_conf (hval 0 24 v0 rfl rfl) h0
  clear hA0 hval0
  refine (walk u0 l0 q0 mw0 mr0 ms0 lm0 W R0 hl0).mono fun e W' ⟨he, bel⟩ => ?_
  subst he
  exact ⟨_, rfl, _, _, _, [], _, [], hW', trodAll_mk1 (shut_bool Try.underlying4 _), (trodAll_cons_mk (Below.trod laidOut (by kernel_rfl) (of_decide_eq_true (by kernel_rfl)) k0 bel lt0) trodAll_mk0), rfl, bel.frame _, fun h => by cases h⟩

theorem over : Rows.fnExactConfOkRow.holds Try.pinned (OpenSpec.ofChange Rows.fnExactConfOkSpec) :=
  OpenClaim.holds_of_wide 5 Try.f5 rfl rfl rfl rfl rfl rfl rfl ⟨rfl, rfl, rfl, rfl, rfl⟩ rfl rfl rfl rfl rfl (by kernel_rfl) Try.func5 (by kernel_rfl)
    (of_decide_eq_true (by kernel_rfl)) (by unfold Func.isWrapper; first | (rw [if_pos (by decide +kernel)]; kernel_rfl) | (rw [if_neg (by decide +kernel)]; exact ⟨rfl, rfl⟩))
    (fun os started H enc _ => lifted os started H enc)

theorem proved : Rows.FnExactConfOkSaid := over
#print axioms proved
end Go.Proofs.Ytcggaihooepglaa.fnExactConfOk
