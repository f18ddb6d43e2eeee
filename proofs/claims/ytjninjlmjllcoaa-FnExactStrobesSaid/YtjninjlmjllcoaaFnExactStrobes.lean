/-
  For every two numbers the program's Strobes answers as its model does, and what it answers lies in memory of its own. No condition.
-/
import Derived.Test.YtjninjlmjllcoaaRows
import Derived.WalkKit
import Derived.Test.YtjninjlmjllcoaaLane5
import Derived.Test.YtjninjlmjllcoaaEqO
import Derived.ProofKit
import Derived.OpenShut
import Derived.ShutString
import Derived.ChangeOld
import Derived.Below
namespace Go.Proofs.Ytjninjlmjllcoaa.fnExactStrobes
open Go.ChangeShapes Go.WideShapes Go.ChangeAt Go.RowKit
open Go.ChangeMaps (open_string shut_string)
set_option linter.unusedVariables false      -- a walk need not use every 'w<i>' (that an integer argument fits its kind)

theorem own : ownKnob Try.prog.godebug = none := by kernel_rfl

open Num Rows3
set_option maxRecDepth 100000 in
theorem walk (a0 : Int) (a1 : Int) (w0 : (Lit.int .i64 a0).wf = true) (w1 : (Lit.int .i64 a1).wf = true) (w : World) :
    Calls Try.prog 8 #[.int .i64 a0, .int .i64 a1] w fun e w' => e = .returned (.bool true) ∧ Below w.heap.size w w' := by
  have hl8 := lanesW_length a0 a1
  obtain ⟨l, hl⟩ : ∃ l, lanesW a0 a1 = l := ⟨_, rfl⟩
  rw [hl] at hl8
  have Hl := Lib.hid hl
  clear hl
  go_enter Try.func8, Try.ntmps8
  go_wp2_with fail
  refine (specStrobes _ _ _).mono ?_
  rintro e w1 ⟨v0, rfl, ho0, hb1⟩
  rw [Hl.out] at ho0
  go_wp2_with fail
  refine (implStrobes _ _ _).mono ?_
  rintro e w2 ⟨v1, rfl, ho1, hb2⟩
  rw [Hl.out] at ho1
  have ho02 := ho0.later hb2
  have hb02 := hb1.trans (hb2.mono hb1.size)
  go_wp2_with fail
  refine (eqO_same v1 v0 l (by omega) _ ho1.rd ho02.rd).mono ?_
  rintro e w3 ⟨rfl, hb3⟩
  have ho03 := ho02.later hb3
  have ho13 := ho1.later hb3
  have hb03 := hb02.trans (hb3.mono hb02.size)
  go_wp2_with fail
  refine (markO_own _ v1 l 1 (by omega) (by omega) (by omega) _ ho13).mono ?_
  rintro e w4 ⟨rfl, ho14, hg4⟩
  have hb4 := (Below.refl w1.heap.size w3).grown hg4 (Nat.le_trans hb2.size hb3.size) (fun k hk => (World.ownsRow.lt ho13 k hk).1)
  have ho04 := ho03.below hb4 (fun k hk => (World.ownsRow.lt ho0 k hk).2)
  have hb04 := hb03.trans (hb4.mono hb1.size)
  have hq : ((1 + (l.length : Int)) != (1 + (l.length : Int))) = false := by simp
  go_wp2_with fail
  refine (heldO_same v1 1 l.length (by omega) (by omega) (by omega) _ ho14.rd).mono ?_
  rintro e w5 ⟨rfl, hb5⟩
  have ho05 := ho04.later hb5
  have ho15 := ho14.later hb5
  have hb05 := hb04.trans (hb5.mono hb04.size)
  go_wp2_with fail
  refine (implStrobes _ _ _).mono ?_
  rintro e w6 ⟨v2, rfl, ho2, hb6⟩
  rw [Hl.out] at ho2
  have ho06 := ho05.later hb6
  have ho16 := ho15.later hb6
  have hb06 := hb05.trans (hb6.mono hb05.size)
  go_wp2_with fail
  refine (eqO_same v2 v0 l (by omega) _ ho2.rd ho06.rd).mono ?_
  rintro e w7 ⟨rfl, hb7⟩
  have ho17 := ho16.later hb7
  have hb07 := hb06.trans (hb7.mono hb06.size)
  go_wp2_with fail
  refine (heldO_same v1 1 l.length (by omega) (by omega) (by omega) _ ho17.rd).mono ?_
  rintro e w8 ⟨rfl, hb8⟩
  have hb08 := hb07.trans (hb8.mono hb07.size)
  go_wp2
  go_ret
  exact ⟨rfl, hb08⟩

set_option maxRecDepth 100000 in
theorem lifted (os : Os) (started : os.Started) (H : Type) (enc : TypeId × Value → H) :
    ReturnsInHanded {} Try.checked os 8 .any (Rows.fnExactStrobesSpec.pre6 enc Try.prog Try.f8 Rows.fnExactStrobesRow.domain false) (Rows.fnExactStrobesSpec.post enc Try.prog Try.f8 false true false false) := by
  refine returnsInHanded_of_change (C := Try.checked) own started (by kernel_rfl) Try.func8
    (ChangeSpec.witness6 (enc := enc) (C := Try.checked) false ⟨#[], #[.int .i64 0, .int .i64 0], []⟩ 8 (by kernel_rfl) (by kernel_rfl) (by kernel_rfl) (by kernel_rfl)) ?_
  intro W base args ds gs before hval0 hW hcnd _
  have hval : ∀ (j : Nat) t v, Try.f8.params[j]? = some t → args[j]? = some v → Value.okWide Try.prog W .any base t v := hval0
  have hW' := hW
  obtain ⟨p, q, hA0, hV, rfl, hfz, hnd⟩ := hW
  have hA : DataW.TrodAll enc Try.prog W 0 (fun _ => true) true Try.f8.params.toList args.toList ds p := hA0
  rw [Try.params8] at hA hval
  obtain ⟨v0, vs0, d0, ds0, p0, q0, hargs, rfl, rfl, h0, r0⟩ := trodAll_cons hA
  obtain ⟨v1, vs1, d1, ds1, p1, q1, rfl, rfl, rfl, h1, r1⟩ := trodAll_cons r0
  obtain ⟨rfl, rfl, rfl⟩ := trodAll_nil r1
  obtain rfl : args = #[v0, v1] := by cases args; simp_all
  obtain ⟨rfl, rfl⟩ := trodVars_none hV
  obtain ⟨a0, rfl, rfl, rfl, w0⟩ := open_int Try.underlying3 (hval 0 3 v0 rfl rfl) h0
  obtain ⟨a1, rfl, rfl, rfl, w1⟩ := open_int Try.underlying3 (hval 1 3 v1 rfl rfl) h1
  clear hA0 hval0
  refine (walk a0 a1 w0 w1 W).mono fun e W' ⟨he, bel⟩ => ?_
  subst he
  exact ⟨_, rfl, _, _, _, [], _, [], hW', (trodAll_cons_mk (shut_bool Try.underlying4 _) trodAll_mk0), (trodAll_cons_mk (shut_int Try.underlying3 w0) (trodAll_cons_mk (shut_int Try.underlying3 w1) trodAll_mk0)), rfl, bel.frame _, fun h => by cases h⟩

theorem over : Rows.fnExactStrobesRow.holds Try.pinned (OpenSpec.ofChange Rows.fnExactStrobesSpec) :=
  OpenClaim.holds_of_wide 8 Try.f8 rfl rfl rfl rfl rfl rfl rfl ⟨rfl, rfl, rfl, rfl, rfl⟩ rfl rfl rfl rfl rfl (by kernel_rfl) Try.func8 (by kernel_rfl)
    (of_decide_eq_true (by kernel_rfl)) (by unfold Func.isWrapper; first | (rw [if_pos (by decide +kernel)]; kernel_rfl) | (rw [if_neg (by decide +kernel)]; exact ⟨rfl, rfl⟩))
    (fun os started H enc _ => lifted os started H enc)

theorem proved : Rows.FnExactStrobesSaid :=
  over
#print axioms proved
end Go.Proofs.Ytjninjlmjllcoaa.fnExactStrobes
