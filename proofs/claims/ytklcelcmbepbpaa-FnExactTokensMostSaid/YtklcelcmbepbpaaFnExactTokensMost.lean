/-
  For every configuration of a master and every number the program's TokensMost answers as its model does. No condition.
-/
import Derived.Test.YtklcelcmbepbpaaRows
import Derived.WalkKit
import Derived.ProofKit
import Derived.OpenShut
import Derived.ShutString
import Derived.ChangeOld
import Derived.Below
import Derived.Test.YtklcelcmbepbpaaBuck2
import Derived.Test.YtklcelcmbepbpaaOMConf
namespace Go.Proofs.Ytklcelcmbepbpaa.fnExactTokensMost
open Go.ChangeShapes Go.WideShapes Go.ChangeAt Go.RowKit
open Go.ChangeMaps (open_string shut_string)
set_option linter.unusedVariables false

theorem own : ownKnob Try.prog.godebug = none := by kernel_rfl
theorem laidOut : laidOutB Try.prog = true := by kernel_rfl
open KD Rows3 GR Num
set_option maxRecDepth 100000 in
theorem walk (u0 : List Value) (x0 : Int × Bool × Int × Int) (a1 : Int) (w : World) (R0 : KD.mConfK.rd u0 x0 w) (w1 : (Lit.int .i64 a1).wf = true) :
    Calls Try.prog 9 #[.agg u0.toArray, .int .i64 a1] w fun e w' => e = .returned (.bool true) ∧ Below w.heap.size w w' := by
  obtain ⟨wt, p, ev, cap⟩ := x0
  obtain rfl := mConf_form R0
  clear R0
  show Calls _ _ #[.agg #[.int .i64 wt, .bool p, .int .i64 ev, .int .i64 cap], .int .i64 a1] w _
  have A := Bx.new 38 #[.int .i64 wt, .bool p, .int .i64 ev, .int .i64 cap] w
  have HB0 := Lib.hid ((Below.refl w.heap.size w).alloc (Nat.le_refl _) (Obj.cells #[.int .i64 wt, .bool p, .int .i64 ev, .int .i64 cap] 38))
  have HA := Lib.hid A
  clear A
  go_enter Try.func9, Try.ntmps9
  go_wp2_with fail
  generalize w.alloc (Obj.cells #[.int .i64 wt, .bool p, .int .i64 ev, .int .i64 cap] 38) = y0 at HA HB0 ⊢
  refine (toM wt ev cap p _).mono ?_
  rintro e y1 ⟨rfl, hb⟩
  have HA1 := Lib.hid (HA.out.later hb)
  have HB1 := Lib.hid (HB0.out.trans (hb.mono HB0.out.size))
  clear HA HB0 hb
  go_wp2_with fail
  refine (specMost wt ev cap a1 p _).mono ?_
  rintro e y2 ⟨rfl, hb⟩
  have HA2 := Lib.hid (HA1.out.later hb)
  have HB2 := Lib.hid (HB1.out.trans (hb.mono HB1.out.size))
  clear HA1 HB1 hb
  obtain ⟨g0, g1, g2, g3⟩ := HA2.out.cells4
  go_wp2_with fail
  refine (toM wt ev cap p _).mono ?_
  rintro e y3 ⟨rfl, hb⟩
  have HB3 := Lib.hid (HB2.out.trans (hb.mono HB2.out.size))
  clear HB2 hb g0 g1 g2 g3
  go_wp2_with fail
  refine (implMost wt ev cap a1 p _).mono ?_
  rintro e y4 ⟨rfl, hb⟩
  have HB4 := Lib.hid (HB3.out.trans (hb.mono HB3.out.size))
  have hn : (mostW p ev cap a1 != mostW p ev cap a1) = false := by simp
  go_wp2
  go_ret
  exact ⟨rfl, HB4.out⟩

set_option maxRecDepth 100000 in
set_option maxRecDepth 100000 in
theorem lifted (os : Os) (started : os.Started) (H : Type) (enc : TypeId × Value → H) :
    ReturnsInHanded {} Try.checked os 9 .any (Rows.fnExactTokensMostSpec.pre6 enc Try.prog Try.f9 Rows.fnExactTokensMostRow.domain false) (Rows.fnExactTokensMostSpec.post enc Try.prog Try.f9 false true false false) := by
  refine returnsInHanded_of_change (C := Try.checked) own started (by kernel_rfl) Try.func9
    (ChangeSpec.witness6 (enc := enc) (C := Try.checked) false ⟨#[], #[.agg #[.int .i64 0, .bool false, .int .i64 0, .int .i64 0], .int .i64 0], []⟩ 8 (by kernel_rfl) (by kernel_rfl) (by kernel_rfl) (by kernel_rfl)) ?_
  intro W base args ds gs before hval0 hW hcnd _
  have hval : ∀ (j : Nat) t v, Try.f9.params[j]? = some t → args[j]? = some v → Value.okWide Try.prog W .any base t v := hval0
  have hW' := hW
  obtain ⟨p, q, hA0, hV, rfl, hfz, hnd⟩ := hW
  have hA : DataW.TrodAll enc Try.prog W 0 (fun _ => true) true Try.f9.params.toList args.toList ds p := hA0
  rw [Try.params9] at hA hval
  obtain ⟨v0, vs0, d0, ds0, p0, q0, hargs, rfl, rfl, h0, r0⟩ := trodAll_cons hA
  obtain ⟨v1, vs1, d1, ds1, p1, q1, rfl, rfl, rfl, h1, r1⟩ := trodAll_cons r0
  obtain ⟨rfl, rfl, rfl⟩ := trodAll_nil r1
  obtain rfl : args = #[v0, v1] := by cases args; simp_all
  obtain ⟨rfl, rfl⟩ := trodVars_none hV
  have k0 := h0
  have lt0 : ∀ x ∈ p0, x.block < W.heap.size := by obtain ⟨m, hm⟩ := k0; exact DataW.trod_lt m _ _ _ hm
  obtain ⟨u0, x0, rfl, R0⟩ := KD.open_mConf (hval 0 38 v0 rfl rfl) h0
  obtain ⟨a1, rfl, rfl, rfl, w1⟩ := open_int Try.underlying3 (hval 1 3 v1 rfl rfl) h1
  clear hA0 hval0
  refine (walk u0 x0 a1 W R0 w1).mono fun e W' ⟨he, bel⟩ => ?_
  subst he
  exact ⟨_, rfl, _, _, _, [], _, [], hW', trodAll_mk1 (shut_bool Try.underlying4 _), (trodAll_cons_mk (Below.trod laidOut (by kernel_rfl) (of_decide_eq_true (by kernel_rfl)) k0 bel lt0) (trodAll_cons_mk (shut_int Try.underlying3 w1) trodAll_mk0)), rfl, bel.frame _, fun h => by cases h⟩

theorem over : Rows.fnExactTokensMostRow.holds Try.pinned (OpenSpec.ofChange Rows.fnExactTokensMostSpec) :=
  OpenClaim.holds_of_wide 9 Try.f9 rfl rfl rfl rfl rfl rfl rfl ⟨rfl, rfl, rfl, rfl, rfl⟩ rfl rfl rfl rfl rfl (by kernel_rfl) Try.func9 (by kernel_rfl)
    (of_decide_eq_true (by kernel_rfl)) (by unfold Func.isWrapper; first | (rw [if_pos (by decide +kernel)]; kernel_rfl) | (rw [if_neg (by decide +kernel)]; exact ⟨rfl, rfl⟩))
    (fun os started H enc _ => lifted os started H enc)

theorem proved : Rows.FnExactTokensMostSaid := over
#print axioms proved
end Go.Proofs.Ytklcelcmbepbpaa.fnExactTokensMost
