/-
  ModelNew answers as its model does, and what it answers lies in memory of its own. No condition.
-/
import Derived.Test.YtbhmfjblmcppbaaRows
import Derived.WalkKit
import Derived.ProofKit
import Derived.OpenShut
import Derived.ShutString
import Derived.ChangeOld
import Derived.Below
import Derived.Test.YtbhmfjblmcppbaaMod6
import Derived.Deep.RegionHeld3
namespace Go.Proofs.Ytbhmfjblmcppbaa.fnExactModelNew
open Go.ChangeShapes Go.WideShapes Go.ChangeAt Go.RowKit
open Go.ChangeMaps (open_string shut_string)
set_option linter.unusedVariables false

theorem own : ownKnob Try.prog.godebug = none := by kernel_rfl
open KD Rows3 GR Num
set_option maxHeartbeats 8000000 in
set_option maxRecDepth 100000 in
theorem walk  (w : World)  :
    Calls Try.prog 5 #[] w fun e w' => e = .returned (.bool true) ∧ Below w.heap.size w w' := by
  revert w
  intro y0
  obtain ⟨D, hD⟩ : ∃ D, ((List.replicate 192 0, ([0, 0, 0, 0], 0, [])) : List Int × (List Int × Int × List Int)) = D := ⟨_, rfl⟩
  obtain ⟨z0, ⟨z10, z11, z12⟩⟩ := D
  have HD := Lib.hid hD
  have hz : Hid (modelK.sz (z0, (z10, z11, z12)) ≤ 2000000) := Lib.hid (by rw [← hD]; exact newM_sz)
  clear hD
  obtain ⟨Q, hQ⟩ : ∃ Q : Int, 1 + (modelK.cT (z0, (z10, z11, z12)) : Int) = Q := ⟨_, rfl⟩
  have hQ0 : ¬ Q < 0 := by omega
  have hQQ : (Q != Q) = false := by simp
  have HQ := Lib.hid hQ
  have hQl : Hid (1 + (modelK.cT (z0, (z10, z11, z12)) : Int) ≤ 4611686018427387904) := Lib.hid (by have h1 := modelK.cT_le (z0, (z10, z11, z12)); have h2 := hz.out; omega)
  clear hQ
  have HB_0 := Lib.hid (Below.refl y0.heap.size y0)
  go_enter Try.func5, Try.ntmps5
  go_wp2_with fail
  refine (specModelNew _).mono ?_
  rw [HD.out]
  rintro e y1 ⟨us, he, hc, hb⟩
  obtain ⟨waz0, wpz0, waz10, wpz10, waz12, wpz12, rfl, _, _, _⟩ := model_form (modelK.cap_rd hc)
  obtain rfl : e = .returned (.agg #[.slice waz0 z0.length wpz0, .slice waz10 z10.length wpz10, .int .i64 z11, .slice waz12 z12.length wpz12]) := he
  have HB_1 := Lib.hid (HB_0.out.trans (hb.mono HB_0.out.size))
  have RW_1 := Lib.hid (modelK.cap_rd hc)
  clear HB_0
  clear hb hc
  have ab := (Below.refl y1.heap.size y1).alloc (Nat.le_refl _) (Obj.cells #[.slice waz0 z0.length wpz0, .slice waz10 z10.length wpz10, .int .i64 z11, .slice waz12 z12.length wpz12] 28)
  have Z2 := Lib.hid ab.size
  have HB_2 := Lib.hid (HB_1.out.trans (ab.mono HB_1.out.size))
  have RW_2 := Lib.hid (modelK.rd_later RW_1.out ab)
  have BW_2 := Lib.hid (Bx.new 28 #[.slice waz0 z0.length wpz0, .slice waz10 z10.length wpz10, .int .i64 z11, .slice waz12 z12.length wpz12] y1)
  clear HB_1 RW_1
  clear ab
  go_wp2_with fail
  generalize y1.alloc (Obj.cells #[.slice waz0 z0.length wpz0, .slice waz10 z10.length wpz10, .int .i64 z11, .slice waz12 z12.length wpz12] 28) = y2 at HB_2 RW_2 BW_2 Z2 ⊢
  have CA_2 := Lib.hid (Below.refl y2.heap.size y2)
  have ZG := Lib.hid CA_2.out.size
  refine (implModelNew _).mono ?_
  rw [HD.out]
  rintro e y3 ⟨us, he, hc, hb⟩
  obtain ⟨gaz0, gpz0, gaz10, gpz10, gaz12, gpz12, rfl, _, _, _⟩ := model_form (modelK.cap_rd hc)
  obtain rfl : e = .returned (.agg #[.slice gaz0 z0.length gpz0, .slice gaz10 z10.length gpz10, .int .i64 z11, .slice gaz12 z12.length gpz12]) := he
  have CA_3 := Lib.hid (CA_2.out.trans (hb.mono CA_2.out.size))
  have G_3 := Lib.hid (modelK.cap_top hc)
  clear CA_2
  clear hb hc
  have ab := (Below.refl y3.heap.size y3).alloc (Nat.le_refl _) (Obj.cells #[.slice gaz0 z0.length gpz0, .slice gaz10 z10.length gpz10, .int .i64 z11, .slice gaz12 z12.length gpz12] 28)
  have Z4 := Lib.hid ab.size
  have CA_4 := Lib.hid (CA_3.out.trans (ab.mono CA_3.out.size))
  have G_4 := Lib.hid (modelK.cap_later G_3.out ab)
  have BG_4 := Lib.hid (Bx.new 28 #[.slice gaz0 z0.length gpz0, .slice gaz10 z10.length gpz10, .int .i64 z11, .slice gaz12 z12.length gpz12] y3)
  clear CA_3 G_3
  clear ab
  have gBW_0 := (BW_2.out.later CA_4.out).cell 0 (.slice waz0 z0.length wpz0) rfl
  have gBW_1 := (BW_2.out.later CA_4.out).cell 1 (.slice waz10 z10.length wpz10) rfl
  have gBW_2 := (BW_2.out.later CA_4.out).cell 2 (.int .i64 z11) rfl
  have gBW_3 := (BW_2.out.later CA_4.out).cell 3 (.slice waz12 z12.length wpz12) rfl
  have gBG_0 := BG_4.out.cell 0 (.slice gaz0 z0.length gpz0) rfl
  have gBG_1 := BG_4.out.cell 1 (.slice gaz10 z10.length gpz10) rfl
  have gBG_2 := BG_4.out.cell 2 (.int .i64 z11) rfl
  have gBG_3 := BG_4.out.cell 3 (.slice gaz12 z12.length gpz12) rfl
  go_wp2_with fail
  clear gBW_0 gBW_1 gBW_2 gBW_3 gBG_0 gBG_1 gBG_2 gBG_3
  generalize y3.alloc (Obj.cells #[.slice gaz0 z0.length gpz0, .slice gaz10 z10.length gpz10, .int .i64 z11, .slice gaz12 z12.length gpz12] 28) = y4 at CA_4 G_4 BG_4 Z4 ⊢
  refine (eqModel [.slice gaz0 z0.length gpz0, .slice gaz10 z10.length gpz10, .int .i64 z11, .slice gaz12 z12.length gpz12] [.slice waz0 z0.length wpz0, .slice waz10 z10.length wpz10, .int .i64 z11, .slice waz12 z12.length wpz12] (z0, (z10, z11, z12)) _ hz.out (modelK.cap_rd G_4.out) (modelK.rd_later RW_2.out CA_4.out)).mono ?_
  rintro e y5 ⟨rfl, hb⟩
  have CA_5 := Lib.hid (CA_4.out.trans (hb.mono CA_4.out.size))
  have G_5 := Lib.hid (modelK.cap_later G_4.out hb)
  have BG_5 := Lib.hid (BG_4.out.later hb)
  clear CA_4 G_4 BG_4
  clear hb
  have gBG_0 := BG_5.out.cell 0 (.slice gaz0 z0.length gpz0) rfl
  have gBG_1 := BG_5.out.cell 1 (.slice gaz10 z10.length gpz10) rfl
  have gBG_2 := BG_5.out.cell 2 (.int .i64 z11) rfl
  have gBG_3 := BG_5.out.cell 3 (.slice gaz12 z12.length gpz12) rfl
  go_wp2_with fail
  clear gBG_0 gBG_1 gBG_2 gBG_3
  refine (markModel _ [.slice gaz0 z0.length gpz0, .slice gaz10 z10.length gpz10, .int .i64 z11, .slice gaz12 z12.length gpz12] (z0, (z10, z11, z12)) 1 _ hz.out (by omega) hQl.out G_5.out).mono ?_
  rintro e y6 ⟨rfl, hc, ht⟩
  rw [HQ.out]
  have CA_6 := Lib.hid (CA_5.out.trans (ht.below CA_5.out.size (fun k hk => Nat.le_trans ZG.out hk.1)))
  have G_6 := Lib.hid (hc)
  have BG_6 : Hid (Bx 28 y3.heap.size #[.slice gaz0 z0.length gpz0, .slice gaz10 z10.length gpz10, .int .i64 z11, .slice gaz12 z12.length gpz12] y6) := Lib.hid ((ht.block _ BG_5.out.lt (fun hx => by have h2 := hx.2; omega)).trans BG_5.out)
  clear hc ht CA_5 G_5 BG_5
  have gBG_0 := BG_6.out.cell 0 (.slice gaz0 z0.length gpz0) rfl
  have gBG_1 := BG_6.out.cell 1 (.slice gaz10 z10.length gpz10) rfl
  have gBG_2 := BG_6.out.cell 2 (.int .i64 z11) rfl
  have gBG_3 := BG_6.out.cell 3 (.slice gaz12 z12.length gpz12) rfl
  go_wp2_with fail
  clear gBG_0 gBG_1 gBG_2 gBG_3
  refine (heldModel [.slice gaz0 z0.length gpz0, .slice gaz10 z10.length gpz10, .int .i64 z11, .slice gaz12 z12.length gpz12] (z0, (z10, z11, z12)) 1 _ hz.out (by omega) hQl.out (modelK.cap_rd G_6.out)).mono ?_
  rintro e y7 ⟨rfl, hb⟩
  rw [HQ.out]
  have CA_7 := Lib.hid (CA_6.out.trans (hb.mono CA_6.out.size))
  have G_7 := Lib.hid (modelK.cap_later G_6.out hb)
  have BG_7 := Lib.hid (BG_6.out.later hb)
  clear CA_6 G_6 BG_6
  clear hb
  go_wp2_with fail
  refine (implModelNew _).mono ?_
  rw [HD.out]
  rintro e y8 ⟨us, he, hc, hb⟩
  obtain ⟨haz0, hpz0, haz10, hpz10, haz12, hpz12, rfl, _, _, _⟩ := model_form (modelK.cap_rd hc)
  obtain rfl : e = .returned (.agg #[.slice haz0 z0.length hpz0, .slice haz10 z10.length hpz10, .int .i64 z11, .slice haz12 z12.length hpz12]) := he
  have CA_8 := Lib.hid (CA_7.out.trans (hb.mono CA_7.out.size))
  have G_8 := Lib.hid (modelK.cap_later G_7.out hb)
  have BG_8 := Lib.hid (BG_7.out.later hb)
  have RH_8 := Lib.hid (modelK.cap_rd hc)
  clear CA_7 G_7 BG_7
  clear hb hc
  have ab := (Below.refl y8.heap.size y8).alloc (Nat.le_refl _) (Obj.cells #[.slice haz0 z0.length hpz0, .slice haz10 z10.length hpz10, .int .i64 z11, .slice haz12 z12.length hpz12] 28)
  have Z9 := Lib.hid ab.size
  have CA_9 := Lib.hid (CA_8.out.trans (ab.mono CA_8.out.size))
  have G_9 := Lib.hid (modelK.cap_later G_8.out ab)
  have BG_9 := Lib.hid (BG_8.out.later ab)
  have RH_9 := Lib.hid (modelK.rd_later RH_8.out ab)
  have BH_9 := Lib.hid (Bx.new 28 #[.slice haz0 z0.length hpz0, .slice haz10 z10.length hpz10, .int .i64 z11, .slice haz12 z12.length hpz12] y8)
  clear CA_8 G_8 BG_8 RH_8
  clear ab
  have gBW_0 := (BW_2.out.later CA_9.out).cell 0 (.slice waz0 z0.length wpz0) rfl
  have gBW_1 := (BW_2.out.later CA_9.out).cell 1 (.slice waz10 z10.length wpz10) rfl
  have gBW_2 := (BW_2.out.later CA_9.out).cell 2 (.int .i64 z11) rfl
  have gBW_3 := (BW_2.out.later CA_9.out).cell 3 (.slice waz12 z12.length wpz12) rfl
  have gBH_0 := BH_9.out.cell 0 (.slice haz0 z0.length hpz0) rfl
  have gBH_1 := BH_9.out.cell 1 (.slice haz10 z10.length hpz10) rfl
  have gBH_2 := BH_9.out.cell 2 (.int .i64 z11) rfl
  have gBH_3 := BH_9.out.cell 3 (.slice haz12 z12.length hpz12) rfl
  go_wp2_with fail
  clear gBW_0 gBW_1 gBW_2 gBW_3 gBH_0 gBH_1 gBH_2 gBH_3
  generalize y8.alloc (Obj.cells #[.slice haz0 z0.length hpz0, .slice haz10 z10.length hpz10, .int .i64 z11, .slice haz12 z12.length hpz12] 28) = y9 at CA_9 G_9 BG_9 RH_9 BH_9 Z9 ⊢
  refine (eqModel [.slice haz0 z0.length hpz0, .slice haz10 z10.length hpz10, .int .i64 z11, .slice haz12 z12.length hpz12] [.slice waz0 z0.length wpz0, .slice waz10 z10.length wpz10, .int .i64 z11, .slice waz12 z12.length wpz12] (z0, (z10, z11, z12)) _ hz.out RH_9.out (modelK.rd_later RW_2.out CA_9.out)).mono ?_
  rintro e y10 ⟨rfl, hb⟩
  have CA_10 := Lib.hid (CA_9.out.trans (hb.mono CA_9.out.size))
  have G_10 := Lib.hid (modelK.cap_later G_9.out hb)
  have BG_10 := Lib.hid (BG_9.out.later hb)
  have RH_10 := Lib.hid (modelK.rd_later RH_9.out hb)
  have BH_10 := Lib.hid (BH_9.out.later hb)
  clear CA_9 G_9 BG_9 RH_9 BH_9
  clear hb
  have gBG_0 := BG_10.out.cell 0 (.slice gaz0 z0.length gpz0) rfl
  have gBG_1 := BG_10.out.cell 1 (.slice gaz10 z10.length gpz10) rfl
  have gBG_2 := BG_10.out.cell 2 (.int .i64 z11) rfl
  have gBG_3 := BG_10.out.cell 3 (.slice gaz12 z12.length gpz12) rfl
  go_wp2_with fail
  clear gBG_0 gBG_1 gBG_2 gBG_3
  refine (heldModel [.slice gaz0 z0.length gpz0, .slice gaz10 z10.length gpz10, .int .i64 z11, .slice gaz12 z12.length gpz12] (z0, (z10, z11, z12)) 1 _ hz.out (by omega) hQl.out (modelK.cap_rd G_10.out)).mono ?_
  rintro e y11 ⟨rfl, hb⟩
  rw [HQ.out]
  have CA_11 := Lib.hid (CA_10.out.trans (hb.mono CA_10.out.size))
  have G_11 := Lib.hid (modelK.cap_later G_10.out hb)
  have BG_11 := Lib.hid (BG_10.out.later hb)
  have RH_11 := Lib.hid (modelK.rd_later RH_10.out hb)
  have BH_11 := Lib.hid (BH_10.out.later hb)
  clear CA_10 G_10 BG_10 RH_10 BH_10
  clear hb
  go_wp2
  go_ret
  exact ⟨rfl, (HB_2.out.trans (CA_11.out.mono HB_2.out.size))⟩

set_option maxRecDepth 100000 in
set_option maxRecDepth 100000 in
theorem lifted (os : Os) (started : os.Started) (H : Type) (enc : TypeId × Value → H) :
    ReturnsInHanded {} Try.checked os 5 .any (Rows.fnExactModelNewSpec.pre6 enc Try.prog Try.f5 Rows.fnExactModelNewRow.domain false) (Rows.fnExactModelNewSpec.post enc Try.prog Try.f5 false true false false) := by
  refine returnsInHanded_of_change (C := Try.checked) own started (by kernel_rfl) Try.func5
    (ChangeSpec.witness6 (enc := enc) (C := Try.checked) false ⟨#[], #[], []⟩ 8 (by kernel_rfl) (by kernel_rfl) (by kernel_rfl) (by kernel_rfl)) ?_
  intro W base args ds gs before hval0 hW hcnd _
  have hval : ∀ (j : Nat) t v, Try.f5.params[j]? = some t → args[j]? = some v → Value.okWide Try.prog W .any base t v := hval0
  have hW' := hW
  obtain ⟨p, q, hA0, hV, rfl, hfz, hnd⟩ := hW
  have hA : DataW.TrodAll enc Try.prog W 0 (fun _ => true) true Try.f5.params.toList args.toList ds p := hA0
  rw [Try.params5] at hA hval
  obtain ⟨hnil, rfl, rfl⟩ := trodAll_nil hA
  obtain rfl : args = #[] := by cases args; simp_all
  obtain ⟨rfl, rfl⟩ := trodVars_none hV

  clear hA0 hval0
  refine (walk  W ).mono fun e W' ⟨he, bel⟩ => ?_
  subst he
  exact ⟨_, rfl, _, _, _, [], _, [], hW', trodAll_mk1 (shut_bool Try.underlying4 _), trodAll_mk0, rfl, bel.frame _, fun h => by cases h⟩

theorem over : Rows.fnExactModelNewRow.holds Try.pinned (OpenSpec.ofChange Rows.fnExactModelNewSpec) :=
  OpenClaim.holds_of_wide 5 Try.f5 rfl rfl rfl rfl rfl rfl rfl ⟨rfl, rfl, rfl, rfl, rfl⟩ rfl rfl rfl rfl rfl (by kernel_rfl) Try.func5 (by kernel_rfl)
    (of_decide_eq_true (by kernel_rfl)) (by unfold Func.isWrapper; first | (rw [if_pos (by decide +kernel)]; kernel_rfl) | (rw [if_neg (by decide +kernel)]; exact ⟨rfl, rfl⟩))
    (fun os started H enc _ => lifted os started H enc)

theorem proved : Rows.FnExactModelNewSaid := over
#print axioms proved
end Go.Proofs.Ytbhmfjblmcppbaa.fnExactModelNew
