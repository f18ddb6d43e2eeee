/-
  For every master and every number the program's MstAddr answers as its model does, and leaves the master as it was. No condition.
-/
import Derived.Test.YtijilhaoknpeeaaRows
import Derived.WalkKit
import Derived.ProofKit
import Derived.OpenShut
import Derived.ShutString
import Derived.ChangeOld
import Derived.Below
import Derived.Test.YtijilhaoknpeeaaMstI
import Derived.Test.YtijilhaoknpeeaaMstSz
import Derived.Test.YtijilhaoknpeeaaMst7
import Derived.Test.YtijilhaoknpeeaaOMst
import Derived.Deep.RegionHeld3
namespace Go.Proofs.Ytijilhaoknpeeaa.fnExactMstAddr
open Go.ChangeShapes Go.WideShapes Go.ChangeAt Go.RowKit
open Go.ChangeMaps (open_string shut_string)
set_option linter.unusedVariables false

theorem own : ownKnob Try.prog.godebug = none := by kernel_rfl
theorem laidOut : laidOutB Try.prog = true := by kernel_rfl
open KD Rows3 GR Num
set_option maxHeartbeats 8000000 in
set_option maxRecDepth 100000 in
theorem walk (u0 : List Value) (x0 : List (Bool × Int × Int × Int × Bool × List Int) × Int × Int × Int × Bool × Bool) (a1 : Int) (w : World) (R0 : KD.mstK.rd u0 x0 w) (w1 : (Lit.int .i64 a1).wf = true) :
    Calls Try.prog 9 #[.agg u0.toArray, .int .i64 a1] w fun e w' => e = .returned (.bool true) ∧ Below w.heap.size w w' := by
  obtain ⟨x00, x01, x02, x03, x04, x05⟩ := x0
  obtain ⟨ax00, px00, rfl, _⟩ := mst_form R0
  have HR0 := Lib.hid R0
  clear R0
  have hsz : ∀ (w : World) o, (w.alloc o).heap.size = w.heap.size + 1 := fun w o => by simp
  have A0 := Bx.new 56 #[.slice ax00 x00.length px00, .int .i64 x01, .int .i64 x02, .int .i64 x03, .bool x04, .bool x05] w
  have A0_0 := Lib.hid A0
  clear A0
  have HB_0 := Lib.hid ((Below.refl w.heap.size w).alloc (Nat.le_refl _) (Obj.cells #[.slice ax00 x00.length px00, .int .i64 x01, .int .i64 x02, .int .i64 x03, .bool x04, .bool x05] 56))
  clear hsz
  show Calls _ _ #[.agg #[.slice ax00 x00.length px00, .int .i64 x01, .int .i64 x02, .int .i64 x03, .bool x04, .bool x05], .int .i64 a1] w _
  obtain ⟨M0, hM0⟩ : ∃ M, szW 1048576 (mstK.sz (x00, x01, x02, x03, x04, x05)) = M := ⟨_, rfl⟩
  have hb0 := szW_bd 1048576 (mstK.sz (x00, x01, x02, x03, x04, x05)) (by omega)
  rw [hM0] at hb0
  obtain ⟨hb0a, hb0b⟩ := hb0
  have HM0 := Lib.hid hM0
  by_cases c0 : M0 < 0
  · clear hM0
    go_enter Try.func9, Try.ntmps9
    go_wp2_with fail
    generalize w.alloc (Obj.cells #[.slice ax00 x00.length px00, .int .i64 x01, .int .i64 x02, .int .i64 x03, .bool x04, .bool x05] 56) = y0 at A0_0 HB_0 ⊢
    refine (szMst [.slice ax00 x00.length px00, .int .i64 x01, .int .i64 x02, .int .i64 x03, .bool x04, .bool x05] (x00, x01, x02, x03, x04, x05) 1048576 _ (mstK.rd_later HR0.out HB_0.out) (by omega) (by omega)).mono ?_
    rintro e y1 ⟨rfl, hb⟩
    rw [HM0.out]
    have A0_1 := Lib.hid (A0_0.out.later hb)
    have HB_1 := Lib.hid (HB_0.out.trans (hb.mono HB_0.out.size))
    clear A0_0 HB_0
    clear hb
    have gA0_0 := A0_1.out.cell 0 (.slice ax00 x00.length px00) rfl
    have gA0_1 := A0_1.out.cell 1 (.int .i64 x01) rfl
    have gA0_2 := A0_1.out.cell 2 (.int .i64 x02) rfl
    have gA0_3 := A0_1.out.cell 3 (.int .i64 x03) rfl
    have gA0_4 := A0_1.out.cell 4 (.bool x04) rfl
    have gA0_5 := A0_1.out.cell 5 (.bool x05) rfl
    go_wp2
    go_ret
    exact ⟨rfl, HB_1.out⟩
  · have hft0 := szW_fit (show ¬ szW 1048576 (mstK.sz (x00, x01, x02, x03, x04, x05)) < 0 by rw [hM0]; exact c0)
    have hs0 : Hid (mstK.sz (x00, x01, x02, x03, x04, x05) ≤ 2000000) := Lib.hid (by omega)
    clear hM0 hft0
    obtain ⟨D, hD⟩ : ∃ D, addrM x00 x01 x02 x03 x04 x05 a1 = D := ⟨_, rfl⟩
    obtain ⟨N0, hN0⟩ : ∃ N, D = N := ⟨_, rfl⟩
    subst hN0
    have HD := Lib.hid hD
    have nD : (D != D) = false := by simp
    clear hD
    go_enter Try.func9, Try.ntmps9
    go_wp2_with fail
    generalize w.alloc (Obj.cells #[.slice ax00 x00.length px00, .int .i64 x01, .int .i64 x02, .int .i64 x03, .bool x04, .bool x05] 56) = y0 at A0_0 HB_0 ⊢
    refine (szMst [.slice ax00 x00.length px00, .int .i64 x01, .int .i64 x02, .int .i64 x03, .bool x04, .bool x05] (x00, x01, x02, x03, x04, x05) 1048576 _ (mstK.rd_later HR0.out HB_0.out) (by omega) (by omega)).mono ?_
    rintro e y1 ⟨rfl, hb⟩
    rw [HM0.out]
    have A0_1 := Lib.hid (A0_0.out.later hb)
    have HB_1 := Lib.hid (HB_0.out.trans (hb.mono HB_0.out.size))
    clear A0_0 HB_0
    clear hb
    have gA0_0 := A0_1.out.cell 0 (.slice ax00 x00.length px00) rfl
    have gA0_1 := A0_1.out.cell 1 (.int .i64 x01) rfl
    have gA0_2 := A0_1.out.cell 2 (.int .i64 x02) rfl
    have gA0_3 := A0_1.out.cell 3 (.int .i64 x03) rfl
    have gA0_4 := A0_1.out.cell 4 (.bool x04) rfl
    have gA0_5 := A0_1.out.cell 5 (.bool x05) rfl
    go_wp2_with fail
    clear gA0_0 gA0_1 gA0_2 gA0_3 gA0_4 gA0_5
    refine (toMst [.slice ax00 x00.length px00, .int .i64 x01, .int .i64 x02, .int .i64 x03, .bool x04, .bool x05] (x00, x01, x02, x03, x04, x05) _ hs0.out (mstK.rd_later HR0.out HB_1.out)).mono ?_
    rintro e y2 ⟨us, he, hc, hb⟩
    obtain ⟨sax00, spx00, rfl, _⟩ := mst_form (mstK.cap_rd hc)
    obtain rfl : e = .returned (.agg #[.slice sax00 x00.length spx00, .int .i64 x01, .int .i64 x02, .int .i64 x03, .bool x04, .bool x05]) := he
    have A0_2 := Lib.hid (A0_1.out.later hb)
    have HB_2 := Lib.hid (HB_1.out.trans (hb.mono HB_1.out.size))
    have S0_2 := Lib.hid (hc)
    clear A0_1 HB_1
    clear hb hc
    go_wp2_with fail
    refine (specAddr a1 [.slice sax00 x00.length spx00, .int .i64 x01, .int .i64 x02, .int .i64 x03, .bool x04, .bool x05] x00 x01 x02 x03 x04 x05 hs0.out _ ((mstK.cap_rd S0_2.out))).mono ?_
    rw [HD.out]
    rintro e y3 ⟨rfl, hb⟩
    have A0_3 := Lib.hid (A0_2.out.later hb)
    have HB_3 := Lib.hid (HB_2.out.trans (hb.mono HB_2.out.size))
    clear A0_2 HB_2 S0_2
    clear hb
    have gA0_0 := A0_3.out.cell 0 (.slice ax00 x00.length px00) rfl
    have gA0_1 := A0_3.out.cell 1 (.int .i64 x01) rfl
    have gA0_2 := A0_3.out.cell 2 (.int .i64 x02) rfl
    have gA0_3 := A0_3.out.cell 3 (.int .i64 x03) rfl
    have gA0_4 := A0_3.out.cell 4 (.bool x04) rfl
    have gA0_5 := A0_3.out.cell 5 (.bool x05) rfl
    go_wp2_with fail
    clear gA0_0 gA0_1 gA0_2 gA0_3 gA0_4 gA0_5
    refine (toMst [.slice ax00 x00.length px00, .int .i64 x01, .int .i64 x02, .int .i64 x03, .bool x04, .bool x05] (x00, x01, x02, x03, x04, x05) _ hs0.out (mstK.rd_later HR0.out HB_3.out)).mono ?_
    rintro e y4 ⟨us, he, hc, hb⟩
    obtain ⟨cax00, cpx00, rfl, _⟩ := mst_form (mstK.cap_rd hc)
    obtain rfl : e = .returned (.agg #[.slice cax00 x00.length cpx00, .int .i64 x01, .int .i64 x02, .int .i64 x03, .bool x04, .bool x05]) := he
    have A0_4 := Lib.hid (A0_3.out.later hb)
    have HB_4 := Lib.hid (HB_3.out.trans (hb.mono HB_3.out.size))
    have X0_4 := Lib.hid (mstK.cap_rd hc)
    clear A0_3 HB_3
    clear hb hc
    have ab := (Below.refl y4.heap.size y4).alloc (Nat.le_refl _) (Obj.cells #[.slice cax00 x00.length cpx00, .int .i64 x01, .int .i64 x02, .int .i64 x03, .bool x04, .bool x05] 26)
    have Z5 := Lib.hid ab.size
    have A0_5 := Lib.hid (A0_4.out.later ab)
    have HB_5 := Lib.hid (HB_4.out.trans (ab.mono HB_4.out.size))
    have X0_5 := Lib.hid (mstK.rd_later X0_4.out ab)
    have BX0_5 := Lib.hid (Bx.new 26 #[.slice cax00 x00.length cpx00, .int .i64 x01, .int .i64 x02, .int .i64 x03, .bool x04, .bool x05] y4)
    clear A0_4 HB_4 X0_4
    clear ab
    have gBX0_0 := BX0_5.out.cell 0 (.slice cax00 x00.length cpx00) rfl
    have gBX0_1 := BX0_5.out.cell 1 (.int .i64 x01) rfl
    have gBX0_2 := BX0_5.out.cell 2 (.int .i64 x02) rfl
    have gBX0_3 := BX0_5.out.cell 3 (.int .i64 x03) rfl
    have gBX0_4 := BX0_5.out.cell 4 (.bool x04) rfl
    have gBX0_5 := BX0_5.out.cell 5 (.bool x05) rfl
    go_wp2_with fail
    clear gBX0_0 gBX0_1 gBX0_2 gBX0_3 gBX0_4 gBX0_5
    generalize y4.alloc (Obj.cells #[.slice cax00 x00.length cpx00, .int .i64 x01, .int .i64 x02, .int .i64 x03, .bool x04, .bool x05] 26) = y5 at A0_5 HB_5 X0_5 BX0_5 Z5 ⊢
    refine (implAddr a1 [.slice cax00 x00.length cpx00, .int .i64 x01, .int .i64 x02, .int .i64 x03, .bool x04, .bool x05] x00 x01 x02 x03 x04 x05 hs0.out _ (X0_5.out)).mono ?_
    rw [HD.out]
    rintro e y6 ⟨rfl, hb⟩
    have A0_6 := Lib.hid (A0_5.out.later hb)
    have HB_6 := Lib.hid (HB_5.out.trans (hb.mono HB_5.out.size))
    have X0_6 := Lib.hid (mstK.rd_later X0_5.out hb)
    have BX0_6 := Lib.hid (BX0_5.out.later hb)
    clear A0_5 HB_5 X0_5 BX0_5
    clear hb
    have gBX0_0 := BX0_6.out.cell 0 (.slice cax00 x00.length cpx00) rfl
    have gBX0_1 := BX0_6.out.cell 1 (.int .i64 x01) rfl
    have gBX0_2 := BX0_6.out.cell 2 (.int .i64 x02) rfl
    have gBX0_3 := BX0_6.out.cell 3 (.int .i64 x03) rfl
    have gBX0_4 := BX0_6.out.cell 4 (.bool x04) rfl
    have gBX0_5 := BX0_6.out.cell 5 (.bool x05) rfl
    have gA0_0 := A0_6.out.cell 0 (.slice ax00 x00.length px00) rfl
    have gA0_1 := A0_6.out.cell 1 (.int .i64 x01) rfl
    have gA0_2 := A0_6.out.cell 2 (.int .i64 x02) rfl
    have gA0_3 := A0_6.out.cell 3 (.int .i64 x03) rfl
    have gA0_4 := A0_6.out.cell 4 (.bool x04) rfl
    have gA0_5 := A0_6.out.cell 5 (.bool x05) rfl
    have ltX := BX0_6.out.lt
    have ltA := A0_6.out.lt
    go_wp2_with fail
    have HrA := Lib.hid (mstK.rd_later HR0.out HB_6.out)
    have HrX := Lib.hid (X0_6.out)
    go_region_held3 (fun w' => w'.cell? ⟨y4.heap.size, 0, none⟩ = some (.slice cax00 x00.length cpx00) ∧ w'.cell? ⟨y4.heap.size, 1, none⟩ = some (.int .i64 x01) ∧ w'.cell? ⟨y4.heap.size, 2, none⟩ = some (.int .i64 x02) ∧ w'.cell? ⟨y4.heap.size, 3, none⟩ = some (.int .i64 x03) ∧ w'.cell? ⟨y4.heap.size, 4, none⟩ = some (.bool x04) ∧ w'.cell? ⟨y4.heap.size, 5, none⟩ = some (.bool x05) ∧ w'.cell? ⟨w.heap.size, 0, none⟩ = some (.slice ax00 x00.length px00) ∧ w'.cell? ⟨w.heap.size, 1, none⟩ = some (.int .i64 x01) ∧ w'.cell? ⟨w.heap.size, 2, none⟩ = some (.int .i64 x02) ∧ w'.cell? ⟨w.heap.size, 3, none⟩ = some (.int .i64 x03) ∧ w'.cell? ⟨w.heap.size, 4, none⟩ = some (.bool x04) ∧ w'.cell? ⟨w.heap.size, 5, none⟩ = some (.bool x05)) (go_keep) (first
      | (go_at_call 41; refine (toMst [.slice ax00 x00.length px00, .int .i64 x01, .int .i64 x02, .int .i64 x03, .bool x04, .bool x05] (x00, x01, x02, x03, x04, x05) _ hs0.out (mstK.rd_drew HrA.out)).mono ?_; rintro e y7 ⟨us, he, hc, hb1⟩; obtain ⟨eax00, epx00, rfl, _⟩ := mst_form (mstK.cap_rd hc); obtain rfl : e = .returned (.agg #[.slice eax00 x00.length epx00, .int .i64 x01, .int .i64 x02, .int .i64 x03, .bool x04, .bool x05]) := he; have hk : ∀ i, y7.cell? ⟨y4.heap.size, i, none⟩ = y6.cell? ⟨y4.heap.size, i, none⟩ := fun i => hb1.cell (p := ⟨y4.heap.size, i, none⟩) (ltX); have hk' : ∀ i, y7.cell? ⟨w.heap.size, i, none⟩ = y6.cell? ⟨w.heap.size, i, none⟩ := fun i => hb1.cell (p := ⟨w.heap.size, i, none⟩) (ltA))
      | (go_at_call 44; refine (eqMst [.slice cax00 x00.length cpx00, .int .i64 x01, .int .i64 x02, .int .i64 x03, .bool x04, .bool x05] [.slice eax00 x00.length epx00, .int .i64 x01, .int .i64 x02, .int .i64 x03, .bool x04, .bool x05] (x00, x01, x02, x03, x04, x05) _ hs0.out (mstK.rd_later (mstK.rd_drew HrX.out) hb1) (mstK.cap_rd hc)).mono ?_; rintro e y8 ⟨rfl, hb2⟩; have hk2 : ∀ i, y8.cell? ⟨y4.heap.size, i, none⟩ = y7.cell? ⟨y4.heap.size, i, none⟩ := fun i => hb2.cell (p := ⟨y4.heap.size, i, none⟩) (Nat.lt_of_lt_of_le ltX hb1.size); have hk2' : ∀ i, y8.cell? ⟨w.heap.size, i, none⟩ = y7.cell? ⟨w.heap.size, i, none⟩ := fun i => hb2.cell (p := ⟨w.heap.size, i, none⟩) (Nat.lt_of_lt_of_le ltA hb1.size)))
    have hb := ((Below.refl y6.heap.size y6).drew.trans hb1).trans (hb2.mono hb1.size)
    clear hk hk' hk2 hk2' ltX ltA HrA HrX gBX0_0 gBX0_1 gBX0_2 gBX0_3 gBX0_4 gBX0_5 gA0_0 gA0_1 gA0_2 gA0_3 gA0_4 gA0_5
    have A0_7 := A0_6
    have HB_7 := HB_6
    have X0_7 := X0_6
    have BX0_7 := BX0_6
    clear A0_6 HB_6 X0_6 BX0_6
    have A0_8 := Lib.hid (A0_7.out.later hb)
    have HB_8 := Lib.hid (HB_7.out.trans (hb.mono HB_7.out.size))
    have X0_8 := Lib.hid (mstK.rd_later X0_7.out hb)
    have BX0_8 := Lib.hid (BX0_7.out.later hb)
    clear A0_7 HB_7 X0_7 BX0_7
    clear hb hb1 hb2 hc
    go_wp2
    go_ret
    exact ⟨rfl, HB_8.out⟩

set_option maxRecDepth 100000 in
set_option maxRecDepth 100000 in
theorem lifted (os : Os) (started : os.Started) (H : Type) (enc : TypeId × Value → H) :
    ReturnsInHanded {} Try.checked os 9 .any (Rows.fnExactMstAddrSpec.pre6 enc Try.prog Try.f9 Rows.fnExactMstAddrRow.domain false) (Rows.fnExactMstAddrSpec.post enc Try.prog Try.f9 false true false false) := by
  refine returnsInHanded_of_change (C := Try.checked) own started (by kernel_rfl) Try.func9
    (ChangeSpec.witness6 (enc := enc) (C := Try.checked) false ⟨#[], #[.agg #[.slice none 0 0, .int .i64 0, .int .i64 0, .int .i64 0, .bool false, .bool false], .int .i64 0], []⟩ 8 (by kernel_rfl) (by kernel_rfl) (by kernel_rfl) (by kernel_rfl)) ?_
  intro W base args ds gs before hval0 hW hcnd _
  have hval : ∀ (j : Nat) t v, Try.f9.params[j]? = some t → args[j]? = some v → Value.okWide Try.prog W .any base t v := hval0
  have hW' := hW
  obtain ⟨p, q, hA0, hV, rfl, hfz, hnd⟩ := hW
  have hA : DataW.TrodAll enc Try.prog W 0 (fun _ => true) true Try.f9.params.toList args.toList ds p := hA0
  rw [Try.params9] at hA hval
  obtain ⟨v0, vs0, d0, ds0, p0, q0, hargs, rfl, rfl, h0, r0⟩ := trodAll_cons hA
  obtain ⟨v1, vs1, d1, ds1, p1, q1, rfl, rfl, rfl, h1, r1⟩ := trodAll_cons r0
  obtain ⟨rfl, rfl, rfl⟩ := trodAll_nil r1
  obtain rfl : args = #[v0, v1] := by cases args; simp_all
  obtain ⟨rfl, rfl⟩ := trodVars_none hV
  have k0 := h0
  have lt0 : ∀ x ∈ p0, x.block < W.heap.size := by obtain ⟨m, hm⟩ := k0; exact DataW.trod_lt m _ _ _ hm
  obtain ⟨u0, x0, rfl, R0⟩ := KD.open_mst (hval 0 56 v0 rfl rfl) h0
  obtain ⟨a1, rfl, rfl, rfl, w1⟩ := open_int Try.underlying3 (hval 1 3 v1 rfl rfl) h1
  clear hA0 hval0
  refine (walk u0 x0 a1 W R0 w1).mono fun e W' ⟨he, bel⟩ => ?_
  subst he
  exact ⟨_, rfl, _, _, _, [], _, [], hW', trodAll_mk1 (shut_bool Try.underlying4 _), (trodAll_cons_mk (Below.trod laidOut (by kernel_rfl) (of_decide_eq_true (by kernel_rfl)) k0 bel lt0) (trodAll_cons_mk (shut_int Try.underlying3 w1) trodAll_mk0)), rfl, bel.frame _, fun h => by cases h⟩

theorem over : Rows.fnExactMstAddrRow.holds Try.pinned (OpenSpec.ofChange Rows.fnExactMstAddrSpec) :=
  OpenClaim.holds_of_wide 9 Try.f9 rfl rfl rfl rfl rfl rfl rfl ⟨rfl, rfl, rfl, rfl, rfl⟩ rfl rfl rfl rfl rfl (by kernel_rfl) Try.func9 (by kernel_rfl)
    (of_decide_eq_true (by kernel_rfl)) (by unfold Func.isWrapper; first | (rw [if_pos (by decide +kernel)]; kernel_rfl) | (rw [if_neg (by decide +kernel)]; exact ⟨rfl, rfl⟩))
    (fun os started H enc _ => lifted os started H enc)

theorem proved : Rows.FnExactMstAddrSaid := over
#print axioms proved
end Go.Proofs.Ytijilhaoknpeeaa.fnExactMstAddr
