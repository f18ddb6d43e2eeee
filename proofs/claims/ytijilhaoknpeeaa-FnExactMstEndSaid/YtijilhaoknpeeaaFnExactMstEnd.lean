/-
  For every master the program's MstEnd answers as its model does, leaves the master as it was, and what it answers lies in memory of its own. No condition.
-/
import Derived.Test.YtijilhaoknpeeaaRows
import Derived.WalkKit
import Derived.ProofKit
import Derived.OpenShut
import Derived.ShutString
import Derived.ChangeOld
import Derived.Below
import Derived.Test.YtijilhaoknpeeaaMstI
import Derived.Test.YtijilhaoknpeeaaMstSz
import Derived.Test.YtijilhaoknpeeaaOMst
import Derived.Deep.RegionHeld3
namespace Go.Proofs.Ytijilhaoknpeeaa.fnExactMstEnd
open Go.ChangeShapes Go.WideShapes Go.ChangeAt Go.RowKit
open Go.ChangeMaps (open_string shut_string)
set_option linter.unusedVariables false

theorem own : ownKnob Try.prog.godebug = none := by kernel_rfl
theorem laidOut : laidOutB Try.prog = true := by kernel_rfl
open KD Rows3 GR Num
set_option maxHeartbeats 8000000 in
set_option maxRecDepth 100000 in
theorem walk (u0 : List Value) (x0 : List (Bool × Int × Int × Int × Bool × List Int) × Int × Int × Int × Bool × Bool) (w : World) (R0 : KD.mstK.rd u0 x0 w) :
    Calls Try.prog 12 #[.agg u0.toArray] w fun e w' => e = .returned (.bool true) ∧ Below w.heap.size w w' := by
  obtain ⟨x00, x01, x02, x03, x04, x05⟩ := x0
  obtain ⟨ax00, px00, rfl, _⟩ := mst_form R0
  have HR0 := Lib.hid R0
  clear R0
  have hsz : ∀ (w : World) o, (w.alloc o).heap.size = w.heap.size + 1 := fun w o => by simp
  have A0 := Bx.new 56 #[.slice ax00 x00.length px00, .int .i64 x01, .int .i64 x02, .int .i64 x03, .bool x04, .bool x05] w
  have A0_0 := Lib.hid A0
  clear A0
  have HB_0 := Lib.hid ((Below.refl w.heap.size w).alloc (Nat.le_refl _) (Obj.cells #[.slice ax00 x00.length px00, .int .i64 x01, .int .i64 x02, .int .i64 x03, .bool x04, .bool x05] 56))
  clear hsz
  show Calls _ _ #[.agg #[.slice ax00 x00.length px00, .int .i64 x01, .int .i64 x02, .int .i64 x03, .bool x04, .bool x05]] w _
  obtain ⟨M0, hM0⟩ : ∃ M, szW 1048576 (mstK.sz (x00, x01, x02, x03, x04, x05)) = M := ⟨_, rfl⟩
  have hb0 := szW_bd 1048576 (mstK.sz (x00, x01, x02, x03, x04, x05)) (by omega)
  rw [hM0] at hb0
  obtain ⟨hb0a, hb0b⟩ := hb0
  have HM0 := Lib.hid hM0
  by_cases c0 : M0 < 0
  · clear hM0
    go_enter Try.func12, Try.ntmps12
    go_wp2_with fail
    generalize w.alloc (Obj.cells #[.slice ax00 x00.length px00, .int .i64 x01, .int .i64 x02, .int .i64 x03, .bool x04, .bool x05] 56) = y0 at A0_0 HB_0 ⊢
    refine (szMst [.slice ax00 x00.length px00, .int .i64 x01, .int .i64 x02, .int .i64 x03, .bool x04, .bool x05] (x00, x01, x02, x03, x04, x05) 1048576 _ (mstK.rd_later HR0.out HB_0.out) (by omega) (by omega)).mono ?_
    rintro e y1 ⟨rfl, hb⟩
    rw [HM0.out]
    have A0_1 := Lib.hid (A0_0.out.later hb)
    have HB_1 := Lib.hid (HB_0.out.trans (hb.mono HB_0.out.size))
    clear A0_0 HB_0
    clear hb
    have gA0_0 := A0_1.out.cell 0 (.slice ax00 x00.length px00) rfl
    have gA0_1 := A0_1.out.cell 1 (.int .i64 x01) rfl
    have gA0_2 := A0_1.out.cell 2 (.int .i64 x02) rfl
    have gA0_3 := A0_1.out.cell 3 (.int .i64 x03) rfl
    have gA0_4 := A0_1.out.cell 4 (.bool x04) rfl
    have gA0_5 := A0_1.out.cell 5 (.bool x05) rfl
    go_wp2
    go_ret
    exact ⟨rfl, HB_1.out⟩
  · have hft0 := szW_fit (show ¬ szW 1048576 (mstK.sz (x00, x01, x02, x03, x04, x05)) < 0 by rw [hM0]; exact c0)
    have hs0 : Hid (mstK.sz (x00, x01, x02, x03, x04, x05) ≤ 2000000) := Lib.hid (by omega)
    clear hM0 hft0
    obtain ⟨D, hD⟩ : ∃ D, endM x00 x01 x02 x03 x04 x05 = D := ⟨_, rfl⟩
    obtain ⟨⟨z0, z1, z2, z3, z4, z5⟩, N0⟩ := D
    have HD := Lib.hid hD
    have hz : Hid (mstK.sz (z0, z1, z2, z3, z4, z5) ≤ 2000000) := Lib.hid (end_sz hs0.out hD)
    have nN0 : (N0 != N0) = false := by simp
    clear hD
    obtain ⟨Q, hQ⟩ : ∃ Q : Int, 1 + (mstK.cT (z0, z1, z2, z3, z4, z5) : Int) = Q := ⟨_, rfl⟩
    have hQ0 : ¬ Q < 0 := by omega
    have hQQ : (Q != Q) = false := by simp
    have HQ := Lib.hid hQ
    have hQl : Hid (1 + (mstK.cT (z0, z1, z2, z3, z4, z5) : Int) ≤ 4611686018427387904) := Lib.hid (by have h1 := mstK.cT_le (z0, z1, z2, z3, z4, z5); have h2 := hz.out; omega)
    clear hQ
    obtain ⟨k0, hk0⟩ : ∃ k : Int, 1 + (mstK.cT (x00, x01, x02, x03, x04, x05) : Int) = k := ⟨_, rfl⟩
    have hkn0 : ¬ k0 < 0 := by omega
    have Hk0 := Lib.hid hk0
    have hkl0 : Hid (1 + (mstK.cT (x00, x01, x02, x03, x04, x05) : Int) ≤ 4611686018427387904) := Lib.hid (by have h1 := mstK.cT_le (x00, x01, x02, x03, x04, x05); have h2 := hs0.out; omega)
    clear hk0
    go_enter Try.func12, Try.ntmps12
    go_wp2_with fail
    generalize w.alloc (Obj.cells #[.slice ax00 x00.length px00, .int .i64 x01, .int .i64 x02, .int .i64 x03, .bool x04, .bool x05] 56) = y0 at A0_0 HB_0 ⊢
    refine (szMst [.slice ax00 x00.length px00, .int .i64 x01, .int .i64 x02, .int .i64 x03, .bool x04, .bool x05] (x00, x01, x02, x03, x04, x05) 1048576 _ (mstK.rd_later HR0.out HB_0.out) (by omega) (by omega)).mono ?_
    rintro e y1 ⟨rfl, hb⟩
    rw [HM0.out]
    have A0_1 := Lib.hid (A0_0.out.later hb)
    have HB_1 := Lib.hid (HB_0.out.trans (hb.mono HB_0.out.size))
    clear A0_0 HB_0
    clear hb
    have gA0_0 := A0_1.out.cell 0 (.slice ax00 x00.length px00) rfl
    have gA0_1 := A0_1.out.cell 1 (.int .i64 x01) rfl
    have gA0_2 := A0_1.out.cell 2 (.int .i64 x02) rfl
    have gA0_3 := A0_1.out.cell 3 (.int .i64 x03) rfl
    have gA0_4 := A0_1.out.cell 4 (.bool x04) rfl
    have gA0_5 := A0_1.out.cell 5 (.bool x05) rfl
    go_wp2_with fail
    clear gA0_0 gA0_1 gA0_2 gA0_3 gA0_4 gA0_5
    refine (toMst [.slice ax00 x00.length px00, .int .i64 x01, .int .i64 x02, .int .i64 x03, .bool x04, .bool x05] (x00, x01, x02, x03, x04, x05) _ hs0.out (mstK.rd_later HR0.out HB_1.out)).mono ?_
    rintro e y2 ⟨us, he, hc, hb⟩
    obtain ⟨sax00, spx00, rfl, _⟩ := mst_form (mstK.cap_rd hc)
    obtain rfl : e = .returned (.agg #[.slice sax00 x00.length spx00, .int .i64 x01, .int .i64 x02, .int .i64 x03, .bool x04, .bool x05]) := he
    have A0_2 := Lib.hid (A0_1.out.later hb)
    have HB_2 := Lib.hid (HB_1.out.trans (hb.mono HB_1.out.size))
    have S0_2 := Lib.hid (hc)
    clear A0_1 HB_1
    clear hb hc
    go_wp2_with fail
    refine (specEnd [.slice sax00 x00.length spx00, .int .i64 x01, .int .i64 x02, .int .i64 x03, .bool x04, .bool x05] x00 x01 x02 x03 x04 x05 hs0.out _ ((mstK.cap_rd S0_2.out))).mono ?_
    rw [HD.out]
    rintro e y3 ⟨us, he, hc, hb⟩
    obtain ⟨waz0, wpz0, rfl, _⟩ := mst_form (mstK.cap_rd hc)
    obtain rfl : e = .returned (.tuple #[.agg #[.slice waz0 z0.length wpz0, .int .i64 z1, .int .i64 z2, .int .i64 z3, .bool z4, .bool z5], .bool N0]) := he
    have A0_3 := Lib.hid (A0_2.out.later hb)
    have HB_3 := Lib.hid (HB_2.out.trans (hb.mono HB_2.out.size))
    have RW_3 := Lib.hid (mstK.cap_rd hc)
    clear A0_2 HB_2 S0_2
    clear hb hc
    have ab := (Below.refl y3.heap.size y3).alloc (Nat.le_refl _) (Obj.cells #[.slice waz0 z0.length wpz0, .int .i64 z1, .int .i64 z2, .int .i64 z3, .bool z4, .bool z5] 26)
    have Z4 := Lib.hid ab.size
    have A0_4 := Lib.hid (A0_3.out.later ab)
    have HB_4 := Lib.hid (HB_3.out.trans (ab.mono HB_3.out.size))
    have RW_4 := Lib.hid (mstK.rd_later RW_3.out ab)
    have BW_4 := Lib.hid (Bx.new 26 #[.slice waz0 z0.length wpz0, .int .i64 z1, .int .i64 z2, .int .i64 z3, .bool z4, .bool z5] y3)
    clear A0_3 HB_3 RW_3
    clear ab
    have gA0_0 := A0_4.out.cell 0 (.slice ax00 x00.length px00) rfl
    have gA0_1 := A0_4.out.cell 1 (.int .i64 x01) rfl
    have gA0_2 := A0_4.out.cell 2 (.int .i64 x02) rfl
    have gA0_3 := A0_4.out.cell 3 (.int .i64 x03) rfl
    have gA0_4 := A0_4.out.cell 4 (.bool x04) rfl
    have gA0_5 := A0_4.out.cell 5 (.bool x05) rfl
    go_wp2_with fail
    clear gA0_0 gA0_1 gA0_2 gA0_3 gA0_4 gA0_5
    generalize y3.alloc (Obj.cells #[.slice waz0 z0.length wpz0, .int .i64 z1, .int .i64 z2, .int .i64 z3, .bool z4, .bool z5] 26) = y4 at A0_4 HB_4 RW_4 BW_4 Z4 ⊢
    have CA_4 := Lib.hid (Below.refl y4.heap.size y4)
    refine (toMst [.slice ax00 x00.length px00, .int .i64 x01, .int .i64 x02, .int .i64 x03, .bool x04, .bool x05] (x00, x01, x02, x03, x04, x05) _ hs0.out (mstK.rd_later HR0.out (HB_4.out.trans (CA_4.out.mono HB_4.out.size)))).mono ?_
    rintro e y5 ⟨us, he, hc, hb⟩
    obtain ⟨cax00, cpx00, rfl, _⟩ := mst_form (mstK.cap_rd hc)
    obtain rfl : e = .returned (.agg #[.slice cax00 x00.length cpx00, .int .i64 x01, .int .i64 x02, .int .i64 x03, .bool x04, .bool x05]) := he
    have CA_5 := Lib.hid (CA_4.out.trans (hb.mono CA_4.out.size))
    have X0_5 := Lib.hid (mstK.cap_top hc)
    clear CA_4
    clear hb hc
    have ab := (Below.refl y5.heap.size y5).alloc (Nat.le_refl _) (Obj.cells #[.slice cax00 x00.length cpx00, .int .i64 x01, .int .i64 x02, .int .i64 x03, .bool x04, .bool x05] 26)
    have Z6 := Lib.hid ab.size
    have CA_6 := Lib.hid (CA_5.out.trans (ab.mono CA_5.out.size))
    have X0_6 := Lib.hid (mstK.cap_later X0_5.out ab)
    have BX0_6 := Lib.hid (Bx.new 26 #[.slice cax00 x00.length cpx00, .int .i64 x01, .int .i64 x02, .int .i64 x03, .bool x04, .bool x05] y5)
    clear CA_5 X0_5
    clear ab
    go_wp2_with fail
    generalize y5.alloc (Obj.cells #[.slice cax00 x00.length cpx00, .int .i64 x01, .int .i64 x02, .int .i64 x03, .bool x04, .bool x05] 26) = y6 at CA_6 X0_6 BX0_6 Z6 ⊢
    have ZG := Lib.hid CA_6.out.size
    refine (implEnd [.slice cax00 x00.length cpx00, .int .i64 x01, .int .i64 x02, .int .i64 x03, .bool x04, .bool x05] x00 x01 x02 x03 x04 x05 hs0.out _ ((mstK.cap_rd X0_6.out))).mono ?_
    rw [HD.out]
    rintro e y7 ⟨us, he, hc, hb⟩
    obtain ⟨gaz0, gpz0, rfl, _⟩ := mst_form (mstK.cap_rd hc)
    obtain rfl : e = .returned (.tuple #[.agg #[.slice gaz0 z0.length gpz0, .int .i64 z1, .int .i64 z2, .int .i64 z3, .bool z4, .bool z5], .bool N0]) := he
    have ZXG := Lib.hid (Nat.le_trans Z6.out hb.size)
    have CA_7 := Lib.hid (CA_6.out.trans (hb.mono CA_6.out.size))
    have X0_7 := Lib.hid (mstK.cap_later X0_6.out hb)
    have BX0_7 := Lib.hid (BX0_6.out.later hb)
    have G_7 := Lib.hid (mstK.cap_top hc)
    clear CA_6 X0_6 BX0_6
    clear hb hc
    have ab := (Below.refl y7.heap.size y7).alloc (Nat.le_refl _) (Obj.cells #[.slice gaz0 z0.length gpz0, .int .i64 z1, .int .i64 z2, .int .i64 z3, .bool z4, .bool z5] 26)
    have Z8 := Lib.hid ab.size
    have CA_8 := Lib.hid (CA_7.out.trans (ab.mono CA_7.out.size))
    have X0_8 := Lib.hid (mstK.cap_later X0_7.out ab)
    have BX0_8 := Lib.hid (BX0_7.out.later ab)
    have G_8 := Lib.hid (mstK.cap_later G_7.out ab)
    have BG_8 := Lib.hid (Bx.new 26 #[.slice gaz0 z0.length gpz0, .int .i64 z1, .int .i64 z2, .int .i64 z3, .bool z4, .bool z5] y7)
    clear CA_7 X0_7 BX0_7 G_7
    clear ab
    have gBW_0 := (BW_4.out.later CA_8.out).cell 0 (.slice waz0 z0.length wpz0) rfl
    have gBW_1 := (BW_4.out.later CA_8.out).cell 1 (.int .i64 z1) rfl
    have gBW_2 := (BW_4.out.later CA_8.out).cell 2 (.int .i64 z2) rfl
    have gBW_3 := (BW_4.out.later CA_8.out).cell 3 (.int .i64 z3) rfl
    have gBW_4 := (BW_4.out.later CA_8.out).cell 4 (.bool z4) rfl
    have gBW_5 := (BW_4.out.later CA_8.out).cell 5 (.bool z5) rfl
    have gBG_0 := BG_8.out.cell 0 (.slice gaz0 z0.length gpz0) rfl
    have gBG_1 := BG_8.out.cell 1 (.int .i64 z1) rfl
    have gBG_2 := BG_8.out.cell 2 (.int .i64 z2) rfl
    have gBG_3 := BG_8.out.cell 3 (.int .i64 z3) rfl
    have gBG_4 := BG_8.out.cell 4 (.bool z4) rfl
    have gBG_5 := BG_8.out.cell 5 (.bool z5) rfl
    go_wp2_with fail
    clear gBW_0 gBW_1 gBW_2 gBW_3 gBW_4 gBW_5 gBG_0 gBG_1 gBG_2 gBG_3 gBG_4 gBG_5
    generalize y7.alloc (Obj.cells #[.slice gaz0 z0.length gpz0, .int .i64 z1, .int .i64 z2, .int .i64 z3, .bool z4, .bool z5] 26) = y8 at CA_8 X0_8 BX0_8 G_8 BG_8 Z8 ⊢
    refine (eqMst [.slice gaz0 z0.length gpz0, .int .i64 z1, .int .i64 z2, .int .i64 z3, .bool z4, .bool z5] [.slice waz0 z0.length wpz0, .int .i64 z1, .int .i64 z2, .int .i64 z3, .bool z4, .bool z5] (z0, z1, z2, z3, z4, z5) _ hz.out (mstK.cap_rd G_8.out) (mstK.rd_later RW_4.out CA_8.out)).mono ?_
    rintro e y9 ⟨rfl, hb⟩
    have CA_9 := Lib.hid (CA_8.out.trans (hb.mono CA_8.out.size))
    have X0_9 := Lib.hid (mstK.cap_later X0_8.out hb)
    have BX0_9 := Lib.hid (BX0_8.out.later hb)
    have G_9 := Lib.hid (mstK.cap_later G_8.out hb)
    have BG_9 := Lib.hid (BG_8.out.later hb)
    clear CA_8 X0_8 BX0_8 G_8 BG_8
    clear hb
    have gBX0_0 := BX0_9.out.cell 0 (.slice cax00 x00.length cpx00) rfl
    have gBX0_1 := BX0_9.out.cell 1 (.int .i64 x01) rfl
    have gBX0_2 := BX0_9.out.cell 2 (.int .i64 x02) rfl
    have gBX0_3 := BX0_9.out.cell 3 (.int .i64 x03) rfl
    have gBX0_4 := BX0_9.out.cell 4 (.bool x04) rfl
    have gBX0_5 := BX0_9.out.cell 5 (.bool x05) rfl
    have gA0_0 := (A0_4.out.later CA_9.out).cell 0 (.slice ax00 x00.length px00) rfl
    have gA0_1 := (A0_4.out.later CA_9.out).cell 1 (.int .i64 x01) rfl
    have gA0_2 := (A0_4.out.later CA_9.out).cell 2 (.int .i64 x02) rfl
    have gA0_3 := (A0_4.out.later CA_9.out).cell 3 (.int .i64 x03) rfl
    have gA0_4 := (A0_4.out.later CA_9.out).cell 4 (.bool x04) rfl
    have gA0_5 := (A0_4.out.later CA_9.out).cell 5 (.bool x05) rfl
    have ltX := BX0_9.out.lt
    have ltA := (A0_4.out.later CA_9.out).lt
    go_wp2_with fail
    have HrA := Lib.hid (mstK.rd_later HR0.out (HB_4.out.trans (CA_9.out.mono HB_4.out.size)))
    have HrX := Lib.hid ((mstK.cap_rd X0_9.out))
    go_region_held3 (fun w' => w'.cell? ⟨y5.heap.size, 0, none⟩ = some (.slice cax00 x00.length cpx00) ∧ w'.cell? ⟨y5.heap.size, 1, none⟩ = some (.int .i64 x01) ∧ w'.cell? ⟨y5.heap.size, 2, none⟩ = some (.int .i64 x02) ∧ w'.cell? ⟨y5.heap.size, 3, none⟩ = some (.int .i64 x03) ∧ w'.cell? ⟨y5.heap.size, 4, none⟩ = some (.bool x04) ∧ w'.cell? ⟨y5.heap.size, 5, none⟩ = some (.bool x05) ∧ w'.cell? ⟨w.heap.size, 0, none⟩ = some (.slice ax00 x00.length px00) ∧ w'.cell? ⟨w.heap.size, 1, none⟩ = some (.int .i64 x01) ∧ w'.cell? ⟨w.heap.size, 2, none⟩ = some (.int .i64 x02) ∧ w'.cell? ⟨w.heap.size, 3, none⟩ = some (.int .i64 x03) ∧ w'.cell? ⟨w.heap.size, 4, none⟩ = some (.bool x04) ∧ w'.cell? ⟨w.heap.size, 5, none⟩ = some (.bool x05)) (go_keep) (first
      | (go_at_call 41; refine (toMst [.slice ax00 x00.length px00, .int .i64 x01, .int .i64 x02, .int .i64 x03, .bool x04, .bool x05] (x00, x01, x02, x03, x04, x05) _ hs0.out (mstK.rd_drew HrA.out)).mono ?_; rintro e y10 ⟨us, he, hc, hb1⟩; obtain ⟨eax00, epx00, rfl, _⟩ := mst_form (mstK.cap_rd hc); obtain rfl : e = .returned (.agg #[.slice eax00 x00.length epx00, .int .i64 x01, .int .i64 x02, .int .i64 x03, .bool x04, .bool x05]) := he; have hk : ∀ i, y10.cell? ⟨y5.heap.size, i, none⟩ = y9.cell? ⟨y5.heap.size, i, none⟩ := fun i => hb1.cell (p := ⟨y5.heap.size, i, none⟩) (ltX); have hk' : ∀ i, y10.cell? ⟨w.heap.size, i, none⟩ = y9.cell? ⟨w.heap.size, i, none⟩ := fun i => hb1.cell (p := ⟨w.heap.size, i, none⟩) (ltA))
      | (go_at_call 44; refine (eqMst [.slice cax00 x00.length cpx00, .int .i64 x01, .int .i64 x02, .int .i64 x03, .bool x04, .bool x05] [.slice eax00 x00.length epx00, .int .i64 x01, .int .i64 x02, .int .i64 x03, .bool x04, .bool x05] (x00, x01, x02, x03, x04, x05) _ hs0.out (mstK.rd_later (mstK.rd_drew HrX.out) hb1) (mstK.cap_rd hc)).mono ?_; rintro e y11 ⟨rfl, hb2⟩; have hk2 : ∀ i, y11.cell? ⟨y5.heap.size, i, none⟩ = y10.cell? ⟨y5.heap.size, i, none⟩ := fun i => hb2.cell (p := ⟨y5.heap.size, i, none⟩) (Nat.lt_of_lt_of_le ltX hb1.size); have hk2' : ∀ i, y11.cell? ⟨w.heap.size, i, none⟩ = y10.cell? ⟨w.heap.size, i, none⟩ := fun i => hb2.cell (p := ⟨w.heap.size, i, none⟩) (Nat.lt_of_lt_of_le ltA hb1.size)))
    have hb := ((Below.refl y9.heap.size y9).drew.trans hb1).trans (hb2.mono hb1.size)
    clear hk hk' hk2 hk2' ltX ltA HrA HrX gBX0_0 gBX0_1 gBX0_2 gBX0_3 gBX0_4 gBX0_5 gA0_0 gA0_1 gA0_2 gA0_3 gA0_4 gA0_5
    have CA_10 := CA_9
    have X0_10 := X0_9
    have BX0_10 := BX0_9
    have G_10 := G_9
    have BG_10 := BG_9
    clear CA_9 X0_9 BX0_9 G_9 BG_9
    have CA_11 := Lib.hid (CA_10.out.trans (hb.mono CA_10.out.size))
    have X0_11 := Lib.hid (mstK.cap_later X0_10.out hb)
    have BX0_11 := Lib.hid (BX0_10.out.later hb)
    have G_11 := Lib.hid (mstK.cap_later G_10.out hb)
    have BG_11 := Lib.hid (BG_10.out.later hb)
    clear CA_10 X0_10 BX0_10 G_10 BG_10
    clear hb hb1 hb2 hc
    have gBX0_0 := BX0_11.out.cell 0 (.slice cax00 x00.length cpx00) rfl
    have gBX0_1 := BX0_11.out.cell 1 (.int .i64 x01) rfl
    have gBX0_2 := BX0_11.out.cell 2 (.int .i64 x02) rfl
    have gBX0_3 := BX0_11.out.cell 3 (.int .i64 x03) rfl
    have gBX0_4 := BX0_11.out.cell 4 (.bool x04) rfl
    have gBX0_5 := BX0_11.out.cell 5 (.bool x05) rfl
    go_wp2_with fail
    clear gBX0_0 gBX0_1 gBX0_2 gBX0_3 gBX0_4 gBX0_5
    refine (markMst _ [.slice cax00 x00.length cpx00, .int .i64 x01, .int .i64 x02, .int .i64 x03, .bool x04, .bool x05] (x00, x01, x02, x03, x04, x05) 1 _ hs0.out (by omega) hkl0.out X0_11.out).mono ?_
    rintro e y12 ⟨rfl, hc, ht⟩
    rw [Hk0.out]
    have CA_12 := Lib.hid (CA_11.out.trans (ht.below CA_11.out.size (fun k hk => hk.1)))
    have G_12 := Lib.hid (mstK.cap_turn G_11.out ht (fun k _ hg hx => by have h1 := hg.1; have h2 := hx.2; have h3 := Z6.out; omega))
    have BG_12 : Hid (Bx 26 y7.heap.size #[.slice gaz0 z0.length gpz0, .int .i64 z1, .int .i64 z2, .int .i64 z3, .bool z4, .bool z5] y12) := Lib.hid ((ht.block _ BG_11.out.lt (fun hx => by have h2 := hx.2; have h3 := ZXG.out; omega)).trans BG_11.out)
    clear hc ht CA_11 X0_11 BX0_11 G_11 BG_11
    have gBW_0 := (BW_4.out.later CA_12.out).cell 0 (.slice waz0 z0.length wpz0) rfl
    have gBW_1 := (BW_4.out.later CA_12.out).cell 1 (.int .i64 z1) rfl
    have gBW_2 := (BW_4.out.later CA_12.out).cell 2 (.int .i64 z2) rfl
    have gBW_3 := (BW_4.out.later CA_12.out).cell 3 (.int .i64 z3) rfl
    have gBW_4 := (BW_4.out.later CA_12.out).cell 4 (.bool z4) rfl
    have gBW_5 := (BW_4.out.later CA_12.out).cell 5 (.bool z5) rfl
    have gBG_0 := BG_12.out.cell 0 (.slice gaz0 z0.length gpz0) rfl
    have gBG_1 := BG_12.out.cell 1 (.int .i64 z1) rfl
    have gBG_2 := BG_12.out.cell 2 (.int .i64 z2) rfl
    have gBG_3 := BG_12.out.cell 3 (.int .i64 z3) rfl
    have gBG_4 := BG_12.out.cell 4 (.bool z4) rfl
    have gBG_5 := BG_12.out.cell 5 (.bool z5) rfl
    go_wp2_with fail
    clear gBW_0 gBW_1 gBW_2 gBW_3 gBW_4 gBW_5 gBG_0 gBG_1 gBG_2 gBG_3 gBG_4 gBG_5
    refine (eqMst [.slice gaz0 z0.length gpz0, .int .i64 z1, .int .i64 z2, .int .i64 z3, .bool z4, .bool z5] [.slice waz0 z0.length wpz0, .int .i64 z1, .int .i64 z2, .int .i64 z3, .bool z4, .bool z5] (z0, z1, z2, z3, z4, z5) _ hz.out (mstK.cap_rd G_12.out) (mstK.rd_later RW_4.out CA_12.out)).mono ?_
    rintro e y13 ⟨rfl, hb⟩
    have CA_13 := Lib.hid (CA_12.out.trans (hb.mono CA_12.out.size))
    have G_13 := Lib.hid (mstK.cap_later G_12.out hb)
    have BG_13 := Lib.hid (BG_12.out.later hb)
    clear CA_12 G_12 BG_12
    clear hb
    have gBG_0 := BG_13.out.cell 0 (.slice gaz0 z0.length gpz0) rfl
    have gBG_1 := BG_13.out.cell 1 (.int .i64 z1) rfl
    have gBG_2 := BG_13.out.cell 2 (.int .i64 z2) rfl
    have gBG_3 := BG_13.out.cell 3 (.int .i64 z3) rfl
    have gBG_4 := BG_13.out.cell 4 (.bool z4) rfl
    have gBG_5 := BG_13.out.cell 5 (.bool z5) rfl
    go_wp2_with fail
    clear gBG_0 gBG_1 gBG_2 gBG_3 gBG_4 gBG_5
    refine (markMst _ [.slice gaz0 z0.length gpz0, .int .i64 z1, .int .i64 z2, .int .i64 z3, .bool z4, .bool z5] (z0, z1, z2, z3, z4, z5) 1 _ hz.out (by omega) hQl.out G_13.out).mono ?_
    rintro e y14 ⟨rfl, hc, ht⟩
    rw [HQ.out]
    have CA_14 := Lib.hid (CA_13.out.trans (ht.below CA_13.out.size (fun k hk => Nat.le_trans ZG.out hk.1)))
    have G_14 := Lib.hid (hc)
    have BG_14 : Hid (Bx 26 y7.heap.size #[.slice gaz0 z0.length gpz0, .int .i64 z1, .int .i64 z2, .int .i64 z3, .bool z4, .bool z5] y14) := Lib.hid ((ht.block _ BG_13.out.lt (fun hx => by have h2 := hx.2; omega)).trans BG_13.out)
    clear hc ht CA_13 G_13 BG_13
    have gBG_0 := BG_14.out.cell 0 (.slice gaz0 z0.length gpz0) rfl
    have gBG_1 := BG_14.out.cell 1 (.int .i64 z1) rfl
    have gBG_2 := BG_14.out.cell 2 (.int .i64 z2) rfl
    have gBG_3 := BG_14.out.cell 3 (.int .i64 z3) rfl
    have gBG_4 := BG_14.out.cell 4 (.bool z4) rfl
    have gBG_5 := BG_14.out.cell 5 (.bool z5) rfl
    go_wp2_with fail
    clear gBG_0 gBG_1 gBG_2 gBG_3 gBG_4 gBG_5
    refine (heldMst [.slice gaz0 z0.length gpz0, .int .i64 z1, .int .i64 z2, .int .i64 z3, .bool z4, .bool z5] (z0, z1, z2, z3, z4, z5) 1 _ hz.out (by omega) hQl.out (mstK.cap_rd G_14.out)).mono ?_
    rintro e y15 ⟨rfl, hb⟩
    rw [HQ.out]
    have CA_15 := Lib.hid (CA_14.out.trans (hb.mono CA_14.out.size))
    have G_15 := Lib.hid (mstK.cap_later G_14.out hb)
    have BG_15 := Lib.hid (BG_14.out.later hb)
    clear CA_14 G_14 BG_14
    clear hb
    have gA0_0 := (A0_4.out.later CA_15.out).cell 0 (.slice ax00 x00.length px00) rfl
    have gA0_1 := (A0_4.out.later CA_15.out).cell 1 (.int .i64 x01) rfl
    have gA0_2 := (A0_4.out.later CA_15.out).cell 2 (.int .i64 x02) rfl
    have gA0_3 := (A0_4.out.later CA_15.out).cell 3 (.int .i64 x03) rfl
    have gA0_4 := (A0_4.out.later CA_15.out).cell 4 (.bool x04) rfl
    have gA0_5 := (A0_4.out.later CA_15.out).cell 5 (.bool x05) rfl
    go_wp2_with fail
    clear gA0_0 gA0_1 gA0_2 gA0_3 gA0_4 gA0_5
    refine (toMst [.slice ax00 x00.length px00, .int .i64 x01, .int .i64 x02, .int .i64 x03, .bool x04, .bool x05] (x00, x01, x02, x03, x04, x05) _ hs0.out (mstK.rd_later HR0.out (HB_4.out.trans (CA_15.out.mono HB_4.out.size)))).mono ?_
    rintro e y16 ⟨us, he, hc, hb⟩
    obtain ⟨tax00, tpx00, rfl, _⟩ := mst_form (mstK.cap_rd hc)
    obtain rfl : e = .returned (.agg #[.slice tax00 x00.length tpx00, .int .i64 x01, .int .i64 x02, .int .i64 x03, .bool x04, .bool x05]) := he
    have CA_16 := Lib.hid (CA_15.out.trans (hb.mono CA_15.out.size))
    have G_16 := Lib.hid (mstK.cap_later G_15.out hb)
    have BG_16 := Lib.hid (BG_15.out.later hb)
    have T0_16 := Lib.hid (hc)
    clear CA_15 G_15 BG_15
    clear hb hc
    go_wp2_with fail
    refine (implEnd [.slice tax00 x00.length tpx00, .int .i64 x01, .int .i64 x02, .int .i64 x03, .bool x04, .bool x05] x00 x01 x02 x03 x04 x05 hs0.out _ ((mstK.cap_rd T0_16.out))).mono ?_
    rw [HD.out]
    rintro e y17 ⟨us, he, hc, hb⟩
    obtain ⟨haz0, hpz0, rfl, _⟩ := mst_form (mstK.cap_rd hc)
    obtain rfl : e = .returned (.tuple #[.agg #[.slice haz0 z0.length hpz0, .int .i64 z1, .int .i64 z2, .int .i64 z3, .bool z4, .bool z5], .bool N0]) := he
    have CA_17 := Lib.hid (CA_16.out.trans (hb.mono CA_16.out.size))
    have G_17 := Lib.hid (mstK.cap_later G_16.out hb)
    have BG_17 := Lib.hid (BG_16.out.later hb)
    have RH_17 := Lib.hid (mstK.cap_rd hc)
    clear CA_16 G_16 BG_16 T0_16
    clear hb hc
    have ab := (Below.refl y17.heap.size y17).alloc (Nat.le_refl _) (Obj.cells #[.slice haz0 z0.length hpz0, .int .i64 z1, .int .i64 z2, .int .i64 z3, .bool z4, .bool z5] 26)
    have Z18 := Lib.hid ab.size
    have CA_18 := Lib.hid (CA_17.out.trans (ab.mono CA_17.out.size))
    have G_18 := Lib.hid (mstK.cap_later G_17.out ab)
    have BG_18 := Lib.hid (BG_17.out.later ab)
    have RH_18 := Lib.hid (mstK.rd_later RH_17.out ab)
    have BH_18 := Lib.hid (Bx.new 26 #[.slice haz0 z0.length hpz0, .int .i64 z1, .int .i64 z2, .int .i64 z3, .bool z4, .bool z5] y17)
    clear CA_17 G_17 BG_17 RH_17
    clear ab
    have gBW_0 := (BW_4.out.later CA_18.out).cell 0 (.slice waz0 z0.length wpz0) rfl
    have gBW_1 := (BW_4.out.later CA_18.out).cell 1 (.int .i64 z1) rfl
    have gBW_2 := (BW_4.out.later CA_18.out).cell 2 (.int .i64 z2) rfl
    have gBW_3 := (BW_4.out.later CA_18.out).cell 3 (.int .i64 z3) rfl
    have gBW_4 := (BW_4.out.later CA_18.out).cell 4 (.bool z4) rfl
    have gBW_5 := (BW_4.out.later CA_18.out).cell 5 (.bool z5) rfl
    have gBH_0 := BH_18.out.cell 0 (.slice haz0 z0.length hpz0) rfl
    have gBH_1 := BH_18.out.cell 1 (.int .i64 z1) rfl
    have gBH_2 := BH_18.out.cell 2 (.int .i64 z2) rfl
    have gBH_3 := BH_18.out.cell 3 (.int .i64 z3) rfl
    have gBH_4 := BH_18.out.cell 4 (.bool z4) rfl
    have gBH_5 := BH_18.out.cell 5 (.bool z5) rfl
    go_wp2_with fail
    clear gBW_0 gBW_1 gBW_2 gBW_3 gBW_4 gBW_5 gBH_0 gBH_1 gBH_2 gBH_3 gBH_4 gBH_5
    generalize y17.alloc (Obj.cells #[.slice haz0 z0.length hpz0, .int .i64 z1, .int .i64 z2, .int .i64 z3, .bool z4, .bool z5] 26) = y18 at CA_18 G_18 BG_18 RH_18 BH_18 Z18 ⊢
    refine (eqMst [.slice haz0 z0.length hpz0, .int .i64 z1, .int .i64 z2, .int .i64 z3, .bool z4, .bool z5] [.slice waz0 z0.length wpz0, .int .i64 z1, .int .i64 z2, .int .i64 z3, .bool z4, .bool z5] (z0, z1, z2, z3, z4, z5) _ hz.out RH_18.out (mstK.rd_later RW_4.out CA_18.out)).mono ?_
    rintro e y19 ⟨rfl, hb⟩
    have CA_19 := Lib.hid (CA_18.out.trans (hb.mono CA_18.out.size))
    have G_19 := Lib.hid (mstK.cap_later G_18.out hb)
    have BG_19 := Lib.hid (BG_18.out.later hb)
    have RH_19 := Lib.hid (mstK.rd_later RH_18.out hb)
    have BH_19 := Lib.hid (BH_18.out.later hb)
    clear CA_18 G_18 BG_18 RH_18 BH_18
    clear hb
    have gBG_0 := BG_19.out.cell 0 (.slice gaz0 z0.length gpz0) rfl
    have gBG_1 := BG_19.out.cell 1 (.int .i64 z1) rfl
    have gBG_2 := BG_19.out.cell 2 (.int .i64 z2) rfl
    have gBG_3 := BG_19.out.cell 3 (.int .i64 z3) rfl
    have gBG_4 := BG_19.out.cell 4 (.bool z4) rfl
    have gBG_5 := BG_19.out.cell 5 (.bool z5) rfl
    go_wp2_with fail
    clear gBG_0 gBG_1 gBG_2 gBG_3 gBG_4 gBG_5
    refine (heldMst [.slice gaz0 z0.length gpz0, .int .i64 z1, .int .i64 z2, .int .i64 z3, .bool z4, .bool z5] (z0, z1, z2, z3, z4, z5) 1 _ hz.out (by omega) hQl.out (mstK.cap_rd G_19.out)).mono ?_
    rintro e y20 ⟨rfl, hb⟩
    rw [HQ.out]
    have CA_20 := Lib.hid (CA_19.out.trans (hb.mono CA_19.out.size))
    have G_20 := Lib.hid (mstK.cap_later G_19.out hb)
    have BG_20 := Lib.hid (BG_19.out.later hb)
    have RH_20 := Lib.hid (mstK.rd_later RH_19.out hb)
    have BH_20 := Lib.hid (BH_19.out.later hb)
    clear CA_19 G_19 BG_19 RH_19 BH_19
    clear hb
    go_wp2
    go_ret
    exact ⟨rfl, (HB_4.out.trans (CA_20.out.mono HB_4.out.size))⟩

set_option maxRecDepth 100000 in
set_option maxRecDepth 100000 in
theorem lifted (os : Os) (started : os.Started) (H : Type) (enc : TypeId × Value → H) :
    ReturnsInHanded {} Try.checked os 12 .any (Rows.fnExactMstEndSpec.pre6 enc Try.prog Try.f12 Rows.fnExactMstEndRow.domain false) (Rows.fnExactMstEndSpec.post enc Try.prog Try.f12 false true false false) := by
  refine returnsInHanded_of_change (C := Try.checked) own started (by kernel_rfl) Try.func12
    (ChangeSpec.witness6 (enc := enc) (C := Try.checked) false ⟨#[], #[.agg #[.slice none 0 0, .int .i64 0, .int .i64 0, .int .i64 0, .bool false, .bool false]], []⟩ 8 (by kernel_rfl) (by kernel_rfl) (by kernel_rfl) (by kernel_rfl)) ?_
  intro W base args ds gs before hval0 hW hcnd _
  have hval : ∀ (j : Nat) t v, Try.f12.params[j]? = some t → args[j]? = some v → Value.okWide Try.prog W .any base t v := hval0
  have hW' := hW
  obtain ⟨p, q, hA0, hV, rfl, hfz, hnd⟩ := hW
  have hA : DataW.TrodAll enc Try.prog W 0 (fun _ => true) true Try.f12.params.toList args.toList ds p := hA0
  rw [Try.params12] at hA hval
  obtain ⟨v0, vs0, d0, ds0, p0, q0, hargs, rfl, rfl, h0, r0⟩ := trodAll_cons hA
  obtain ⟨rfl, rfl, rfl⟩ := trodAll_nil r0
  obtain rfl : args = #[v0] := by cases args; simp_all
  obtain ⟨rfl, rfl⟩ := trodVars_none hV
  have k0 := h0
  have lt0 : ∀ x ∈ p0, x.block < W.heap.size := by obtain ⟨m, hm⟩ := k0; exact DataW.trod_lt m _ _ _ hm
  obtain ⟨u0, x0, rfl, R0⟩ := KD.open_mst (hval 0 56 v0 rfl rfl) h0
  clear hA0 hval0
  refine (walk u0 x0 W R0).mono fun e W' ⟨he, bel⟩ => ?_
  subst he
  exact ⟨_, rfl, _, _, _, [], _, [], hW', trodAll_mk1 (shut_bool Try.underlying4 _), (trodAll_cons_mk (Below.trod laidOut (by kernel_rfl) (of_decide_eq_true (by kernel_rfl)) k0 bel lt0) trodAll_mk0), rfl, bel.frame _, fun h => by cases h⟩

theorem over : Rows.fnExactMstEndRow.holds Try.pinned (OpenSpec.ofChange Rows.fnExactMstEndSpec) :=
  OpenClaim.holds_of_wide 12 Try.f12 rfl rfl rfl rfl rfl rfl rfl ⟨rfl, rfl, rfl, rfl, rfl⟩ rfl rfl rfl rfl rfl (by kernel_rfl) Try.func12 (by kernel_rfl)
    (of_decide_eq_true (by kernel_rfl)) (by unfold Func.isWrapper; first | (rw [if_pos (by decide +kernel)]; kernel_rfl) | (rw [if_neg (by decide +kernel)]; exact ⟨rfl, rfl⟩))
    (fun os started H enc _ => lifted os started H enc)

theorem proved : Rows.FnExactMstEndSaid := over
#print axioms proved
end Go.Proofs.Ytijilhaoknpeeaa.fnExactMstEnd
