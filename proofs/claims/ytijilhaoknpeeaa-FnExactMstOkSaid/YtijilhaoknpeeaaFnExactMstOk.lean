/-
  For every master and every configuration the program's MstOk answers as its model does, and leaves them as they were. No condition.
-/
import Derived.Test.YtijilhaoknpeeaaRows
import Derived.WalkKit
import Derived.ProofKit
import Derived.OpenShut
import Derived.ShutString
import Derived.ChangeOld
import Derived.Below
import Derived.Test.YtijilhaoknpeeaaMstI
import Derived.Test.YtijilhaoknpeeaaMst3
import Derived.Test.YtijilhaoknpeeaaOConf
import Derived.Test.YtijilhaoknpeeaaOMst
import Derived.Deep.RegionHeld3
import Derived.Deep.Cut
import Derived.Deep.CutRange
namespace Go.Proofs.Ytijilhaoknpeeaa.fnExactMstOk
open Go.ChangeShapes Go.WideShapes Go.ChangeAt Go.RowKit
open Go.ChangeMaps (open_string shut_string)
set_option linter.unusedVariables false

theorem own : ownKnob Try.prog.godebug = none := by kernel_rfl
theorem laidOut : laidOutB Try.prog = true := by kernel_rfl
open KD Rows3 GR Num
set_option maxHeartbeats 8000000 in
set_option maxRecDepth 100000 in
theorem walk (u0 : List Value) (x0 : List (Bool × Int × Int × Int × Bool × List Int) × Int × Int × Int × Bool × Bool) (u1 : List Value) (x1 : List (Int × Bool × Int × Int) × Int × Int × Int × Int × Int) (w : World) (R0 : KD.mstK.rd u0 x0 w) (R1 : KD.confK.rd u1 x1 w) :
    Calls Try.prog 6 #[.agg u0.toArray, .agg u1.toArray] w fun e w' => e = .returned (.bool true) ∧ Below w.heap.size w w' := by
  obtain ⟨x00, x01, x02, x03, x04, x05⟩ := x0
  have HR0 := Lib.hid R0
  obtain ⟨ax00, px00, rfl, _⟩ := mst_form (id R0)
  clear R0
  obtain ⟨x10, x11, x12, x13, x14, x15⟩ := x1
  have HR1 := Lib.hid R1
  obtain ⟨ax10, px10, rfl, _⟩ := conf_form (id R1)
  clear R1
  have hsz : ∀ (w : World) o, (w.alloc o).heap.size = w.heap.size + 1 := fun w o => by simp
  have A0 := (Bx.new 56 #[.slice ax00 x00.length px00, .int .i64 x01, .int .i64 x02, .int .i64 x03, .bool x04, .bool x05] w).alloc (Obj.cells #[.slice ax10 x10.length px10, .int .i64 x11, .int .i64 x12, .int .i64 x13, .int .i64 x14, .int .i64 x15] 59)
  have A0_0 := Lib.hid A0
  clear A0
  have A1 := Bx.new 59 #[.slice ax10 x10.length px10, .int .i64 x11, .int .i64 x12, .int .i64 x13, .int .i64 x14, .int .i64 x15] (w.alloc (Obj.cells #[.slice ax00 x00.length px00, .int .i64 x01, .int .i64 x02, .int .i64 x03, .bool x04, .bool x05] 56))
  rw [hsz] at A1
  have A1_0 := Lib.hid A1
  clear A1
  have HB_0 := Lib.hid (((Below.refl w.heap.size w).alloc (Nat.le_refl _) (Obj.cells #[.slice ax00 x00.length px00, .int .i64 x01, .int .i64 x02, .int .i64 x03, .bool x04, .bool x05] 56)).alloc (by simp) (Obj.cells #[.slice ax10 x10.length px10, .int .i64 x11, .int .i64 x12, .int .i64 x13, .int .i64 x14, .int .i64 x15] 59))
  clear hsz
  show Calls _ _ #[.agg #[.slice ax00 x00.length px00, .int .i64 x01, .int .i64 x02, .int .i64 x03, .bool x04, .bool x05], .agg #[.slice ax10 x10.length px10, .int .i64 x11, .int .i64 x12, .int .i64 x13, .int .i64 x14, .int .i64 x15]] w _
  obtain ⟨M0, hM0⟩ : ∃ M, szW 1048576 (mstK.sz (x00, x01, x02, x03, x04, x05)) = M := ⟨_, rfl⟩
  have hb0 := szW_bd 1048576 (mstK.sz (x00, x01, x02, x03, x04, x05)) (by omega)
  rw [hM0] at hb0
  obtain ⟨hb0a, hb0b⟩ := hb0
  have HM0 := Lib.hid hM0
  by_cases c0 : M0 < 0
  · clear hM0
    go_enter Try.func6, Try.ntmps6
    go_wp2_with fail
    generalize (w.alloc (Obj.cells #[.slice ax00 x00.length px00, .int .i64 x01, .int .i64 x02, .int .i64 x03, .bool x04, .bool x05] 56)).alloc (Obj.cells #[.slice ax10 x10.length px10, .int .i64 x11, .int .i64 x12, .int .i64 x13, .int .i64 x14, .int .i64 x15] 59) = y0 at A0_0 A1_0 HB_0 ⊢
    refine (szMst [.slice ax00 x00.length px00, .int .i64 x01, .int .i64 x02, .int .i64 x03, .bool x04, .bool x05] (x00, x01, x02, x03, x04, x05) 1048576 _ (mstK.rd_later HR0.out HB_0.out) (by omega) (by omega)).mono ?_
    rintro e y1 ⟨rfl, hb⟩
    rw [HM0.out]
    have A0_1 := Lib.hid (A0_0.out.later hb)
    have A1_1 := Lib.hid (A1_0.out.later hb)
    have HB_1 := Lib.hid (HB_0.out.trans (hb.mono HB_0.out.size))
    clear A0_0 A1_0 HB_0
    clear hb
    have gA0_0 := A0_1.out.cell 0 (.slice ax00 x00.length px00) rfl
    have gA0_1 := A0_1.out.cell 1 (.int .i64 x01) rfl
    have gA0_2 := A0_1.out.cell 2 (.int .i64 x02) rfl
    have gA0_3 := A0_1.out.cell 3 (.int .i64 x03) rfl
    have gA0_4 := A0_1.out.cell 4 (.bool x04) rfl
    have gA0_5 := A0_1.out.cell 5 (.bool x05) rfl
    have gA1_0 := A1_1.out.cell 0 (.slice ax10 x10.length px10) rfl
    have gA1_1 := A1_1.out.cell 1 (.int .i64 x11) rfl
    have gA1_2 := A1_1.out.cell 2 (.int .i64 x12) rfl
    have gA1_3 := A1_1.out.cell 3 (.int .i64 x13) rfl
    have gA1_4 := A1_1.out.cell 4 (.int .i64 x14) rfl
    have gA1_5 := A1_1.out.cell 5 (.int .i64 x15) rfl
    go_wp2
    go_ret
    exact ⟨rfl, HB_1.out⟩
  · have hft0 := szW_fit (show ¬ szW 1048576 (mstK.sz (x00, x01, x02, x03, x04, x05)) < 0 by rw [hM0]; exact c0)
    obtain ⟨M1, hM1⟩ : ∃ M, szW M0 (confK.sz (x10, x11, x12, x13, x14, x15)) = M := ⟨_, rfl⟩
    have hb1 := szW_bd M0 (confK.sz (x10, x11, x12, x13, x14, x15)) (by omega)
    rw [hM1] at hb1
    obtain ⟨hb1a, hb1b⟩ := hb1
    have HM1 := Lib.hid hM1
    by_cases c1 : M1 < 0
    · clear hM0 hM1 hft0
      go_enter Try.func6, Try.ntmps6
      go_wp2_with fail
      generalize (w.alloc (Obj.cells #[.slice ax00 x00.length px00, .int .i64 x01, .int .i64 x02, .int .i64 x03, .bool x04, .bool x05] 56)).alloc (Obj.cells #[.slice ax10 x10.length px10, .int .i64 x11, .int .i64 x12, .int .i64 x13, .int .i64 x14, .int .i64 x15] 59) = y0 at A0_0 A1_0 HB_0 ⊢
      refine (szMst [.slice ax00 x00.length px00, .int .i64 x01, .int .i64 x02, .int .i64 x03, .bool x04, .bool x05] (x00, x01, x02, x03, x04, x05) 1048576 _ (mstK.rd_later HR0.out HB_0.out) (by omega) (by omega)).mono ?_
      rintro e y1 ⟨rfl, hb⟩
      rw [HM0.out]
      have A0_1 := Lib.hid (A0_0.out.later hb)
      have A1_1 := Lib.hid (A1_0.out.later hb)
      have HB_1 := Lib.hid (HB_0.out.trans (hb.mono HB_0.out.size))
      clear A0_0 A1_0 HB_0
      clear hb
      have gA0_0 := A0_1.out.cell 0 (.slice ax00 x00.length px00) rfl
      have gA0_1 := A0_1.out.cell 1 (.int .i64 x01) rfl
      have gA0_2 := A0_1.out.cell 2 (.int .i64 x02) rfl
      have gA0_3 := A0_1.out.cell 3 (.int .i64 x03) rfl
      have gA0_4 := A0_1.out.cell 4 (.bool x04) rfl
      have gA0_5 := A0_1.out.cell 5 (.bool x05) rfl
      have gA1_0 := A1_1.out.cell 0 (.slice ax10 x10.length px10) rfl
      have gA1_1 := A1_1.out.cell 1 (.int .i64 x11) rfl
      have gA1_2 := A1_1.out.cell 2 (.int .i64 x12) rfl
      have gA1_3 := A1_1.out.cell 3 (.int .i64 x13) rfl
      have gA1_4 := A1_1.out.cell 4 (.int .i64 x14) rfl
      have gA1_5 := A1_1.out.cell 5 (.int .i64 x15) rfl
      go_wp2_with fail
      clear gA0_0 gA0_1 gA0_2 gA0_3 gA0_4 gA0_5 gA1_0 gA1_1 gA1_2 gA1_3 gA1_4 gA1_5
      refine (szConf [.slice ax10 x10.length px10, .int .i64 x11, .int .i64 x12, .int .i64 x13, .int .i64 x14, .int .i64 x15] (x10, x11, x12, x13, x14, x15) M0 _ (confK.rd_later HR1.out HB_1.out) (by omega) (by omega)).mono ?_
      rintro e y2 ⟨rfl, hb⟩
      rw [HM1.out]
      have A0_2 := Lib.hid (A0_1.out.later hb)
      have A1_2 := Lib.hid (A1_1.out.later hb)
      have HB_2 := Lib.hid (HB_1.out.trans (hb.mono HB_1.out.size))
      clear A0_1 A1_1 HB_1
      clear hb
      have gA0_0 := A0_2.out.cell 0 (.slice ax00 x00.length px00) rfl
      have gA0_1 := A0_2.out.cell 1 (.int .i64 x01) rfl
      have gA0_2 := A0_2.out.cell 2 (.int .i64 x02) rfl
      have gA0_3 := A0_2.out.cell 3 (.int .i64 x03) rfl
      have gA0_4 := A0_2.out.cell 4 (.bool x04) rfl
      have gA0_5 := A0_2.out.cell 5 (.bool x05) rfl
      have gA1_0 := A1_2.out.cell 0 (.slice ax10 x10.length px10) rfl
      have gA1_1 := A1_2.out.cell 1 (.int .i64 x11) rfl
      have gA1_2 := A1_2.out.cell 2 (.int .i64 x12) rfl
      have gA1_3 := A1_2.out.cell 3 (.int .i64 x13) rfl
      have gA1_4 := A1_2.out.cell 4 (.int .i64 x14) rfl
      have gA1_5 := A1_2.out.cell 5 (.int .i64 x15) rfl
      go_wp2
      go_ret
      exact ⟨rfl, HB_2.out⟩
    · have hft1 := szW_fit (show ¬ szW M0 (confK.sz (x10, x11, x12, x13, x14, x15)) < 0 by rw [hM1]; exact c1)
      have hs0 : Hid (mstK.sz (x00, x01, x02, x03, x04, x05) ≤ 2000000) := Lib.hid (by omega)
      have hs1 : Hid (confK.sz (x10, x11, x12, x13, x14, x15) ≤ 2000000) := Lib.hid (by omega)
      clear hM0 hM1 hft0 hft1
      obtain ⟨D, hD⟩ : ∃ D, okMst x00 x01 x02 x03 x04 x05 (x10, x11, x12, x13, x14, x15) = D := ⟨_, rfl⟩
      have HD := Lib.hid hD
      have nD : (D != D) = false := by simp
      clear hD
      go_enter Try.func6, Try.ntmps6
      go_wp2_with fail
      generalize (w.alloc (Obj.cells #[.slice ax00 x00.length px00, .int .i64 x01, .int .i64 x02, .int .i64 x03, .bool x04, .bool x05] 56)).alloc (Obj.cells #[.slice ax10 x10.length px10, .int .i64 x11, .int .i64 x12, .int .i64 x13, .int .i64 x14, .int .i64 x15] 59) = y0 at A0_0 A1_0 HB_0 ⊢
      refine (szMst [.slice ax00 x00.length px00, .int .i64 x01, .int .i64 x02, .int .i64 x03, .bool x04, .bool x05] (x00, x01, x02, x03, x04, x05) 1048576 _ (mstK.rd_later HR0.out HB_0.out) (by omega) (by omega)).mono ?_
      rintro e y1 ⟨rfl, hb⟩
      rw [HM0.out]
      have A0_1 := Lib.hid (A0_0.out.later hb)
      have A1_1 := Lib.hid (A1_0.out.later hb)
      have HB_1 := Lib.hid (HB_0.out.trans (hb.mono HB_0.out.size))
      clear A0_0 A1_0 HB_0
      clear hb
      have gA0_0 := A0_1.out.cell 0 (.slice ax00 x00.length px00) rfl
      have gA0_1 := A0_1.out.cell 1 (.int .i64 x01) rfl
      have gA0_2 := A0_1.out.cell 2 (.int .i64 x02) rfl
      have gA0_3 := A0_1.out.cell 3 (.int .i64 x03) rfl
      have gA0_4 := A0_1.out.cell 4 (.bool x04) rfl
      have gA0_5 := A0_1.out.cell 5 (.bool x05) rfl
      have gA1_0 := A1_1.out.cell 0 (.slice ax10 x10.length px10) rfl
      have gA1_1 := A1_1.out.cell 1 (.int .i64 x11) rfl
      have gA1_2 := A1_1.out.cell 2 (.int .i64 x12) rfl
      have gA1_3 := A1_1.out.cell 3 (.int .i64 x13) rfl
      have gA1_4 := A1_1.out.cell 4 (.int .i64 x14) rfl
      have gA1_5 := A1_1.out.cell 5 (.int .i64 x15) rfl
      go_wp2_with fail
      clear gA0_0 gA0_1 gA0_2 gA0_3 gA0_4 gA0_5 gA1_0 gA1_1 gA1_2 gA1_3 gA1_4 gA1_5
      refine (szConf [.slice ax10 x10.length px10, .int .i64 x11, .int .i64 x12, .int .i64 x13, .int .i64 x14, .int .i64 x15] (x10, x11, x12, x13, x14, x15) M0 _ (confK.rd_later HR1.out HB_1.out) (by omega) (by omega)).mono ?_
      rintro e y2 ⟨rfl, hb⟩
      rw [HM1.out]
      have A0_2 := Lib.hid (A0_1.out.later hb)
      have A1_2 := Lib.hid (A1_1.out.later hb)
      have HB_2 := Lib.hid (HB_1.out.trans (hb.mono HB_1.out.size))
      clear A0_1 A1_1 HB_1
      clear hb
      have gA0_0 := A0_2.out.cell 0 (.slice ax00 x00.length px00) rfl
      have gA0_1 := A0_2.out.cell 1 (.int .i64 x01) rfl
      have gA0_2 := A0_2.out.cell 2 (.int .i64 x02) rfl
      have gA0_3 := A0_2.out.cell 3 (.int .i64 x03) rfl
      have gA0_4 := A0_2.out.cell 4 (.bool x04) rfl
      have gA0_5 := A0_2.out.cell 5 (.bool x05) rfl
      have gA1_0 := A1_2.out.cell 0 (.slice ax10 x10.length px10) rfl
      have gA1_1 := A1_2.out.cell 1 (.int .i64 x11) rfl
      have gA1_2 := A1_2.out.cell 2 (.int .i64 x12) rfl
      have gA1_3 := A1_2.out.cell 3 (.int .i64 x13) rfl
      have gA1_4 := A1_2.out.cell 4 (.int .i64 x14) rfl
      have gA1_5 := A1_2.out.cell 5 (.int .i64 x15) rfl
      have ltA0 := A0_2.out.lt
      have ltA1 := A1_2.out.lt
      go_wp2_with fail
      have Hr0 := Lib.hid (mstK.rd_later HR0.out HB_2.out)
      have Hr1 := Lib.hid (confK.rd_later HR1.out HB_2.out)
      go_region_held3 (fun w' => w'.cell? ⟨w.heap.size, 0, none⟩ = some (.slice ax00 x00.length px00) ∧ w'.cell? ⟨w.heap.size, 1, none⟩ = some (.int .i64 x01) ∧ w'.cell? ⟨w.heap.size, 2, none⟩ = some (.int .i64 x02) ∧ w'.cell? ⟨w.heap.size, 3, none⟩ = some (.int .i64 x03) ∧ w'.cell? ⟨w.heap.size, 4, none⟩ = some (.bool x04) ∧ w'.cell? ⟨w.heap.size, 5, none⟩ = some (.bool x05) ∧ w'.cell? ⟨w.heap.size + 1, 0, none⟩ = some (.slice ax10 x10.length px10) ∧ w'.cell? ⟨w.heap.size + 1, 1, none⟩ = some (.int .i64 x11) ∧ w'.cell? ⟨w.heap.size + 1, 2, none⟩ = some (.int .i64 x12) ∧ w'.cell? ⟨w.heap.size + 1, 3, none⟩ = some (.int .i64 x13) ∧ w'.cell? ⟨w.heap.size + 1, 4, none⟩ = some (.int .i64 x14) ∧ w'.cell? ⟨w.heap.size + 1, 5, none⟩ = some (.int .i64 x15)) (go_keep) (first
        | (go_at_call 40; refine (specMstOk [.slice ws0ax00 x00.length ws0px00, .int .i64 x01, .int .i64 x02, .int .i64 x03, .bool x04, .bool x05] [.slice ws1ax10 x10.length ws1px10, .int .i64 x11, .int .i64 x12, .int .i64 x13, .int .i64 x14, .int .i64 x15] x00 x01 x02 x03 x04 x05 x10 x11 x12 x13 x14 x15 hs0.out hs1.out _ (mstK.rd_later (mstK.cap_rd hcq0) hbq1) (confK.cap_rd hcq1)).mono ?_; rw [HD.out]; rintro e y5 ⟨rfl, hbq2⟩; have hk2A0 : ∀ i, y5.cell? ⟨w.heap.size, i, none⟩ = y4.cell? ⟨w.heap.size, i, none⟩ := fun i => hbq2.cell (p := ⟨w.heap.size, i, none⟩) (Nat.lt_of_lt_of_le ltA0 (Nat.le_trans hbq0.size hbq1.size)); have hk2A1 : ∀ i, y5.cell? ⟨w.heap.size + 1, i, none⟩ = y4.cell? ⟨w.heap.size + 1, i, none⟩ := fun i => hbq2.cell (p := ⟨w.heap.size + 1, i, none⟩) (Nat.lt_of_lt_of_le ltA1 (Nat.le_trans hbq0.size hbq1.size)))
        | (go_at_call 42; have hz_ := hbq0; clear hz_; refine (toConf [.slice ax10 x10.length px10, .int .i64 x11, .int .i64 x12, .int .i64 x13, .int .i64 x14, .int .i64 x15] (x10, x11, x12, x13, x14, x15) _ hs1.out (confK.rd_later (confK.rd_drew Hr1.out) hbq0)).mono ?_; rintro e y4 ⟨us, he, hcq1, hbq1⟩; obtain ⟨ws1ax10, ws1px10, rfl, _⟩ := conf_form (confK.cap_rd hcq1); obtain rfl : e = .returned (.agg #[.slice ws1ax10 x10.length ws1px10, .int .i64 x11, .int .i64 x12, .int .i64 x13, .int .i64 x14, .int .i64 x15]) := he; have hk1A0 : ∀ i, y4.cell? ⟨w.heap.size, i, none⟩ = y3.cell? ⟨w.heap.size, i, none⟩ := fun i => hbq1.cell (p := ⟨w.heap.size, i, none⟩) (Nat.lt_of_lt_of_le ltA0 (hbq0.size)); have hk1A1 : ∀ i, y4.cell? ⟨w.heap.size + 1, i, none⟩ = y3.cell? ⟨w.heap.size + 1, i, none⟩ := fun i => hbq1.cell (p := ⟨w.heap.size + 1, i, none⟩) (Nat.lt_of_lt_of_le ltA1 (hbq0.size)))
        | (go_at_call 41; refine (toMst [.slice ax00 x00.length px00, .int .i64 x01, .int .i64 x02, .int .i64 x03, .bool x04, .bool x05] (x00, x01, x02, x03, x04, x05) _ hs0.out (mstK.rd_drew Hr0.out)).mono ?_; rintro e y3 ⟨us, he, hcq0, hbq0⟩; obtain ⟨ws0ax00, ws0px00, rfl, _⟩ := mst_form (mstK.cap_rd hcq0); obtain rfl : e = .returned (.agg #[.slice ws0ax00 x00.length ws0px00, .int .i64 x01, .int .i64 x02, .int .i64 x03, .bool x04, .bool x05]) := he; have hk0A0 : ∀ i, y3.cell? ⟨w.heap.size, i, none⟩ = y2.cell? ⟨w.heap.size, i, none⟩ := fun i => hbq0.cell (p := ⟨w.heap.size, i, none⟩) (ltA0); have hk0A1 : ∀ i, y3.cell? ⟨w.heap.size + 1, i, none⟩ = y2.cell? ⟨w.heap.size + 1, i, none⟩ := fun i => hbq0.cell (p := ⟨w.heap.size + 1, i, none⟩) (ltA1)))
      have hb := (Below.refl y2.heap.size y2).drew.trans hbq0
      have hb' := hb.trans (hbq1.mono hb.size)
      clear hb
      have hb := hb'
      clear hb'
      have hb' := hb.trans (hbq2.mono hb.size)
      clear hb
      have hb := hb'
      clear hb'
      clear hk0A0 hk0A1 hk1A0 hk1A1 hk2A0 hk2A1 ltA0 ltA1 Hr0 Hr1 gA0_0 gA0_1 gA0_2 gA0_3 gA0_4 gA0_5 gA1_0 gA1_1 gA1_2 gA1_3 gA1_4 gA1_5
      clear hcq0 hcq1
      have A0_3 := A0_2
      have A1_3 := A1_2
      have HB_3 := HB_2
      clear A0_2 A1_2 HB_2
      have A0_4 := A0_3
      have A1_4 := A1_3
      have HB_4 := HB_3
      clear A0_3 A1_3 HB_3
      have A0_5 := Lib.hid (A0_4.out.later hb)
      have A1_5 := Lib.hid (A1_4.out.later hb)
      have HB_5 := Lib.hid (HB_4.out.trans (hb.mono HB_4.out.size))
      clear A0_4 A1_4 HB_4
      clear hb hbq0 hbq1 hbq2
      have gA0_0 := A0_5.out.cell 0 (.slice ax00 x00.length px00) rfl
      have gA0_1 := A0_5.out.cell 1 (.int .i64 x01) rfl
      have gA0_2 := A0_5.out.cell 2 (.int .i64 x02) rfl
      have gA0_3 := A0_5.out.cell 3 (.int .i64 x03) rfl
      have gA0_4 := A0_5.out.cell 4 (.bool x04) rfl
      have gA0_5 := A0_5.out.cell 5 (.bool x05) rfl
      have gA1_0 := A1_5.out.cell 0 (.slice ax10 x10.length px10) rfl
      have gA1_1 := A1_5.out.cell 1 (.int .i64 x11) rfl
      have gA1_2 := A1_5.out.cell 2 (.int .i64 x12) rfl
      have gA1_3 := A1_5.out.cell 3 (.int .i64 x13) rfl
      have gA1_4 := A1_5.out.cell 4 (.int .i64 x14) rfl
      have gA1_5 := A1_5.out.cell 5 (.int .i64 x15) rfl
      go_wp2_with fail
      clear gA0_0 gA0_1 gA0_2 gA0_3 gA0_4 gA0_5 gA1_0 gA1_1 gA1_2 gA1_3 gA1_4 gA1_5
      refine (toMst [.slice ax00 x00.length px00, .int .i64 x01, .int .i64 x02, .int .i64 x03, .bool x04, .bool x05] (x00, x01, x02, x03, x04, x05) _ hs0.out (mstK.rd_later HR0.out HB_5.out)).mono ?_
      rintro e y6 ⟨us, he, hc, hb⟩
      obtain ⟨cax00, cpx00, rfl, _⟩ := mst_form (mstK.cap_rd hc)
      obtain rfl : e = .returned (.agg #[.slice cax00 x00.length cpx00, .int .i64 x01, .int .i64 x02, .int .i64 x03, .bool x04, .bool x05]) := he
      have A0_6 := Lib.hid (A0_5.out.later hb)
      have A1_6 := Lib.hid (A1_5.out.later hb)
      have HB_6 := Lib.hid (HB_5.out.trans (hb.mono HB_5.out.size))
      have X0_6 := Lib.hid (mstK.cap_rd hc)
      clear A0_5 A1_5 HB_5
      clear hb hc
      have ab := (Below.refl y6.heap.size y6).alloc (Nat.le_refl _) (Obj.cells #[.slice cax00 x00.length cpx00, .int .i64 x01, .int .i64 x02, .int .i64 x03, .bool x04, .bool x05] 26)
      have Z7 := Lib.hid ab.size
      have A0_7 := Lib.hid (A0_6.out.later ab)
      have A1_7 := Lib.hid (A1_6.out.later ab)
      have HB_7 := Lib.hid (HB_6.out.trans (ab.mono HB_6.out.size))
      have X0_7 := Lib.hid (mstK.rd_later X0_6.out ab)
      have BX0_7 := Lib.hid (Bx.new 26 #[.slice cax00 x00.length cpx00, .int .i64 x01, .int .i64 x02, .int .i64 x03, .bool x04, .bool x05] y6)
      clear A0_6 A1_6 HB_6 X0_6
      clear ab
      have gBX0_0 := BX0_7.out.cell 0 (.slice cax00 x00.length cpx00) rfl
      have gBX0_1 := BX0_7.out.cell 1 (.int .i64 x01) rfl
      have gBX0_2 := BX0_7.out.cell 2 (.int .i64 x02) rfl
      have gBX0_3 := BX0_7.out.cell 3 (.int .i64 x03) rfl
      have gBX0_4 := BX0_7.out.cell 4 (.bool x04) rfl
      have gBX0_5 := BX0_7.out.cell 5 (.bool x05) rfl
      have gA0_0 := A0_7.out.cell 0 (.slice ax00 x00.length px00) rfl
      have gA0_1 := A0_7.out.cell 1 (.int .i64 x01) rfl
      have gA0_2 := A0_7.out.cell 2 (.int .i64 x02) rfl
      have gA0_3 := A0_7.out.cell 3 (.int .i64 x03) rfl
      have gA0_4 := A0_7.out.cell 4 (.bool x04) rfl
      have gA0_5 := A0_7.out.cell 5 (.bool x05) rfl
      have gA1_0 := A1_7.out.cell 0 (.slice ax10 x10.length px10) rfl
      have gA1_1 := A1_7.out.cell 1 (.int .i64 x11) rfl
      have gA1_2 := A1_7.out.cell 2 (.int .i64 x12) rfl
      have gA1_3 := A1_7.out.cell 3 (.int .i64 x13) rfl
      have gA1_4 := A1_7.out.cell 4 (.int .i64 x14) rfl
      have gA1_5 := A1_7.out.cell 5 (.int .i64 x15) rfl
      go_wp2_with fail
      clear gBX0_0 gBX0_1 gBX0_2 gBX0_3 gBX0_4 gBX0_5 gA0_0 gA0_1 gA0_2 gA0_3 gA0_4 gA0_5 gA1_0 gA1_1 gA1_2 gA1_3 gA1_4 gA1_5
      generalize y6.alloc (Obj.cells #[.slice cax00 x00.length cpx00, .int .i64 x01, .int .i64 x02, .int .i64 x03, .bool x04, .bool x05] 26) = y7 at A0_7 A1_7 HB_7 X0_7 BX0_7 Z7 ⊢
      refine (toConf [.slice ax10 x10.length px10, .int .i64 x11, .int .i64 x12, .int .i64 x13, .int .i64 x14, .int .i64 x15] (x10, x11, x12, x13, x14, x15) _ hs1.out (confK.rd_later HR1.out HB_7.out)).mono ?_
      rintro e y8 ⟨us, he, hc, hb⟩
      obtain ⟨cax10, cpx10, rfl, _⟩ := conf_form (confK.cap_rd hc)
      obtain rfl : e = .returned (.agg #[.slice cax10 x10.length cpx10, .int .i64 x11, .int .i64 x12, .int .i64 x13, .int .i64 x14, .int .i64 x15]) := he
      have A0_8 := Lib.hid (A0_7.out.later hb)
      have A1_8 := Lib.hid (A1_7.out.later hb)
      have HB_8 := Lib.hid (HB_7.out.trans (hb.mono HB_7.out.size))
      have X0_8 := Lib.hid (mstK.rd_later X0_7.out hb)
      have BX0_8 := Lib.hid (BX0_7.out.later hb)
      have X1_8 := Lib.hid (confK.cap_rd hc)
      clear A0_7 A1_7 HB_7 X0_7 BX0_7
      clear hb hc
      have ab := (Below.refl y8.heap.size y8).alloc (Nat.le_refl _) (Obj.cells #[.slice cax10 x10.length cpx10, .int .i64 x11, .int .i64 x12, .int .i64 x13, .int .i64 x14, .int .i64 x15] 66)
      have Z9 := Lib.hid ab.size
      have A0_9 := Lib.hid (A0_8.out.later ab)
      have A1_9 := Lib.hid (A1_8.out.later ab)
      have HB_9 := Lib.hid (HB_8.out.trans (ab.mono HB_8.out.size))
      have X0_9 := Lib.hid (mstK.rd_later X0_8.out ab)
      have BX0_9 := Lib.hid (BX0_8.out.later ab)
      have X1_9 := Lib.hid (confK.rd_later X1_8.out ab)
      have BX1_9 := Lib.hid (Bx.new 66 #[.slice cax10 x10.length cpx10, .int .i64 x11, .int .i64 x12, .int .i64 x13, .int .i64 x14, .int .i64 x15] y8)
      clear A0_8 A1_8 HB_8 X0_8 BX0_8 X1_8
      clear ab
      have gBX1_0 := BX1_9.out.cell 0 (.slice cax10 x10.length cpx10) rfl
      have gBX1_1 := BX1_9.out.cell 1 (.int .i64 x11) rfl
      have gBX1_2 := BX1_9.out.cell 2 (.int .i64 x12) rfl
      have gBX1_3 := BX1_9.out.cell 3 (.int .i64 x13) rfl
      have gBX1_4 := BX1_9.out.cell 4 (.int .i64 x14) rfl
      have gBX1_5 := BX1_9.out.cell 5 (.int .i64 x15) rfl
      have gA0_0 := A0_9.out.cell 0 (.slice ax00 x00.length px00) rfl
      have gA0_1 := A0_9.out.cell 1 (.int .i64 x01) rfl
      have gA0_2 := A0_9.out.cell 2 (.int .i64 x02) rfl
      have gA0_3 := A0_9.out.cell 3 (.int .i64 x03) rfl
      have gA0_4 := A0_9.out.cell 4 (.bool x04) rfl
      have gA0_5 := A0_9.out.cell 5 (.bool x05) rfl
      have gA1_0 := A1_9.out.cell 0 (.slice ax10 x10.length px10) rfl
      have gA1_1 := A1_9.out.cell 1 (.int .i64 x11) rfl
      have gA1_2 := A1_9.out.cell 2 (.int .i64 x12) rfl
      have gA1_3 := A1_9.out.cell 3 (.int .i64 x13) rfl
      have gA1_4 := A1_9.out.cell 4 (.int .i64 x14) rfl
      have gA1_5 := A1_9.out.cell 5 (.int .i64 x15) rfl
      clear gBX1_0 gBX1_1 gBX1_2 gBX1_3 gBX1_4 gBX1_5 gA0_0 gA0_1 gA0_2 gA0_3 gA0_4 gA0_5 gA1_0 gA1_1 gA1_2 gA1_3 gA1_4 gA1_5
      have gBX0_0 := BX0_9.out.cell 0 (.slice cax00 x00.length cpx00) rfl
      have gBX0_1 := BX0_9.out.cell 1 (.int .i64 x01) rfl
      have gBX0_2 := BX0_9.out.cell 2 (.int .i64 x02) rfl
      have gBX0_3 := BX0_9.out.cell 3 (.int .i64 x03) rfl
      have gBX0_4 := BX0_9.out.cell 4 (.bool x04) rfl
      have gBX0_5 := BX0_9.out.cell 5 (.bool x05) rfl
      have gBX1_0 := BX1_9.out.cell 0 (.slice cax10 x10.length cpx10) rfl
      have gBX1_1 := BX1_9.out.cell 1 (.int .i64 x11) rfl
      have gBX1_2 := BX1_9.out.cell 2 (.int .i64 x12) rfl
      have gBX1_3 := BX1_9.out.cell 3 (.int .i64 x13) rfl
      have gBX1_4 := BX1_9.out.cell 4 (.int .i64 x14) rfl
      have gBX1_5 := BX1_9.out.cell 5 (.int .i64 x15) rfl
      go_wp2_with fail
      clear gBX0_0 gBX0_1 gBX0_2 gBX0_3 gBX0_4 gBX0_5 gBX1_0 gBX1_1 gBX1_2 gBX1_3 gBX1_4 gBX1_5
      generalize y8.alloc (Obj.cells #[.slice cax10 x10.length cpx10, .int .i64 x11, .int .i64 x12, .int .i64 x13, .int .i64 x14, .int .i64 x15] 66) = y9 at A0_9 A1_9 HB_9 X0_9 BX0_9 X1_9 BX1_9 Z9 ⊢
      refine (implMstOk [.slice cax00 x00.length cpx00, .int .i64 x01, .int .i64 x02, .int .i64 x03, .bool x04, .bool x05] [.slice cax10 x10.length cpx10, .int .i64 x11, .int .i64 x12, .int .i64 x13, .int .i64 x14, .int .i64 x15] x00 x01 x02 x03 x04 x05 x10 x11 x12 x13 x14 x15 hs0.out hs1.out _ (X0_9.out) (X1_9.out)).mono ?_
      rw [HD.out]
      rintro e y10 ⟨rfl, hb⟩
      have A0_10 := Lib.hid (A0_9.out.later hb)
      have A1_10 := Lib.hid (A1_9.out.later hb)
      have HB_10 := Lib.hid (HB_9.out.trans (hb.mono HB_9.out.size))
      have X0_10 := Lib.hid (mstK.rd_later X0_9.out hb)
      have BX0_10 := Lib.hid (BX0_9.out.later hb)
      have X1_10 := Lib.hid (confK.rd_later X1_9.out hb)
      have BX1_10 := Lib.hid (BX1_9.out.later hb)
      clear A0_9 A1_9 HB_9 X0_9 BX0_9 X1_9 BX1_9
      clear hb
      have gBX0_0 := BX0_10.out.cell 0 (.slice cax00 x00.length cpx00) rfl
      have gBX0_1 := BX0_10.out.cell 1 (.int .i64 x01) rfl
      have gBX0_2 := BX0_10.out.cell 2 (.int .i64 x02) rfl
      have gBX0_3 := BX0_10.out.cell 3 (.int .i64 x03) rfl
      have gBX0_4 := BX0_10.out.cell 4 (.bool x04) rfl
      have gBX0_5 := BX0_10.out.cell 5 (.bool x05) rfl
      have gA0_0 := A0_10.out.cell 0 (.slice ax00 x00.length px00) rfl
      have gA0_1 := A0_10.out.cell 1 (.int .i64 x01) rfl
      have gA0_2 := A0_10.out.cell 2 (.int .i64 x02) rfl
      have gA0_3 := A0_10.out.cell 3 (.int .i64 x03) rfl
      have gA0_4 := A0_10.out.cell 4 (.bool x04) rfl
      have gA0_5 := A0_10.out.cell 5 (.bool x05) rfl
      have ltX := BX0_10.out.lt
      have ltA := A0_10.out.lt
      go_wp2_with fail
      have HrA := Lib.hid (mstK.rd_later HR0.out HB_10.out)
      have HrX := Lib.hid (X0_10.out)
      go_region_held3 (fun w' => w'.cell? ⟨y6.heap.size, 0, none⟩ = some (.slice cax00 x00.length cpx00) ∧ w'.cell? ⟨y6.heap.size, 1, none⟩ = some (.int .i64 x01) ∧ w'.cell? ⟨y6.heap.size, 2, none⟩ = some (.int .i64 x02) ∧ w'.cell? ⟨y6.heap.size, 3, none⟩ = some (.int .i64 x03) ∧ w'.cell? ⟨y6.heap.size, 4, none⟩ = some (.bool x04) ∧ w'.cell? ⟨y6.heap.size, 5, none⟩ = some (.bool x05) ∧ w'.cell? ⟨w.heap.size, 0, none⟩ = some (.slice ax00 x00.length px00) ∧ w'.cell? ⟨w.heap.size, 1, none⟩ = some (.int .i64 x01) ∧ w'.cell? ⟨w.heap.size, 2, none⟩ = some (.int .i64 x02) ∧ w'.cell? ⟨w.heap.size, 3, none⟩ = some (.int .i64 x03) ∧ w'.cell? ⟨w.heap.size, 4, none⟩ = some (.bool x04) ∧ w'.cell? ⟨w.heap.size, 5, none⟩ = some (.bool x05)) (go_keep) (first
        | (go_at_call 41; refine (toMst [.slice ax00 x00.length px00, .int .i64 x01, .int .i64 x02, .int .i64 x03, .bool x04, .bool x05] (x00, x01, x02, x03, x04, x05) _ hs0.out (mstK.rd_drew HrA.out)).mono ?_; rintro e y11 ⟨us, he, hc, hb1⟩; obtain ⟨eax00, epx00, rfl, _⟩ := mst_form (mstK.cap_rd hc); obtain rfl : e = .returned (.agg #[.slice eax00 x00.length epx00, .int .i64 x01, .int .i64 x02, .int .i64 x03, .bool x04, .bool x05]) := he; have hk : ∀ i, y11.cell? ⟨y6.heap.size, i, none⟩ = y10.cell? ⟨y6.heap.size, i, none⟩ := fun i => hb1.cell (p := ⟨y6.heap.size, i, none⟩) (ltX); have hk' : ∀ i, y11.cell? ⟨w.heap.size, i, none⟩ = y10.cell? ⟨w.heap.size, i, none⟩ := fun i => hb1.cell (p := ⟨w.heap.size, i, none⟩) (ltA))
        | (go_at_call 44; refine (eqMst [.slice cax00 x00.length cpx00, .int .i64 x01, .int .i64 x02, .int .i64 x03, .bool x04, .bool x05] [.slice eax00 x00.length epx00, .int .i64 x01, .int .i64 x02, .int .i64 x03, .bool x04, .bool x05] (x00, x01, x02, x03, x04, x05) _ hs0.out (mstK.rd_later (mstK.rd_drew HrX.out) hb1) (mstK.cap_rd hc)).mono ?_; rintro e y12 ⟨rfl, hb2⟩; have hk2 : ∀ i, y12.cell? ⟨y6.heap.size, i, none⟩ = y11.cell? ⟨y6.heap.size, i, none⟩ := fun i => hb2.cell (p := ⟨y6.heap.size, i, none⟩) (Nat.lt_of_lt_of_le ltX hb1.size); have hk2' : ∀ i, y12.cell? ⟨w.heap.size, i, none⟩ = y11.cell? ⟨w.heap.size, i, none⟩ := fun i => hb2.cell (p := ⟨w.heap.size, i, none⟩) (Nat.lt_of_lt_of_le ltA hb1.size)))
      have hb := ((Below.refl y10.heap.size y10).drew.trans hb1).trans (hb2.mono hb1.size)
      clear hk hk' hk2 hk2' ltX ltA HrA HrX gBX0_0 gBX0_1 gBX0_2 gBX0_3 gBX0_4 gBX0_5 gA0_0 gA0_1 gA0_2 gA0_3 gA0_4 gA0_5
      have A0_11 := A0_10
      have A1_11 := A1_10
      have HB_11 := HB_10
      have X0_11 := X0_10
      have BX0_11 := BX0_10
      have X1_11 := X1_10
      have BX1_11 := BX1_10
      clear A0_10 A1_10 HB_10 X0_10 BX0_10 X1_10 BX1_10
      have A0_12 := Lib.hid (A0_11.out.later hb)
      have A1_12 := Lib.hid (A1_11.out.later hb)
      have HB_12 := Lib.hid (HB_11.out.trans (hb.mono HB_11.out.size))
      have X0_12 := Lib.hid (mstK.rd_later X0_11.out hb)
      have BX0_12 := Lib.hid (BX0_11.out.later hb)
      have X1_12 := Lib.hid (confK.rd_later X1_11.out hb)
      have BX1_12 := Lib.hid (BX1_11.out.later hb)
      clear A0_11 A1_11 HB_11 X0_11 BX0_11 X1_11 BX1_11
      clear hb hb1 hb2 hc
      have gBX1_0 := BX1_12.out.cell 0 (.slice cax10 x10.length cpx10) rfl
      have gBX1_1 := BX1_12.out.cell 1 (.int .i64 x11) rfl
      have gBX1_2 := BX1_12.out.cell 2 (.int .i64 x12) rfl
      have gBX1_3 := BX1_12.out.cell 3 (.int .i64 x13) rfl
      have gBX1_4 := BX1_12.out.cell 4 (.int .i64 x14) rfl
      have gBX1_5 := BX1_12.out.cell 5 (.int .i64 x15) rfl
      have gA1_0 := A1_12.out.cell 0 (.slice ax10 x10.length px10) rfl
      have gA1_1 := A1_12.out.cell 1 (.int .i64 x11) rfl
      have gA1_2 := A1_12.out.cell 2 (.int .i64 x12) rfl
      have gA1_3 := A1_12.out.cell 3 (.int .i64 x13) rfl
      have gA1_4 := A1_12.out.cell 4 (.int .i64 x14) rfl
      have gA1_5 := A1_12.out.cell 5 (.int .i64 x15) rfl
      have ltX := BX1_12.out.lt
      have ltA := A1_12.out.lt
      go_wp2_with fail
      have HrA := Lib.hid (confK.rd_later HR1.out HB_12.out)
      have HrX := Lib.hid (X1_12.out)
      go_region_held3 (fun w' => w'.cell? ⟨y8.heap.size, 0, none⟩ = some (.slice cax10 x10.length cpx10) ∧ w'.cell? ⟨y8.heap.size, 1, none⟩ = some (.int .i64 x11) ∧ w'.cell? ⟨y8.heap.size, 2, none⟩ = some (.int .i64 x12) ∧ w'.cell? ⟨y8.heap.size, 3, none⟩ = some (.int .i64 x13) ∧ w'.cell? ⟨y8.heap.size, 4, none⟩ = some (.int .i64 x14) ∧ w'.cell? ⟨y8.heap.size, 5, none⟩ = some (.int .i64 x15) ∧ w'.cell? ⟨w.heap.size + 1, 0, none⟩ = some (.slice ax10 x10.length px10) ∧ w'.cell? ⟨w.heap.size + 1, 1, none⟩ = some (.int .i64 x11) ∧ w'.cell? ⟨w.heap.size + 1, 2, none⟩ = some (.int .i64 x12) ∧ w'.cell? ⟨w.heap.size + 1, 3, none⟩ = some (.int .i64 x13) ∧ w'.cell? ⟨w.heap.size + 1, 4, none⟩ = some (.int .i64 x14) ∧ w'.cell? ⟨w.heap.size + 1, 5, none⟩ = some (.int .i64 x15)) (go_keep) (first
        | (go_at_call 42; refine (toConf [.slice ax10 x10.length px10, .int .i64 x11, .int .i64 x12, .int .i64 x13, .int .i64 x14, .int .i64 x15] (x10, x11, x12, x13, x14, x15) _ hs1.out (confK.rd_drew HrA.out)).mono ?_; rintro e y13 ⟨us, he, hc, hb1⟩; obtain ⟨eax10, epx10, rfl, _⟩ := conf_form (confK.cap_rd hc); obtain rfl : e = .returned (.agg #[.slice eax10 x10.length epx10, .int .i64 x11, .int .i64 x12, .int .i64 x13, .int .i64 x14, .int .i64 x15]) := he; have hk : ∀ i, y13.cell? ⟨y8.heap.size, i, none⟩ = y12.cell? ⟨y8.heap.size, i, none⟩ := fun i => hb1.cell (p := ⟨y8.heap.size, i, none⟩) (ltX); have hk' : ∀ i, y13.cell? ⟨w.heap.size + 1, i, none⟩ = y12.cell? ⟨w.heap.size + 1, i, none⟩ := fun i => hb1.cell (p := ⟨w.heap.size + 1, i, none⟩) (ltA))
        | (go_at_call 45; refine (eqConf [.slice cax10 x10.length cpx10, .int .i64 x11, .int .i64 x12, .int .i64 x13, .int .i64 x14, .int .i64 x15] [.slice eax10 x10.length epx10, .int .i64 x11, .int .i64 x12, .int .i64 x13, .int .i64 x14, .int .i64 x15] (x10, x11, x12, x13, x14, x15) _ hs1.out (confK.rd_later (confK.rd_drew HrX.out) hb1) (confK.cap_rd hc)).mono ?_; rintro e y14 ⟨rfl, hb2⟩; have hk2 : ∀ i, y14.cell? ⟨y8.heap.size, i, none⟩ = y13.cell? ⟨y8.heap.size, i, none⟩ := fun i => hb2.cell (p := ⟨y8.heap.size, i, none⟩) (Nat.lt_of_lt_of_le ltX hb1.size); have hk2' : ∀ i, y14.cell? ⟨w.heap.size + 1, i, none⟩ = y13.cell? ⟨w.heap.size + 1, i, none⟩ := fun i => hb2.cell (p := ⟨w.heap.size + 1, i, none⟩) (Nat.lt_of_lt_of_le ltA hb1.size)))
      have hb := ((Below.refl y12.heap.size y12).drew.trans hb1).trans (hb2.mono hb1.size)
      clear hk hk' hk2 hk2' ltX ltA HrA HrX gBX1_0 gBX1_1 gBX1_2 gBX1_3 gBX1_4 gBX1_5 gA1_0 gA1_1 gA1_2 gA1_3 gA1_4 gA1_5
      have A0_13 := A0_12
      have A1_13 := A1_12
      have HB_13 := HB_12
      have X0_13 := X0_12
      have BX0_13 := BX0_12
      have X1_13 := X1_12
      have BX1_13 := BX1_12
      clear A0_12 A1_12 HB_12 X0_12 BX0_12 X1_12 BX1_12
      have A0_14 := Lib.hid (A0_13.out.later hb)
      have A1_14 := Lib.hid (A1_13.out.later hb)
      have HB_14 := Lib.hid (HB_13.out.trans (hb.mono HB_13.out.size))
      have X0_14 := Lib.hid (mstK.rd_later X0_13.out hb)
      have BX0_14 := Lib.hid (BX0_13.out.later hb)
      have X1_14 := Lib.hid (confK.rd_later X1_13.out hb)
      have BX1_14 := Lib.hid (BX1_13.out.later hb)
      clear A0_13 A1_13 HB_13 X0_13 BX0_13 X1_13 BX1_13
      clear hb hb1 hb2 hc
      go_wp2
      go_ret
      exact ⟨rfl, HB_14.out⟩

set_option maxRecDepth 100000 in
set_option maxRecDepth 100000 in
theorem lifted (os : Os) (started : os.Started) (H : Type) (enc : TypeId × Value → H) :
    ReturnsInHanded {} Try.checked os 6 .any (Rows.fnExactMstOkSpec.pre6 enc Try.prog Try.f6 Rows.fnExactMstOkRow.domain false) (Rows.fnExactMstOkSpec.post enc Try.prog Try.f6 false true false false) := by
  refine returnsInHanded_of_change (C := Try.checked) own started (by kernel_rfl) Try.func6
    (ChangeSpec.witness6 (enc := enc) (C := Try.checked) false ⟨#[], #[.agg #[.slice none 0 0, .int .i64 0, .int .i64 0, .int .i64 0, .bool false, .bool false], .agg #[.slice none 0 0, .int .i64 0, .int .i64 0, .int .i64 0, .int .i64 0, .int .i64 0]], []⟩ 8 (by kernel_rfl) (by kernel_rfl) (by kernel_rfl) (by kernel_rfl)) ?_
  intro W base args ds gs before hval0 hW hcnd _
  have hval : ∀ (j : Nat) t v, Try.f6.params[j]? = some t → args[j]? = some v → Value.okWide Try.prog W .any base t v := hval0
  have hW' := hW
  obtain ⟨p, q, hA0, hV, rfl, hfz, hnd⟩ := hW
  have hA : DataW.TrodAll enc Try.prog W 0 (fun _ => true) true Try.f6.params.toList args.toList ds p := hA0
  rw [Try.params6] at hA hval
  obtain ⟨v0, vs0, d0, ds0, p0, q0, hargs, rfl, rfl, h0, r0⟩ := trodAll_cons hA
  obtain ⟨v1, vs1, d1, ds1, p1, q1, rfl, rfl, rfl, h1, r1⟩ := trodAll_cons r0
  obtain ⟨rfl, rfl, rfl⟩ := trodAll_nil r1
  obtain rfl : args = #[v0, v1] := by cases args; simp_all
  obtain ⟨rfl, rfl⟩ := trodVars_none hV
  have k0 := h0
  have lt0 : ∀ x ∈ p0, x.block < W.heap.size := by obtain ⟨m, hm⟩ := k0; exact DataW.trod_lt m _ _ _ hm
  obtain ⟨u0, x0, rfl, R0⟩ := KD.open_mst (hval 0 56 v0 rfl rfl) h0
  have k1 := h1
  have lt1 : ∀ x ∈ p1, x.block < W.heap.size := by obtain ⟨m, hm⟩ := k1; exact DataW.trod_lt m _ _ _ hm
  obtain ⟨u1, x1, rfl, R1⟩ := KD.open_conf (hval 1 59 v1 rfl rfl) h1
  clear hA0 hval0
  refine (walk u0 x0 u1 x1 W R0 R1).mono fun e W' ⟨he, bel⟩ => ?_
  subst he
  exact ⟨_, rfl, _, _, _, [], _, [], hW', trodAll_mk1 (shut_bool Try.underlying4 _), (trodAll_cons_mk (Below.trod laidOut (by kernel_rfl) (of_decide_eq_true (by kernel_rfl)) k0 bel lt0) (trodAll_cons_mk (Below.trod laidOut (by kernel_rfl) (of_decide_eq_true (by kernel_rfl)) k1 bel lt1) trodAll_mk0)), rfl, bel.frame _, fun h => by cases h⟩

theorem over : Rows.fnExactMstOkRow.holds Try.pinned (OpenSpec.ofChange Rows.fnExactMstOkSpec) :=
  OpenClaim.holds_of_wide 6 Try.f6 rfl rfl rfl rfl rfl rfl rfl ⟨rfl, rfl, rfl, rfl, rfl⟩ rfl rfl rfl rfl rfl (by kernel_rfl) Try.func6 (by kernel_rfl)
    (of_decide_eq_true (by kernel_rfl)) (by unfold Func.isWrapper; first | (rw [if_pos (by decide +kernel)]; kernel_rfl) | (rw [if_neg (by decide +kernel)]; exact ⟨rfl, rfl⟩))
    (fun os started H enc _ => lifted os started H enc)

theorem proved : Rows.FnExactMstOkSaid := over
#print axioms proved
end Go.Proofs.Ytijilhaoknpeeaa.fnExactMstOk
