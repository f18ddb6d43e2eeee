/-
  For every master and every request the program's MstPost answers as its model does, leaves both as they were, and what it answers lies in memory of its own. No condition.
-/
import Derived.Test.YtijilhaoknpeeaaRows
import Derived.WalkKit
import Derived.ProofKit
import Derived.OpenShut
import Derived.ShutString
import Derived.ChangeOld
import Derived.Below
import Derived.Test.YtijilhaoknpeeaaMstI8
import Derived.Test.YtijilhaoknpeeaaMstSz
import Derived.Test.YtijilhaoknpeeaaEndM
import Derived.Test.YtijilhaoknpeeaaOReq
import Derived.Test.YtijilhaoknpeeaaOMst
import Derived.Deep.RegionHeld3
import Derived.Deep.Cut
import Derived.Deep.CutRange
namespace Go.Proofs.Ytijilhaoknpeeaa.fnExactMstPost
open Go.ChangeShapes Go.WideShapes Go.ChangeAt Go.RowKit
open Go.ChangeMaps (open_string shut_string)
set_option linter.unusedVariables false

theorem own : ownKnob Try.prog.godebug = none := by kernel_rfl
theorem laidOut : laidOutB Try.prog = true := by kernel_rfl
open KD Rows3 GR Num
set_option maxHeartbeats 8000000 in
set_option maxRecDepth 100000 in
theorem walk (u0 : List Value) (x0 : List (Bool × Int × Int × Int × Bool × List Int) × Int × Int × Int × Bool × Bool) (u1 : List Value) (x1 : Bool × Int × Int × Int × Bool × List Int) (w : World) (R0 : KD.mstK.rd u0 x0 w) (R1 : KD.reqK.rd u1 x1 w) :
    Calls Try.prog 7 #[.agg u0.toArray, .agg u1.toArray] w fun e w' => e = .returned (.bool true) ∧ Below w.heap.size w w' := by
  obtain ⟨x00, x01, x02, x03, x04, x05⟩ := x0
  have HR0 := Lib.hid R0
  obtain ⟨ax00, px00, rfl, _⟩ := mst_form (id R0)
  clear R0
  obtain ⟨x10, x11, x12, x13, x14, x15⟩ := x1
  have HR1 := Lib.hid R1
  obtain ⟨ax15, px15, rfl, _⟩ := req_form (id R1)
  clear R1
  have hsz : ∀ (w : World) o, (w.alloc o).heap.size = w.heap.size + 1 := fun w o => by simp
  have A0 := (Bx.new 56 #[.slice ax00 x00.length px00, .int .i64 x01, .int .i64 x02, .int .i64 x03, .bool x04, .bool x05] w).alloc (Obj.cells #[.bool x10, .int .i64 x11, .int .i64 x12, .int .i64 x13, .bool x14, .slice ax15 x15.length px15] 70)
  have A0_0 := Lib.hid A0
  clear A0
  have A1 := Bx.new 70 #[.bool x10, .int .i64 x11, .int .i64 x12, .int .i64 x13, .bool x14, .slice ax15 x15.length px15] (w.alloc (Obj.cells #[.slice ax00 x00.length px00, .int .i64 x01, .int .i64 x02, .int .i64 x03, .bool x04, .bool x05] 56))
  rw [hsz] at A1
  have A1_0 := Lib.hid A1
  clear A1
  have HB_0 := Lib.hid (((Below.refl w.heap.size w).alloc (Nat.le_refl _) (Obj.cells #[.slice ax00 x00.length px00, .int .i64 x01, .int .i64 x02, .int .i64 x03, .bool x04, .bool x05] 56)).alloc (by simp) (Obj.cells #[.bool x10, .int .i64 x11, .int .i64 x12, .int .i64 x13, .bool x14, .slice ax15 x15.length px15] 70))
  clear hsz
  show Calls _ _ #[.agg #[.slice ax00 x00.length px00, .int .i64 x01, .int .i64 x02, .int .i64 x03, .bool x04, .bool x05], .agg #[.bool x10, .int .i64 x11, .int .i64 x12, .int .i64 x13, .bool x14, .slice ax15 x15.length px15]] w _
  obtain ⟨M0, hM0⟩ : ∃ M, szW 1048576 (mstK.sz (x00, x01, x02, x03, x04, x05)) = M := ⟨_, rfl⟩
  have hb0 := szW_bd 1048576 (mstK.sz (x00, x01, x02, x03, x04, x05)) (by omega)
  rw [hM0] at hb0
  obtain ⟨hb0a, hb0b⟩ := hb0
  have HM0 := Lib.hid hM0
  by_cases c0 : M0 < 0
  · clear hM0
    go_enter Try.func7, Try.ntmps7
    go_wp2_with fail
    generalize (w.alloc (Obj.cells #[.slice ax00 x00.length px00, .int .i64 x01, .int .i64 x02, .int .i64 x03, .bool x04, .bool x05] 56)).alloc (Obj.cells #[.bool x10, .int .i64 x11, .int .i64 x12, .int .i64 x13, .bool x14, .slice ax15 x15.length px15] 70) = y0 at A0_0 A1_0 HB_0 ⊢
    refine (szMst [.slice ax00 x00.length px00, .int .i64 x01, .int .i64 x02, .int .i64 x03, .bool x04, .bool x05] (x00, x01, x02, x03, x04, x05) 1048576 _ (mstK.rd_later HR0.out HB_0.out) (by omega) (by omega)).mono ?_
    rintro e y1 ⟨rfl, hb⟩
    rw [HM0.out]
    have A0_1 := Lib.hid (A0_0.out.later hb)
    have A1_1 := Lib.hid (A1_0.out.later hb)
    have HB_1 := Lib.hid (HB_0.out.trans (hb.mono HB_0.out.size))
    clear A0_0 A1_0 HB_0
    clear hb
    have gA0_0 := A0_1.out.cell 0 (.slice ax00 x00.length px00) rfl
    have gA0_1 := A0_1.out.cell 1 (.int .i64 x01) rfl
    have gA0_2 := A0_1.out.cell 2 (.int .i64 x02) rfl
    have gA0_3 := A0_1.out.cell 3 (.int .i64 x03) rfl
    have gA0_4 := A0_1.out.cell 4 (.bool x04) rfl
    have gA0_5 := A0_1.out.cell 5 (.bool x05) rfl
    have gA1_0 := A1_1.out.cell 0 (.bool x10) rfl
    have gA1_1 := A1_1.out.cell 1 (.int .i64 x11) rfl
    have gA1_2 := A1_1.out.cell 2 (.int .i64 x12) rfl
    have gA1_3 := A1_1.out.cell 3 (.int .i64 x13) rfl
    have gA1_4 := A1_1.out.cell 4 (.bool x14) rfl
    have gA1_5 := A1_1.out.cell 5 (.slice ax15 x15.length px15) rfl
    go_wp2
    go_ret
    exact ⟨rfl, HB_1.out⟩
  · have hft0 := szW_fit (show ¬ szW 1048576 (mstK.sz (x00, x01, x02, x03, x04, x05)) < 0 by rw [hM0]; exact c0)
    obtain ⟨M1, hM1⟩ : ∃ M, szW M0 (reqK.sz (x10, x11, x12, x13, x14, x15)) = M := ⟨_, rfl⟩
    have hb1 := szW_bd M0 (reqK.sz (x10, x11, x12, x13, x14, x15)) (by omega)
    rw [hM1] at hb1
    obtain ⟨hb1a, hb1b⟩ := hb1
    have HM1 := Lib.hid hM1
    by_cases c1 : M1 < 0
    · clear hM0 hM1 hft0
      go_enter Try.func7, Try.ntmps7
      go_wp2_with fail
      generalize (w.alloc (Obj.cells #[.slice ax00 x00.length px00, .int .i64 x01, .int .i64 x02, .int .i64 x03, .bool x04, .bool x05] 56)).alloc (Obj.cells #[.bool x10, .int .i64 x11, .int .i64 x12, .int .i64 x13, .bool x14, .slice ax15 x15.length px15] 70) = y0 at A0_0 A1_0 HB_0 ⊢
      refine (szMst [.slice ax00 x00.length px00, .int .i64 x01, .int .i64 x02, .int .i64 x03, .bool x04, .bool x05] (x00, x01, x02, x03, x04, x05) 1048576 _ (mstK.rd_later HR0.out HB_0.out) (by omega) (by omega)).mono ?_
      rintro e y1 ⟨rfl, hb⟩
      rw [HM0.out]
      have A0_1 := Lib.hid (A0_0.out.later hb)
      have A1_1 := Lib.hid (A1_0.out.later hb)
      have HB_1 := Lib.hid (HB_0.out.trans (hb.mono HB_0.out.size))
      clear A0_0 A1_0 HB_0
      clear hb
      have gA0_0 := A0_1.out.cell 0 (.slice ax00 x00.length px00) rfl
      have gA0_1 := A0_1.out.cell 1 (.int .i64 x01) rfl
      have gA0_2 := A0_1.out.cell 2 (.int .i64 x02) rfl
      have gA0_3 := A0_1.out.cell 3 (.int .i64 x03) rfl
      have gA0_4 := A0_1.out.cell 4 (.bool x04) rfl
      have gA0_5 := A0_1.out.cell 5 (.bool x05) rfl
      have gA1_0 := A1_1.out.cell 0 (.bool x10) rfl
      have gA1_1 := A1_1.out.cell 1 (.int .i64 x11) rfl
      have gA1_2 := A1_1.out.cell 2 (.int .i64 x12) rfl
      have gA1_3 := A1_1.out.cell 3 (.int .i64 x13) rfl
      have gA1_4 := A1_1.out.cell 4 (.bool x14) rfl
      have gA1_5 := A1_1.out.cell 5 (.slice ax15 x15.length px15) rfl
      go_wp2_with fail
      clear gA0_0 gA0_1 gA0_2 gA0_3 gA0_4 gA0_5 gA1_0 gA1_1 gA1_2 gA1_3 gA1_4 gA1_5
      refine (szReq [.bool x10, .int .i64 x11, .int .i64 x12, .int .i64 x13, .bool x14, .slice ax15 x15.length px15] (x10, x11, x12, x13, x14, x15) M0 _ (reqK.rd_later HR1.out HB_1.out) (by omega) (by omega)).mono ?_
      rintro e y2 ⟨rfl, hb⟩
      rw [HM1.out]
      have A0_2 := Lib.hid (A0_1.out.later hb)
      have A1_2 := Lib.hid (A1_1.out.later hb)
      have HB_2 := Lib.hid (HB_1.out.trans (hb.mono HB_1.out.size))
      clear A0_1 A1_1 HB_1
      clear hb
      have gA0_0 := A0_2.out.cell 0 (.slice ax00 x00.length px00) rfl
      have gA0_1 := A0_2.out.cell 1 (.int .i64 x01) rfl
      have gA0_2 := A0_2.out.cell 2 (.int .i64 x02) rfl
      have gA0_3 := A0_2.out.cell 3 (.int .i64 x03) rfl
      have gA0_4 := A0_2.out.cell 4 (.bool x04) rfl
      have gA0_5 := A0_2.out.cell 5 (.bool x05) rfl
      have gA1_0 := A1_2.out.cell 0 (.bool x10) rfl
      have gA1_1 := A1_2.out.cell 1 (.int .i64 x11) rfl
      have gA1_2 := A1_2.out.cell 2 (.int .i64 x12) rfl
      have gA1_3 := A1_2.out.cell 3 (.int .i64 x13) rfl
      have gA1_4 := A1_2.out.cell 4 (.bool x14) rfl
      have gA1_5 := A1_2.out.cell 5 (.slice ax15 x15.length px15) rfl
      go_wp2
      go_ret
      exact ⟨rfl, HB_2.out⟩
    · have hft1 := szW_fit (show ¬ szW M0 (reqK.sz (x10, x11, x12, x13, x14, x15)) < 0 by rw [hM1]; exact c1)
      have hs0 : Hid (mstK.sz (x00, x01, x02, x03, x04, x05) ≤ 2000000) := Lib.hid (by omega)
      have hs1 : Hid (reqK.sz (x10, x11, x12, x13, x14, x15) ≤ 2000000) := Lib.hid (by omega)
      have hsum : Hid (mstK.sz (x00, x01, x02, x03, x04, x05) + reqK.sz (x10, x11, x12, x13, x14, x15) ≤ 1999999) := Lib.hid (by have h1 := hM0.symm.trans (szW_yes hft0); omega)
      clear hM0 hM1 hft0 hft1
      obtain ⟨D, hD⟩ : ∃ D, postM x00 x01 x02 x03 x04 x05 (x10, x11, x12, x13, x14, x15) = D := ⟨_, rfl⟩
      obtain ⟨⟨z0, z1, z2, z3, z4, z5⟩, N0⟩ := D
      have HD := Lib.hid hD
      have hz : Hid (mstK.sz (z0, z1, z2, z3, z4, z5) ≤ 2000000) := Lib.hid (post_sz hsum.out hD)
      have nN0 : (N0 != N0) = false := by simp
      clear hD
      obtain ⟨Q, hQ⟩ : ∃ Q : Int, 1 + (mstK.cT (z0, z1, z2, z3, z4, z5) : Int) = Q := ⟨_, rfl⟩
      have hQ0 : ¬ Q < 0 := by omega
      have hQQ : (Q != Q) = false := by simp
      have HQ := Lib.hid hQ
      have hQl : Hid (1 + (mstK.cT (z0, z1, z2, z3, z4, z5) : Int) ≤ 4611686018427387904) := Lib.hid (by have h1 := mstK.cT_le (z0, z1, z2, z3, z4, z5); have h2 := hz.out; omega)
      clear hQ
      obtain ⟨k0, hk0⟩ : ∃ k : Int, 1 + (mstK.cT (x00, x01, x02, x03, x04, x05) : Int) = k := ⟨_, rfl⟩
      have hkn0 : 0 ≤ k0 ∧ ¬ k0 < 0 ∧ k0 ≤ 128000001 := by have u0 := mstK.cT_le (x00, x01, x02, x03, x04, x05); have v0 := hs0.out; omega
      have Hk0 := Lib.hid hk0
      obtain ⟨hkp0, hkm0, hku0⟩ := hkn0
      have hkl0 : Hid (1 + (mstK.cT (x00, x01, x02, x03, x04, x05) : Int) ≤ 4611686018427387904) := Lib.hid (by omega)
      clear hk0
      obtain ⟨k1, hk1⟩ : ∃ k : Int, k0 + (reqK.cT (x10, x11, x12, x13, x14, x15) : Int) = k := ⟨_, rfl⟩
      have hkn1 : 0 ≤ k1 ∧ ¬ k1 < 0 ∧ k1 ≤ 256000001 := by have u1 := reqK.cT_le (x10, x11, x12, x13, x14, x15); have v1 := hs1.out; omega
      have Hk1 := Lib.hid hk1
      obtain ⟨hkp1, hkm1, hku1⟩ := hkn1
      have hkl1 : Hid (k0 + (reqK.cT (x10, x11, x12, x13, x14, x15) : Int) ≤ 4611686018427387904) := Lib.hid (by omega)
      clear hk1
      go_enter Try.func7, Try.ntmps7
      go_wp2_with fail
      generalize (w.alloc (Obj.cells #[.slice ax00 x00.length px00, .int .i64 x01, .int .i64 x02, .int .i64 x03, .bool x04, .bool x05] 56)).alloc (Obj.cells #[.bool x10, .int .i64 x11, .int .i64 x12, .int .i64 x13, .bool x14, .slice ax15 x15.length px15] 70) = y0 at A0_0 A1_0 HB_0 ⊢
      refine (szMst [.slice ax00 x00.length px00, .int .i64 x01, .int .i64 x02, .int .i64 x03, .bool x04, .bool x05] (x00, x01, x02, x03, x04, x05) 1048576 _ (mstK.rd_later HR0.out HB_0.out) (by omega) (by omega)).mono ?_
      rintro e y1 ⟨rfl, hb⟩
      rw [HM0.out]
      have A0_1 := Lib.hid (A0_0.out.later hb)
      have A1_1 := Lib.hid (A1_0.out.later hb)
      have HB_1 := Lib.hid (HB_0.out.trans (hb.mono HB_0.out.size))
      clear A0_0 A1_0 HB_0
      clear hb
      have gA0_0 := A0_1.out.cell 0 (.slice ax00 x00.length px00) rfl
      have gA0_1 := A0_1.out.cell 1 (.int .i64 x01) rfl
      have gA0_2 := A0_1.out.cell 2 (.int .i64 x02) rfl
      have gA0_3 := A0_1.out.cell 3 (.int .i64 x03) rfl
      have gA0_4 := A0_1.out.cell 4 (.bool x04) rfl
      have gA0_5 := A0_1.out.cell 5 (.bool x05) rfl
      have gA1_0 := A1_1.out.cell 0 (.bool x10) rfl
      have gA1_1 := A1_1.out.cell 1 (.int .i64 x11) rfl
      have gA1_2 := A1_1.out.cell 2 (.int .i64 x12) rfl
      have gA1_3 := A1_1.out.cell 3 (.int .i64 x13) rfl
      have gA1_4 := A1_1.out.cell 4 (.bool x14) rfl
      have gA1_5 := A1_1.out.cell 5 (.slice ax15 x15.length px15) rfl
      go_wp2_with fail
      clear gA0_0 gA0_1 gA0_2 gA0_3 gA0_4 gA0_5 gA1_0 gA1_1 gA1_2 gA1_3 gA1_4 gA1_5
      refine (szReq [.bool x10, .int .i64 x11, .int .i64 x12, .int .i64 x13, .bool x14, .slice ax15 x15.length px15] (x10, x11, x12, x13, x14, x15) M0 _ (reqK.rd_later HR1.out HB_1.out) (by omega) (by omega)).mono ?_
      rintro e y2 ⟨rfl, hb⟩
      rw [HM1.out]
      have A0_2 := Lib.hid (A0_1.out.later hb)
      have A1_2 := Lib.hid (A1_1.out.later hb)
      have HB_2 := Lib.hid (HB_1.out.trans (hb.mono HB_1.out.size))
      clear A0_1 A1_1 HB_1
      clear hb
      have gA0_0 := A0_2.out.cell 0 (.slice ax00 x00.length px00) rfl
      have gA0_1 := A0_2.out.cell 1 (.int .i64 x01) rfl
      have gA0_2 := A0_2.out.cell 2 (.int .i64 x02) rfl
      have gA0_3 := A0_2.out.cell 3 (.int .i64 x03) rfl
      have gA0_4 := A0_2.out.cell 4 (.bool x04) rfl
      have gA0_5 := A0_2.out.cell 5 (.bool x05) rfl
      have gA1_0 := A1_2.out.cell 0 (.bool x10) rfl
      have gA1_1 := A1_2.out.cell 1 (.int .i64 x11) rfl
      have gA1_2 := A1_2.out.cell 2 (.int .i64 x12) rfl
      have gA1_3 := A1_2.out.cell 3 (.int .i64 x13) rfl
      have gA1_4 := A1_2.out.cell 4 (.bool x14) rfl
      have gA1_5 := A1_2.out.cell 5 (.slice ax15 x15.length px15) rfl
      have ltA0 := A0_2.out.lt
      have ltA1 := A1_2.out.lt
      go_upto_region 8 with fail
      go_cut [6, 7] from 27 to 34 (fun s6 s7 wx => ∃ b : Nat, ∃ (waz0 : Option Addr) (wpz0 : Nat), s6 = .pointer (some ⟨b, 0, none⟩) ∧ s7 = .bool N0 ∧ Bx 26 b #[.slice waz0 z0.length wpz0, .int .i64 z1, .int .i64 z2, .int .i64 z3, .bool z4, .bool z5] wx ∧ mstK.rd [.slice waz0 z0.length wpz0, .int .i64 z1, .int .i64 z2, .int .i64 z3, .bool z4, .bool z5] (z0, z1, z2, z3, z4, z5) wx ∧ Below y2.heap.size y2 wx)
      case first =>
        have Hr0 := Lib.hid (mstK.rd_later HR0.out HB_2.out)
        have Hr1 := Lib.hid (reqK.rd_later HR1.out HB_2.out)
        go_region_held3 (fun w' => w'.cell? ⟨w.heap.size, 0, none⟩ = some (.slice ax00 x00.length px00) ∧ w'.cell? ⟨w.heap.size, 1, none⟩ = some (.int .i64 x01) ∧ w'.cell? ⟨w.heap.size, 2, none⟩ = some (.int .i64 x02) ∧ w'.cell? ⟨w.heap.size, 3, none⟩ = some (.int .i64 x03) ∧ w'.cell? ⟨w.heap.size, 4, none⟩ = some (.bool x04) ∧ w'.cell? ⟨w.heap.size, 5, none⟩ = some (.bool x05) ∧ w'.cell? ⟨w.heap.size + 1, 0, none⟩ = some (.bool x10) ∧ w'.cell? ⟨w.heap.size + 1, 1, none⟩ = some (.int .i64 x11) ∧ w'.cell? ⟨w.heap.size + 1, 2, none⟩ = some (.int .i64 x12) ∧ w'.cell? ⟨w.heap.size + 1, 3, none⟩ = some (.int .i64 x13) ∧ w'.cell? ⟨w.heap.size + 1, 4, none⟩ = some (.bool x14) ∧ w'.cell? ⟨w.heap.size + 1, 5, none⟩ = some (.slice ax15 x15.length px15)) (go_keep) (first
          | (go_at_call 27; (first | (have ltB := alB.lt) | skip); refine (specPost [.slice ws0ax00 x00.length ws0px00, .int .i64 x01, .int .i64 x02, .int .i64 x03, .bool x04, .bool x05] [.bool x10, .int .i64 x11, .int .i64 x12, .int .i64 x13, .bool x14, .slice ws1ax15 x15.length ws1px15] x00 x01 x02 x03 x04 x05 x10 x11 x12 x13 x14 x15 hs0.out hs1.out _ ((by first | exact (mstK.rd_later (mstK.cap_rd hcq0) hbq1) | exact mstK.rd_later (mstK.rd_later (mstK.cap_rd hcq0) hbq1) ((Below.refl _ _).alloc (Nat.le_refl _) _))) ((by first | exact (reqK.cap_rd hcq1) | exact reqK.rd_later (reqK.cap_rd hcq1) ((Below.refl _ _).alloc (Nat.le_refl _) _)))).mono ?_; rw [HD.out]; rintro e y5 ⟨us, he, hcq2, hb0⟩; obtain ⟨waz0, wpz0, rfl, _⟩ := mst_form (mstK.cap_rd hcq2); obtain rfl : e = .returned (.tuple #[.agg #[.slice waz0 z0.length wpz0, .int .i64 z1, .int .i64 z2, .int .i64 z3, .bool z4, .bool z5], .bool N0]) := he; (first | (have hbq2 : Below y4.heap.size y4 y5 := hb0; clear hb0; (first | (have alN := Bx.later alB (hbq2); clear alB; have alB := alN; clear alN; have al0 := alB.cell 0 _ rfl; have aw0 := alB.warm 0; have al1 := alB.cell 1 _ rfl; have aw1 := alB.warm 1; have al2 := alB.cell 2 _ rfl; have aw2 := alB.warm 2; have al3 := alB.cell 3 _ rfl; have aw3 := alB.warm 3; have al4 := alB.cell 4 _ rfl; have aw4 := alB.warm 4; have al5 := alB.cell 5 _ rfl; have aw5 := alB.warm 5) | skip)) | (have alB : Bx 26 y4.heap.size #[.slice none 0 0, .int .i64 0, .int .i64 0, .int .i64 0, .bool false, .bool false] y5 := (Bx.new 26 #[.slice none 0 0, .int .i64 0, .int .i64 0, .int .i64 0, .bool false, .bool false] y4).later hb0; have hbq2 : Below y4.heap.size y4 y5 := ((Below.refl _ _).alloc (Nat.le_refl _) _).trans (hb0.mono (by simp)); clear hb0; have neA0 : ¬ (w.heap.size = y4.heap.size) := Nat.ne_of_lt (Nat.lt_of_lt_of_le ltA0 (Nat.le_trans hbq0.size hbq1.size)); have neA0' : ¬ (y4.heap.size = w.heap.size) := fun h => neA0 h.symm; have neA1 : ¬ (w.heap.size + 1 = y4.heap.size) := Nat.ne_of_lt (Nat.lt_of_lt_of_le ltA1 (Nat.le_trans hbq0.size hbq1.size)); have neA1' : ¬ (y4.heap.size = w.heap.size + 1) := fun h => neA1 h.symm; have al0 := alB.cell 0 _ rfl; have aw0 := alB.warm 0; have al1 := alB.cell 1 _ rfl; have aw1 := alB.warm 1; have al2 := alB.cell 2 _ rfl; have aw2 := alB.warm 2; have al3 := alB.cell 3 _ rfl; have aw3 := alB.warm 3; have al4 := alB.cell 4 _ rfl; have aw4 := alB.warm 4; have al5 := alB.cell 5 _ rfl; have aw5 := alB.warm 5)); have hk2A0 : ∀ i, y5.cell? ⟨w.heap.size, i, none⟩ = y4.cell? ⟨w.heap.size, i, none⟩ := fun i => hbq2.cell (p := ⟨w.heap.size, i, none⟩) (Nat.lt_of_lt_of_le ltA0 (Nat.le_trans hbq0.size hbq1.size)); have hk2A1 : ∀ i, y5.cell? ⟨w.heap.size + 1, i, none⟩ = y4.cell? ⟨w.heap.size + 1, i, none⟩ := fun i => hbq2.cell (p := ⟨w.heap.size + 1, i, none⟩) (Nat.lt_of_lt_of_le ltA1 (Nat.le_trans hbq0.size hbq1.size)))
          | (go_at_call 47; have hz_ := hbq0; clear hz_; refine (toReq [.bool x10, .int .i64 x11, .int .i64 x12, .int .i64 x13, .bool x14, .slice ax15 x15.length px15] (x10, x11, x12, x13, x14, x15) _ hs1.out (by first | exact (reqK.rd_later (reqK.rd_drew Hr1.out) hbq0) | exact reqK.rd_later (reqK.rd_later (reqK.rd_drew Hr1.out) hbq0) ((Below.refl _ _).alloc (Nat.le_refl _) _))).mono ?_; rintro e y4 ⟨us, he, hcq1, hb0⟩; obtain ⟨ws1ax15, ws1px15, rfl, _⟩ := req_form (reqK.cap_rd hcq1); obtain rfl : e = .returned (.agg #[.bool x10, .int .i64 x11, .int .i64 x12, .int .i64 x13, .bool x14, .slice ws1ax15 x15.length ws1px15]) := he; (first | (have hbq1 : Below y3.heap.size y3 y4 := hb0; clear hb0; (first | (have alN := Bx.later alB (hbq1); clear alB; have alB := alN; clear alN; skip) | skip)) | (have alB : Bx 26 y3.heap.size #[.slice none 0 0, .int .i64 0, .int .i64 0, .int .i64 0, .bool false, .bool false] y4 := (Bx.new 26 #[.slice none 0 0, .int .i64 0, .int .i64 0, .int .i64 0, .bool false, .bool false] y3).later hb0; have hbq1 : Below y3.heap.size y3 y4 := ((Below.refl _ _).alloc (Nat.le_refl _) _).trans (hb0.mono (by simp)); clear hb0; have neA0 : ¬ (w.heap.size = y3.heap.size) := Nat.ne_of_lt (Nat.lt_of_lt_of_le ltA0 (hbq0.size)); have neA0' : ¬ (y3.heap.size = w.heap.size) := fun h => neA0 h.symm; have neA1 : ¬ (w.heap.size + 1 = y3.heap.size) := Nat.ne_of_lt (Nat.lt_of_lt_of_le ltA1 (hbq0.size)); have neA1' : ¬ (y3.heap.size = w.heap.size + 1) := fun h => neA1 h.symm; skip)); have hk1A0 : ∀ i, y4.cell? ⟨w.heap.size, i, none⟩ = y3.cell? ⟨w.heap.size, i, none⟩ := fun i => hbq1.cell (p := ⟨w.heap.size, i, none⟩) (Nat.lt_of_lt_of_le ltA0 (hbq0.size)); have hk1A1 : ∀ i, y4.cell? ⟨w.heap.size + 1, i, none⟩ = y3.cell? ⟨w.heap.size + 1, i, none⟩ := fun i => hbq1.cell (p := ⟨w.heap.size + 1, i, none⟩) (Nat.lt_of_lt_of_le ltA1 (hbq0.size)))
          | (go_at_call 41; refine (toMst [.slice ax00 x00.length px00, .int .i64 x01, .int .i64 x02, .int .i64 x03, .bool x04, .bool x05] (x00, x01, x02, x03, x04, x05) _ hs0.out (by first | exact (mstK.rd_drew Hr0.out) | exact mstK.rd_later (mstK.rd_drew Hr0.out) ((Below.refl _ _).alloc (Nat.le_refl _) _))).mono ?_; rintro e y3 ⟨us, he, hcq0, hb0⟩; obtain ⟨ws0ax00, ws0px00, rfl, _⟩ := mst_form (mstK.cap_rd hcq0); obtain rfl : e = .returned (.agg #[.slice ws0ax00 x00.length ws0px00, .int .i64 x01, .int .i64 x02, .int .i64 x03, .bool x04, .bool x05]) := he; (first | (have hbq0 : Below y2.drew.heap.size y2.drew y3 := hb0; clear hb0; (first | (have alN := Bx.later alB (hbq0); clear alB; have alB := alN; clear alN; skip) | skip)) | (have alB : Bx 26 y2.heap.size #[.slice none 0 0, .int .i64 0, .int .i64 0, .int .i64 0, .bool false, .bool false] y3 := (Bx.new 26 #[.slice none 0 0, .int .i64 0, .int .i64 0, .int .i64 0, .bool false, .bool false] y2.drew).later hb0; have hbq0 : Below y2.drew.heap.size y2.drew y3 := ((Below.refl _ _).alloc (Nat.le_refl _) _).trans (hb0.mono (by simp)); clear hb0; have neA0 : ¬ (w.heap.size = y2.heap.size) := Nat.ne_of_lt (ltA0); have neA0' : ¬ (y2.heap.size = w.heap.size) := fun h => neA0 h.symm; have neA1 : ¬ (w.heap.size + 1 = y2.heap.size) := Nat.ne_of_lt (ltA1); have neA1' : ¬ (y2.heap.size = w.heap.size + 1) := fun h => neA1 h.symm; skip)); have hk0A0 : ∀ i, y3.cell? ⟨w.heap.size, i, none⟩ = y2.cell? ⟨w.heap.size, i, none⟩ := fun i => hbq0.cell (p := ⟨w.heap.size, i, none⟩) (ltA0); have hk0A1 : ∀ i, y3.cell? ⟨w.heap.size + 1, i, none⟩ = y2.cell? ⟨w.heap.size + 1, i, none⟩ := fun i => hbq0.cell (p := ⟨w.heap.size + 1, i, none⟩) (ltA1)))
        all_goals
          have hb := (Below.refl y2.heap.size y2).drew.trans hbq0
          have hb' := hb.trans (hbq1.mono hb.size)
          clear hb
          have hb := hb'
          clear hb'
          have hb' := hb.trans (hbq2.mono hb.size)
          clear hb
          have hb := hb'
          clear hb'
          go_wp2_with fail
          go_meet
          first
            | (have h9 := end_mem6 alB hb (by first | exact Nat.le_refl _ | exact hbq0.size | exact Nat.le_trans (hbq0.size) hbq1.size) hcq2 (by first | exact Nat.not_le_of_lt ltB | exact not_le_alloc _ _); refine ⟨_, waz0, wpz0, rfl, rfl, ?_⟩; exact h9)
            | exact ⟨_, waz0, wpz0, rfl, rfl, Bx.new _ _ _, mstK.rd_alloc (mstK.cap_rd hcq2) _, hb.alloc hb.size _⟩
            | trace_state
      case rest =>
      obtain ⟨bw, waz0, wpz0, rfl, rfl, hX, hr, hb⟩ := hcut
      clear ltA0 ltA1 gA0_0 gA0_1 gA0_2 gA0_3 gA0_4 gA0_5 gA1_0 gA1_1 gA1_2 gA1_3 gA1_4 gA1_5
      generalize wc = y3 at hX hr hb ⊢
      have A0_3 := Lib.hid (A0_2.out.later hb)
      have A1_3 := Lib.hid (A1_2.out.later hb)
      have HB_3 := Lib.hid (HB_2.out.trans (hb.mono HB_2.out.size))
      have RW_3 := Lib.hid (hr)
      have BW_3 := Lib.hid (hX)
      clear A0_2 A1_2 HB_2
      clear hb hX hr
      have gA0_0 := A0_3.out.cell 0 (.slice ax00 x00.length px00) rfl
      have gA0_1 := A0_3.out.cell 1 (.int .i64 x01) rfl
      have gA0_2 := A0_3.out.cell 2 (.int .i64 x02) rfl
      have gA0_3 := A0_3.out.cell 3 (.int .i64 x03) rfl
      have gA0_4 := A0_3.out.cell 4 (.bool x04) rfl
      have gA0_5 := A0_3.out.cell 5 (.bool x05) rfl
      have gA1_0 := A1_3.out.cell 0 (.bool x10) rfl
      have gA1_1 := A1_3.out.cell 1 (.int .i64 x11) rfl
      have gA1_2 := A1_3.out.cell 2 (.int .i64 x12) rfl
      have gA1_3 := A1_3.out.cell 3 (.int .i64 x13) rfl
      have gA1_4 := A1_3.out.cell 4 (.bool x14) rfl
      have gA1_5 := A1_3.out.cell 5 (.slice ax15 x15.length px15) rfl
      have CA_3 := Lib.hid (Below.refl y3.heap.size y3)
      go_wp2_with fail
      clear gA0_0 gA0_1 gA0_2 gA0_3 gA0_4 gA0_5 gA1_0 gA1_1 gA1_2 gA1_3 gA1_4 gA1_5
      refine (toMst [.slice ax00 x00.length px00, .int .i64 x01, .int .i64 x02, .int .i64 x03, .bool x04, .bool x05] (x00, x01, x02, x03, x04, x05) _ hs0.out (mstK.rd_later HR0.out (HB_3.out.trans (CA_3.out.mono HB_3.out.size)))).mono ?_
      rintro e y4 ⟨us, he, hc, hb⟩
      obtain ⟨cax00, cpx00, rfl, _⟩ := mst_form (mstK.cap_rd hc)
      obtain rfl : e = .returned (.agg #[.slice cax00 x00.length cpx00, .int .i64 x01, .int .i64 x02, .int .i64 x03, .bool x04, .bool x05]) := he
      have Zt0 := Lib.hid hb.size
      have CA_4 := Lib.hid (CA_3.out.trans (hb.mono CA_3.out.size))
      have X0_4 := Lib.hid (mstK.cap_top hc)
      clear CA_3
      clear hb hc
      have ab := (Below.refl y4.heap.size y4).alloc (Nat.le_refl _) (Obj.cells #[.slice cax00 x00.length cpx00, .int .i64 x01, .int .i64 x02, .int .i64 x03, .bool x04, .bool x05] 26)
      have Z5 := Lib.hid ab.size
      have CA_5 := Lib.hid (CA_4.out.trans (ab.mono CA_4.out.size))
      have X0_5 := Lib.hid (mstK.cap_later X0_4.out ab)
      have BX0_5 := Lib.hid (Bx.new 26 #[.slice cax00 x00.length cpx00, .int .i64 x01, .int .i64 x02, .int .i64 x03, .bool x04, .bool x05] y4)
      clear CA_4 X0_4
      clear ab
      have gA0_0 := (A0_3.out.later CA_5.out).cell 0 (.slice ax00 x00.length px00) rfl
      have gA0_1 := (A0_3.out.later CA_5.out).cell 1 (.int .i64 x01) rfl
      have gA0_2 := (A0_3.out.later CA_5.out).cell 2 (.int .i64 x02) rfl
      have gA0_3 := (A0_3.out.later CA_5.out).cell 3 (.int .i64 x03) rfl
      have gA0_4 := (A0_3.out.later CA_5.out).cell 4 (.bool x04) rfl
      have gA0_5 := (A0_3.out.later CA_5.out).cell 5 (.bool x05) rfl
      have gA1_0 := (A1_3.out.later CA_5.out).cell 0 (.bool x10) rfl
      have gA1_1 := (A1_3.out.later CA_5.out).cell 1 (.int .i64 x11) rfl
      have gA1_2 := (A1_3.out.later CA_5.out).cell 2 (.int .i64 x12) rfl
      have gA1_3 := (A1_3.out.later CA_5.out).cell 3 (.int .i64 x13) rfl
      have gA1_4 := (A1_3.out.later CA_5.out).cell 4 (.bool x14) rfl
      have gA1_5 := (A1_3.out.later CA_5.out).cell 5 (.slice ax15 x15.length px15) rfl
      go_wp2_with fail
      clear gA0_0 gA0_1 gA0_2 gA0_3 gA0_4 gA0_5 gA1_0 gA1_1 gA1_2 gA1_3 gA1_4 gA1_5
      generalize y4.alloc (Obj.cells #[.slice cax00 x00.length cpx00, .int .i64 x01, .int .i64 x02, .int .i64 x03, .bool x04, .bool x05] 26) = y5 at CA_5 X0_5 BX0_5 Z5 ⊢
      refine (toReq [.bool x10, .int .i64 x11, .int .i64 x12, .int .i64 x13, .bool x14, .slice ax15 x15.length px15] (x10, x11, x12, x13, x14, x15) _ hs1.out (reqK.rd_later HR1.out (HB_3.out.trans (CA_5.out.mono HB_3.out.size)))).mono ?_
      rintro e y6 ⟨us, he, hc, hb⟩
      obtain ⟨cax15, cpx15, rfl, _⟩ := req_form (reqK.cap_rd hc)
      obtain rfl : e = .returned (.agg #[.bool x10, .int .i64 x11, .int .i64 x12, .int .i64 x13, .bool x14, .slice cax15 x15.length cpx15]) := he
      have Zt1 := Lib.hid hb.size
      have CA_6 := Lib.hid (CA_5.out.trans (hb.mono CA_5.out.size))
      have X0_6 := Lib.hid (mstK.cap_later X0_5.out hb)
      have BX0_6 := Lib.hid (BX0_5.out.later hb)
      have X1_6 := Lib.hid (reqK.cap_top hc)
      clear CA_5 X0_5 BX0_5
      clear hb hc
      have ab := (Below.refl y6.heap.size y6).alloc (Nat.le_refl _) (Obj.cells #[.bool x10, .int .i64 x11, .int .i64 x12, .int .i64 x13, .bool x14, .slice cax15 x15.length cpx15] 35)
      have Z7 := Lib.hid ab.size
      have CA_7 := Lib.hid (CA_6.out.trans (ab.mono CA_6.out.size))
      have X0_7 := Lib.hid (mstK.cap_later X0_6.out ab)
      have BX0_7 := Lib.hid (BX0_6.out.later ab)
      have X1_7 := Lib.hid (reqK.cap_later X1_6.out ab)
      have BX1_7 := Lib.hid (Bx.new 35 #[.bool x10, .int .i64 x11, .int .i64 x12, .int .i64 x13, .bool x14, .slice cax15 x15.length cpx15] y6)
      clear CA_6 X0_6 BX0_6 X1_6
      clear ab
      have gBX0_0 := BX0_7.out.cell 0 (.slice cax00 x00.length cpx00) rfl
      have gBX0_1 := BX0_7.out.cell 1 (.int .i64 x01) rfl
      have gBX0_2 := BX0_7.out.cell 2 (.int .i64 x02) rfl
      have gBX0_3 := BX0_7.out.cell 3 (.int .i64 x03) rfl
      have gBX0_4 := BX0_7.out.cell 4 (.bool x04) rfl
      have gBX0_5 := BX0_7.out.cell 5 (.bool x05) rfl
      have gBX1_0 := BX1_7.out.cell 0 (.bool x10) rfl
      have gBX1_1 := BX1_7.out.cell 1 (.int .i64 x11) rfl
      have gBX1_2 := BX1_7.out.cell 2 (.int .i64 x12) rfl
      have gBX1_3 := BX1_7.out.cell 3 (.int .i64 x13) rfl
      have gBX1_4 := BX1_7.out.cell 4 (.bool x14) rfl
      have gBX1_5 := BX1_7.out.cell 5 (.slice cax15 x15.length cpx15) rfl
      go_wp2_with fail
      clear gBX0_0 gBX0_1 gBX0_2 gBX0_3 gBX0_4 gBX0_5 gBX1_0 gBX1_1 gBX1_2 gBX1_3 gBX1_4 gBX1_5
      generalize y6.alloc (Obj.cells #[.bool x10, .int .i64 x11, .int .i64 x12, .int .i64 x13, .bool x14, .slice cax15 x15.length cpx15] 35) = y7 at CA_7 X0_7 BX0_7 X1_7 BX1_7 Z7 ⊢
      have ZG := Lib.hid CA_7.out.size
      refine (implPost [.slice cax00 x00.length cpx00, .int .i64 x01, .int .i64 x02, .int .i64 x03, .bool x04, .bool x05] [.bool x10, .int .i64 x11, .int .i64 x12, .int .i64 x13, .bool x14, .slice cax15 x15.length cpx15] x00 x01 x02 x03 x04 x05 x10 x11 x12 x13 x14 x15 hs0.out hs1.out _ ((mstK.cap_rd X0_7.out)) ((reqK.cap_rd X1_7.out))).mono ?_
      rw [HD.out]
      rintro e y8 ⟨us, he, hc, hb⟩
      obtain ⟨gaz0, gpz0, rfl, _⟩ := mst_form (mstK.cap_rd hc)
      obtain rfl : e = .returned (.tuple #[.agg #[.slice gaz0 z0.length gpz0, .int .i64 z1, .int .i64 z2, .int .i64 z3, .bool z4, .bool z5], .bool N0]) := he
      have Zg := Lib.hid hb.size
      have CA_8 := Lib.hid (CA_7.out.trans (hb.mono CA_7.out.size))
      have X0_8 := Lib.hid (mstK.cap_later X0_7.out hb)
      have BX0_8 := Lib.hid (BX0_7.out.later hb)
      have X1_8 := Lib.hid (reqK.cap_later X1_7.out hb)
      have BX1_8 := Lib.hid (BX1_7.out.later hb)
      have G_8 := Lib.hid (mstK.cap_top hc)
      clear CA_7 X0_7 BX0_7 X1_7 BX1_7
      clear hb hc
      have ab := (Below.refl y8.heap.size y8).alloc (Nat.le_refl _) (Obj.cells #[.slice gaz0 z0.length gpz0, .int .i64 z1, .int .i64 z2, .int .i64 z3, .bool z4, .bool z5] 26)
      have Z9 := Lib.hid ab.size
      have CA_9 := Lib.hid (CA_8.out.trans (ab.mono CA_8.out.size))
      have X0_9 := Lib.hid (mstK.cap_later X0_8.out ab)
      have BX0_9 := Lib.hid (BX0_8.out.later ab)
      have X1_9 := Lib.hid (reqK.cap_later X1_8.out ab)
      have BX1_9 := Lib.hid (BX1_8.out.later ab)
      have G_9 := Lib.hid (mstK.cap_later G_8.out ab)
      have BG_9 := Lib.hid (Bx.new 26 #[.slice gaz0 z0.length gpz0, .int .i64 z1, .int .i64 z2, .int .i64 z3, .bool z4, .bool z5] y8)
      clear CA_8 X0_8 BX0_8 X1_8 BX1_8 G_8
      clear ab
      have gBW_0 := (BW_3.out.later CA_9.out).cell 0 (.slice waz0 z0.length wpz0) rfl
      have gBW_1 := (BW_3.out.later CA_9.out).cell 1 (.int .i64 z1) rfl
      have gBW_2 := (BW_3.out.later CA_9.out).cell 2 (.int .i64 z2) rfl
      have gBW_3 := (BW_3.out.later CA_9.out).cell 3 (.int .i64 z3) rfl
      have gBW_4 := (BW_3.out.later CA_9.out).cell 4 (.bool z4) rfl
      have gBW_5 := (BW_3.out.later CA_9.out).cell 5 (.bool z5) rfl
      have gBG_0 := BG_9.out.cell 0 (.slice gaz0 z0.length gpz0) rfl
      have gBG_1 := BG_9.out.cell 1 (.int .i64 z1) rfl
      have gBG_2 := BG_9.out.cell 2 (.int .i64 z2) rfl
      have gBG_3 := BG_9.out.cell 3 (.int .i64 z3) rfl
      have gBG_4 := BG_9.out.cell 4 (.bool z4) rfl
      have gBG_5 := BG_9.out.cell 5 (.bool z5) rfl
      go_wp2_with fail
      clear gBW_0 gBW_1 gBW_2 gBW_3 gBW_4 gBW_5 gBG_0 gBG_1 gBG_2 gBG_3 gBG_4 gBG_5
      generalize y8.alloc (Obj.cells #[.slice gaz0 z0.length gpz0, .int .i64 z1, .int .i64 z2, .int .i64 z3, .bool z4, .bool z5] 26) = y9 at CA_9 X0_9 BX0_9 X1_9 BX1_9 G_9 BG_9 Z9 ⊢
      refine (eqMst [.slice gaz0 z0.length gpz0, .int .i64 z1, .int .i64 z2, .int .i64 z3, .bool z4, .bool z5] [.slice waz0 z0.length wpz0, .int .i64 z1, .int .i64 z2, .int .i64 z3, .bool z4, .bool z5] (z0, z1, z2, z3, z4, z5) _ hz.out (mstK.cap_rd G_9.out) (mstK.rd_later RW_3.out CA_9.out)).mono ?_
      rintro e y10 ⟨rfl, hb⟩
      have CA_10 := Lib.hid (CA_9.out.trans (hb.mono CA_9.out.size))
      have X0_10 := Lib.hid (mstK.cap_later X0_9.out hb)
      have BX0_10 := Lib.hid (BX0_9.out.later hb)
      have X1_10 := Lib.hid (reqK.cap_later X1_9.out hb)
      have BX1_10 := Lib.hid (BX1_9.out.later hb)
      have G_10 := Lib.hid (mstK.cap_later G_9.out hb)
      have BG_10 := Lib.hid (BG_9.out.later hb)
      clear CA_9 X0_9 BX0_9 X1_9 BX1_9 G_9 BG_9
      clear hb
      have gBX0_0 := BX0_10.out.cell 0 (.slice cax00 x00.length cpx00) rfl
      have gBX0_1 := BX0_10.out.cell 1 (.int .i64 x01) rfl
      have gBX0_2 := BX0_10.out.cell 2 (.int .i64 x02) rfl
      have gBX0_3 := BX0_10.out.cell 3 (.int .i64 x03) rfl
      have gBX0_4 := BX0_10.out.cell 4 (.bool x04) rfl
      have gBX0_5 := BX0_10.out.cell 5 (.bool x05) rfl
      have gA0_0 := (A0_3.out.later CA_10.out).cell 0 (.slice ax00 x00.length px00) rfl
      have gA0_1 := (A0_3.out.later CA_10.out).cell 1 (.int .i64 x01) rfl
      have gA0_2 := (A0_3.out.later CA_10.out).cell 2 (.int .i64 x02) rfl
      have gA0_3 := (A0_3.out.later CA_10.out).cell 3 (.int .i64 x03) rfl
      have gA0_4 := (A0_3.out.later CA_10.out).cell 4 (.bool x04) rfl
      have gA0_5 := (A0_3.out.later CA_10.out).cell 5 (.bool x05) rfl
      have ltX := BX0_10.out.lt
      have ltA := (A0_3.out.later CA_10.out).lt
      go_wp2_with fail
      have HrA := Lib.hid (mstK.rd_later HR0.out (HB_3.out.trans (CA_10.out.mono HB_3.out.size)))
      have HrX := Lib.hid ((mstK.cap_rd X0_10.out))
      go_region_held3 (fun w' => w'.cell? ⟨y4.heap.size, 0, none⟩ = some (.slice cax00 x00.length cpx00) ∧ w'.cell? ⟨y4.heap.size, 1, none⟩ = some (.int .i64 x01) ∧ w'.cell? ⟨y4.heap.size, 2, none⟩ = some (.int .i64 x02) ∧ w'.cell? ⟨y4.heap.size, 3, none⟩ = some (.int .i64 x03) ∧ w'.cell? ⟨y4.heap.size, 4, none⟩ = some (.bool x04) ∧ w'.cell? ⟨y4.heap.size, 5, none⟩ = some (.bool x05) ∧ w'.cell? ⟨w.heap.size, 0, none⟩ = some (.slice ax00 x00.length px00) ∧ w'.cell? ⟨w.heap.size, 1, none⟩ = some (.int .i64 x01) ∧ w'.cell? ⟨w.heap.size, 2, none⟩ = some (.int .i64 x02) ∧ w'.cell? ⟨w.heap.size, 3, none⟩ = some (.int .i64 x03) ∧ w'.cell? ⟨w.heap.size, 4, none⟩ = some (.bool x04) ∧ w'.cell? ⟨w.heap.size, 5, none⟩ = some (.bool x05)) (go_keep) (first
        | (go_at_call 41; refine (toMst [.slice ax00 x00.length px00, .int .i64 x01, .int .i64 x02, .int .i64 x03, .bool x04, .bool x05] (x00, x01, x02, x03, x04, x05) _ hs0.out (mstK.rd_drew HrA.out)).mono ?_; rintro e y11 ⟨us, he, hc, hb1⟩; obtain ⟨eax00, epx00, rfl, _⟩ := mst_form (mstK.cap_rd hc); obtain rfl : e = .returned (.agg #[.slice eax00 x00.length epx00, .int .i64 x01, .int .i64 x02, .int .i64 x03, .bool x04, .bool x05]) := he; have hk : ∀ i, y11.cell? ⟨y4.heap.size, i, none⟩ = y10.cell? ⟨y4.heap.size, i, none⟩ := fun i => hb1.cell (p := ⟨y4.heap.size, i, none⟩) (ltX); have hk' : ∀ i, y11.cell? ⟨w.heap.size, i, none⟩ = y10.cell? ⟨w.heap.size, i, none⟩ := fun i => hb1.cell (p := ⟨w.heap.size, i, none⟩) (ltA))
        | (go_at_call 44; refine (eqMst [.slice cax00 x00.length cpx00, .int .i64 x01, .int .i64 x02, .int .i64 x03, .bool x04, .bool x05] [.slice eax00 x00.length epx00, .int .i64 x01, .int .i64 x02, .int .i64 x03, .bool x04, .bool x05] (x00, x01, x02, x03, x04, x05) _ hs0.out (mstK.rd_later (mstK.rd_drew HrX.out) hb1) (mstK.cap_rd hc)).mono ?_; rintro e y12 ⟨rfl, hb2⟩; have hk2 : ∀ i, y12.cell? ⟨y4.heap.size, i, none⟩ = y11.cell? ⟨y4.heap.size, i, none⟩ := fun i => hb2.cell (p := ⟨y4.heap.size, i, none⟩) (Nat.lt_of_lt_of_le ltX hb1.size); have hk2' : ∀ i, y12.cell? ⟨w.heap.size, i, none⟩ = y11.cell? ⟨w.heap.size, i, none⟩ := fun i => hb2.cell (p := ⟨w.heap.size, i, none⟩) (Nat.lt_of_lt_of_le ltA hb1.size)))
      have hb := ((Below.refl y10.heap.size y10).drew.trans hb1).trans (hb2.mono hb1.size)
      clear hk hk' hk2 hk2' ltX ltA HrA HrX gBX0_0 gBX0_1 gBX0_2 gBX0_3 gBX0_4 gBX0_5 gA0_0 gA0_1 gA0_2 gA0_3 gA0_4 gA0_5
      have CA_11 := CA_10
      have X0_11 := X0_10
      have BX0_11 := BX0_10
      have X1_11 := X1_10
      have BX1_11 := BX1_10
      have G_11 := G_10
      have BG_11 := BG_10
      clear CA_10 X0_10 BX0_10 X1_10 BX1_10 G_10 BG_10
      have CA_12 := Lib.hid (CA_11.out.trans (hb.mono CA_11.out.size))
      have X0_12 := Lib.hid (mstK.cap_later X0_11.out hb)
      have BX0_12 := Lib.hid (BX0_11.out.later hb)
      have X1_12 := Lib.hid (reqK.cap_later X1_11.out hb)
      have BX1_12 := Lib.hid (BX1_11.out.later hb)
      have G_12 := Lib.hid (mstK.cap_later G_11.out hb)
      have BG_12 := Lib.hid (BG_11.out.later hb)
      clear CA_11 X0_11 BX0_11 X1_11 BX1_11 G_11 BG_11
      clear hb hb1 hb2 hc
      have gBX1_0 := BX1_12.out.cell 0 (.bool x10) rfl
      have gBX1_1 := BX1_12.out.cell 1 (.int .i64 x11) rfl
      have gBX1_2 := BX1_12.out.cell 2 (.int .i64 x12) rfl
      have gBX1_3 := BX1_12.out.cell 3 (.int .i64 x13) rfl
      have gBX1_4 := BX1_12.out.cell 4 (.bool x14) rfl
      have gBX1_5 := BX1_12.out.cell 5 (.slice cax15 x15.length cpx15) rfl
      have gA1_0 := (A1_3.out.later CA_12.out).cell 0 (.bool x10) rfl
      have gA1_1 := (A1_3.out.later CA_12.out).cell 1 (.int .i64 x11) rfl
      have gA1_2 := (A1_3.out.later CA_12.out).cell 2 (.int .i64 x12) rfl
      have gA1_3 := (A1_3.out.later CA_12.out).cell 3 (.int .i64 x13) rfl
      have gA1_4 := (A1_3.out.later CA_12.out).cell 4 (.bool x14) rfl
      have gA1_5 := (A1_3.out.later CA_12.out).cell 5 (.slice ax15 x15.length px15) rfl
      have ltX := BX1_12.out.lt
      have ltA := (A1_3.out.later CA_12.out).lt
      go_wp2_with fail
      have HrA := Lib.hid (reqK.rd_later HR1.out (HB_3.out.trans (CA_12.out.mono HB_3.out.size)))
      have HrX := Lib.hid ((reqK.cap_rd X1_12.out))
      go_region_held3 (fun w' => w'.cell? ⟨y6.heap.size, 0, none⟩ = some (.bool x10) ∧ w'.cell? ⟨y6.heap.size, 1, none⟩ = some (.int .i64 x11) ∧ w'.cell? ⟨y6.heap.size, 2, none⟩ = some (.int .i64 x12) ∧ w'.cell? ⟨y6.heap.size, 3, none⟩ = some (.int .i64 x13) ∧ w'.cell? ⟨y6.heap.size, 4, none⟩ = some (.bool x14) ∧ w'.cell? ⟨y6.heap.size, 5, none⟩ = some (.slice cax15 x15.length cpx15) ∧ w'.cell? ⟨w.heap.size + 1, 0, none⟩ = some (.bool x10) ∧ w'.cell? ⟨w.heap.size + 1, 1, none⟩ = some (.int .i64 x11) ∧ w'.cell? ⟨w.heap.size + 1, 2, none⟩ = some (.int .i64 x12) ∧ w'.cell? ⟨w.heap.size + 1, 3, none⟩ = some (.int .i64 x13) ∧ w'.cell? ⟨w.heap.size + 1, 4, none⟩ = some (.bool x14) ∧ w'.cell? ⟨w.heap.size + 1, 5, none⟩ = some (.slice ax15 x15.length px15)) (go_keep) (first
        | (go_at_call 47; refine (toReq [.bool x10, .int .i64 x11, .int .i64 x12, .int .i64 x13, .bool x14, .slice ax15 x15.length px15] (x10, x11, x12, x13, x14, x15) _ hs1.out (reqK.rd_drew HrA.out)).mono ?_; rintro e y13 ⟨us, he, hc, hb1⟩; obtain ⟨eax15, epx15, rfl, _⟩ := req_form (reqK.cap_rd hc); obtain rfl : e = .returned (.agg #[.bool x10, .int .i64 x11, .int .i64 x12, .int .i64 x13, .bool x14, .slice eax15 x15.length epx15]) := he; have hk : ∀ i, y13.cell? ⟨y6.heap.size, i, none⟩ = y12.cell? ⟨y6.heap.size, i, none⟩ := fun i => hb1.cell (p := ⟨y6.heap.size, i, none⟩) (ltX); have hk' : ∀ i, y13.cell? ⟨w.heap.size + 1, i, none⟩ = y12.cell? ⟨w.heap.size + 1, i, none⟩ := fun i => hb1.cell (p := ⟨w.heap.size + 1, i, none⟩) (ltA))
        | (go_at_call 48; refine (eqReq [.bool x10, .int .i64 x11, .int .i64 x12, .int .i64 x13, .bool x14, .slice cax15 x15.length cpx15] [.bool x10, .int .i64 x11, .int .i64 x12, .int .i64 x13, .bool x14, .slice eax15 x15.length epx15] (x10, x11, x12, x13, x14, x15) _ hs1.out (reqK.rd_later (reqK.rd_drew HrX.out) hb1) (reqK.cap_rd hc)).mono ?_; rintro e y14 ⟨rfl, hb2⟩; have hk2 : ∀ i, y14.cell? ⟨y6.heap.size, i, none⟩ = y13.cell? ⟨y6.heap.size, i, none⟩ := fun i => hb2.cell (p := ⟨y6.heap.size, i, none⟩) (Nat.lt_of_lt_of_le ltX hb1.size); have hk2' : ∀ i, y14.cell? ⟨w.heap.size + 1, i, none⟩ = y13.cell? ⟨w.heap.size + 1, i, none⟩ := fun i => hb2.cell (p := ⟨w.heap.size + 1, i, none⟩) (Nat.lt_of_lt_of_le ltA hb1.size)))
      have hb := ((Below.refl y12.heap.size y12).drew.trans hb1).trans (hb2.mono hb1.size)
      clear hk hk' hk2 hk2' ltX ltA HrA HrX gBX1_0 gBX1_1 gBX1_2 gBX1_3 gBX1_4 gBX1_5 gA1_0 gA1_1 gA1_2 gA1_3 gA1_4 gA1_5
      have CA_13 := CA_12
      have X0_13 := X0_12
      have BX0_13 := BX0_12
      have X1_13 := X1_12
      have BX1_13 := BX1_12
      have G_13 := G_12
      have BG_13 := BG_12
      clear CA_12 X0_12 BX0_12 X1_12 BX1_12 G_12 BG_12
      have CA_14 := Lib.hid (CA_13.out.trans (hb.mono CA_13.out.size))
      have X0_14 := Lib.hid (mstK.cap_later X0_13.out hb)
      have BX0_14 := Lib.hid (BX0_13.out.later hb)
      have X1_14 := Lib.hid (reqK.cap_later X1_13.out hb)
      have BX1_14 := Lib.hid (BX1_13.out.later hb)
      have G_14 := Lib.hid (mstK.cap_later G_13.out hb)
      have BG_14 := Lib.hid (BG_13.out.later hb)
      clear CA_13 X0_13 BX0_13 X1_13 BX1_13 G_13 BG_13
      clear hb hb1 hb2 hc
      have gBX0_0 := BX0_14.out.cell 0 (.slice cax00 x00.length cpx00) rfl
      have gBX0_1 := BX0_14.out.cell 1 (.int .i64 x01) rfl
      have gBX0_2 := BX0_14.out.cell 2 (.int .i64 x02) rfl
      have gBX0_3 := BX0_14.out.cell 3 (.int .i64 x03) rfl
      have gBX0_4 := BX0_14.out.cell 4 (.bool x04) rfl
      have gBX0_5 := BX0_14.out.cell 5 (.bool x05) rfl
      go_wp2_with fail
      clear gBX0_0 gBX0_1 gBX0_2 gBX0_3 gBX0_4 gBX0_5
      refine (markMst _ [.slice cax00 x00.length cpx00, .int .i64 x01, .int .i64 x02, .int .i64 x03, .bool x04, .bool x05] (x00, x01, x02, x03, x04, x05) 1 _ hs0.out (by omega) hkl0.out X0_14.out).mono ?_
      rintro e y15 ⟨rfl, hc, ht⟩
      rw [Hk0.out]
      have CA_15 := Lib.hid (CA_14.out.trans (ht.below CA_14.out.size (fun k hk => by have h1 := hk.1; have e0 := Zt0.out; have e1 := Z5.out; have e2 := Zt1.out; have e3 := Z7.out; have e4 := Zg.out; omega)))
      have X1_15 := Lib.hid (reqK.cap_turn X1_14.out ht (fun k _ hg hx => by have h1 := hg.1; have h2 := hx.2; have e0 := Zt0.out; have e1 := Z5.out; have e2 := Zt1.out; have e3 := Z7.out; have e4 := Zg.out; omega))
      have BX1_15 : Hid (Bx 35 y6.heap.size #[.bool x10, .int .i64 x11, .int .i64 x12, .int .i64 x13, .bool x14, .slice cax15 x15.length cpx15] y15) := Lib.hid ((ht.block _ BX1_14.out.lt (fun hx => by have h2 := hx.2; have e0 := Zt0.out; have e1 := Z5.out; have e2 := Zt1.out; have e3 := Z7.out; have e4 := Zg.out; omega)).trans BX1_14.out)
      have G_15 := Lib.hid (mstK.cap_turn G_14.out ht (fun k _ hg hx => by have h1 := hg.1; have h2 := hx.2; have e0 := Zt0.out; have e1 := Z5.out; have e2 := Zt1.out; have e3 := Z7.out; have e4 := Zg.out; omega))
      have BG_15 : Hid (Bx 26 y8.heap.size #[.slice gaz0 z0.length gpz0, .int .i64 z1, .int .i64 z2, .int .i64 z3, .bool z4, .bool z5] y15) := Lib.hid ((ht.block _ BG_14.out.lt (fun hx => by have h2 := hx.2; have e0 := Zt0.out; have e1 := Z5.out; have e2 := Zt1.out; have e3 := Z7.out; have e4 := Zg.out; omega)).trans BG_14.out)
      clear hc ht CA_14 X0_14 BX0_14 X1_14 BX1_14 G_14 BG_14
      have gBX1_0 := BX1_15.out.cell 0 (.bool x10) rfl
      have gBX1_1 := BX1_15.out.cell 1 (.int .i64 x11) rfl
      have gBX1_2 := BX1_15.out.cell 2 (.int .i64 x12) rfl
      have gBX1_3 := BX1_15.out.cell 3 (.int .i64 x13) rfl
      have gBX1_4 := BX1_15.out.cell 4 (.bool x14) rfl
      have gBX1_5 := BX1_15.out.cell 5 (.slice cax15 x15.length cpx15) rfl
      go_wp2_with fail
      clear gBX1_0 gBX1_1 gBX1_2 gBX1_3 gBX1_4 gBX1_5
      refine (markReq _ [.bool x10, .int .i64 x11, .int .i64 x12, .int .i64 x13, .bool x14, .slice cax15 x15.length cpx15] (x10, x11, x12, x13, x14, x15) k0 _ hs1.out (by omega) hkl1.out X1_15.out).mono ?_
      rintro e y16 ⟨rfl, hc, ht⟩
      rw [Hk1.out]
      have CA_16 := Lib.hid (CA_15.out.trans (ht.below CA_15.out.size (fun k hk => by have h1 := hk.1; have e0 := Zt0.out; have e1 := Z5.out; have e2 := Zt1.out; have e3 := Z7.out; have e4 := Zg.out; omega)))
      have G_16 := Lib.hid (mstK.cap_turn G_15.out ht (fun k _ hg hx => by have h1 := hg.1; have h2 := hx.2; have e0 := Zt0.out; have e1 := Z5.out; have e2 := Zt1.out; have e3 := Z7.out; have e4 := Zg.out; omega))
      have BG_16 : Hid (Bx 26 y8.heap.size #[.slice gaz0 z0.length gpz0, .int .i64 z1, .int .i64 z2, .int .i64 z3, .bool z4, .bool z5] y16) := Lib.hid ((ht.block _ BG_15.out.lt (fun hx => by have h2 := hx.2; have e0 := Zt0.out; have e1 := Z5.out; have e2 := Zt1.out; have e3 := Z7.out; have e4 := Zg.out; omega)).trans BG_15.out)
      clear hc ht CA_15 X1_15 BX1_15 G_15 BG_15
      have gBW_0 := (BW_3.out.later CA_16.out).cell 0 (.slice waz0 z0.length wpz0) rfl
      have gBW_1 := (BW_3.out.later CA_16.out).cell 1 (.int .i64 z1) rfl
      have gBW_2 := (BW_3.out.later CA_16.out).cell 2 (.int .i64 z2) rfl
      have gBW_3 := (BW_3.out.later CA_16.out).cell 3 (.int .i64 z3) rfl
      have gBW_4 := (BW_3.out.later CA_16.out).cell 4 (.bool z4) rfl
      have gBW_5 := (BW_3.out.later CA_16.out).cell 5 (.bool z5) rfl
      have gBG_0 := BG_16.out.cell 0 (.slice gaz0 z0.length gpz0) rfl
      have gBG_1 := BG_16.out.cell 1 (.int .i64 z1) rfl
      have gBG_2 := BG_16.out.cell 2 (.int .i64 z2) rfl
      have gBG_3 := BG_16.out.cell 3 (.int .i64 z3) rfl
      have gBG_4 := BG_16.out.cell 4 (.bool z4) rfl
      have gBG_5 := BG_16.out.cell 5 (.bool z5) rfl
      go_wp2_with fail
      clear gBW_0 gBW_1 gBW_2 gBW_3 gBW_4 gBW_5 gBG_0 gBG_1 gBG_2 gBG_3 gBG_4 gBG_5
      refine (eqMst [.slice gaz0 z0.length gpz0, .int .i64 z1, .int .i64 z2, .int .i64 z3, .bool z4, .bool z5] [.slice waz0 z0.length wpz0, .int .i64 z1, .int .i64 z2, .int .i64 z3, .bool z4, .bool z5] (z0, z1, z2, z3, z4, z5) _ hz.out (mstK.cap_rd G_16.out) (mstK.rd_later RW_3.out CA_16.out)).mono ?_
      rintro e y17 ⟨rfl, hb⟩
      have CA_17 := Lib.hid (CA_16.out.trans (hb.mono CA_16.out.size))
      have G_17 := Lib.hid (mstK.cap_later G_16.out hb)
      have BG_17 := Lib.hid (BG_16.out.later hb)
      clear CA_16 G_16 BG_16
      clear hb
      have gBG_0 := BG_17.out.cell 0 (.slice gaz0 z0.length gpz0) rfl
      have gBG_1 := BG_17.out.cell 1 (.int .i64 z1) rfl
      have gBG_2 := BG_17.out.cell 2 (.int .i64 z2) rfl
      have gBG_3 := BG_17.out.cell 3 (.int .i64 z3) rfl
      have gBG_4 := BG_17.out.cell 4 (.bool z4) rfl
      have gBG_5 := BG_17.out.cell 5 (.bool z5) rfl
      go_wp2_with fail
      clear gBG_0 gBG_1 gBG_2 gBG_3 gBG_4 gBG_5
      refine (markMst _ [.slice gaz0 z0.length gpz0, .int .i64 z1, .int .i64 z2, .int .i64 z3, .bool z4, .bool z5] (z0, z1, z2, z3, z4, z5) 1 _ hz.out (by omega) hQl.out G_17.out).mono ?_
      rintro e y18 ⟨rfl, hc, ht⟩
      rw [HQ.out]
      have CA_18 := Lib.hid (CA_17.out.trans (ht.below CA_17.out.size (fun k hk => Nat.le_trans ZG.out hk.1)))
      have G_18 := Lib.hid (hc)
      have BG_18 : Hid (Bx 26 y8.heap.size #[.slice gaz0 z0.length gpz0, .int .i64 z1, .int .i64 z2, .int .i64 z3, .bool z4, .bool z5] y18) := Lib.hid ((ht.block _ BG_17.out.lt (fun hx => by have h2 := hx.2; omega)).trans BG_17.out)
      clear hc ht CA_17 G_17 BG_17
      have gBG_0 := BG_18.out.cell 0 (.slice gaz0 z0.length gpz0) rfl
      have gBG_1 := BG_18.out.cell 1 (.int .i64 z1) rfl
      have gBG_2 := BG_18.out.cell 2 (.int .i64 z2) rfl
      have gBG_3 := BG_18.out.cell 3 (.int .i64 z3) rfl
      have gBG_4 := BG_18.out.cell 4 (.bool z4) rfl
      have gBG_5 := BG_18.out.cell 5 (.bool z5) rfl
      go_wp2_with fail
      clear gBG_0 gBG_1 gBG_2 gBG_3 gBG_4 gBG_5
      refine (heldMst [.slice gaz0 z0.length gpz0, .int .i64 z1, .int .i64 z2, .int .i64 z3, .bool z4, .bool z5] (z0, z1, z2, z3, z4, z5) 1 _ hz.out (by omega) hQl.out (mstK.cap_rd G_18.out)).mono ?_
      rintro e y19 ⟨rfl, hb⟩
      rw [HQ.out]
      have CA_19 := Lib.hid (CA_18.out.trans (hb.mono CA_18.out.size))
      have G_19 := Lib.hid (mstK.cap_later G_18.out hb)
      have BG_19 := Lib.hid (BG_18.out.later hb)
      clear CA_18 G_18 BG_18
      clear hb
      have gA0_0 := (A0_3.out.later CA_19.out).cell 0 (.slice ax00 x00.length px00) rfl
      have gA0_1 := (A0_3.out.later CA_19.out).cell 1 (.int .i64 x01) rfl
      have gA0_2 := (A0_3.out.later CA_19.out).cell 2 (.int .i64 x02) rfl
      have gA0_3 := (A0_3.out.later CA_19.out).cell 3 (.int .i64 x03) rfl
      have gA0_4 := (A0_3.out.later CA_19.out).cell 4 (.bool x04) rfl
      have gA0_5 := (A0_3.out.later CA_19.out).cell 5 (.bool x05) rfl
      have gA1_0 := (A1_3.out.later CA_19.out).cell 0 (.bool x10) rfl
      have gA1_1 := (A1_3.out.later CA_19.out).cell 1 (.int .i64 x11) rfl
      have gA1_2 := (A1_3.out.later CA_19.out).cell 2 (.int .i64 x12) rfl
      have gA1_3 := (A1_3.out.later CA_19.out).cell 3 (.int .i64 x13) rfl
      have gA1_4 := (A1_3.out.later CA_19.out).cell 4 (.bool x14) rfl
      have gA1_5 := (A1_3.out.later CA_19.out).cell 5 (.slice ax15 x15.length px15) rfl
      have ltA0 := (A0_3.out.later CA_19.out).lt
      have ltA1 := (A1_3.out.later CA_19.out).lt
      go_upto_region 31 with fail
      go_cut [15, 16] from 94 to 101 (fun s15 s16 wx => ∃ b : Nat, ∃ (haz0 : Option Addr) (hpz0 : Nat), s15 = .pointer (some ⟨b, 0, none⟩) ∧ s16 = .bool N0 ∧ Bx 26 b #[.slice haz0 z0.length hpz0, .int .i64 z1, .int .i64 z2, .int .i64 z3, .bool z4, .bool z5] wx ∧ mstK.rd [.slice haz0 z0.length hpz0, .int .i64 z1, .int .i64 z2, .int .i64 z3, .bool z4, .bool z5] (z0, z1, z2, z3, z4, z5) wx ∧ Below y19.heap.size y19 wx)
      case first =>
        have Hr0 := Lib.hid (mstK.rd_later HR0.out (HB_3.out.trans (CA_19.out.mono HB_3.out.size)))
        have Hr1 := Lib.hid (reqK.rd_later HR1.out (HB_3.out.trans (CA_19.out.mono HB_3.out.size)))
        go_region_held3 (fun w' => w'.cell? ⟨w.heap.size, 0, none⟩ = some (.slice ax00 x00.length px00) ∧ w'.cell? ⟨w.heap.size, 1, none⟩ = some (.int .i64 x01) ∧ w'.cell? ⟨w.heap.size, 2, none⟩ = some (.int .i64 x02) ∧ w'.cell? ⟨w.heap.size, 3, none⟩ = some (.int .i64 x03) ∧ w'.cell? ⟨w.heap.size, 4, none⟩ = some (.bool x04) ∧ w'.cell? ⟨w.heap.size, 5, none⟩ = some (.bool x05) ∧ w'.cell? ⟨w.heap.size + 1, 0, none⟩ = some (.bool x10) ∧ w'.cell? ⟨w.heap.size + 1, 1, none⟩ = some (.int .i64 x11) ∧ w'.cell? ⟨w.heap.size + 1, 2, none⟩ = some (.int .i64 x12) ∧ w'.cell? ⟨w.heap.size + 1, 3, none⟩ = some (.int .i64 x13) ∧ w'.cell? ⟨w.heap.size + 1, 4, none⟩ = some (.bool x14) ∧ w'.cell? ⟨w.heap.size + 1, 5, none⟩ = some (.slice ax15 x15.length px15)) (go_keep) (first
          | (go_at_call 26; (first | (have ltB := alB.lt) | skip); refine (implPost [.slice hs0ax00 x00.length hs0px00, .int .i64 x01, .int .i64 x02, .int .i64 x03, .bool x04, .bool x05] [.bool x10, .int .i64 x11, .int .i64 x12, .int .i64 x13, .bool x14, .slice hs1ax15 x15.length hs1px15] x00 x01 x02 x03 x04 x05 x10 x11 x12 x13 x14 x15 hs0.out hs1.out _ ((by first | exact (mstK.rd_later (mstK.cap_rd hcq0) hbq1) | exact mstK.rd_later (mstK.rd_later (mstK.cap_rd hcq0) hbq1) ((Below.refl _ _).alloc (Nat.le_refl _) _))) ((by first | exact (reqK.cap_rd hcq1) | exact reqK.rd_later (reqK.cap_rd hcq1) ((Below.refl _ _).alloc (Nat.le_refl _) _)))).mono ?_; rw [HD.out]; rintro e y22 ⟨us, he, hcq2, hb0⟩; obtain ⟨haz0, hpz0, rfl, _⟩ := mst_form (mstK.cap_rd hcq2); obtain rfl : e = .returned (.tuple #[.agg #[.slice haz0 z0.length hpz0, .int .i64 z1, .int .i64 z2, .int .i64 z3, .bool z4, .bool z5], .bool N0]) := he; (first | (have hbq2 : Below y21.heap.size y21 y22 := hb0; clear hb0; (first | (have alN := Bx.later alB (hbq2); clear alB; have alB := alN; clear alN; have al0 := alB.cell 0 _ rfl; have aw0 := alB.warm 0; have al1 := alB.cell 1 _ rfl; have aw1 := alB.warm 1; have al2 := alB.cell 2 _ rfl; have aw2 := alB.warm 2; have al3 := alB.cell 3 _ rfl; have aw3 := alB.warm 3; have al4 := alB.cell 4 _ rfl; have aw4 := alB.warm 4; have al5 := alB.cell 5 _ rfl; have aw5 := alB.warm 5) | skip)) | (have alB : Bx 26 y21.heap.size #[.slice none 0 0, .int .i64 0, .int .i64 0, .int .i64 0, .bool false, .bool false] y22 := (Bx.new 26 #[.slice none 0 0, .int .i64 0, .int .i64 0, .int .i64 0, .bool false, .bool false] y21).later hb0; have hbq2 : Below y21.heap.size y21 y22 := ((Below.refl _ _).alloc (Nat.le_refl _) _).trans (hb0.mono (by simp)); clear hb0; have neA0 : ¬ (w.heap.size = y21.heap.size) := Nat.ne_of_lt (Nat.lt_of_lt_of_le ltA0 (Nat.le_trans hbq0.size hbq1.size)); have neA0' : ¬ (y21.heap.size = w.heap.size) := fun h => neA0 h.symm; have neA1 : ¬ (w.heap.size + 1 = y21.heap.size) := Nat.ne_of_lt (Nat.lt_of_lt_of_le ltA1 (Nat.le_trans hbq0.size hbq1.size)); have neA1' : ¬ (y21.heap.size = w.heap.size + 1) := fun h => neA1 h.symm; have al0 := alB.cell 0 _ rfl; have aw0 := alB.warm 0; have al1 := alB.cell 1 _ rfl; have aw1 := alB.warm 1; have al2 := alB.cell 2 _ rfl; have aw2 := alB.warm 2; have al3 := alB.cell 3 _ rfl; have aw3 := alB.warm 3; have al4 := alB.cell 4 _ rfl; have aw4 := alB.warm 4; have al5 := alB.cell 5 _ rfl; have aw5 := alB.warm 5)); have hk2A0 : ∀ i, y22.cell? ⟨w.heap.size, i, none⟩ = y21.cell? ⟨w.heap.size, i, none⟩ := fun i => hbq2.cell (p := ⟨w.heap.size, i, none⟩) (Nat.lt_of_lt_of_le ltA0 (Nat.le_trans hbq0.size hbq1.size)); have hk2A1 : ∀ i, y22.cell? ⟨w.heap.size + 1, i, none⟩ = y21.cell? ⟨w.heap.size + 1, i, none⟩ := fun i => hbq2.cell (p := ⟨w.heap.size + 1, i, none⟩) (Nat.lt_of_lt_of_le ltA1 (Nat.le_trans hbq0.size hbq1.size)))
          | (go_at_call 47; have hz_ := hbq0; clear hz_; refine (toReq [.bool x10, .int .i64 x11, .int .i64 x12, .int .i64 x13, .bool x14, .slice ax15 x15.length px15] (x10, x11, x12, x13, x14, x15) _ hs1.out (by first | exact (reqK.rd_later (reqK.rd_drew Hr1.out) hbq0) | exact reqK.rd_later (reqK.rd_later (reqK.rd_drew Hr1.out) hbq0) ((Below.refl _ _).alloc (Nat.le_refl _) _))).mono ?_; rintro e y21 ⟨us, he, hcq1, hb0⟩; obtain ⟨hs1ax15, hs1px15, rfl, _⟩ := req_form (reqK.cap_rd hcq1); obtain rfl : e = .returned (.agg #[.bool x10, .int .i64 x11, .int .i64 x12, .int .i64 x13, .bool x14, .slice hs1ax15 x15.length hs1px15]) := he; (first | (have hbq1 : Below y20.heap.size y20 y21 := hb0; clear hb0; (first | (have alN := Bx.later alB (hbq1); clear alB; have alB := alN; clear alN; skip) | skip)) | (have alB : Bx 26 y20.heap.size #[.slice none 0 0, .int .i64 0, .int .i64 0, .int .i64 0, .bool false, .bool false] y21 := (Bx.new 26 #[.slice none 0 0, .int .i64 0, .int .i64 0, .int .i64 0, .bool false, .bool false] y20).later hb0; have hbq1 : Below y20.heap.size y20 y21 := ((Below.refl _ _).alloc (Nat.le_refl _) _).trans (hb0.mono (by simp)); clear hb0; have neA0 : ¬ (w.heap.size = y20.heap.size) := Nat.ne_of_lt (Nat.lt_of_lt_of_le ltA0 (hbq0.size)); have neA0' : ¬ (y20.heap.size = w.heap.size) := fun h => neA0 h.symm; have neA1 : ¬ (w.heap.size + 1 = y20.heap.size) := Nat.ne_of_lt (Nat.lt_of_lt_of_le ltA1 (hbq0.size)); have neA1' : ¬ (y20.heap.size = w.heap.size + 1) := fun h => neA1 h.symm; skip)); have hk1A0 : ∀ i, y21.cell? ⟨w.heap.size, i, none⟩ = y20.cell? ⟨w.heap.size, i, none⟩ := fun i => hbq1.cell (p := ⟨w.heap.size, i, none⟩) (Nat.lt_of_lt_of_le ltA0 (hbq0.size)); have hk1A1 : ∀ i, y21.cell? ⟨w.heap.size + 1, i, none⟩ = y20.cell? ⟨w.heap.size + 1, i, none⟩ := fun i => hbq1.cell (p := ⟨w.heap.size + 1, i, none⟩) (Nat.lt_of_lt_of_le ltA1 (hbq0.size)))
          | (go_at_call 41; refine (toMst [.slice ax00 x00.length px00, .int .i64 x01, .int .i64 x02, .int .i64 x03, .bool x04, .bool x05] (x00, x01, x02, x03, x04, x05) _ hs0.out (by first | exact (mstK.rd_drew Hr0.out) | exact mstK.rd_later (mstK.rd_drew Hr0.out) ((Below.refl _ _).alloc (Nat.le_refl _) _))).mono ?_; rintro e y20 ⟨us, he, hcq0, hb0⟩; obtain ⟨hs0ax00, hs0px00, rfl, _⟩ := mst_form (mstK.cap_rd hcq0); obtain rfl : e = .returned (.agg #[.slice hs0ax00 x00.length hs0px00, .int .i64 x01, .int .i64 x02, .int .i64 x03, .bool x04, .bool x05]) := he; (first | (have hbq0 : Below y19.drew.heap.size y19.drew y20 := hb0; clear hb0; (first | (have alN := Bx.later alB (hbq0); clear alB; have alB := alN; clear alN; skip) | skip)) | (have alB : Bx 26 y19.heap.size #[.slice none 0 0, .int .i64 0, .int .i64 0, .int .i64 0, .bool false, .bool false] y20 := (Bx.new 26 #[.slice none 0 0, .int .i64 0, .int .i64 0, .int .i64 0, .bool false, .bool false] y19.drew).later hb0; have hbq0 : Below y19.drew.heap.size y19.drew y20 := ((Below.refl _ _).alloc (Nat.le_refl _) _).trans (hb0.mono (by simp)); clear hb0; have neA0 : ¬ (w.heap.size = y19.heap.size) := Nat.ne_of_lt (ltA0); have neA0' : ¬ (y19.heap.size = w.heap.size) := fun h => neA0 h.symm; have neA1 : ¬ (w.heap.size + 1 = y19.heap.size) := Nat.ne_of_lt (ltA1); have neA1' : ¬ (y19.heap.size = w.heap.size + 1) := fun h => neA1 h.symm; skip)); have hk0A0 : ∀ i, y20.cell? ⟨w.heap.size, i, none⟩ = y19.cell? ⟨w.heap.size, i, none⟩ := fun i => hbq0.cell (p := ⟨w.heap.size, i, none⟩) (ltA0); have hk0A1 : ∀ i, y20.cell? ⟨w.heap.size + 1, i, none⟩ = y19.cell? ⟨w.heap.size + 1, i, none⟩ := fun i => hbq0.cell (p := ⟨w.heap.size + 1, i, none⟩) (ltA1)))
        all_goals
          have hb := (Below.refl y19.heap.size y19).drew.trans hbq0
          have hb' := hb.trans (hbq1.mono hb.size)
          clear hb
          have hb := hb'
          clear hb'
          have hb' := hb.trans (hbq2.mono hb.size)
          clear hb
          have hb := hb'
          clear hb'
          go_wp2_with fail
          go_meet
          first
            | (have h9 := end_mem6 alB hb (by first | exact Nat.le_refl _ | exact hbq0.size | exact Nat.le_trans (hbq0.size) hbq1.size) hcq2 (by first | exact Nat.not_le_of_lt ltB | exact not_le_alloc _ _); refine ⟨_, haz0, hpz0, rfl, rfl, ?_⟩; exact h9)
            | exact ⟨_, haz0, hpz0, rfl, rfl, Bx.new _ _ _, mstK.rd_alloc (mstK.cap_rd hcq2) _, hb.alloc hb.size _⟩
            | trace_state
      case rest =>
      obtain ⟨bh, haz0, hpz0, rfl, rfl, hX, hr, hb⟩ := hcut
      clear ltA0 ltA1 gA0_0 gA0_1 gA0_2 gA0_3 gA0_4 gA0_5 gA1_0 gA1_1 gA1_2 gA1_3 gA1_4 gA1_5
      generalize wc = y20 at hX hr hb ⊢
      have CA_20 := Lib.hid (CA_19.out.trans (hb.mono CA_19.out.size))
      have G_20 := Lib.hid (mstK.cap_later G_19.out hb)
      have BG_20 := Lib.hid (BG_19.out.later hb)
      have RH_20 := Lib.hid (hr)
      have BH_20 := Lib.hid (hX)
      clear CA_19 G_19 BG_19
      clear hb hX hr
      have gBW_0 := (BW_3.out.later CA_20.out).cell 0 (.slice waz0 z0.length wpz0) rfl
      have gBW_1 := (BW_3.out.later CA_20.out).cell 1 (.int .i64 z1) rfl
      have gBW_2 := (BW_3.out.later CA_20.out).cell 2 (.int .i64 z2) rfl
      have gBW_3 := (BW_3.out.later CA_20.out).cell 3 (.int .i64 z3) rfl
      have gBW_4 := (BW_3.out.later CA_20.out).cell 4 (.bool z4) rfl
      have gBW_5 := (BW_3.out.later CA_20.out).cell 5 (.bool z5) rfl
      have gBH_0 := BH_20.out.cell 0 (.slice haz0 z0.length hpz0) rfl
      have gBH_1 := BH_20.out.cell 1 (.int .i64 z1) rfl
      have gBH_2 := BH_20.out.cell 2 (.int .i64 z2) rfl
      have gBH_3 := BH_20.out.cell 3 (.int .i64 z3) rfl
      have gBH_4 := BH_20.out.cell 4 (.bool z4) rfl
      have gBH_5 := BH_20.out.cell 5 (.bool z5) rfl
      go_wp2_with fail
      clear gBW_0 gBW_1 gBW_2 gBW_3 gBW_4 gBW_5 gBH_0 gBH_1 gBH_2 gBH_3 gBH_4 gBH_5
      refine (eqMst [.slice haz0 z0.length hpz0, .int .i64 z1, .int .i64 z2, .int .i64 z3, .bool z4, .bool z5] [.slice waz0 z0.length wpz0, .int .i64 z1, .int .i64 z2, .int .i64 z3, .bool z4, .bool z5] (z0, z1, z2, z3, z4, z5) _ hz.out RH_20.out (mstK.rd_later RW_3.out CA_20.out)).mono ?_
      rintro e y21 ⟨rfl, hb⟩
      have CA_21 := Lib.hid (CA_20.out.trans (hb.mono CA_20.out.size))
      have G_21 := Lib.hid (mstK.cap_later G_20.out hb)
      have BG_21 := Lib.hid (BG_20.out.later hb)
      have RH_21 := Lib.hid (mstK.rd_later RH_20.out hb)
      have BH_21 := Lib.hid (BH_20.out.later hb)
      clear CA_20 G_20 BG_20 RH_20 BH_20
      clear hb
      have gBG_0 := BG_21.out.cell 0 (.slice gaz0 z0.length gpz0) rfl
      have gBG_1 := BG_21.out.cell 1 (.int .i64 z1) rfl
      have gBG_2 := BG_21.out.cell 2 (.int .i64 z2) rfl
      have gBG_3 := BG_21.out.cell 3 (.int .i64 z3) rfl
      have gBG_4 := BG_21.out.cell 4 (.bool z4) rfl
      have gBG_5 := BG_21.out.cell 5 (.bool z5) rfl
      go_wp2_with fail
      clear gBG_0 gBG_1 gBG_2 gBG_3 gBG_4 gBG_5
      refine (heldMst [.slice gaz0 z0.length gpz0, .int .i64 z1, .int .i64 z2, .int .i64 z3, .bool z4, .bool z5] (z0, z1, z2, z3, z4, z5) 1 _ hz.out (by omega) hQl.out (mstK.cap_rd G_21.out)).mono ?_
      rintro e y22 ⟨rfl, hb⟩
      rw [HQ.out]
      have CA_22 := Lib.hid (CA_21.out.trans (hb.mono CA_21.out.size))
      have G_22 := Lib.hid (mstK.cap_later G_21.out hb)
      have BG_22 := Lib.hid (BG_21.out.later hb)
      have RH_22 := Lib.hid (mstK.rd_later RH_21.out hb)
      have BH_22 := Lib.hid (BH_21.out.later hb)
      clear CA_21 G_21 BG_21 RH_21 BH_21
      clear hb
      go_wp2
      go_ret
      exact ⟨rfl, (HB_3.out.trans (CA_22.out.mono HB_3.out.size))⟩

set_option maxRecDepth 100000 in
set_option maxRecDepth 100000 in
theorem lifted (os : Os) (started : os.Started) (H : Type) (enc : TypeId × Value → H) :
    ReturnsInHanded {} Try.checked os 7 .any (Rows.fnExactMstPostSpec.pre6 enc Try.prog Try.f7 Rows.fnExactMstPostRow.domain false) (Rows.fnExactMstPostSpec.post enc Try.prog Try.f7 false true false false) := by
  refine returnsInHanded_of_change (C := Try.checked) own started (by kernel_rfl) Try.func7
    (ChangeSpec.witness6 (enc := enc) (C := Try.checked) false ⟨#[], #[.agg #[.slice none 0 0, .int .i64 0, .int .i64 0, .int .i64 0, .bool false, .bool false], .agg #[.bool false, .int .i64 0, .int .i64 0, .int .i64 0, .bool false, .slice none 0 0]], []⟩ 8 (by kernel_rfl) (by kernel_rfl) (by kernel_rfl) (by kernel_rfl)) ?_
  intro W base args ds gs before hval0 hW hcnd _
  have hval : ∀ (j : Nat) t v, Try.f7.params[j]? = some t → args[j]? = some v → Value.okWide Try.prog W .any base t v := hval0
  have hW' := hW
  obtain ⟨p, q, hA0, hV, rfl, hfz, hnd⟩ := hW
  have hA : DataW.TrodAll enc Try.prog W 0 (fun _ => true) true Try.f7.params.toList args.toList ds p := hA0
  rw [Try.params7] at hA hval
  obtain ⟨v0, vs0, d0, ds0, p0, q0, hargs, rfl, rfl, h0, r0⟩ := trodAll_cons hA
  obtain ⟨v1, vs1, d1, ds1, p1, q1, rfl, rfl, rfl, h1, r1⟩ := trodAll_cons r0
  obtain ⟨rfl, rfl, rfl⟩ := trodAll_nil r1
  obtain rfl : args = #[v0, v1] := by cases args; simp_all
  obtain ⟨rfl, rfl⟩ := trodVars_none hV
  have k0 := h0
  have lt0 : ∀ x ∈ p0, x.block < W.heap.size := by obtain ⟨m, hm⟩ := k0; exact DataW.trod_lt m _ _ _ hm
  obtain ⟨u0, x0, rfl, R0⟩ := KD.open_mst (hval 0 56 v0 rfl rfl) h0
  have k1 := h1
  have lt1 : ∀ x ∈ p1, x.block < W.heap.size := by obtain ⟨m, hm⟩ := k1; exact DataW.trod_lt m _ _ _ hm
  obtain ⟨u1, x1, rfl, R1⟩ := KD.open_req (hval 1 70 v1 rfl rfl) h1
  clear hA0 hval0
  refine (walk u0 x0 u1 x1 W R0 R1).mono fun e W' ⟨he, bel⟩ => ?_
  subst he
  exact ⟨_, rfl, _, _, _, [], _, [], hW', trodAll_mk1 (shut_bool Try.underlying4 _), (trodAll_cons_mk (Below.trod laidOut (by kernel_rfl) (of_decide_eq_true (by kernel_rfl)) k0 bel lt0) (trodAll_cons_mk (Below.trod laidOut (by kernel_rfl) (of_decide_eq_true (by kernel_rfl)) k1 bel lt1) trodAll_mk0)), rfl, bel.frame _, fun h => by cases h⟩

theorem over : Rows.fnExactMstPostRow.holds Try.pinned (OpenSpec.ofChange Rows.fnExactMstPostSpec) :=
  OpenClaim.holds_of_wide 7 Try.f7 rfl rfl rfl rfl rfl rfl rfl ⟨rfl, rfl, rfl, rfl, rfl⟩ rfl rfl rfl rfl rfl (by kernel_rfl) Try.func7 (by kernel_rfl)
    (of_decide_eq_true (by kernel_rfl)) (by unfold Func.isWrapper; first | (rw [if_pos (by decide +kernel)]; kernel_rfl) | (rw [if_neg (by decide +kernel)]; exact ⟨rfl, rfl⟩))
    (fun os started H enc _ => lifted os started H enc)

theorem proved : Rows.FnExactMstPostSaid := over
#print axioms proved
end Go.Proofs.Ytijilhaoknpeeaa.fnExactMstPost
