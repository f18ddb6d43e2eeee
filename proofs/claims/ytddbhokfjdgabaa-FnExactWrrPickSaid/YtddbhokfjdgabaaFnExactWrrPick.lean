/-
  For every arbiter, every configuration and every list of truth values the program's WrrPick answers as its model does, and leaves the configuration and the list as they were. No condition.
-/
import Derived.Test.YtddbhokfjdgabaaRows
import Derived.WalkKit
import Derived.ProofKit
import Derived.OpenShut
import Derived.ShutString
import Derived.ChangeOld
import Derived.Below
import Derived.Test.YtddbhokfjdgabaaWrrI
import Derived.Test.YtddbhokfjdgabaaOConf
import Derived.Test.YtddbhokfjdgabaaOWrr
import Derived.Test.YtddbhokfjdgabaaOBools
import Derived.Deep.RegionHeld3
import Derived.Deep.Cut
import Derived.Deep.CutRange
namespace Go.Proofs.Ytddbhokfjdgabaa.fnExactWrrPick
open Go.ChangeShapes Go.WideShapes Go.ChangeAt Go.RowKit
open Go.ChangeMaps (open_string shut_string)
set_option linter.unusedVariables false

theorem own : ownKnob Try.prog.godebug = none := by kernel_rfl
theorem laidOut : laidOutB Try.prog = true := by kernel_rfl
open KD Rows3 GR Num
set_option maxHeartbeats 8000000 in
set_option maxRecDepth 100000 in
theorem walk (u0 : List Value) (x0 : Int × Int) (u1 : List Value) (x1 : List (Int × Bool × Int × Int) × Int × Int × Int × Int × Int) (u2 : List Value) (x2 : List Bool) (w : World) (R0 : KD.wrrK.rd u0 x0 w) (R1 : KD.confK.rd u1 x1 w) (R2 : KD.bools.rd u2 x2 w) :
    Calls Try.prog 5 #[.agg u0.toArray, .agg u1.toArray, KD.one u2] w fun e w' => e = .returned (.bool true) ∧ Below w.heap.size w w' := by
  obtain ⟨x00, x01⟩ := x0
  have HR0 := Lib.hid R0
  obtain rfl := wrr_form (id R0)
  clear R0
  obtain ⟨x10, x11, x12, x13, x14, x15⟩ := x1
  have HR1 := Lib.hid R1
  obtain ⟨ax10, px10, rfl, _⟩ := conf_form (id R1)
  clear R1
  have HR2 := Lib.hid R2
  obtain ⟨ax2, px2, rfl, _, _⟩ := (id R2)
  clear R2
  have hsz : ∀ (w : World) o, (w.alloc o).heap.size = w.heap.size + 1 := fun w o => by simp
  have A0 := (Bx.new 36 #[.int .i64 x00, .int .i64 x01] w).alloc (Obj.cells #[.slice ax10 x10.length px10, .int .i64 x11, .int .i64 x12, .int .i64 x13, .int .i64 x14, .int .i64 x15] 39)
  have A0_0 := Lib.hid A0
  clear A0
  have A1 := Bx.new 39 #[.slice ax10 x10.length px10, .int .i64 x11, .int .i64 x12, .int .i64 x13, .int .i64 x14, .int .i64 x15] (w.alloc (Obj.cells #[.int .i64 x00, .int .i64 x01] 36))
  rw [hsz] at A1
  have A1_0 := Lib.hid A1
  clear A1
  have HB_0 := Lib.hid (((Below.refl w.heap.size w).alloc (Nat.le_refl _) (Obj.cells #[.int .i64 x00, .int .i64 x01] 36)).alloc (by simp) (Obj.cells #[.slice ax10 x10.length px10, .int .i64 x11, .int .i64 x12, .int .i64 x13, .int .i64 x14, .int .i64 x15] 39))
  clear hsz
  show Calls _ _ #[.agg #[.int .i64 x00, .int .i64 x01], .agg #[.slice ax10 x10.length px10, .int .i64 x11, .int .i64 x12, .int .i64 x13, .int .i64 x14, .int .i64 x15], .slice ax2 x2.length px2] w _
  have hs0 : Hid (wrrK.sz (x00, x01) ≤ 2000000) := Lib.hid (of_decide_eq_true (Eq.refl true))
  by_cases cl2 : 1048576 < x2.length
  · skip
    go_enter Try.func5, Try.ntmps5
    go_wp2
    go_ret
    exact ⟨rfl, HB_0.out⟩
  have hs2 : Hid (bools.sz x2 ≤ 2000000) := Lib.hid (by rw [show bools.sz x2 = x2.length from sz_bools x2]; omega)
  obtain ⟨M0, hM0⟩ : ∃ M, szW 1048576 (confK.sz (x10, x11, x12, x13, x14, x15)) = M := ⟨_, rfl⟩
  have hb0 := szW_bd 1048576 (confK.sz (x10, x11, x12, x13, x14, x15)) (by omega)
  rw [hM0] at hb0
  obtain ⟨hb0a, hb0b⟩ := hb0
  have HM0 := Lib.hid hM0
  by_cases c0 : M0 < 0
  · clear hM0
    go_enter Try.func5, Try.ntmps5
    go_wp2_with fail
    generalize (w.alloc (Obj.cells #[.int .i64 x00, .int .i64 x01] 36)).alloc (Obj.cells #[.slice ax10 x10.length px10, .int .i64 x11, .int .i64 x12, .int .i64 x13, .int .i64 x14, .int .i64 x15] 39) = y0 at A0_0 A1_0 HB_0 ⊢
    refine (szConf [.slice ax10 x10.length px10, .int .i64 x11, .int .i64 x12, .int .i64 x13, .int .i64 x14, .int .i64 x15] (x10, x11, x12, x13, x14, x15) 1048576 _ (confK.rd_later HR1.out HB_0.out) (by omega) (by omega)).mono ?_
    rintro e y1 ⟨rfl, hb⟩
    rw [HM0.out]
    have A0_1 := Lib.hid (A0_0.out.later hb)
    have A1_1 := Lib.hid (A1_0.out.later hb)
    have HB_1 := Lib.hid (HB_0.out.trans (hb.mono HB_0.out.size))
    clear A0_0 A1_0 HB_0
    clear hb
    have gA0_0 := A0_1.out.cell 0 (.int .i64 x00) rfl
    have gA0_1 := A0_1.out.cell 1 (.int .i64 x01) rfl
    have gA1_0 := A1_1.out.cell 0 (.slice ax10 x10.length px10) rfl
    have gA1_1 := A1_1.out.cell 1 (.int .i64 x11) rfl
    have gA1_2 := A1_1.out.cell 2 (.int .i64 x12) rfl
    have gA1_3 := A1_1.out.cell 3 (.int .i64 x13) rfl
    have gA1_4 := A1_1.out.cell 4 (.int .i64 x14) rfl
    have gA1_5 := A1_1.out.cell 5 (.int .i64 x15) rfl
    go_wp2
    go_ret
    exact ⟨rfl, HB_1.out⟩
  · have hft0 := szW_fit (show ¬ szW 1048576 (confK.sz (x10, x11, x12, x13, x14, x15)) < 0 by rw [hM0]; exact c0)
    have hs1 : Hid (confK.sz (x10, x11, x12, x13, x14, x15) ≤ 2000000) := Lib.hid (by omega)
    clear hM0 hft0
    obtain ⟨D, hD⟩ : ∃ D, pickR x00 x01 (x10, x11, x12, x13, x14, x15) x2 = D := ⟨_, rfl⟩
    obtain ⟨⟨z0, z1⟩, N0⟩ := D
    have HD := Lib.hid hD
    have hz : Hid (wrrK.sz (z0, z1) ≤ 2000000) := Lib.hid (of_decide_eq_true (Eq.refl true))
    have nN0 : (N0 != N0) = false := by simp
    clear hD
    go_enter Try.func5, Try.ntmps5
    go_wp2_with fail
    generalize (w.alloc (Obj.cells #[.int .i64 x00, .int .i64 x01] 36)).alloc (Obj.cells #[.slice ax10 x10.length px10, .int .i64 x11, .int .i64 x12, .int .i64 x13, .int .i64 x14, .int .i64 x15] 39) = y0 at A0_0 A1_0 HB_0 ⊢
    refine (szConf [.slice ax10 x10.length px10, .int .i64 x11, .int .i64 x12, .int .i64 x13, .int .i64 x14, .int .i64 x15] (x10, x11, x12, x13, x14, x15) 1048576 _ (confK.rd_later HR1.out HB_0.out) (by omega) (by omega)).mono ?_
    rintro e y1 ⟨rfl, hb⟩
    rw [HM0.out]
    have A0_1 := Lib.hid (A0_0.out.later hb)
    have A1_1 := Lib.hid (A1_0.out.later hb)
    have HB_1 := Lib.hid (HB_0.out.trans (hb.mono HB_0.out.size))
    clear A0_0 A1_0 HB_0
    clear hb
    have gA0_0 := A0_1.out.cell 0 (.int .i64 x00) rfl
    have gA0_1 := A0_1.out.cell 1 (.int .i64 x01) rfl
    have gA1_0 := A1_1.out.cell 0 (.slice ax10 x10.length px10) rfl
    have gA1_1 := A1_1.out.cell 1 (.int .i64 x11) rfl
    have gA1_2 := A1_1.out.cell 2 (.int .i64 x12) rfl
    have gA1_3 := A1_1.out.cell 3 (.int .i64 x13) rfl
    have gA1_4 := A1_1.out.cell 4 (.int .i64 x14) rfl
    have gA1_5 := A1_1.out.cell 5 (.int .i64 x15) rfl
    have ltA0 := A0_1.out.lt
    have ltA1 := A1_1.out.lt
    go_upto_region 7 with fail
    go_cut [8, 9] from 22 to 31 (fun s8 s9 wx => ∃ b : Nat, s8 = .pointer (some ⟨b, 0, none⟩) ∧ s9 = .int .i64 N0 ∧ Bx 25 b #[.int .i64 z0, .int .i64 z1] wx ∧ Below y1.heap.size y1 wx)
    case first =>
      have Hr0 := Lib.hid (wrrK.rd_later HR0.out HB_1.out)
      have Hr1 := Lib.hid (confK.rd_later HR1.out HB_1.out)
      have Hr2 := Lib.hid (bools.rd_later HR2.out HB_1.out)
      go_region_held3 (fun w' => w'.cell? ⟨w.heap.size, 0, none⟩ = some (.int .i64 x00) ∧ w'.cell? ⟨w.heap.size, 1, none⟩ = some (.int .i64 x01) ∧ w'.cell? ⟨w.heap.size + 1, 0, none⟩ = some (.slice ax10 x10.length px10) ∧ w'.cell? ⟨w.heap.size + 1, 1, none⟩ = some (.int .i64 x11) ∧ w'.cell? ⟨w.heap.size + 1, 2, none⟩ = some (.int .i64 x12) ∧ w'.cell? ⟨w.heap.size + 1, 3, none⟩ = some (.int .i64 x13) ∧ w'.cell? ⟨w.heap.size + 1, 4, none⟩ = some (.int .i64 x14) ∧ w'.cell? ⟨w.heap.size + 1, 5, none⟩ = some (.int .i64 x15)) (go_keep) (first
        | (go_at_call 12; refine (specWrrPick [.int .i64 x00, .int .i64 x01] x00 x01 ((by first | exact (wrrK.rd_later (wrrK.rd_later (wrrK.cap_rd hcq0) hbq1) hbq2) | exact wrrK.rd_later (wrrK.rd_later (wrrK.rd_later (wrrK.cap_rd hcq0) hbq1) hbq2) ((Below.refl _ _).alloc (Nat.le_refl _) _))) [.slice ws2ax2 x2.length ws2px2] x2 hs2.out [.slice ws1ax10 x10.length ws1px10, .int .i64 x11, .int .i64 x12, .int .i64 x13, .int .i64 x14, .int .i64 x15] x10 x11 x12 x13 x14 x15 (conf_len hs1.out) _ ((by first | exact (confK.rd_later (confK.cap_rd hcq1) hbq2) | exact confK.rd_later (confK.rd_later (confK.cap_rd hcq1) hbq2) ((Below.refl _ _).alloc (Nat.le_refl _) _))) ((by first | exact (bools.cap_rd hcq2) | exact bools.rd_later (bools.cap_rd hcq2) ((Below.refl _ _).alloc (Nat.le_refl _) _)))).mono ?_; rw [HD.out]; rintro e y5 ⟨us, he, hcq3, hb0⟩; obtain rfl := wrr_form (wrrK.cap_rd hcq3); obtain rfl : e = .returned (.tuple #[.agg #[.int .i64 z0, .int .i64 z1], .int .i64 N0]) := he; (first | (have hbq3 : Below y4.heap.size y4 y5 := hb0; clear hb0; (first | (have alN := Bx.later alB (hbq3); clear alB; have alB := alN; clear alN; have al0 := alB.cell 0 _ rfl; have aw0 := alB.warm 0; have al1 := alB.cell 1 _ rfl; have aw1 := alB.warm 1) | skip)) | (have alB : Bx 25 y4.heap.size #[.int .i64 0, .int .i64 0] y5 := (Bx.new 25 #[.int .i64 0, .int .i64 0] y4).later hb0; have hbq3 : Below y4.heap.size y4 y5 := ((Below.refl _ _).alloc (Nat.le_refl _) _).trans (hb0.mono (by simp)); clear hb0; have neA0 : ¬ (w.heap.size = y4.heap.size) := Nat.ne_of_lt (Nat.lt_of_lt_of_le ltA0 (Nat.le_trans (Nat.le_trans hbq0.size hbq1.size) hbq2.size)); have neA0' : ¬ (y4.heap.size = w.heap.size) := fun h => neA0 h.symm; have neA1 : ¬ (w.heap.size + 1 = y4.heap.size) := Nat.ne_of_lt (Nat.lt_of_lt_of_le ltA1 (Nat.le_trans (Nat.le_trans hbq0.size hbq1.size) hbq2.size)); have neA1' : ¬ (y4.heap.size = w.heap.size + 1) := fun h => neA1 h.symm; have al0 := alB.cell 0 _ rfl; have aw0 := alB.warm 0; have al1 := alB.cell 1 _ rfl; have aw1 := alB.warm 1)); have hk3A0 : ∀ i, y5.cell? ⟨w.heap.size, i, none⟩ = y4.cell? ⟨w.heap.size, i, none⟩ := fun i => hbq3.cell (p := ⟨w.heap.size, i, none⟩) (Nat.lt_of_lt_of_le ltA0 (Nat.le_trans (Nat.le_trans hbq0.size hbq1.size) hbq2.size)); have hk3A1 : ∀ i, y5.cell? ⟨w.heap.size + 1, i, none⟩ = y4.cell? ⟨w.heap.size + 1, i, none⟩ := fun i => hbq3.cell (p := ⟨w.heap.size + 1, i, none⟩) (Nat.lt_of_lt_of_le ltA1 (Nat.le_trans (Nat.le_trans hbq0.size hbq1.size) hbq2.size)))
        | (go_at_call 20; have hz_ := hbq1; clear hz_; refine (toBoolS [.slice ax2 x2.length px2] x2 _ hs2.out (by first | exact (bools.rd_later (bools.rd_later (bools.rd_drew Hr2.out) hbq0) hbq1) | exact bools.rd_later (bools.rd_later (bools.rd_later (bools.rd_drew Hr2.out) hbq0) hbq1) ((Below.refl _ _).alloc (Nat.le_refl _) _))).mono ?_; rintro e y4 ⟨us, he, hcq2, hb0⟩; obtain ⟨ws2ax2, ws2px2, rfl, _, _⟩ := (bools.cap_rd hcq2); obtain rfl : e = .returned (.slice ws2ax2 x2.length ws2px2) := he; (first | (have hbq2 : Below y3.heap.size y3 y4 := hb0; clear hb0; (first | (have alN := Bx.later alB (hbq2); clear alB; have alB := alN; clear alN; skip) | skip)) | (have alB : Bx 25 y3.heap.size #[.int .i64 0, .int .i64 0] y4 := (Bx.new 25 #[.int .i64 0, .int .i64 0] y3).later hb0; have hbq2 : Below y3.heap.size y3 y4 := ((Below.refl _ _).alloc (Nat.le_refl _) _).trans (hb0.mono (by simp)); clear hb0; have neA0 : ¬ (w.heap.size = y3.heap.size) := Nat.ne_of_lt (Nat.lt_of_lt_of_le ltA0 (Nat.le_trans hbq0.size hbq1.size)); have neA0' : ¬ (y3.heap.size = w.heap.size) := fun h => neA0 h.symm; have neA1 : ¬ (w.heap.size + 1 = y3.heap.size) := Nat.ne_of_lt (Nat.lt_of_lt_of_le ltA1 (Nat.le_trans hbq0.size hbq1.size)); have neA1' : ¬ (y3.heap.size = w.heap.size + 1) := fun h => neA1 h.symm; skip)); have hk2A0 : ∀ i, y4.cell? ⟨w.heap.size, i, none⟩ = y3.cell? ⟨w.heap.size, i, none⟩ := fun i => hbq2.cell (p := ⟨w.heap.size, i, none⟩) (Nat.lt_of_lt_of_le ltA0 (Nat.le_trans hbq0.size hbq1.size)); have hk2A1 : ∀ i, y4.cell? ⟨w.heap.size + 1, i, none⟩ = y3.cell? ⟨w.heap.size + 1, i, none⟩ := fun i => hbq2.cell (p := ⟨w.heap.size + 1, i, none⟩) (Nat.lt_of_lt_of_le ltA1 (Nat.le_trans hbq0.size hbq1.size)))
        | (go_at_call 17; have hz_ := hbq0; clear hz_; refine (toConf [.slice ax10 x10.length px10, .int .i64 x11, .int .i64 x12, .int .i64 x13, .int .i64 x14, .int .i64 x15] (x10, x11, x12, x13, x14, x15) _ hs1.out (by first | exact (confK.rd_later (confK.rd_drew Hr1.out) hbq0) | exact confK.rd_later (confK.rd_later (confK.rd_drew Hr1.out) hbq0) ((Below.refl _ _).alloc (Nat.le_refl _) _))).mono ?_; rintro e y3 ⟨us, he, hcq1, hb0⟩; obtain ⟨ws1ax10, ws1px10, rfl, _⟩ := conf_form (confK.cap_rd hcq1); obtain rfl : e = .returned (.agg #[.slice ws1ax10 x10.length ws1px10, .int .i64 x11, .int .i64 x12, .int .i64 x13, .int .i64 x14, .int .i64 x15]) := he; (first | (have hbq1 : Below y2.heap.size y2 y3 := hb0; clear hb0; (first | (have alN := Bx.later alB (hbq1); clear alB; have alB := alN; clear alN; skip) | skip)) | (have alB : Bx 25 y2.heap.size #[.int .i64 0, .int .i64 0] y3 := (Bx.new 25 #[.int .i64 0, .int .i64 0] y2).later hb0; have hbq1 : Below y2.heap.size y2 y3 := ((Below.refl _ _).alloc (Nat.le_refl _) _).trans (hb0.mono (by simp)); clear hb0; have neA0 : ¬ (w.heap.size = y2.heap.size) := Nat.ne_of_lt (Nat.lt_of_lt_of_le ltA0 (hbq0.size)); have neA0' : ¬ (y2.heap.size = w.heap.size) := fun h => neA0 h.symm; have neA1 : ¬ (w.heap.size + 1 = y2.heap.size) := Nat.ne_of_lt (Nat.lt_of_lt_of_le ltA1 (hbq0.size)); have neA1' : ¬ (y2.heap.size = w.heap.size + 1) := fun h => neA1 h.symm; skip)); have hk1A0 : ∀ i, y3.cell? ⟨w.heap.size, i, none⟩ = y2.cell? ⟨w.heap.size, i, none⟩ := fun i => hbq1.cell (p := ⟨w.heap.size, i, none⟩) (Nat.lt_of_lt_of_le ltA0 (hbq0.size)); have hk1A1 : ∀ i, y3.cell? ⟨w.heap.size + 1, i, none⟩ = y2.cell? ⟨w.heap.size + 1, i, none⟩ := fun i => hbq1.cell (p := ⟨w.heap.size + 1, i, none⟩) (Nat.lt_of_lt_of_le ltA1 (hbq0.size)))
        | (go_at_call 16; refine (toWrr [.int .i64 x00, .int .i64 x01] (x00, x01) _ hs0.out (by first | exact (wrrK.rd_drew Hr0.out) | exact wrrK.rd_later (wrrK.rd_drew Hr0.out) ((Below.refl _ _).alloc (Nat.le_refl _) _))).mono ?_; rintro e y2 ⟨us, he, hcq0, hb0⟩; obtain rfl := wrr_form (wrrK.cap_rd hcq0); obtain rfl : e = .returned (.agg #[.int .i64 x00, .int .i64 x01]) := he; (first | (have hbq0 : Below y1.drew.heap.size y1.drew y2 := hb0; clear hb0; (first | (have alN := Bx.later alB (hbq0); clear alB; have alB := alN; clear alN; skip) | skip)) | (have alB : Bx 25 y1.heap.size #[.int .i64 0, .int .i64 0] y2 := (Bx.new 25 #[.int .i64 0, .int .i64 0] y1.drew).later hb0; have hbq0 : Below y1.drew.heap.size y1.drew y2 := ((Below.refl _ _).alloc (Nat.le_refl _) _).trans (hb0.mono (by simp)); clear hb0; have neA0 : ¬ (w.heap.size = y1.heap.size) := Nat.ne_of_lt (ltA0); have neA0' : ¬ (y1.heap.size = w.heap.size) := fun h => neA0 h.symm; have neA1 : ¬ (w.heap.size + 1 = y1.heap.size) := Nat.ne_of_lt (ltA1); have neA1' : ¬ (y1.heap.size = w.heap.size + 1) := fun h => neA1 h.symm; skip)); have hk0A0 : ∀ i, y2.cell? ⟨w.heap.size, i, none⟩ = y1.cell? ⟨w.heap.size, i, none⟩ := fun i => hbq0.cell (p := ⟨w.heap.size, i, none⟩) (ltA0); have hk0A1 : ∀ i, y2.cell? ⟨w.heap.size + 1, i, none⟩ = y1.cell? ⟨w.heap.size + 1, i, none⟩ := fun i => hbq0.cell (p := ⟨w.heap.size + 1, i, none⟩) (ltA1)))
      all_goals
        have hb := (Below.refl y1.heap.size y1).drew.trans hbq0
        have hb' := hb.trans (hbq1.mono hb.size)
        clear hb
        have hb := hb'
        clear hb'
        have hb' := hb.trans (hbq2.mono hb.size)
        clear hb
        have hb := hb'
        clear hb'
        have hb' := hb.trans (hbq3.mono hb.size)
        clear hb
        have hb := hb'
        clear hb'
        go_wp2_with fail
        go_meet
        first
          | exact ⟨_, rfl, rfl, Bx.new _ _ _, hb.alloc hb.size _⟩
          | (have hle : y1.heap.size ≤ _ := (show y1.heap.size ≤ y1.drew.heap.size from Nat.le_refl _); exact ⟨_, rfl, rfl, ((alB.set 0 (.int .i64 z0)).set 1 (.int .i64 z1)), ((hb.setCell (by first | exact hle | (dsimp only; omega)) _).setCell (by first | exact hle | (dsimp only; omega)) _)⟩)
          | (have hle : y1.heap.size ≤ y2.heap.size := (by have e0 := hbq0.size; have e0' : y1.heap.size ≤ y1.drew.heap.size := Nat.le_refl _; omega); exact ⟨_, rfl, rfl, ((alB.set 0 (.int .i64 z0)).set 1 (.int .i64 z1)), ((hb.setCell (by first | exact hle | (dsimp only; omega)) _).setCell (by first | exact hle | (dsimp only; omega)) _)⟩)
          | (have hle : y1.heap.size ≤ y3.heap.size := (by have e0 := hbq0.size; have e1 := hbq1.size; have e0' : y1.heap.size ≤ y1.drew.heap.size := Nat.le_refl _; omega); exact ⟨_, rfl, rfl, ((alB.set 0 (.int .i64 z0)).set 1 (.int .i64 z1)), ((hb.setCell (by first | exact hle | (dsimp only; omega)) _).setCell (by first | exact hle | (dsimp only; omega)) _)⟩)
          | (have hle : y1.heap.size ≤ y4.heap.size := (by have e0 := hbq0.size; have e1 := hbq1.size; have e2 := hbq2.size; have e0' : y1.heap.size ≤ y1.drew.heap.size := Nat.le_refl _; omega); exact ⟨_, rfl, rfl, ((alB.set 0 (.int .i64 z0)).set 1 (.int .i64 z1)), ((hb.setCell (by first | exact hle | (dsimp only; omega)) _).setCell (by first | exact hle | (dsimp only; omega)) _)⟩)
          | trace_state
    case rest =>
    obtain ⟨bw, rfl, rfl, hX, hb⟩ := hcut
    clear ltA0 ltA1 gA0_0 gA0_1 gA1_0 gA1_1 gA1_2 gA1_3 gA1_4 gA1_5
    generalize wc = y2 at hX hb ⊢
    have A0_2 := Lib.hid (A0_1.out.later hb)
    have A1_2 := Lib.hid (A1_1.out.later hb)
    have HB_2 := Lib.hid (HB_1.out.trans (hb.mono HB_1.out.size))
    have Rw_2 := Lib.hid (show wrrK.rd [.int .i64 z0, .int .i64 z1] (z0, z1) y2 from wrr_rd)
    have BW_2 := Lib.hid (hX)
    clear A0_1 A1_1 HB_1
    clear hb hX
    have gA0_0 := A0_2.out.cell 0 (.int .i64 x00) rfl
    have gA0_1 := A0_2.out.cell 1 (.int .i64 x01) rfl
    have gA1_0 := A1_2.out.cell 0 (.slice ax10 x10.length px10) rfl
    have gA1_1 := A1_2.out.cell 1 (.int .i64 x11) rfl
    have gA1_2 := A1_2.out.cell 2 (.int .i64 x12) rfl
    have gA1_3 := A1_2.out.cell 3 (.int .i64 x13) rfl
    have gA1_4 := A1_2.out.cell 4 (.int .i64 x14) rfl
    have gA1_5 := A1_2.out.cell 5 (.int .i64 x15) rfl
    go_wp2_with fail
    clear gA0_0 gA0_1 gA1_0 gA1_1 gA1_2 gA1_3 gA1_4 gA1_5
    refine (toConf [.slice ax10 x10.length px10, .int .i64 x11, .int .i64 x12, .int .i64 x13, .int .i64 x14, .int .i64 x15] (x10, x11, x12, x13, x14, x15) _ hs1.out (confK.rd_later HR1.out HB_2.out)).mono ?_
    rintro e y3 ⟨us, he, hc, hb⟩
    obtain ⟨cax10, cpx10, rfl, _⟩ := conf_form (confK.cap_rd hc)
    obtain rfl : e = .returned (.agg #[.slice cax10 x10.length cpx10, .int .i64 x11, .int .i64 x12, .int .i64 x13, .int .i64 x14, .int .i64 x15]) := he
    have A0_3 := Lib.hid (A0_2.out.later hb)
    have A1_3 := Lib.hid (A1_2.out.later hb)
    have HB_3 := Lib.hid (HB_2.out.trans (hb.mono HB_2.out.size))
    have Rw_3 := Lib.hid (wrrK.rd_later Rw_2.out hb)
    have BW_3 := Lib.hid (BW_2.out.later hb)
    have X1_3 := Lib.hid (confK.cap_rd hc)
    clear A0_2 A1_2 HB_2 Rw_2 BW_2
    clear hb hc
    have ab := (Below.refl y3.heap.size y3).alloc (Nat.le_refl _) (Obj.cells #[.slice cax10 x10.length cpx10, .int .i64 x11, .int .i64 x12, .int .i64 x13, .int .i64 x14, .int .i64 x15] 28)
    have Z4 := Lib.hid ab.size
    have A0_4 := Lib.hid (A0_3.out.later ab)
    have A1_4 := Lib.hid (A1_3.out.later ab)
    have HB_4 := Lib.hid (HB_3.out.trans (ab.mono HB_3.out.size))
    have Rw_4 := Lib.hid (wrrK.rd_later Rw_3.out ab)
    have BW_4 := Lib.hid (BW_3.out.later ab)
    have X1_4 := Lib.hid (confK.rd_later X1_3.out ab)
    have BX1_4 := Lib.hid (Bx.new 28 #[.slice cax10 x10.length cpx10, .int .i64 x11, .int .i64 x12, .int .i64 x13, .int .i64 x14, .int .i64 x15] y3)
    clear A0_3 A1_3 HB_3 Rw_3 BW_3 X1_3
    clear ab
    have gBX1_0 := BX1_4.out.cell 0 (.slice cax10 x10.length cpx10) rfl
    have gBX1_1 := BX1_4.out.cell 1 (.int .i64 x11) rfl
    have gBX1_2 := BX1_4.out.cell 2 (.int .i64 x12) rfl
    have gBX1_3 := BX1_4.out.cell 3 (.int .i64 x13) rfl
    have gBX1_4 := BX1_4.out.cell 4 (.int .i64 x14) rfl
    have gBX1_5 := BX1_4.out.cell 5 (.int .i64 x15) rfl
    have gA0_0 := A0_4.out.cell 0 (.int .i64 x00) rfl
    have gA0_1 := A0_4.out.cell 1 (.int .i64 x01) rfl
    have gA1_0 := A1_4.out.cell 0 (.slice ax10 x10.length px10) rfl
    have gA1_1 := A1_4.out.cell 1 (.int .i64 x11) rfl
    have gA1_2 := A1_4.out.cell 2 (.int .i64 x12) rfl
    have gA1_3 := A1_4.out.cell 3 (.int .i64 x13) rfl
    have gA1_4 := A1_4.out.cell 4 (.int .i64 x14) rfl
    have gA1_5 := A1_4.out.cell 5 (.int .i64 x15) rfl
    go_wp2_with fail
    clear gBX1_0 gBX1_1 gBX1_2 gBX1_3 gBX1_4 gBX1_5 gA0_0 gA0_1 gA1_0 gA1_1 gA1_2 gA1_3 gA1_4 gA1_5
    generalize y3.alloc (Obj.cells #[.slice cax10 x10.length cpx10, .int .i64 x11, .int .i64 x12, .int .i64 x13, .int .i64 x14, .int .i64 x15] 28) = y4 at A0_4 A1_4 HB_4 Rw_4 BW_4 X1_4 BX1_4 Z4 ⊢
    refine (toBoolS [.slice ax2 x2.length px2] x2 _ hs2.out (bools.rd_later HR2.out HB_4.out)).mono ?_
    rintro e y5 ⟨us, he, hc, hb⟩
    obtain ⟨cax2, cpx2, rfl, _, _⟩ := (bools.cap_rd hc)
    obtain rfl : e = .returned (.slice cax2 x2.length cpx2) := he
    have A0_5 := Lib.hid (A0_4.out.later hb)
    have A1_5 := Lib.hid (A1_4.out.later hb)
    have HB_5 := Lib.hid (HB_4.out.trans (hb.mono HB_4.out.size))
    have Rw_5 := Lib.hid (wrrK.rd_later Rw_4.out hb)
    have BW_5 := Lib.hid (BW_4.out.later hb)
    have X1_5 := Lib.hid (confK.rd_later X1_4.out hb)
    have BX1_5 := Lib.hid (BX1_4.out.later hb)
    have X2_5 := Lib.hid (bools.cap_rd hc)
    clear A0_4 A1_4 HB_4 Rw_4 BW_4 X1_4 BX1_4
    clear hb hc
    have gA0_0 := A0_5.out.cell 0 (.int .i64 x00) rfl
    have gA0_1 := A0_5.out.cell 1 (.int .i64 x01) rfl
    have gA1_0 := A1_5.out.cell 0 (.slice ax10 x10.length px10) rfl
    have gA1_1 := A1_5.out.cell 1 (.int .i64 x11) rfl
    have gA1_2 := A1_5.out.cell 2 (.int .i64 x12) rfl
    have gA1_3 := A1_5.out.cell 3 (.int .i64 x13) rfl
    have gA1_4 := A1_5.out.cell 4 (.int .i64 x14) rfl
    have gA1_5 := A1_5.out.cell 5 (.int .i64 x15) rfl
    clear gA0_0 gA0_1 gA1_0 gA1_1 gA1_2 gA1_3 gA1_4 gA1_5
    have gA0_0 := A0_5.out.cell 0 (.int .i64 x00) rfl
    have gA0_1 := A0_5.out.cell 1 (.int .i64 x01) rfl
    have gBX1_0 := BX1_5.out.cell 0 (.slice cax10 x10.length cpx10) rfl
    have gBX1_1 := BX1_5.out.cell 1 (.int .i64 x11) rfl
    have gBX1_2 := BX1_5.out.cell 2 (.int .i64 x12) rfl
    have gBX1_3 := BX1_5.out.cell 3 (.int .i64 x13) rfl
    have gBX1_4 := BX1_5.out.cell 4 (.int .i64 x14) rfl
    have gBX1_5 := BX1_5.out.cell 5 (.int .i64 x15) rfl
    have ltA0 := A0_5.out.lt
    have ltBX1 := BX1_5.out.lt
    go_upto_region 10 with fail
    go_cut [12, 13] from 36 to 43 (fun s12 s13 wx => ∃ b : Nat, s12 = .pointer (some ⟨b, 0, none⟩) ∧ s13 = .int .i64 N0 ∧ Bx 25 b #[.int .i64 z0, .int .i64 z1] wx ∧ Below y5.heap.size y5 wx)
    case first =>
      have Hr0 := Lib.hid (wrrK.rd_later HR0.out HB_5.out)
      have Hr1 := Lib.hid (X1_5.out)
      have Hr2 := Lib.hid (X2_5.out)
      go_region_held3 (fun w' => w'.cell? ⟨w.heap.size, 0, none⟩ = some (.int .i64 x00) ∧ w'.cell? ⟨w.heap.size, 1, none⟩ = some (.int .i64 x01) ∧ w'.cell? ⟨y3.heap.size, 0, none⟩ = some (.slice cax10 x10.length cpx10) ∧ w'.cell? ⟨y3.heap.size, 1, none⟩ = some (.int .i64 x11) ∧ w'.cell? ⟨y3.heap.size, 2, none⟩ = some (.int .i64 x12) ∧ w'.cell? ⟨y3.heap.size, 3, none⟩ = some (.int .i64 x13) ∧ w'.cell? ⟨y3.heap.size, 4, none⟩ = some (.int .i64 x14) ∧ w'.cell? ⟨y3.heap.size, 5, none⟩ = some (.int .i64 x15)) (go_keep) (first
        | (go_at_call 11; refine (implWrrPick [.int .i64 x00, .int .i64 x01] x00 x01 ((by first | exact (wrrK.cap_rd hcq0) | exact wrrK.rd_later (wrrK.cap_rd hcq0) ((Below.refl _ _).alloc (Nat.le_refl _) _))) [.slice cax2 x2.length cpx2] x2 hs2.out [.slice cax10 x10.length cpx10, .int .i64 x11, .int .i64 x12, .int .i64 x13, .int .i64 x14, .int .i64 x15] x10 x11 x12 x13 x14 x15 (conf_len hs1.out) _ ((by first | exact (confK.rd_later (confK.rd_drew Hr1.out) hbq0) | exact confK.rd_later (confK.rd_later (confK.rd_drew Hr1.out) hbq0) ((Below.refl _ _).alloc (Nat.le_refl _) _))) ((by first | exact (bools.rd_later (bools.rd_drew Hr2.out) hbq0) | exact bools.rd_later (bools.rd_later (bools.rd_drew Hr2.out) hbq0) ((Below.refl _ _).alloc (Nat.le_refl _) _)))).mono ?_; rw [HD.out]; rintro e y7 ⟨us, he, hcq1, hb0⟩; obtain rfl := wrr_form (wrrK.cap_rd hcq1); obtain rfl : e = .returned (.tuple #[.agg #[.int .i64 z0, .int .i64 z1], .int .i64 N0]) := he; (first | (have hbq1 : Below y6.heap.size y6 y7 := hb0; clear hb0; (first | (have alN := Bx.later alB (hbq1); clear alB; have alB := alN; clear alN; have al0 := alB.cell 0 _ rfl; have aw0 := alB.warm 0; have al1 := alB.cell 1 _ rfl; have aw1 := alB.warm 1) | skip)) | (have alB : Bx 25 y6.heap.size #[.int .i64 0, .int .i64 0] y7 := (Bx.new 25 #[.int .i64 0, .int .i64 0] y6).later hb0; have hbq1 : Below y6.heap.size y6 y7 := ((Below.refl _ _).alloc (Nat.le_refl _) _).trans (hb0.mono (by simp)); clear hb0; have neA0 : ¬ (w.heap.size = y6.heap.size) := Nat.ne_of_lt (Nat.lt_of_lt_of_le ltA0 (hbq0.size)); have neA0' : ¬ (y6.heap.size = w.heap.size) := fun h => neA0 h.symm; have neBX1 : ¬ (y3.heap.size = y6.heap.size) := Nat.ne_of_lt (Nat.lt_of_lt_of_le ltBX1 (hbq0.size)); have neBX1' : ¬ (y6.heap.size = y3.heap.size) := fun h => neBX1 h.symm; have al0 := alB.cell 0 _ rfl; have aw0 := alB.warm 0; have al1 := alB.cell 1 _ rfl; have aw1 := alB.warm 1)); have hk1A0 : ∀ i, y7.cell? ⟨w.heap.size, i, none⟩ = y6.cell? ⟨w.heap.size, i, none⟩ := fun i => hbq1.cell (p := ⟨w.heap.size, i, none⟩) (Nat.lt_of_lt_of_le ltA0 (hbq0.size)); have hk1BX1 : ∀ i, y7.cell? ⟨y3.heap.size, i, none⟩ = y6.cell? ⟨y3.heap.size, i, none⟩ := fun i => hbq1.cell (p := ⟨y3.heap.size, i, none⟩) (Nat.lt_of_lt_of_le ltBX1 (hbq0.size)))
        | (go_at_call 16; refine (toWrr [.int .i64 x00, .int .i64 x01] (x00, x01) _ hs0.out (by first | exact (wrrK.rd_drew Hr0.out) | exact wrrK.rd_later (wrrK.rd_drew Hr0.out) ((Below.refl _ _).alloc (Nat.le_refl _) _))).mono ?_; rintro e y6 ⟨us, he, hcq0, hb0⟩; obtain rfl := wrr_form (wrrK.cap_rd hcq0); obtain rfl : e = .returned (.agg #[.int .i64 x00, .int .i64 x01]) := he; (first | (have hbq0 : Below y5.drew.heap.size y5.drew y6 := hb0; clear hb0; (first | (have alN := Bx.later alB (hbq0); clear alB; have alB := alN; clear alN; skip) | skip)) | (have alB : Bx 25 y5.heap.size #[.int .i64 0, .int .i64 0] y6 := (Bx.new 25 #[.int .i64 0, .int .i64 0] y5.drew).later hb0; have hbq0 : Below y5.drew.heap.size y5.drew y6 := ((Below.refl _ _).alloc (Nat.le_refl _) _).trans (hb0.mono (by simp)); clear hb0; have neA0 : ¬ (w.heap.size = y5.heap.size) := Nat.ne_of_lt (ltA0); have neA0' : ¬ (y5.heap.size = w.heap.size) := fun h => neA0 h.symm; have neBX1 : ¬ (y3.heap.size = y5.heap.size) := Nat.ne_of_lt (ltBX1); have neBX1' : ¬ (y5.heap.size = y3.heap.size) := fun h => neBX1 h.symm; skip)); have hk0A0 : ∀ i, y6.cell? ⟨w.heap.size, i, none⟩ = y5.cell? ⟨w.heap.size, i, none⟩ := fun i => hbq0.cell (p := ⟨w.heap.size, i, none⟩) (ltA0); have hk0BX1 : ∀ i, y6.cell? ⟨y3.heap.size, i, none⟩ = y5.cell? ⟨y3.heap.size, i, none⟩ := fun i => hbq0.cell (p := ⟨y3.heap.size, i, none⟩) (ltBX1)))
      all_goals
        have hb := (Below.refl y5.heap.size y5).drew.trans hbq0
        have hb' := hb.trans (hbq1.mono hb.size)
        clear hb
        have hb := hb'
        clear hb'
        go_wp2_with fail
        go_meet
        first
          | exact ⟨_, rfl, rfl, Bx.new _ _ _, hb.alloc hb.size _⟩
          | (have hle : y5.heap.size ≤ _ := (show y5.heap.size ≤ y5.drew.heap.size from Nat.le_refl _); exact ⟨_, rfl, rfl, ((alB.set 0 (.int .i64 z0)).set 1 (.int .i64 z1)), ((hb.setCell (by first | exact hle | (dsimp only; omega)) _).setCell (by first | exact hle | (dsimp only; omega)) _)⟩)
          | (have hle : y5.heap.size ≤ y6.heap.size := (by have e0 := hbq0.size; have e0' : y5.heap.size ≤ y5.drew.heap.size := Nat.le_refl _; omega); exact ⟨_, rfl, rfl, ((alB.set 0 (.int .i64 z0)).set 1 (.int .i64 z1)), ((hb.setCell (by first | exact hle | (dsimp only; omega)) _).setCell (by first | exact hle | (dsimp only; omega)) _)⟩)
          | trace_state
    case rest =>
    obtain ⟨bg, rfl, rfl, hX, hb⟩ := hcut
    clear ltA0 ltBX1 gA0_0 gA0_1 gBX1_0 gBX1_1 gBX1_2 gBX1_3 gBX1_4 gBX1_5
    generalize wc = y6 at hX hb ⊢
    have A0_6 := Lib.hid (A0_5.out.later hb)
    have A1_6 := Lib.hid (A1_5.out.later hb)
    have HB_6 := Lib.hid (HB_5.out.trans (hb.mono HB_5.out.size))
    have Rw_6 := Lib.hid (wrrK.rd_later Rw_5.out hb)
    have BW_6 := Lib.hid (BW_5.out.later hb)
    have X1_6 := Lib.hid (confK.rd_later X1_5.out hb)
    have BX1_6 := Lib.hid (BX1_5.out.later hb)
    have X2_6 := Lib.hid (bools.rd_later X2_5.out hb)
    have Rg_6 := Lib.hid (show wrrK.rd [.int .i64 z0, .int .i64 z1] (z0, z1) y6 from wrr_rd)
    have BG_6 := Lib.hid (hX)
    clear A0_5 A1_5 HB_5 Rw_5 BW_5 X1_5 BX1_5 X2_5
    clear hb hX
    have gBW_0 := BW_6.out.cell 0 (.int .i64 z0) rfl
    have gBW_1 := BW_6.out.cell 1 (.int .i64 z1) rfl
    have gBG_0 := BG_6.out.cell 0 (.int .i64 z0) rfl
    have gBG_1 := BG_6.out.cell 1 (.int .i64 z1) rfl
    go_wp2_with fail
    clear gBW_0 gBW_1 gBG_0 gBG_1
    refine (eqWrr [.int .i64 z0, .int .i64 z1] [.int .i64 z0, .int .i64 z1] (z0, z1) _ hz.out Rg_6.out Rw_6.out).mono ?_
    rintro e y7 ⟨rfl, hb⟩
    have A0_7 := Lib.hid (A0_6.out.later hb)
    have A1_7 := Lib.hid (A1_6.out.later hb)
    have HB_7 := Lib.hid (HB_6.out.trans (hb.mono HB_6.out.size))
    have Rw_7 := Lib.hid (wrrK.rd_later Rw_6.out hb)
    have BW_7 := Lib.hid (BW_6.out.later hb)
    have X1_7 := Lib.hid (confK.rd_later X1_6.out hb)
    have BX1_7 := Lib.hid (BX1_6.out.later hb)
    have X2_7 := Lib.hid (bools.rd_later X2_6.out hb)
    have Rg_7 := Lib.hid (wrrK.rd_later Rg_6.out hb)
    have BG_7 := Lib.hid (BG_6.out.later hb)
    clear A0_6 A1_6 HB_6 Rw_6 BW_6 X1_6 BX1_6 X2_6 Rg_6 BG_6
    clear hb
    have gBX1_0 := BX1_7.out.cell 0 (.slice cax10 x10.length cpx10) rfl
    have gBX1_1 := BX1_7.out.cell 1 (.int .i64 x11) rfl
    have gBX1_2 := BX1_7.out.cell 2 (.int .i64 x12) rfl
    have gBX1_3 := BX1_7.out.cell 3 (.int .i64 x13) rfl
    have gBX1_4 := BX1_7.out.cell 4 (.int .i64 x14) rfl
    have gBX1_5 := BX1_7.out.cell 5 (.int .i64 x15) rfl
    have gA1_0 := A1_7.out.cell 0 (.slice ax10 x10.length px10) rfl
    have gA1_1 := A1_7.out.cell 1 (.int .i64 x11) rfl
    have gA1_2 := A1_7.out.cell 2 (.int .i64 x12) rfl
    have gA1_3 := A1_7.out.cell 3 (.int .i64 x13) rfl
    have gA1_4 := A1_7.out.cell 4 (.int .i64 x14) rfl
    have gA1_5 := A1_7.out.cell 5 (.int .i64 x15) rfl
    have ltX := BX1_7.out.lt
    have ltA := A1_7.out.lt
    go_wp2_with fail
    have HrA := Lib.hid (confK.rd_later HR1.out HB_7.out)
    have HrX := Lib.hid (X1_7.out)
    go_region_held3 (fun w' => w'.cell? ⟨y3.heap.size, 0, none⟩ = some (.slice cax10 x10.length cpx10) ∧ w'.cell? ⟨y3.heap.size, 1, none⟩ = some (.int .i64 x11) ∧ w'.cell? ⟨y3.heap.size, 2, none⟩ = some (.int .i64 x12) ∧ w'.cell? ⟨y3.heap.size, 3, none⟩ = some (.int .i64 x13) ∧ w'.cell? ⟨y3.heap.size, 4, none⟩ = some (.int .i64 x14) ∧ w'.cell? ⟨y3.heap.size, 5, none⟩ = some (.int .i64 x15) ∧ w'.cell? ⟨w.heap.size + 1, 0, none⟩ = some (.slice ax10 x10.length px10) ∧ w'.cell? ⟨w.heap.size + 1, 1, none⟩ = some (.int .i64 x11) ∧ w'.cell? ⟨w.heap.size + 1, 2, none⟩ = some (.int .i64 x12) ∧ w'.cell? ⟨w.heap.size + 1, 3, none⟩ = some (.int .i64 x13) ∧ w'.cell? ⟨w.heap.size + 1, 4, none⟩ = some (.int .i64 x14) ∧ w'.cell? ⟨w.heap.size + 1, 5, none⟩ = some (.int .i64 x15)) (go_keep) (first
      | (go_at_call 17; refine (toConf [.slice ax10 x10.length px10, .int .i64 x11, .int .i64 x12, .int .i64 x13, .int .i64 x14, .int .i64 x15] (x10, x11, x12, x13, x14, x15) _ hs1.out (confK.rd_drew HrA.out)).mono ?_; rintro e y8 ⟨us, he, hc, hb1⟩; obtain ⟨eax10, epx10, rfl, _⟩ := conf_form (confK.cap_rd hc); obtain rfl : e = .returned (.agg #[.slice eax10 x10.length epx10, .int .i64 x11, .int .i64 x12, .int .i64 x13, .int .i64 x14, .int .i64 x15]) := he; have hk : ∀ i, y8.cell? ⟨y3.heap.size, i, none⟩ = y7.cell? ⟨y3.heap.size, i, none⟩ := fun i => hb1.cell (p := ⟨y3.heap.size, i, none⟩) (ltX); have hk' : ∀ i, y8.cell? ⟨w.heap.size + 1, i, none⟩ = y7.cell? ⟨w.heap.size + 1, i, none⟩ := fun i => hb1.cell (p := ⟨w.heap.size + 1, i, none⟩) (ltA))
      | (go_at_call 19; refine (eqConf [.slice cax10 x10.length cpx10, .int .i64 x11, .int .i64 x12, .int .i64 x13, .int .i64 x14, .int .i64 x15] [.slice eax10 x10.length epx10, .int .i64 x11, .int .i64 x12, .int .i64 x13, .int .i64 x14, .int .i64 x15] (x10, x11, x12, x13, x14, x15) _ hs1.out (confK.rd_later (confK.rd_drew HrX.out) hb1) (confK.cap_rd hc)).mono ?_; rintro e y9 ⟨rfl, hb2⟩; have hk2 : ∀ i, y9.cell? ⟨y3.heap.size, i, none⟩ = y8.cell? ⟨y3.heap.size, i, none⟩ := fun i => hb2.cell (p := ⟨y3.heap.size, i, none⟩) (Nat.lt_of_lt_of_le ltX hb1.size); have hk2' : ∀ i, y9.cell? ⟨w.heap.size + 1, i, none⟩ = y8.cell? ⟨w.heap.size + 1, i, none⟩ := fun i => hb2.cell (p := ⟨w.heap.size + 1, i, none⟩) (Nat.lt_of_lt_of_le ltA hb1.size)))
    have hb := ((Below.refl y7.heap.size y7).drew.trans hb1).trans (hb2.mono hb1.size)
    clear hk hk' hk2 hk2' ltX ltA HrA HrX gBX1_0 gBX1_1 gBX1_2 gBX1_3 gBX1_4 gBX1_5 gA1_0 gA1_1 gA1_2 gA1_3 gA1_4 gA1_5
    have A0_8 := A0_7
    have A1_8 := A1_7
    have HB_8 := HB_7
    have Rw_8 := Rw_7
    have BW_8 := BW_7
    have X1_8 := X1_7
    have BX1_8 := BX1_7
    have X2_8 := X2_7
    have Rg_8 := Rg_7
    have BG_8 := BG_7
    clear A0_7 A1_7 HB_7 Rw_7 BW_7 X1_7 BX1_7 X2_7 Rg_7 BG_7
    have A0_9 := Lib.hid (A0_8.out.later hb)
    have A1_9 := Lib.hid (A1_8.out.later hb)
    have HB_9 := Lib.hid (HB_8.out.trans (hb.mono HB_8.out.size))
    have Rw_9 := Lib.hid (wrrK.rd_later Rw_8.out hb)
    have BW_9 := Lib.hid (BW_8.out.later hb)
    have X1_9 := Lib.hid (confK.rd_later X1_8.out hb)
    have BX1_9 := Lib.hid (BX1_8.out.later hb)
    have X2_9 := Lib.hid (bools.rd_later X2_8.out hb)
    have Rg_9 := Lib.hid (wrrK.rd_later Rg_8.out hb)
    have BG_9 := Lib.hid (BG_8.out.later hb)
    clear A0_8 A1_8 HB_8 Rw_8 BW_8 X1_8 BX1_8 X2_8 Rg_8 BG_8
    clear hb hb1 hb2 hc
    go_wp2_with fail
    refine (toBoolS [.slice ax2 x2.length px2] x2 _ hs2.out (bools.rd_later HR2.out HB_9.out)).mono ?_
    rintro e y10 ⟨us, he, hc, hb⟩
    obtain ⟨eax2, epx2, rfl, _, _⟩ := (bools.cap_rd hc)
    obtain rfl : e = .returned (.slice eax2 x2.length epx2) := he
    have A0_10 := Lib.hid (A0_9.out.later hb)
    have A1_10 := Lib.hid (A1_9.out.later hb)
    have HB_10 := Lib.hid (HB_9.out.trans (hb.mono HB_9.out.size))
    have Rw_10 := Lib.hid (wrrK.rd_later Rw_9.out hb)
    have BW_10 := Lib.hid (BW_9.out.later hb)
    have X1_10 := Lib.hid (confK.rd_later X1_9.out hb)
    have BX1_10 := Lib.hid (BX1_9.out.later hb)
    have X2_10 := Lib.hid (bools.rd_later X2_9.out hb)
    have Rg_10 := Lib.hid (wrrK.rd_later Rg_9.out hb)
    have BG_10 := Lib.hid (BG_9.out.later hb)
    have E2_10 := Lib.hid (bools.cap_rd hc)
    clear A0_9 A1_9 HB_9 Rw_9 BW_9 X1_9 BX1_9 X2_9 Rg_9 BG_9
    clear hb hc
    go_wp2_with fail
    refine (eqBoolS [.slice cax2 x2.length cpx2] [.slice eax2 x2.length epx2] x2 _ hs2.out X2_10.out E2_10.out).mono ?_
    rintro e y11 ⟨rfl, hb⟩
    have A0_11 := Lib.hid (A0_10.out.later hb)
    have A1_11 := Lib.hid (A1_10.out.later hb)
    have HB_11 := Lib.hid (HB_10.out.trans (hb.mono HB_10.out.size))
    have Rw_11 := Lib.hid (wrrK.rd_later Rw_10.out hb)
    have BW_11 := Lib.hid (BW_10.out.later hb)
    have X1_11 := Lib.hid (confK.rd_later X1_10.out hb)
    have BX1_11 := Lib.hid (BX1_10.out.later hb)
    have X2_11 := Lib.hid (bools.rd_later X2_10.out hb)
    have Rg_11 := Lib.hid (wrrK.rd_later Rg_10.out hb)
    have BG_11 := Lib.hid (BG_10.out.later hb)
    have E2_11 := Lib.hid (bools.rd_later E2_10.out hb)
    clear A0_10 A1_10 HB_10 Rw_10 BW_10 X1_10 BX1_10 X2_10 Rg_10 BG_10 E2_10
    clear hb
    go_wp2
    go_ret
    exact ⟨rfl, HB_11.out⟩

set_option maxRecDepth 100000 in
set_option maxRecDepth 100000 in
theorem lifted (os : Os) (started : os.Started) (H : Type) (enc : TypeId × Value → H) :
    ReturnsInHanded {} Try.checked os 5 .any (Rows.fnExactWrrPickSpec.pre6 enc Try.prog Try.f5 Rows.fnExactWrrPickRow.domain false) (Rows.fnExactWrrPickSpec.post enc Try.prog Try.f5 false true false false) := by
  refine returnsInHanded_of_change (C := Try.checked) own started (by kernel_rfl) Try.func5
    (ChangeSpec.witness6 (enc := enc) (C := Try.checked) false ⟨#[], #[.agg #[.int .i64 0, .int .i64 0], .agg #[.slice none 0 0, .int .i64 0, .int .i64 0, .int .i64 0, .int .i64 0, .int .i64 0], .slice none 0 0], []⟩ 8 (by kernel_rfl) (by kernel_rfl) (by kernel_rfl) (by kernel_rfl)) ?_
  intro W base args ds gs before hval0 hW hcnd _
  have hval : ∀ (j : Nat) t v, Try.f5.params[j]? = some t → args[j]? = some v → Value.okWide Try.prog W .any base t v := hval0
  have hW' := hW
  obtain ⟨p, q, hA0, hV, rfl, hfz, hnd⟩ := hW
  have hA : DataW.TrodAll enc Try.prog W 0 (fun _ => true) true Try.f5.params.toList args.toList ds p := hA0
  rw [Try.params5] at hA hval
  obtain ⟨v0, vs0, d0, ds0, p0, q0, hargs, rfl, rfl, h0, r0⟩ := trodAll_cons hA
  obtain ⟨v1, vs1, d1, ds1, p1, q1, rfl, rfl, rfl, h1, r1⟩ := trodAll_cons r0
  obtain ⟨v2, vs2, d2, ds2, p2, q2, rfl, rfl, rfl, h2, r2⟩ := trodAll_cons r1
  obtain ⟨rfl, rfl, rfl⟩ := trodAll_nil r2
  obtain rfl : args = #[v0, v1, v2] := by cases args; simp_all
  obtain ⟨rfl, rfl⟩ := trodVars_none hV
  have k0 := h0
  have lt0 : ∀ x ∈ p0, x.block < W.heap.size := by obtain ⟨m, hm⟩ := k0; exact DataW.trod_lt m _ _ _ hm
  obtain ⟨u0, x0, rfl, R0⟩ := KD.open_wrr (hval 0 36 v0 rfl rfl) h0
  have k1 := h1
  have lt1 : ∀ x ∈ p1, x.block < W.heap.size := by obtain ⟨m, hm⟩ := k1; exact DataW.trod_lt m _ _ _ hm
  obtain ⟨u1, x1, rfl, R1⟩ := KD.open_conf (hval 1 39 v1 rfl rfl) h1
  have k2 := h2
  have lt2 : ∀ x ∈ p2, x.block < W.heap.size := by obtain ⟨m, hm⟩ := k2; exact DataW.trod_lt m _ _ _ hm
  obtain ⟨u2, x2, rfl, R2⟩ := KD.open_bools (hval 2 29 v2 rfl rfl) h2
  clear hA0 hval0
  refine (walk u0 x0 u1 x1 u2 x2 W R0 R1 R2).mono fun e W' ⟨he, bel⟩ => ?_
  subst he
  exact ⟨_, rfl, _, _, _, [], _, [], hW', trodAll_mk1 (shut_bool Try.underlying4 _), (trodAll_cons_mk (Below.trod laidOut (by kernel_rfl) (of_decide_eq_true (by kernel_rfl)) k0 bel lt0) (trodAll_cons_mk (Below.trod laidOut (by kernel_rfl) (of_decide_eq_true (by kernel_rfl)) k1 bel lt1) (trodAll_cons_mk (Below.trod laidOut (by kernel_rfl) (of_decide_eq_true (by kernel_rfl)) k2 bel lt2) trodAll_mk0))), rfl, bel.frame _, fun h => by cases h⟩

theorem over : Rows.fnExactWrrPickRow.holds Try.pinned (OpenSpec.ofChange Rows.fnExactWrrPickSpec) :=
  OpenClaim.holds_of_wide 5 Try.f5 rfl rfl rfl rfl rfl rfl rfl ⟨rfl, rfl, rfl, rfl, rfl⟩ rfl rfl rfl rfl rfl (by kernel_rfl) Try.func5 (by kernel_rfl)
    (of_decide_eq_true (by kernel_rfl)) (by unfold Func.isWrapper; first | (rw [if_pos (by decide +kernel)]; kernel_rfl) | (rw [if_neg (by decide +kernel)]; exact ⟨rfl, rfl⟩))
    (fun os started H enc _ => lifted os started H enc)

theorem proved : Rows.FnExactWrrPickSaid := over
#print axioms proved
end Go.Proofs.Ytddbhokfjdgabaa.fnExactWrrPick
