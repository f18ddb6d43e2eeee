/-
  For every arbiter, every configuration and every number the program's WrrBack answers as its model does, and leaves the configuration as it was. No condition.
-/
import Derived.Test.YtddbhokfjdgabaaRows
import Derived.WalkKit
import Derived.ProofKit
import Derived.OpenShut
import Derived.ShutString
import Derived.ChangeOld
import Derived.Below
import Derived.Test.YtddbhokfjdgabaaWrrI
import Derived.Test.YtddbhokfjdgabaaOConf
import Derived.Test.YtddbhokfjdgabaaOWrr
import Derived.Deep.RegionHeld3
import Derived.Deep.Cut
import Derived.Deep.CutRange
namespace Go.Proofs.Ytddbhokfjdgabaa.fnExactWrrBack
open Go.ChangeShapes Go.WideShapes Go.ChangeAt Go.RowKit
open Go.ChangeMaps (open_string shut_string)
set_option linter.unusedVariables false

theorem own : ownKnob Try.prog.godebug = none := by kernel_rfl
theorem laidOut : laidOutB Try.prog = true := by kernel_rfl
open KD Rows3 GR Num
set_option maxHeartbeats 8000000 in
set_option maxRecDepth 100000 in
theorem walk (u0 : List Value) (x0 : Int × Int) (u1 : List Value) (x1 : List (Int × Bool × Int × Int) × Int × Int × Int × Int × Int) (a2 : Int) (w : World) (R0 : KD.wrrK.rd u0 x0 w) (R1 : KD.confK.rd u1 x1 w) (w2 : (Lit.int .i64 a2).wf = true) :
    Calls Try.prog 6 #[.agg u0.toArray, .agg u1.toArray, .int .i64 a2] w fun e w' => e = .returned (.bool true) ∧ Below w.heap.size w w' := by
  obtain ⟨x00, x01⟩ := x0
  have HR0 := Lib.hid R0
  obtain rfl := wrr_form (id R0)
  clear R0
  obtain ⟨x10, x11, x12, x13, x14, x15⟩ := x1
  have HR1 := Lib.hid R1
  obtain ⟨ax10, px10, rfl, _⟩ := conf_form (id R1)
  clear R1
  have hsz : ∀ (w : World) o, (w.alloc o).heap.size = w.heap.size + 1 := fun w o => by simp
  have A0 := (Bx.new 36 #[.int .i64 x00, .int .i64 x01] w).alloc (Obj.cells #[.slice ax10 x10.length px10, .int .i64 x11, .int .i64 x12, .int .i64 x13, .int .i64 x14, .int .i64 x15] 39)
  have A0_0 := Lib.hid A0
  clear A0
  have A1 := Bx.new 39 #[.slice ax10 x10.length px10, .int .i64 x11, .int .i64 x12, .int .i64 x13, .int .i64 x14, .int .i64 x15] (w.alloc (Obj.cells #[.int .i64 x00, .int .i64 x01] 36))
  rw [hsz] at A1
  have A1_0 := Lib.hid A1
  clear A1
  have HB_0 := Lib.hid (((Below.refl w.heap.size w).alloc (Nat.le_refl _) (Obj.cells #[.int .i64 x00, .int .i64 x01] 36)).alloc (by simp) (Obj.cells #[.slice ax10 x10.length px10, .int .i64 x11, .int .i64 x12, .int .i64 x13, .int .i64 x14, .int .i64 x15] 39))
  clear hsz
  show Calls _ _ #[.agg #[.int .i64 x00, .int .i64 x01], .agg #[.slice ax10 x10.length px10, .int .i64 x11, .int .i64 x12, .int .i64 x13, .int .i64 x14, .int .i64 x15], .int .i64 a2] w _
  have hs0 : Hid (wrrK.sz (x00, x01) ≤ 2000000) := Lib.hid (of_decide_eq_true (Eq.refl true))
  obtain ⟨M0, hM0⟩ : ∃ M, szW 1048576 (confK.sz (x10, x11, x12, x13, x14, x15)) = M := ⟨_, rfl⟩
  have hb0 := szW_bd 1048576 (confK.sz (x10, x11, x12, x13, x14, x15)) (by omega)
  rw [hM0] at hb0
  obtain ⟨hb0a, hb0b⟩ := hb0
  have HM0 := Lib.hid hM0
  by_cases c0 : M0 < 0
  · clear hM0
    go_enter Try.func6, Try.ntmps6
    go_wp2_with fail
    generalize (w.alloc (Obj.cells #[.int .i64 x00, .int .i64 x01] 36)).alloc (Obj.cells #[.slice ax10 x10.length px10, .int .i64 x11, .int .i64 x12, .int .i64 x13, .int .i64 x14, .int .i64 x15] 39) = y0 at A0_0 A1_0 HB_0 ⊢
    refine (szConf [.slice ax10 x10.length px10, .int .i64 x11, .int .i64 x12, .int .i64 x13, .int .i64 x14, .int .i64 x15] (x10, x11, x12, x13, x14, x15) 1048576 _ (confK.rd_later HR1.out HB_0.out) (by omega) (by omega)).mono ?_
    rintro e y1 ⟨rfl, hb⟩
    rw [HM0.out]
    have A0_1 := Lib.hid (A0_0.out.later hb)
    have A1_1 := Lib.hid (A1_0.out.later hb)
    have HB_1 := Lib.hid (HB_0.out.trans (hb.mono HB_0.out.size))
    clear A0_0 A1_0 HB_0
    clear hb
    have gA0_0 := A0_1.out.cell 0 (.int .i64 x00) rfl
    have gA0_1 := A0_1.out.cell 1 (.int .i64 x01) rfl
    have gA1_0 := A1_1.out.cell 0 (.slice ax10 x10.length px10) rfl
    have gA1_1 := A1_1.out.cell 1 (.int .i64 x11) rfl
    have gA1_2 := A1_1.out.cell 2 (.int .i64 x12) rfl
    have gA1_3 := A1_1.out.cell 3 (.int .i64 x13) rfl
    have gA1_4 := A1_1.out.cell 4 (.int .i64 x14) rfl
    have gA1_5 := A1_1.out.cell 5 (.int .i64 x15) rfl
    go_wp2
    go_ret
    exact ⟨rfl, HB_1.out⟩
  · have hft0 := szW_fit (show ¬ szW 1048576 (confK.sz (x10, x11, x12, x13, x14, x15)) < 0 by rw [hM0]; exact c0)
    have hs1 : Hid (confK.sz (x10, x11, x12, x13, x14, x15) ≤ 2000000) := Lib.hid (by omega)
    clear hM0 hft0
    obtain ⟨D, hD⟩ : ∃ D, backR x00 x01 (x10, x11, x12, x13, x14, x15) a2 = D := ⟨_, rfl⟩
    obtain ⟨z0, z1⟩ := D
    have HD := Lib.hid hD
    have hz : Hid (wrrK.sz (z0, z1) ≤ 2000000) := Lib.hid (of_decide_eq_true (Eq.refl true))
    clear hD
    go_enter Try.func6, Try.ntmps6
    go_wp2_with fail
    generalize (w.alloc (Obj.cells #[.int .i64 x00, .int .i64 x01] 36)).alloc (Obj.cells #[.slice ax10 x10.length px10, .int .i64 x11, .int .i64 x12, .int .i64 x13, .int .i64 x14, .int .i64 x15] 39) = y0 at A0_0 A1_0 HB_0 ⊢
    refine (szConf [.slice ax10 x10.length px10, .int .i64 x11, .int .i64 x12, .int .i64 x13, .int .i64 x14, .int .i64 x15] (x10, x11, x12, x13, x14, x15) 1048576 _ (confK.rd_later HR1.out HB_0.out) (by omega) (by omega)).mono ?_
    rintro e y1 ⟨rfl, hb⟩
    rw [HM0.out]
    have A0_1 := Lib.hid (A0_0.out.later hb)
    have A1_1 := Lib.hid (A1_0.out.later hb)
    have HB_1 := Lib.hid (HB_0.out.trans (hb.mono HB_0.out.size))
    clear A0_0 A1_0 HB_0
    clear hb
    have gA0_0 := A0_1.out.cell 0 (.int .i64 x00) rfl
    have gA0_1 := A0_1.out.cell 1 (.int .i64 x01) rfl
    have gA1_0 := A1_1.out.cell 0 (.slice ax10 x10.length px10) rfl
    have gA1_1 := A1_1.out.cell 1 (.int .i64 x11) rfl
    have gA1_2 := A1_1.out.cell 2 (.int .i64 x12) rfl
    have gA1_3 := A1_1.out.cell 3 (.int .i64 x13) rfl
    have gA1_4 := A1_1.out.cell 4 (.int .i64 x14) rfl
    have gA1_5 := A1_1.out.cell 5 (.int .i64 x15) rfl
    have ltA0 := A0_1.out.lt
    have ltA1 := A1_1.out.lt
    go_upto_region 5 with fail
    go_cut [8] from 16 to 21 (fun s8 wx => ∃ b : Nat, s8 = .pointer (some ⟨b, 0, none⟩) ∧ Bx 25 b #[.int .i64 z0, .int .i64 z1] wx ∧ Below y1.heap.size y1 wx)
    case first =>
      have Hr0 := Lib.hid (wrrK.rd_later HR0.out HB_1.out)
      have Hr1 := Lib.hid (confK.rd_later HR1.out HB_1.out)
      go_region_held3 (fun w' => w'.cell? ⟨w.heap.size, 0, none⟩ = some (.int .i64 x00) ∧ w'.cell? ⟨w.heap.size, 1, none⟩ = some (.int .i64 x01) ∧ w'.cell? ⟨w.heap.size + 1, 0, none⟩ = some (.slice ax10 x10.length px10) ∧ w'.cell? ⟨w.heap.size + 1, 1, none⟩ = some (.int .i64 x11) ∧ w'.cell? ⟨w.heap.size + 1, 2, none⟩ = some (.int .i64 x12) ∧ w'.cell? ⟨w.heap.size + 1, 3, none⟩ = some (.int .i64 x13) ∧ w'.cell? ⟨w.heap.size + 1, 4, none⟩ = some (.int .i64 x14) ∧ w'.cell? ⟨w.heap.size + 1, 5, none⟩ = some (.int .i64 x15)) (go_keep) (first
        | (go_at_call 23; refine (specWrrBack a2 [.int .i64 x00, .int .i64 x01] x00 x01 ((by first | exact (wrrK.rd_later (wrrK.cap_rd hcq0) hbq1) | exact wrrK.rd_later (wrrK.rd_later (wrrK.cap_rd hcq0) hbq1) ((Below.refl _ _).alloc (Nat.le_refl _) _))) [.slice ws1ax10 x10.length ws1px10, .int .i64 x11, .int .i64 x12, .int .i64 x13, .int .i64 x14, .int .i64 x15] x10 x11 x12 x13 x14 x15 (conf_len hs1.out) _ ((by first | exact (confK.cap_rd hcq1) | exact confK.rd_later (confK.cap_rd hcq1) ((Below.refl _ _).alloc (Nat.le_refl _) _)))).mono ?_; rw [HD.out]; rintro e y4 ⟨us, he, hcq2, hb0⟩; obtain rfl := wrr_form (wrrK.cap_rd hcq2); obtain rfl : e = .returned (.agg #[.int .i64 z0, .int .i64 z1]) := he; (first | (have hbq2 : Below y3.heap.size y3 y4 := hb0; clear hb0; (first | (have alN := Bx.later alB (hbq2); clear alB; have alB := alN; clear alN; have al0 := alB.cell 0 _ rfl; have aw0 := alB.warm 0; have al1 := alB.cell 1 _ rfl; have aw1 := alB.warm 1) | skip)) | (have alB : Bx 25 y3.heap.size #[.int .i64 0, .int .i64 0] y4 := (Bx.new 25 #[.int .i64 0, .int .i64 0] y3).later hb0; have hbq2 : Below y3.heap.size y3 y4 := ((Below.refl _ _).alloc (Nat.le_refl _) _).trans (hb0.mono (by simp)); clear hb0; have neA0 : ¬ (w.heap.size = y3.heap.size) := Nat.ne_of_lt (Nat.lt_of_lt_of_le ltA0 (Nat.le_trans hbq0.size hbq1.size)); have neA0' : ¬ (y3.heap.size = w.heap.size) := fun h => neA0 h.symm; have neA1 : ¬ (w.heap.size + 1 = y3.heap.size) := Nat.ne_of_lt (Nat.lt_of_lt_of_le ltA1 (Nat.le_trans hbq0.size hbq1.size)); have neA1' : ¬ (y3.heap.size = w.heap.size + 1) := fun h => neA1 h.symm; have al0 := alB.cell 0 _ rfl; have aw0 := alB.warm 0; have al1 := alB.cell 1 _ rfl; have aw1 := alB.warm 1)); have hk2A0 : ∀ i, y4.cell? ⟨w.heap.size, i, none⟩ = y3.cell? ⟨w.heap.size, i, none⟩ := fun i => hbq2.cell (p := ⟨w.heap.size, i, none⟩) (Nat.lt_of_lt_of_le ltA0 (Nat.le_trans hbq0.size hbq1.size)); have hk2A1 : ∀ i, y4.cell? ⟨w.heap.size + 1, i, none⟩ = y3.cell? ⟨w.heap.size + 1, i, none⟩ := fun i => hbq2.cell (p := ⟨w.heap.size + 1, i, none⟩) (Nat.lt_of_lt_of_le ltA1 (Nat.le_trans hbq0.size hbq1.size)))
        | (go_at_call 17; have hz_ := hbq0; clear hz_; refine (toConf [.slice ax10 x10.length px10, .int .i64 x11, .int .i64 x12, .int .i64 x13, .int .i64 x14, .int .i64 x15] (x10, x11, x12, x13, x14, x15) _ hs1.out (by first | exact (confK.rd_later (confK.rd_drew Hr1.out) hbq0) | exact confK.rd_later (confK.rd_later (confK.rd_drew Hr1.out) hbq0) ((Below.refl _ _).alloc (Nat.le_refl _) _))).mono ?_; rintro e y3 ⟨us, he, hcq1, hb0⟩; obtain ⟨ws1ax10, ws1px10, rfl, _⟩ := conf_form (confK.cap_rd hcq1); obtain rfl : e = .returned (.agg #[.slice ws1ax10 x10.length ws1px10, .int .i64 x11, .int .i64 x12, .int .i64 x13, .int .i64 x14, .int .i64 x15]) := he; (first | (have hbq1 : Below y2.heap.size y2 y3 := hb0; clear hb0; (first | (have alN := Bx.later alB (hbq1); clear alB; have alB := alN; clear alN; skip) | skip)) | (have alB : Bx 25 y2.heap.size #[.int .i64 0, .int .i64 0] y3 := (Bx.new 25 #[.int .i64 0, .int .i64 0] y2).later hb0; have hbq1 : Below y2.heap.size y2 y3 := ((Below.refl _ _).alloc (Nat.le_refl _) _).trans (hb0.mono (by simp)); clear hb0; have neA0 : ¬ (w.heap.size = y2.heap.size) := Nat.ne_of_lt (Nat.lt_of_lt_of_le ltA0 (hbq0.size)); have neA0' : ¬ (y2.heap.size = w.heap.size) := fun h => neA0 h.symm; have neA1 : ¬ (w.heap.size + 1 = y2.heap.size) := Nat.ne_of_lt (Nat.lt_of_lt_of_le ltA1 (hbq0.size)); have neA1' : ¬ (y2.heap.size = w.heap.size + 1) := fun h => neA1 h.symm; skip)); have hk1A0 : ∀ i, y3.cell? ⟨w.heap.size, i, none⟩ = y2.cell? ⟨w.heap.size, i, none⟩ := fun i => hbq1.cell (p := ⟨w.heap.size, i, none⟩) (Nat.lt_of_lt_of_le ltA0 (hbq0.size)); have hk1A1 : ∀ i, y3.cell? ⟨w.heap.size + 1, i, none⟩ = y2.cell? ⟨w.heap.size + 1, i, none⟩ := fun i => hbq1.cell (p := ⟨w.heap.size + 1, i, none⟩) (Nat.lt_of_lt_of_le ltA1 (hbq0.size)))
        | (go_at_call 16; refine (toWrr [.int .i64 x00, .int .i64 x01] (x00, x01) _ hs0.out (by first | exact (wrrK.rd_drew Hr0.out) | exact wrrK.rd_later (wrrK.rd_drew Hr0.out) ((Below.refl _ _).alloc (Nat.le_refl _) _))).mono ?_; rintro e y2 ⟨us, he, hcq0, hb0⟩; obtain rfl := wrr_form (wrrK.cap_rd hcq0); obtain rfl : e = .returned (.agg #[.int .i64 x00, .int .i64 x01]) := he; (first | (have hbq0 : Below y1.drew.heap.size y1.drew y2 := hb0; clear hb0; (first | (have alN := Bx.later alB (hbq0); clear alB; have alB := alN; clear alN; skip) | skip)) | (have alB : Bx 25 y1.heap.size #[.int .i64 0, .int .i64 0] y2 := (Bx.new 25 #[.int .i64 0, .int .i64 0] y1.drew).later hb0; have hbq0 : Below y1.drew.heap.size y1.drew y2 := ((Below.refl _ _).alloc (Nat.le_refl _) _).trans (hb0.mono (by simp)); clear hb0; have neA0 : ¬ (w.heap.size = y1.heap.size) := Nat.ne_of_lt (ltA0); have neA0' : ¬ (y1.heap.size = w.heap.size) := fun h => neA0 h.symm; have neA1 : ¬ (w.heap.size + 1 = y1.heap.size) := Nat.ne_of_lt (ltA1); have neA1' : ¬ (y1.heap.size = w.heap.size + 1) := fun h => neA1 h.symm; skip)); have hk0A0 : ∀ i, y2.cell? ⟨w.heap.size, i, none⟩ = y1.cell? ⟨w.heap.size, i, none⟩ := fun i => hbq0.cell (p := ⟨w.heap.size, i, none⟩) (ltA0); have hk0A1 : ∀ i, y2.cell? ⟨w.heap.size + 1, i, none⟩ = y1.cell? ⟨w.heap.size + 1, i, none⟩ := fun i => hbq0.cell (p := ⟨w.heap.size + 1, i, none⟩) (ltA1)))
      all_goals
        have hb := (Below.refl y1.heap.size y1).drew.trans hbq0
        have hb' := hb.trans (hbq1.mono hb.size)
        clear hb
        have hb := hb'
        clear hb'
        have hb' := hb.trans (hbq2.mono hb.size)
        clear hb
        have hb := hb'
        clear hb'
        go_wp2_with fail
        go_meet
        first
          | exact ⟨_, rfl, Bx.new _ _ _, hb.alloc hb.size _⟩
          | (have hle : y1.heap.size ≤ _ := (show y1.heap.size ≤ y1.drew.heap.size from Nat.le_refl _); exact ⟨_, rfl, ((alB.set 0 (.int .i64 z0)).set 1 (.int .i64 z1)), ((hb.setCell (by first | exact hle | (dsimp only; omega)) _).setCell (by first | exact hle | (dsimp only; omega)) _)⟩)
          | (have hle : y1.heap.size ≤ y2.heap.size := (by have e0 := hbq0.size; have e0' : y1.heap.size ≤ y1.drew.heap.size := Nat.le_refl _; omega); exact ⟨_, rfl, ((alB.set 0 (.int .i64 z0)).set 1 (.int .i64 z1)), ((hb.setCell (by first | exact hle | (dsimp only; omega)) _).setCell (by first | exact hle | (dsimp only; omega)) _)⟩)
          | (have hle : y1.heap.size ≤ y3.heap.size := (by have e0 := hbq0.size; have e1 := hbq1.size; have e0' : y1.heap.size ≤ y1.drew.heap.size := Nat.le_refl _; omega); exact ⟨_, rfl, ((alB.set 0 (.int .i64 z0)).set 1 (.int .i64 z1)), ((hb.setCell (by first | exact hle | (dsimp only; omega)) _).setCell (by first | exact hle | (dsimp only; omega)) _)⟩)
          | trace_state
    case rest =>
    obtain ⟨bw, rfl, hX, hb⟩ := hcut
    clear ltA0 ltA1 gA0_0 gA0_1 gA1_0 gA1_1 gA1_2 gA1_3 gA1_4 gA1_5
    generalize wc = y2 at hX hb ⊢
    have A0_2 := Lib.hid (A0_1.out.later hb)
    have A1_2 := Lib.hid (A1_1.out.later hb)
    have HB_2 := Lib.hid (HB_1.out.trans (hb.mono HB_1.out.size))
    have Rw_2 := Lib.hid (show wrrK.rd [.int .i64 z0, .int .i64 z1] (z0, z1) y2 from wrr_rd)
    have BW_2 := Lib.hid (hX)
    clear A0_1 A1_1 HB_1
    clear hb hX
    have gA0_0 := A0_2.out.cell 0 (.int .i64 x00) rfl
    have gA0_1 := A0_2.out.cell 1 (.int .i64 x01) rfl
    have gA1_0 := A1_2.out.cell 0 (.slice ax10 x10.length px10) rfl
    have gA1_1 := A1_2.out.cell 1 (.int .i64 x11) rfl
    have gA1_2 := A1_2.out.cell 2 (.int .i64 x12) rfl
    have gA1_3 := A1_2.out.cell 3 (.int .i64 x13) rfl
    have gA1_4 := A1_2.out.cell 4 (.int .i64 x14) rfl
    have gA1_5 := A1_2.out.cell 5 (.int .i64 x15) rfl
    go_wp2_with fail
    clear gA0_0 gA0_1 gA1_0 gA1_1 gA1_2 gA1_3 gA1_4 gA1_5
    refine (toConf [.slice ax10 x10.length px10, .int .i64 x11, .int .i64 x12, .int .i64 x13, .int .i64 x14, .int .i64 x15] (x10, x11, x12, x13, x14, x15) _ hs1.out (confK.rd_later HR1.out HB_2.out)).mono ?_
    rintro e y3 ⟨us, he, hc, hb⟩
    obtain ⟨cax10, cpx10, rfl, _⟩ := conf_form (confK.cap_rd hc)
    obtain rfl : e = .returned (.agg #[.slice cax10 x10.length cpx10, .int .i64 x11, .int .i64 x12, .int .i64 x13, .int .i64 x14, .int .i64 x15]) := he
    have A0_3 := Lib.hid (A0_2.out.later hb)
    have A1_3 := Lib.hid (A1_2.out.later hb)
    have HB_3 := Lib.hid (HB_2.out.trans (hb.mono HB_2.out.size))
    have Rw_3 := Lib.hid (wrrK.rd_later Rw_2.out hb)
    have BW_3 := Lib.hid (BW_2.out.later hb)
    have X1_3 := Lib.hid (confK.cap_rd hc)
    clear A0_2 A1_2 HB_2 Rw_2 BW_2
    clear hb hc
    have ab := (Below.refl y3.heap.size y3).alloc (Nat.le_refl _) (Obj.cells #[.slice cax10 x10.length cpx10, .int .i64 x11, .int .i64 x12, .int .i64 x13, .int .i64 x14, .int .i64 x15] 28)
    have Z4 := Lib.hid ab.size
    have A0_4 := Lib.hid (A0_3.out.later ab)
    have A1_4 := Lib.hid (A1_3.out.later ab)
    have HB_4 := Lib.hid (HB_3.out.trans (ab.mono HB_3.out.size))
    have Rw_4 := Lib.hid (wrrK.rd_later Rw_3.out ab)
    have BW_4 := Lib.hid (BW_3.out.later ab)
    have X1_4 := Lib.hid (confK.rd_later X1_3.out ab)
    have BX1_4 := Lib.hid (Bx.new 28 #[.slice cax10 x10.length cpx10, .int .i64 x11, .int .i64 x12, .int .i64 x13, .int .i64 x14, .int .i64 x15] y3)
    clear A0_3 A1_3 HB_3 Rw_3 BW_3 X1_3
    clear ab
    have gBX1_0 := BX1_4.out.cell 0 (.slice cax10 x10.length cpx10) rfl
    have gBX1_1 := BX1_4.out.cell 1 (.int .i64 x11) rfl
    have gBX1_2 := BX1_4.out.cell 2 (.int .i64 x12) rfl
    have gBX1_3 := BX1_4.out.cell 3 (.int .i64 x13) rfl
    have gBX1_4 := BX1_4.out.cell 4 (.int .i64 x14) rfl
    have gBX1_5 := BX1_4.out.cell 5 (.int .i64 x15) rfl
    have gA0_0 := A0_4.out.cell 0 (.int .i64 x00) rfl
    have gA0_1 := A0_4.out.cell 1 (.int .i64 x01) rfl
    have gA1_0 := A1_4.out.cell 0 (.slice ax10 x10.length px10) rfl
    have gA1_1 := A1_4.out.cell 1 (.int .i64 x11) rfl
    have gA1_2 := A1_4.out.cell 2 (.int .i64 x12) rfl
    have gA1_3 := A1_4.out.cell 3 (.int .i64 x13) rfl
    have gA1_4 := A1_4.out.cell 4 (.int .i64 x14) rfl
    have gA1_5 := A1_4.out.cell 5 (.int .i64 x15) rfl
    clear gBX1_0 gBX1_1 gBX1_2 gBX1_3 gBX1_4 gBX1_5 gA0_0 gA0_1 gA1_0 gA1_1 gA1_2 gA1_3 gA1_4 gA1_5
    have gA0_0 := A0_4.out.cell 0 (.int .i64 x00) rfl
    have gA0_1 := A0_4.out.cell 1 (.int .i64 x01) rfl
    have gBX1_0 := BX1_4.out.cell 0 (.slice cax10 x10.length cpx10) rfl
    have gBX1_1 := BX1_4.out.cell 1 (.int .i64 x11) rfl
    have gBX1_2 := BX1_4.out.cell 2 (.int .i64 x12) rfl
    have gBX1_3 := BX1_4.out.cell 3 (.int .i64 x13) rfl
    have gBX1_4 := BX1_4.out.cell 4 (.int .i64 x14) rfl
    have gBX1_5 := BX1_4.out.cell 5 (.int .i64 x15) rfl
    have ltA0 := A0_4.out.lt
    have ltBX1 := BX1_4.out.lt
    go_upto_region 7 with fail
    generalize y3.alloc (Obj.cells #[.slice cax10 x10.length cpx10, .int .i64 x11, .int .i64 x12, .int .i64 x13, .int .i64 x14, .int .i64 x15] 28) = y4 at gA0_0 gA0_1 gBX1_0 gBX1_1 gBX1_2 gBX1_3 gBX1_4 gBX1_5 A0_4 A1_4 HB_4 Rw_4 BW_4 X1_4 BX1_4 Z4 ltA0 ltBX1 ⊢
    go_cut [10] from 24 to 28 (fun s10 wx => ∃ b : Nat, s10 = .pointer (some ⟨b, 0, none⟩) ∧ Bx 25 b #[.int .i64 z0, .int .i64 z1] wx ∧ Below y4.heap.size y4 wx)
    case first =>
      have Hr0 := Lib.hid (wrrK.rd_later HR0.out HB_4.out)
      have Hr1 := Lib.hid (X1_4.out)
      go_region_held3 (fun w' => w'.cell? ⟨w.heap.size, 0, none⟩ = some (.int .i64 x00) ∧ w'.cell? ⟨w.heap.size, 1, none⟩ = some (.int .i64 x01) ∧ w'.cell? ⟨y3.heap.size, 0, none⟩ = some (.slice cax10 x10.length cpx10) ∧ w'.cell? ⟨y3.heap.size, 1, none⟩ = some (.int .i64 x11) ∧ w'.cell? ⟨y3.heap.size, 2, none⟩ = some (.int .i64 x12) ∧ w'.cell? ⟨y3.heap.size, 3, none⟩ = some (.int .i64 x13) ∧ w'.cell? ⟨y3.heap.size, 4, none⟩ = some (.int .i64 x14) ∧ w'.cell? ⟨y3.heap.size, 5, none⟩ = some (.int .i64 x15)) (go_keep) (first
        | (go_at_call 14; refine (implWrrBack a2 [.int .i64 x00, .int .i64 x01] x00 x01 ((by first | exact (wrrK.cap_rd hcq0) | exact wrrK.rd_later (wrrK.cap_rd hcq0) ((Below.refl _ _).alloc (Nat.le_refl _) _))) [.slice cax10 x10.length cpx10, .int .i64 x11, .int .i64 x12, .int .i64 x13, .int .i64 x14, .int .i64 x15] x10 x11 x12 x13 x14 x15 (conf_len hs1.out) _ ((by first | exact (confK.rd_later (confK.rd_drew Hr1.out) hbq0) | exact confK.rd_later (confK.rd_later (confK.rd_drew Hr1.out) hbq0) ((Below.refl _ _).alloc (Nat.le_refl _) _)))).mono ?_; rw [HD.out]; rintro e y6 ⟨us, he, hcq1, hb0⟩; obtain rfl := wrr_form (wrrK.cap_rd hcq1); obtain rfl : e = .returned (.agg #[.int .i64 z0, .int .i64 z1]) := he; (first | (have hbq1 : Below y5.heap.size y5 y6 := hb0; clear hb0; (first | (have alN := Bx.later alB (hbq1); clear alB; have alB := alN; clear alN; have al0 := alB.cell 0 _ rfl; have aw0 := alB.warm 0; have al1 := alB.cell 1 _ rfl; have aw1 := alB.warm 1) | skip)) | (have alB : Bx 25 y5.heap.size #[.int .i64 0, .int .i64 0] y6 := (Bx.new 25 #[.int .i64 0, .int .i64 0] y5).later hb0; have hbq1 : Below y5.heap.size y5 y6 := ((Below.refl _ _).alloc (Nat.le_refl _) _).trans (hb0.mono (by simp)); clear hb0; have neA0 : ¬ (w.heap.size = y5.heap.size) := Nat.ne_of_lt (Nat.lt_of_lt_of_le ltA0 (hbq0.size)); have neA0' : ¬ (y5.heap.size = w.heap.size) := fun h => neA0 h.symm; have neBX1 : ¬ (y3.heap.size = y5.heap.size) := Nat.ne_of_lt (Nat.lt_of_lt_of_le ltBX1 (hbq0.size)); have neBX1' : ¬ (y5.heap.size = y3.heap.size) := fun h => neBX1 h.symm; have al0 := alB.cell 0 _ rfl; have aw0 := alB.warm 0; have al1 := alB.cell 1 _ rfl; have aw1 := alB.warm 1)); have hk1A0 : ∀ i, y6.cell? ⟨w.heap.size, i, none⟩ = y5.cell? ⟨w.heap.size, i, none⟩ := fun i => hbq1.cell (p := ⟨w.heap.size, i, none⟩) (Nat.lt_of_lt_of_le ltA0 (hbq0.size)); have hk1BX1 : ∀ i, y6.cell? ⟨y3.heap.size, i, none⟩ = y5.cell? ⟨y3.heap.size, i, none⟩ := fun i => hbq1.cell (p := ⟨y3.heap.size, i, none⟩) (Nat.lt_of_lt_of_le ltBX1 (hbq0.size)))
        | (go_at_call 16; refine (toWrr [.int .i64 x00, .int .i64 x01] (x00, x01) _ hs0.out (by first | exact (wrrK.rd_drew Hr0.out) | exact wrrK.rd_later (wrrK.rd_drew Hr0.out) ((Below.refl _ _).alloc (Nat.le_refl _) _))).mono ?_; rintro e y5 ⟨us, he, hcq0, hb0⟩; obtain rfl := wrr_form (wrrK.cap_rd hcq0); obtain rfl : e = .returned (.agg #[.int .i64 x00, .int .i64 x01]) := he; (first | (have hbq0 : Below y4.drew.heap.size y4.drew y5 := hb0; clear hb0; (first | (have alN := Bx.later alB (hbq0); clear alB; have alB := alN; clear alN; skip) | skip)) | (have alB : Bx 25 y4.heap.size #[.int .i64 0, .int .i64 0] y5 := (Bx.new 25 #[.int .i64 0, .int .i64 0] y4.drew).later hb0; have hbq0 : Below y4.drew.heap.size y4.drew y5 := ((Below.refl _ _).alloc (Nat.le_refl _) _).trans (hb0.mono (by simp)); clear hb0; have neA0 : ¬ (w.heap.size = y4.heap.size) := Nat.ne_of_lt (ltA0); have neA0' : ¬ (y4.heap.size = w.heap.size) := fun h => neA0 h.symm; have neBX1 : ¬ (y3.heap.size = y4.heap.size) := Nat.ne_of_lt (ltBX1); have neBX1' : ¬ (y4.heap.size = y3.heap.size) := fun h => neBX1 h.symm; skip)); have hk0A0 : ∀ i, y5.cell? ⟨w.heap.size, i, none⟩ = y4.cell? ⟨w.heap.size, i, none⟩ := fun i => hbq0.cell (p := ⟨w.heap.size, i, none⟩) (ltA0); have hk0BX1 : ∀ i, y5.cell? ⟨y3.heap.size, i, none⟩ = y4.cell? ⟨y3.heap.size, i, none⟩ := fun i => hbq0.cell (p := ⟨y3.heap.size, i, none⟩) (ltBX1)))
      all_goals
        have hb := (Below.refl y4.heap.size y4).drew.trans hbq0
        have hb' := hb.trans (hbq1.mono hb.size)
        clear hb
        have hb := hb'
        clear hb'
        go_wp2_with fail
        go_meet
        first
          | exact ⟨_, rfl, Bx.new _ _ _, hb.alloc hb.size _⟩
          | (have hle : y4.heap.size ≤ _ := (show y4.heap.size ≤ y4.drew.heap.size from Nat.le_refl _); exact ⟨_, rfl, ((alB.set 0 (.int .i64 z0)).set 1 (.int .i64 z1)), ((hb.setCell (by first | exact hle | (dsimp only; omega)) _).setCell (by first | exact hle | (dsimp only; omega)) _)⟩)
          | (have hle : y4.heap.size ≤ y5.heap.size := (by have e0 := hbq0.size; have e0' : y4.heap.size ≤ y4.drew.heap.size := Nat.le_refl _; omega); exact ⟨_, rfl, ((alB.set 0 (.int .i64 z0)).set 1 (.int .i64 z1)), ((hb.setCell (by first | exact hle | (dsimp only; omega)) _).setCell (by first | exact hle | (dsimp only; omega)) _)⟩)
          | trace_state
    case rest =>
    obtain ⟨bg, rfl, hX, hb⟩ := hcut
    clear ltA0 ltBX1 gA0_0 gA0_1 gBX1_0 gBX1_1 gBX1_2 gBX1_3 gBX1_4 gBX1_5
    generalize wc = y5 at hX hb ⊢
    have A0_5 := Lib.hid (A0_4.out.later hb)
    have A1_5 := Lib.hid (A1_4.out.later hb)
    have HB_5 := Lib.hid (HB_4.out.trans (hb.mono HB_4.out.size))
    have Rw_5 := Lib.hid (wrrK.rd_later Rw_4.out hb)
    have BW_5 := Lib.hid (BW_4.out.later hb)
    have X1_5 := Lib.hid (confK.rd_later X1_4.out hb)
    have BX1_5 := Lib.hid (BX1_4.out.later hb)
    have Rg_5 := Lib.hid (show wrrK.rd [.int .i64 z0, .int .i64 z1] (z0, z1) y5 from wrr_rd)
    have BG_5 := Lib.hid (hX)
    clear A0_4 A1_4 HB_4 Rw_4 BW_4 X1_4 BX1_4
    clear hb hX
    have gBW_0 := BW_5.out.cell 0 (.int .i64 z0) rfl
    have gBW_1 := BW_5.out.cell 1 (.int .i64 z1) rfl
    have gBG_0 := BG_5.out.cell 0 (.int .i64 z0) rfl
    have gBG_1 := BG_5.out.cell 1 (.int .i64 z1) rfl
    go_wp2_with fail
    clear gBW_0 gBW_1 gBG_0 gBG_1
    refine (eqWrr [.int .i64 z0, .int .i64 z1] [.int .i64 z0, .int .i64 z1] (z0, z1) _ hz.out Rg_5.out Rw_5.out).mono ?_
    rintro e y6 ⟨rfl, hb⟩
    have A0_6 := Lib.hid (A0_5.out.later hb)
    have A1_6 := Lib.hid (A1_5.out.later hb)
    have HB_6 := Lib.hid (HB_5.out.trans (hb.mono HB_5.out.size))
    have Rw_6 := Lib.hid (wrrK.rd_later Rw_5.out hb)
    have BW_6 := Lib.hid (BW_5.out.later hb)
    have X1_6 := Lib.hid (confK.rd_later X1_5.out hb)
    have BX1_6 := Lib.hid (BX1_5.out.later hb)
    have Rg_6 := Lib.hid (wrrK.rd_later Rg_5.out hb)
    have BG_6 := Lib.hid (BG_5.out.later hb)
    clear A0_5 A1_5 HB_5 Rw_5 BW_5 X1_5 BX1_5 Rg_5 BG_5
    clear hb
    have gBX1_0 := BX1_6.out.cell 0 (.slice cax10 x10.length cpx10) rfl
    have gBX1_1 := BX1_6.out.cell 1 (.int .i64 x11) rfl
    have gBX1_2 := BX1_6.out.cell 2 (.int .i64 x12) rfl
    have gBX1_3 := BX1_6.out.cell 3 (.int .i64 x13) rfl
    have gBX1_4 := BX1_6.out.cell 4 (.int .i64 x14) rfl
    have gBX1_5 := BX1_6.out.cell 5 (.int .i64 x15) rfl
    have gA1_0 := A1_6.out.cell 0 (.slice ax10 x10.length px10) rfl
    have gA1_1 := A1_6.out.cell 1 (.int .i64 x11) rfl
    have gA1_2 := A1_6.out.cell 2 (.int .i64 x12) rfl
    have gA1_3 := A1_6.out.cell 3 (.int .i64 x13) rfl
    have gA1_4 := A1_6.out.cell 4 (.int .i64 x14) rfl
    have gA1_5 := A1_6.out.cell 5 (.int .i64 x15) rfl
    have ltX := BX1_6.out.lt
    have ltA := A1_6.out.lt
    go_wp2_with fail
    have HrA := Lib.hid (confK.rd_later HR1.out HB_6.out)
    have HrX := Lib.hid (X1_6.out)
    go_region_held3 (fun w' => w'.cell? ⟨y3.heap.size, 0, none⟩ = some (.slice cax10 x10.length cpx10) ∧ w'.cell? ⟨y3.heap.size, 1, none⟩ = some (.int .i64 x11) ∧ w'.cell? ⟨y3.heap.size, 2, none⟩ = some (.int .i64 x12) ∧ w'.cell? ⟨y3.heap.size, 3, none⟩ = some (.int .i64 x13) ∧ w'.cell? ⟨y3.heap.size, 4, none⟩ = some (.int .i64 x14) ∧ w'.cell? ⟨y3.heap.size, 5, none⟩ = some (.int .i64 x15) ∧ w'.cell? ⟨w.heap.size + 1, 0, none⟩ = some (.slice ax10 x10.length px10) ∧ w'.cell? ⟨w.heap.size + 1, 1, none⟩ = some (.int .i64 x11) ∧ w'.cell? ⟨w.heap.size + 1, 2, none⟩ = some (.int .i64 x12) ∧ w'.cell? ⟨w.heap.size + 1, 3, none⟩ = some (.int .i64 x13) ∧ w'.cell? ⟨w.heap.size + 1, 4, none⟩ = some (.int .i64 x14) ∧ w'.cell? ⟨w.heap.size + 1, 5, none⟩ = some (.int .i64 x15)) (go_keep) (first
      | (go_at_call 17; refine (toConf [.slice ax10 x10.length px10, .int .i64 x11, .int .i64 x12, .int .i64 x13, .int .i64 x14, .int .i64 x15] (x10, x11, x12, x13, x14, x15) _ hs1.out (confK.rd_drew HrA.out)).mono ?_; rintro e y7 ⟨us, he, hc, hb1⟩; obtain ⟨eax10, epx10, rfl, _⟩ := conf_form (confK.cap_rd hc); obtain rfl : e = .returned (.agg #[.slice eax10 x10.length epx10, .int .i64 x11, .int .i64 x12, .int .i64 x13, .int .i64 x14, .int .i64 x15]) := he; have hk : ∀ i, y7.cell? ⟨y3.heap.size, i, none⟩ = y6.cell? ⟨y3.heap.size, i, none⟩ := fun i => hb1.cell (p := ⟨y3.heap.size, i, none⟩) (ltX); have hk' : ∀ i, y7.cell? ⟨w.heap.size + 1, i, none⟩ = y6.cell? ⟨w.heap.size + 1, i, none⟩ := fun i => hb1.cell (p := ⟨w.heap.size + 1, i, none⟩) (ltA))
      | (go_at_call 19; refine (eqConf [.slice cax10 x10.length cpx10, .int .i64 x11, .int .i64 x12, .int .i64 x13, .int .i64 x14, .int .i64 x15] [.slice eax10 x10.length epx10, .int .i64 x11, .int .i64 x12, .int .i64 x13, .int .i64 x14, .int .i64 x15] (x10, x11, x12, x13, x14, x15) _ hs1.out (confK.rd_later (confK.rd_drew HrX.out) hb1) (confK.cap_rd hc)).mono ?_; rintro e y8 ⟨rfl, hb2⟩; have hk2 : ∀ i, y8.cell? ⟨y3.heap.size, i, none⟩ = y7.cell? ⟨y3.heap.size, i, none⟩ := fun i => hb2.cell (p := ⟨y3.heap.size, i, none⟩) (Nat.lt_of_lt_of_le ltX hb1.size); have hk2' : ∀ i, y8.cell? ⟨w.heap.size + 1, i, none⟩ = y7.cell? ⟨w.heap.size + 1, i, none⟩ := fun i => hb2.cell (p := ⟨w.heap.size + 1, i, none⟩) (Nat.lt_of_lt_of_le ltA hb1.size)))
    have hb := ((Below.refl y6.heap.size y6).drew.trans hb1).trans (hb2.mono hb1.size)
    clear hk hk' hk2 hk2' ltX ltA HrA HrX gBX1_0 gBX1_1 gBX1_2 gBX1_3 gBX1_4 gBX1_5 gA1_0 gA1_1 gA1_2 gA1_3 gA1_4 gA1_5
    have A0_7 := A0_6
    have A1_7 := A1_6
    have HB_7 := HB_6
    have Rw_7 := Rw_6
    have BW_7 := BW_6
    have X1_7 := X1_6
    have BX1_7 := BX1_6
    have Rg_7 := Rg_6
    have BG_7 := BG_6
    clear A0_6 A1_6 HB_6 Rw_6 BW_6 X1_6 BX1_6 Rg_6 BG_6
    have A0_8 := Lib.hid (A0_7.out.later hb)
    have A1_8 := Lib.hid (A1_7.out.later hb)
    have HB_8 := Lib.hid (HB_7.out.trans (hb.mono HB_7.out.size))
    have Rw_8 := Lib.hid (wrrK.rd_later Rw_7.out hb)
    have BW_8 := Lib.hid (BW_7.out.later hb)
    have X1_8 := Lib.hid (confK.rd_later X1_7.out hb)
    have BX1_8 := Lib.hid (BX1_7.out.later hb)
    have Rg_8 := Lib.hid (wrrK.rd_later Rg_7.out hb)
    have BG_8 := Lib.hid (BG_7.out.later hb)
    clear A0_7 A1_7 HB_7 Rw_7 BW_7 X1_7 BX1_7 Rg_7 BG_7
    clear hb hb1 hb2 hc
    go_wp2
    go_ret
    exact ⟨rfl, HB_8.out⟩

set_option maxRecDepth 100000 in
set_option maxRecDepth 100000 in
theorem lifted (os : Os) (started : os.Started) (H : Type) (enc : TypeId × Value → H) :
    ReturnsInHanded {} Try.checked os 6 .any (Rows.fnExactWrrBackSpec.pre6 enc Try.prog Try.f6 Rows.fnExactWrrBackRow.domain false) (Rows.fnExactWrrBackSpec.post enc Try.prog Try.f6 false true false false) := by
  refine returnsInHanded_of_change (C := Try.checked) own started (by kernel_rfl) Try.func6
    (ChangeSpec.witness6 (enc := enc) (C := Try.checked) false ⟨#[], #[.agg #[.int .i64 0, .int .i64 0], .agg #[.slice none 0 0, .int .i64 0, .int .i64 0, .int .i64 0, .int .i64 0, .int .i64 0], .int .i64 0], []⟩ 8 (by kernel_rfl) (by kernel_rfl) (by kernel_rfl) (by kernel_rfl)) ?_
  intro W base args ds gs before hval0 hW hcnd _
  have hval : ∀ (j : Nat) t v, Try.f6.params[j]? = some t → args[j]? = some v → Value.okWide Try.prog W .any base t v := hval0
  have hW' := hW
  obtain ⟨p, q, hA0, hV, rfl, hfz, hnd⟩ := hW
  have hA : DataW.TrodAll enc Try.prog W 0 (fun _ => true) true Try.f6.params.toList args.toList ds p := hA0
  rw [Try.params6] at hA hval
  obtain ⟨v0, vs0, d0, ds0, p0, q0, hargs, rfl, rfl, h0, r0⟩ := trodAll_cons hA
  obtain ⟨v1, vs1, d1, ds1, p1, q1, rfl, rfl, rfl, h1, r1⟩ := trodAll_cons r0
  obtain ⟨v2, vs2, d2, ds2, p2, q2, rfl, rfl, rfl, h2, r2⟩ := trodAll_cons r1
  obtain ⟨rfl, rfl, rfl⟩ := trodAll_nil r2
  obtain rfl : args = #[v0, v1, v2] := by cases args; simp_all
  obtain ⟨rfl, rfl⟩ := trodVars_none hV
  have k0 := h0
  have lt0 : ∀ x ∈ p0, x.block < W.heap.size := by obtain ⟨m, hm⟩ := k0; exact DataW.trod_lt m _ _ _ hm
  obtain ⟨u0, x0, rfl, R0⟩ := KD.open_wrr (hval 0 36 v0 rfl rfl) h0
  have k1 := h1
  have lt1 : ∀ x ∈ p1, x.block < W.heap.size := by obtain ⟨m, hm⟩ := k1; exact DataW.trod_lt m _ _ _ hm
  obtain ⟨u1, x1, rfl, R1⟩ := KD.open_conf (hval 1 39 v1 rfl rfl) h1
  obtain ⟨a2, rfl, rfl, rfl, w2⟩ := open_int Try.underlying3 (hval 2 3 v2 rfl rfl) h2
  clear hA0 hval0
  refine (walk u0 x0 u1 x1 a2 W R0 R1 w2).mono fun e W' ⟨he, bel⟩ => ?_
  subst he
  exact ⟨_, rfl, _, _, _, [], _, [], hW', trodAll_mk1 (shut_bool Try.underlying4 _), (trodAll_cons_mk (Below.trod laidOut (by kernel_rfl) (of_decide_eq_true (by kernel_rfl)) k0 bel lt0) (trodAll_cons_mk (Below.trod laidOut (by kernel_rfl) (of_decide_eq_true (by kernel_rfl)) k1 bel lt1) (trodAll_cons_mk (shut_int Try.underlying3 w2) trodAll_mk0))), rfl, bel.frame _, fun h => by cases h⟩

theorem over : Rows.fnExactWrrBackRow.holds Try.pinned (OpenSpec.ofChange Rows.fnExactWrrBackSpec) :=
  OpenClaim.holds_of_wide 6 Try.f6 rfl rfl rfl rfl rfl rfl rfl ⟨rfl, rfl, rfl, rfl, rfl⟩ rfl rfl rfl rfl rfl (by kernel_rfl) Try.func6 (by kernel_rfl)
    (of_decide_eq_true (by kernel_rfl)) (by unfold Func.isWrapper; first | (rw [if_pos (by decide +kernel)]; kernel_rfl) | (rw [if_neg (by decide +kernel)]; exact ⟨rfl, rfl⟩))
    (fun os started H enc _ => lifted os started H enc)

theorem proved : Rows.FnExactWrrBackSaid := over
#print axioms proved
end Go.Proofs.Ytddbhokfjdgabaa.fnExactWrrBack
