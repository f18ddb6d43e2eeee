/-
  For every arbiter and every configuration the program's WrrOk answers as its model does, and leaves the configuration as it was. No condition.
-/
import Derived.Test.YtddbhokfjdgabaaRows
import Derived.WalkKit
import Derived.ProofKit
import Derived.OpenShut
import Derived.ShutString
import Derived.ChangeOld
import Derived.Below
import Derived.Test.YtddbhokfjdgabaaWrrI
import Derived.Test.YtddbhokfjdgabaaOConf
import Derived.Test.YtddbhokfjdgabaaOWrr
import Derived.Deep.RegionHeld3
import Derived.Deep.Cut
import Derived.Deep.CutRange
namespace Go.Proofs.Ytddbhokfjdgabaa.fnExactWrrOk
open Go.ChangeShapes Go.WideShapes Go.ChangeAt Go.RowKit
open Go.ChangeMaps (open_string shut_string)
set_option linter.unusedVariables false

theorem own : ownKnob Try.prog.godebug = none := by kernel_rfl
theorem laidOut : laidOutB Try.prog = true := by kernel_rfl
open KD Rows3 GR Num
set_option maxHeartbeats 8000000 in
set_option maxRecDepth 100000 in
theorem walk (u0 : List Value) (x0 : Int × Int) (u1 : List Value) (x1 : List (Int × Bool × Int × Int) × Int × Int × Int × Int × Int) (w : World) (R0 : KD.wrrK.rd u0 x0 w) (R1 : KD.confK.rd u1 x1 w) :
    Calls Try.prog 4 #[.agg u0.toArray, .agg u1.toArray] w fun e w' => e = .returned (.bool true) ∧ Below w.heap.size w w' := by
  obtain ⟨x00, x01⟩ := x0
  have HR0 := Lib.hid R0
  obtain rfl := wrr_form (id R0)
  clear R0
  obtain ⟨x10, x11, x12, x13, x14, x15⟩ := x1
  have HR1 := Lib.hid R1
  obtain ⟨ax10, px10, rfl, _⟩ := conf_form (id R1)
  clear R1
  have hsz : ∀ (w : World) o, (w.alloc o).heap.size = w.heap.size + 1 := fun w o => by simp
  have A0 := (Bx.new 36 #[.int .i64 x00, .int .i64 x01] w).alloc (Obj.cells #[.slice ax10 x10.length px10, .int .i64 x11, .int .i64 x12, .int .i64 x13, .int .i64 x14, .int .i64 x15] 39)
  have A0_0 := Lib.hid A0
  clear A0
  have A1 := Bx.new 39 #[.slice ax10 x10.length px10, .int .i64 x11, .int .i64 x12, .int .i64 x13, .int .i64 x14, .int .i64 x15] (w.alloc (Obj.cells #[.int .i64 x00, .int .i64 x01] 36))
  rw [hsz] at A1
  have A1_0 := Lib.hid A1
  clear A1
  have HB_0 := Lib.hid (((Below.refl w.heap.size w).alloc (Nat.le_refl _) (Obj.cells #[.int .i64 x00, .int .i64 x01] 36)).alloc (by simp) (Obj.cells #[.slice ax10 x10.length px10, .int .i64 x11, .int .i64 x12, .int .i64 x13, .int .i64 x14, .int .i64 x15] 39))
  clear hsz
  show Calls _ _ #[.agg #[.int .i64 x00, .int .i64 x01], .agg #[.slice ax10 x10.length px10, .int .i64 x11, .int .i64 x12, .int .i64 x13, .int .i64 x14, .int .i64 x15]] w _
  have hs0 : Hid (wrrK.sz (x00, x01) ≤ 2000000) := Lib.hid (of_decide_eq_true (Eq.refl true))
  obtain ⟨M0, hM0⟩ : ∃ M, szW 1048576 (confK.sz (x10, x11, x12, x13, x14, x15)) = M := ⟨_, rfl⟩
  have hb0 := szW_bd 1048576 (confK.sz (x10, x11, x12, x13, x14, x15)) (by omega)
  rw [hM0] at hb0
  obtain ⟨hb0a, hb0b⟩ := hb0
  have HM0 := Lib.hid hM0
  by_cases c0 : M0 < 0
  · clear hM0
    go_enter Try.func4, Try.ntmps4
    go_wp2_with fail
    generalize (w.alloc (Obj.cells #[.int .i64 x00, .int .i64 x01] 36)).alloc (Obj.cells #[.slice ax10 x10.length px10, .int .i64 x11, .int .i64 x12, .int .i64 x13, .int .i64 x14, .int .i64 x15] 39) = y0 at A0_0 A1_0 HB_0 ⊢
    refine (szConf [.slice ax10 x10.length px10, .int .i64 x11, .int .i64 x12, .int .i64 x13, .int .i64 x14, .int .i64 x15] (x10, x11, x12, x13, x14, x15) 1048576 _ (confK.rd_later HR1.out HB_0.out) (by omega) (by omega)).mono ?_
    rintro e y1 ⟨rfl, hb⟩
    rw [HM0.out]
    have A0_1 := Lib.hid (A0_0.out.later hb)
    have A1_1 := Lib.hid (A1_0.out.later hb)
    have HB_1 := Lib.hid (HB_0.out.trans (hb.mono HB_0.out.size))
    clear A0_0 A1_0 HB_0
    clear hb
    have gA0_0 := A0_1.out.cell 0 (.int .i64 x00) rfl
    have gA0_1 := A0_1.out.cell 1 (.int .i64 x01) rfl
    have gA1_0 := A1_1.out.cell 0 (.slice ax10 x10.length px10) rfl
    have gA1_1 := A1_1.out.cell 1 (.int .i64 x11) rfl
    have gA1_2 := A1_1.out.cell 2 (.int .i64 x12) rfl
    have gA1_3 := A1_1.out.cell 3 (.int .i64 x13) rfl
    have gA1_4 := A1_1.out.cell 4 (.int .i64 x14) rfl
    have gA1_5 := A1_1.out.cell 5 (.int .i64 x15) rfl
    go_wp2
    go_ret
    exact ⟨rfl, HB_1.out⟩
  · have hft0 := szW_fit (show ¬ szW 1048576 (confK.sz (x10, x11, x12, x13, x14, x15)) < 0 by rw [hM0]; exact c0)
    have hs1 : Hid (confK.sz (x10, x11, x12, x13, x14, x15) ≤ 2000000) := Lib.hid (by omega)
    clear hM0 hft0
    obtain ⟨D, hD⟩ : ∃ D, okWr x00 x01 (x10, x11, x12, x13, x14, x15) = D := ⟨_, rfl⟩
    have HD := Lib.hid hD
    have nD : (D != D) = false := by simp
    clear hD
    go_enter Try.func4, Try.ntmps4
    go_wp2_with fail
    generalize (w.alloc (Obj.cells #[.int .i64 x00, .int .i64 x01] 36)).alloc (Obj.cells #[.slice ax10 x10.length px10, .int .i64 x11, .int .i64 x12, .int .i64 x13, .int .i64 x14, .int .i64 x15] 39) = y0 at A0_0 A1_0 HB_0 ⊢
    refine (szConf [.slice ax10 x10.length px10, .int .i64 x11, .int .i64 x12, .int .i64 x13, .int .i64 x14, .int .i64 x15] (x10, x11, x12, x13, x14, x15) 1048576 _ (confK.rd_later HR1.out HB_0.out) (by omega) (by omega)).mono ?_
    rintro e y1 ⟨rfl, hb⟩
    rw [HM0.out]
    have A0_1 := Lib.hid (A0_0.out.later hb)
    have A1_1 := Lib.hid (A1_0.out.later hb)
    have HB_1 := Lib.hid (HB_0.out.trans (hb.mono HB_0.out.size))
    clear A0_0 A1_0 HB_0
    clear hb
    have gA0_0 := A0_1.out.cell 0 (.int .i64 x00) rfl
    have gA0_1 := A0_1.out.cell 1 (.int .i64 x01) rfl
    have gA1_0 := A1_1.out.cell 0 (.slice ax10 x10.length px10) rfl
    have gA1_1 := A1_1.out.cell 1 (.int .i64 x11) rfl
    have gA1_2 := A1_1.out.cell 2 (.int .i64 x12) rfl
    have gA1_3 := A1_1.out.cell 3 (.int .i64 x13) rfl
    have gA1_4 := A1_1.out.cell 4 (.int .i64 x14) rfl
    have gA1_5 := A1_1.out.cell 5 (.int .i64 x15) rfl
    have ltA0 := A0_1.out.lt
    have ltA1 := A1_1.out.lt
    go_wp2_with fail
    have Hr0 := Lib.hid (wrrK.rd_later HR0.out HB_1.out)
    have Hr1 := Lib.hid (confK.rd_later HR1.out HB_1.out)
    go_region_held3 (fun w' => w'.cell? ⟨w.heap.size, 0, none⟩ = some (.int .i64 x00) ∧ w'.cell? ⟨w.heap.size, 1, none⟩ = some (.int .i64 x01) ∧ w'.cell? ⟨w.heap.size + 1, 0, none⟩ = some (.slice ax10 x10.length px10) ∧ w'.cell? ⟨w.heap.size + 1, 1, none⟩ = some (.int .i64 x11) ∧ w'.cell? ⟨w.heap.size + 1, 2, none⟩ = some (.int .i64 x12) ∧ w'.cell? ⟨w.heap.size + 1, 3, none⟩ = some (.int .i64 x13) ∧ w'.cell? ⟨w.heap.size + 1, 4, none⟩ = some (.int .i64 x14) ∧ w'.cell? ⟨w.heap.size + 1, 5, none⟩ = some (.int .i64 x15)) (go_keep) (first
      | (go_at_call 13; refine (specWrrOk [.int .i64 x00, .int .i64 x01] x00 x01 (wrrK.rd_later (wrrK.cap_rd hcq0) hbq1) [.slice ws1ax10 x10.length ws1px10, .int .i64 x11, .int .i64 x12, .int .i64 x13, .int .i64 x14, .int .i64 x15] x10 x11 x12 x13 x14 x15 (conf_len hs1.out) _ (confK.cap_rd hcq1)).mono ?_; rw [HD.out]; rintro e y4 ⟨rfl, hbq2⟩; have hk2A0 : ∀ i, y4.cell? ⟨w.heap.size, i, none⟩ = y3.cell? ⟨w.heap.size, i, none⟩ := fun i => hbq2.cell (p := ⟨w.heap.size, i, none⟩) (Nat.lt_of_lt_of_le ltA0 (Nat.le_trans hbq0.size hbq1.size)); have hk2A1 : ∀ i, y4.cell? ⟨w.heap.size + 1, i, none⟩ = y3.cell? ⟨w.heap.size + 1, i, none⟩ := fun i => hbq2.cell (p := ⟨w.heap.size + 1, i, none⟩) (Nat.lt_of_lt_of_le ltA1 (Nat.le_trans hbq0.size hbq1.size)))
      | (go_at_call 17; have hz_ := hbq0; clear hz_; refine (toConf [.slice ax10 x10.length px10, .int .i64 x11, .int .i64 x12, .int .i64 x13, .int .i64 x14, .int .i64 x15] (x10, x11, x12, x13, x14, x15) _ hs1.out (confK.rd_later (confK.rd_drew Hr1.out) hbq0)).mono ?_; rintro e y3 ⟨us, he, hcq1, hbq1⟩; obtain ⟨ws1ax10, ws1px10, rfl, _⟩ := conf_form (confK.cap_rd hcq1); obtain rfl : e = .returned (.agg #[.slice ws1ax10 x10.length ws1px10, .int .i64 x11, .int .i64 x12, .int .i64 x13, .int .i64 x14, .int .i64 x15]) := he; have hk1A0 : ∀ i, y3.cell? ⟨w.heap.size, i, none⟩ = y2.cell? ⟨w.heap.size, i, none⟩ := fun i => hbq1.cell (p := ⟨w.heap.size, i, none⟩) (Nat.lt_of_lt_of_le ltA0 (hbq0.size)); have hk1A1 : ∀ i, y3.cell? ⟨w.heap.size + 1, i, none⟩ = y2.cell? ⟨w.heap.size + 1, i, none⟩ := fun i => hbq1.cell (p := ⟨w.heap.size + 1, i, none⟩) (Nat.lt_of_lt_of_le ltA1 (hbq0.size)))
      | (go_at_call 16; refine (toWrr [.int .i64 x00, .int .i64 x01] (x00, x01) _ hs0.out (wrrK.rd_drew Hr0.out)).mono ?_; rintro e y2 ⟨us, he, hcq0, hbq0⟩; obtain rfl := wrr_form (wrrK.cap_rd hcq0); obtain rfl : e = .returned (.agg #[.int .i64 x00, .int .i64 x01]) := he; have hk0A0 : ∀ i, y2.cell? ⟨w.heap.size, i, none⟩ = y1.cell? ⟨w.heap.size, i, none⟩ := fun i => hbq0.cell (p := ⟨w.heap.size, i, none⟩) (ltA0); have hk0A1 : ∀ i, y2.cell? ⟨w.heap.size + 1, i, none⟩ = y1.cell? ⟨w.heap.size + 1, i, none⟩ := fun i => hbq0.cell (p := ⟨w.heap.size + 1, i, none⟩) (ltA1)))
    have hb := (Below.refl y1.heap.size y1).drew.trans hbq0
    have hb' := hb.trans (hbq1.mono hb.size)
    clear hb
    have hb := hb'
    clear hb'
    have hb' := hb.trans (hbq2.mono hb.size)
    clear hb
    have hb := hb'
    clear hb'
    clear hk0A0 hk0A1 hk1A0 hk1A1 hk2A0 hk2A1 ltA0 ltA1 Hr0 Hr1 gA0_0 gA0_1 gA1_0 gA1_1 gA1_2 gA1_3 gA1_4 gA1_5
    clear hcq0 hcq1
    have A0_2 := A0_1
    have A1_2 := A1_1
    have HB_2 := HB_1
    clear A0_1 A1_1 HB_1
    have A0_3 := A0_2
    have A1_3 := A1_2
    have HB_3 := HB_2
    clear A0_2 A1_2 HB_2
    have A0_4 := Lib.hid (A0_3.out.later hb)
    have A1_4 := Lib.hid (A1_3.out.later hb)
    have HB_4 := Lib.hid (HB_3.out.trans (hb.mono HB_3.out.size))
    clear A0_3 A1_3 HB_3
    clear hb hbq0 hbq1 hbq2
    have gA0_0 := A0_4.out.cell 0 (.int .i64 x00) rfl
    have gA0_1 := A0_4.out.cell 1 (.int .i64 x01) rfl
    have gA1_0 := A1_4.out.cell 0 (.slice ax10 x10.length px10) rfl
    have gA1_1 := A1_4.out.cell 1 (.int .i64 x11) rfl
    have gA1_2 := A1_4.out.cell 2 (.int .i64 x12) rfl
    have gA1_3 := A1_4.out.cell 3 (.int .i64 x13) rfl
    have gA1_4 := A1_4.out.cell 4 (.int .i64 x14) rfl
    have gA1_5 := A1_4.out.cell 5 (.int .i64 x15) rfl
    go_wp2_with fail
    clear gA0_0 gA0_1 gA1_0 gA1_1 gA1_2 gA1_3 gA1_4 gA1_5
    refine (toConf [.slice ax10 x10.length px10, .int .i64 x11, .int .i64 x12, .int .i64 x13, .int .i64 x14, .int .i64 x15] (x10, x11, x12, x13, x14, x15) _ hs1.out (confK.rd_later HR1.out HB_4.out)).mono ?_
    rintro e y5 ⟨us, he, hc, hb⟩
    obtain ⟨cax10, cpx10, rfl, _⟩ := conf_form (confK.cap_rd hc)
    obtain rfl : e = .returned (.agg #[.slice cax10 x10.length cpx10, .int .i64 x11, .int .i64 x12, .int .i64 x13, .int .i64 x14, .int .i64 x15]) := he
    have A0_5 := Lib.hid (A0_4.out.later hb)
    have A1_5 := Lib.hid (A1_4.out.later hb)
    have HB_5 := Lib.hid (HB_4.out.trans (hb.mono HB_4.out.size))
    have X1_5 := Lib.hid (confK.cap_rd hc)
    clear A0_4 A1_4 HB_4
    clear hb hc
    have ab := (Below.refl y5.heap.size y5).alloc (Nat.le_refl _) (Obj.cells #[.slice cax10 x10.length cpx10, .int .i64 x11, .int .i64 x12, .int .i64 x13, .int .i64 x14, .int .i64 x15] 28)
    have Z6 := Lib.hid ab.size
    have A0_6 := Lib.hid (A0_5.out.later ab)
    have A1_6 := Lib.hid (A1_5.out.later ab)
    have HB_6 := Lib.hid (HB_5.out.trans (ab.mono HB_5.out.size))
    have X1_6 := Lib.hid (confK.rd_later X1_5.out ab)
    have BX1_6 := Lib.hid (Bx.new 28 #[.slice cax10 x10.length cpx10, .int .i64 x11, .int .i64 x12, .int .i64 x13, .int .i64 x14, .int .i64 x15] y5)
    clear A0_5 A1_5 HB_5 X1_5
    clear ab
    have gBX1_0 := BX1_6.out.cell 0 (.slice cax10 x10.length cpx10) rfl
    have gBX1_1 := BX1_6.out.cell 1 (.int .i64 x11) rfl
    have gBX1_2 := BX1_6.out.cell 2 (.int .i64 x12) rfl
    have gBX1_3 := BX1_6.out.cell 3 (.int .i64 x13) rfl
    have gBX1_4 := BX1_6.out.cell 4 (.int .i64 x14) rfl
    have gBX1_5 := BX1_6.out.cell 5 (.int .i64 x15) rfl
    have gA0_0 := A0_6.out.cell 0 (.int .i64 x00) rfl
    have gA0_1 := A0_6.out.cell 1 (.int .i64 x01) rfl
    have gA1_0 := A1_6.out.cell 0 (.slice ax10 x10.length px10) rfl
    have gA1_1 := A1_6.out.cell 1 (.int .i64 x11) rfl
    have gA1_2 := A1_6.out.cell 2 (.int .i64 x12) rfl
    have gA1_3 := A1_6.out.cell 3 (.int .i64 x13) rfl
    have gA1_4 := A1_6.out.cell 4 (.int .i64 x14) rfl
    have gA1_5 := A1_6.out.cell 5 (.int .i64 x15) rfl
    clear gBX1_0 gBX1_1 gBX1_2 gBX1_3 gBX1_4 gBX1_5 gA0_0 gA0_1 gA1_0 gA1_1 gA1_2 gA1_3 gA1_4 gA1_5
    have gA0_0 := A0_6.out.cell 0 (.int .i64 x00) rfl
    have gA0_1 := A0_6.out.cell 1 (.int .i64 x01) rfl
    have gBX1_0 := BX1_6.out.cell 0 (.slice cax10 x10.length cpx10) rfl
    have gBX1_1 := BX1_6.out.cell 1 (.int .i64 x11) rfl
    have gBX1_2 := BX1_6.out.cell 2 (.int .i64 x12) rfl
    have gBX1_3 := BX1_6.out.cell 3 (.int .i64 x13) rfl
    have gBX1_4 := BX1_6.out.cell 4 (.int .i64 x14) rfl
    have gBX1_5 := BX1_6.out.cell 5 (.int .i64 x15) rfl
    have ltA0 := A0_6.out.lt
    have ltBX1 := BX1_6.out.lt
    go_wp2_with fail
    generalize y5.alloc (Obj.cells #[.slice cax10 x10.length cpx10, .int .i64 x11, .int .i64 x12, .int .i64 x13, .int .i64 x14, .int .i64 x15] 28) = y6 at gA0_0 gA0_1 gBX1_0 gBX1_1 gBX1_2 gBX1_3 gBX1_4 gBX1_5 A0_6 A1_6 HB_6 X1_6 BX1_6 Z6 ltA0 ltBX1 ⊢
    have Hr0 := Lib.hid (wrrK.rd_later HR0.out HB_6.out)
    have Hr1 := Lib.hid (X1_6.out)
    go_region_held3 (fun w' => w'.cell? ⟨w.heap.size, 0, none⟩ = some (.int .i64 x00) ∧ w'.cell? ⟨w.heap.size, 1, none⟩ = some (.int .i64 x01) ∧ w'.cell? ⟨y5.heap.size, 0, none⟩ = some (.slice cax10 x10.length cpx10) ∧ w'.cell? ⟨y5.heap.size, 1, none⟩ = some (.int .i64 x11) ∧ w'.cell? ⟨y5.heap.size, 2, none⟩ = some (.int .i64 x12) ∧ w'.cell? ⟨y5.heap.size, 3, none⟩ = some (.int .i64 x13) ∧ w'.cell? ⟨y5.heap.size, 4, none⟩ = some (.int .i64 x14) ∧ w'.cell? ⟨y5.heap.size, 5, none⟩ = some (.int .i64 x15)) (go_keep) (first
      | (go_at_call 18; refine (implWrrOk [.int .i64 x00, .int .i64 x01] x00 x01 (wrrK.cap_rd hcq0) [.slice cax10 x10.length cpx10, .int .i64 x11, .int .i64 x12, .int .i64 x13, .int .i64 x14, .int .i64 x15] x10 x11 x12 x13 x14 x15 (conf_len hs1.out) _ (confK.rd_later (confK.rd_drew Hr1.out) hbq0)).mono ?_; rw [HD.out]; rintro e y8 ⟨rfl, hbq1⟩; have hk1A0 : ∀ i, y8.cell? ⟨w.heap.size, i, none⟩ = y7.cell? ⟨w.heap.size, i, none⟩ := fun i => hbq1.cell (p := ⟨w.heap.size, i, none⟩) (Nat.lt_of_lt_of_le ltA0 (hbq0.size)); have hk1BX1 : ∀ i, y8.cell? ⟨y5.heap.size, i, none⟩ = y7.cell? ⟨y5.heap.size, i, none⟩ := fun i => hbq1.cell (p := ⟨y5.heap.size, i, none⟩) (Nat.lt_of_lt_of_le ltBX1 (hbq0.size)))
      | (go_at_call 16; refine (toWrr [.int .i64 x00, .int .i64 x01] (x00, x01) _ hs0.out (wrrK.rd_drew Hr0.out)).mono ?_; rintro e y7 ⟨us, he, hcq0, hbq0⟩; obtain rfl := wrr_form (wrrK.cap_rd hcq0); obtain rfl : e = .returned (.agg #[.int .i64 x00, .int .i64 x01]) := he; have hk0A0 : ∀ i, y7.cell? ⟨w.heap.size, i, none⟩ = y6.cell? ⟨w.heap.size, i, none⟩ := fun i => hbq0.cell (p := ⟨w.heap.size, i, none⟩) (ltA0); have hk0BX1 : ∀ i, y7.cell? ⟨y5.heap.size, i, none⟩ = y6.cell? ⟨y5.heap.size, i, none⟩ := fun i => hbq0.cell (p := ⟨y5.heap.size, i, none⟩) (ltBX1)))
    have hb := (Below.refl y6.heap.size y6).drew.trans hbq0
    have hb' := hb.trans (hbq1.mono hb.size)
    clear hb
    have hb := hb'
    clear hb'
    clear hk0A0 hk0BX1 hk1A0 hk1BX1 ltA0 ltBX1 Hr0 Hr1 gA0_0 gA0_1 gBX1_0 gBX1_1 gBX1_2 gBX1_3 gBX1_4 gBX1_5
    clear hcq0
    have A0_7 := A0_6
    have A1_7 := A1_6
    have HB_7 := HB_6
    have X1_7 := X1_6
    have BX1_7 := BX1_6
    clear A0_6 A1_6 HB_6 X1_6 BX1_6
    have A0_8 := Lib.hid (A0_7.out.later hb)
    have A1_8 := Lib.hid (A1_7.out.later hb)
    have HB_8 := Lib.hid (HB_7.out.trans (hb.mono HB_7.out.size))
    have X1_8 := Lib.hid (confK.rd_later X1_7.out hb)
    have BX1_8 := Lib.hid (BX1_7.out.later hb)
    clear A0_7 A1_7 HB_7 X1_7 BX1_7
    clear hb hbq0 hbq1
    have gBX1_0 := BX1_8.out.cell 0 (.slice cax10 x10.length cpx10) rfl
    have gBX1_1 := BX1_8.out.cell 1 (.int .i64 x11) rfl
    have gBX1_2 := BX1_8.out.cell 2 (.int .i64 x12) rfl
    have gBX1_3 := BX1_8.out.cell 3 (.int .i64 x13) rfl
    have gBX1_4 := BX1_8.out.cell 4 (.int .i64 x14) rfl
    have gBX1_5 := BX1_8.out.cell 5 (.int .i64 x15) rfl
    have gA1_0 := A1_8.out.cell 0 (.slice ax10 x10.length px10) rfl
    have gA1_1 := A1_8.out.cell 1 (.int .i64 x11) rfl
    have gA1_2 := A1_8.out.cell 2 (.int .i64 x12) rfl
    have gA1_3 := A1_8.out.cell 3 (.int .i64 x13) rfl
    have gA1_4 := A1_8.out.cell 4 (.int .i64 x14) rfl
    have gA1_5 := A1_8.out.cell 5 (.int .i64 x15) rfl
    have ltX := BX1_8.out.lt
    have ltA := A1_8.out.lt
    go_wp2_with fail
    have HrA := Lib.hid (confK.rd_later HR1.out HB_8.out)
    have HrX := Lib.hid (X1_8.out)
    go_region_held3 (fun w' => w'.cell? ⟨y5.heap.size, 0, none⟩ = some (.slice cax10 x10.length cpx10) ∧ w'.cell? ⟨y5.heap.size, 1, none⟩ = some (.int .i64 x11) ∧ w'.cell? ⟨y5.heap.size, 2, none⟩ = some (.int .i64 x12) ∧ w'.cell? ⟨y5.heap.size, 3, none⟩ = some (.int .i64 x13) ∧ w'.cell? ⟨y5.heap.size, 4, none⟩ = some (.int .i64 x14) ∧ w'.cell? ⟨y5.heap.size, 5, none⟩ = some (.int .i64 x15) ∧ w'.cell? ⟨w.heap.size + 1, 0, none⟩ = some (.slice ax10 x10.length px10) ∧ w'.cell? ⟨w.heap.size + 1, 1, none⟩ = some (.int .i64 x11) ∧ w'.cell? ⟨w.heap.size + 1, 2, none⟩ = some (.int .i64 x12) ∧ w'.cell? ⟨w.heap.size + 1, 3, none⟩ = some (.int .i64 x13) ∧ w'.cell? ⟨w.heap.size + 1, 4, none⟩ = some (.int .i64 x14) ∧ w'.cell? ⟨w.heap.size + 1, 5, none⟩ = some (.int .i64 x15)) (go_keep) (first
      | (go_at_call 17; refine (toConf [.slice ax10 x10.length px10, .int .i64 x11, .int .i64 x12, .int .i64 x13, .int .i64 x14, .int .i64 x15] (x10, x11, x12, x13, x14, x15) _ hs1.out (confK.rd_drew HrA.out)).mono ?_; rintro e y9 ⟨us, he, hc, hb1⟩; obtain ⟨eax10, epx10, rfl, _⟩ := conf_form (confK.cap_rd hc); obtain rfl : e = .returned (.agg #[.slice eax10 x10.length epx10, .int .i64 x11, .int .i64 x12, .int .i64 x13, .int .i64 x14, .int .i64 x15]) := he; have hk : ∀ i, y9.cell? ⟨y5.heap.size, i, none⟩ = y8.cell? ⟨y5.heap.size, i, none⟩ := fun i => hb1.cell (p := ⟨y5.heap.size, i, none⟩) (ltX); have hk' : ∀ i, y9.cell? ⟨w.heap.size + 1, i, none⟩ = y8.cell? ⟨w.heap.size + 1, i, none⟩ := fun i => hb1.cell (p := ⟨w.heap.size + 1, i, none⟩) (ltA))
      | (go_at_call 19; refine (eqConf [.slice cax10 x10.length cpx10, .int .i64 x11, .int .i64 x12, .int .i64 x13, .int .i64 x14, .int .i64 x15] [.slice eax10 x10.length epx10, .int .i64 x11, .int .i64 x12, .int .i64 x13, .int .i64 x14, .int .i64 x15] (x10, x11, x12, x13, x14, x15) _ hs1.out (confK.rd_later (confK.rd_drew HrX.out) hb1) (confK.cap_rd hc)).mono ?_; rintro e y10 ⟨rfl, hb2⟩; have hk2 : ∀ i, y10.cell? ⟨y5.heap.size, i, none⟩ = y9.cell? ⟨y5.heap.size, i, none⟩ := fun i => hb2.cell (p := ⟨y5.heap.size, i, none⟩) (Nat.lt_of_lt_of_le ltX hb1.size); have hk2' : ∀ i, y10.cell? ⟨w.heap.size + 1, i, none⟩ = y9.cell? ⟨w.heap.size + 1, i, none⟩ := fun i => hb2.cell (p := ⟨w.heap.size + 1, i, none⟩) (Nat.lt_of_lt_of_le ltA hb1.size)))
    have hb := ((Below.refl y8.heap.size y8).drew.trans hb1).trans (hb2.mono hb1.size)
    clear hk hk' hk2 hk2' ltX ltA HrA HrX gBX1_0 gBX1_1 gBX1_2 gBX1_3 gBX1_4 gBX1_5 gA1_0 gA1_1 gA1_2 gA1_3 gA1_4 gA1_5
    have A0_9 := A0_8
    have A1_9 := A1_8
    have HB_9 := HB_8
    have X1_9 := X1_8
    have BX1_9 := BX1_8
    clear A0_8 A1_8 HB_8 X1_8 BX1_8
    have A0_10 := Lib.hid (A0_9.out.later hb)
    have A1_10 := Lib.hid (A1_9.out.later hb)
    have HB_10 := Lib.hid (HB_9.out.trans (hb.mono HB_9.out.size))
    have X1_10 := Lib.hid (confK.rd_later X1_9.out hb)
    have BX1_10 := Lib.hid (BX1_9.out.later hb)
    clear A0_9 A1_9 HB_9 X1_9 BX1_9
    clear hb hb1 hb2 hc
    go_wp2
    go_ret
    exact ⟨rfl, HB_10.out⟩

set_option maxRecDepth 100000 in
set_option maxRecDepth 100000 in
theorem lifted (os : Os) (started : os.Started) (H : Type) (enc : TypeId × Value → H) :
    ReturnsInHanded {} Try.checked os 4 .any (Rows.fnExactWrrOkSpec.pre6 enc Try.prog Try.f4 Rows.fnExactWrrOkRow.domain false) (Rows.fnExactWrrOkSpec.post enc Try.prog Try.f4 false true false false) := by
  refine returnsInHanded_of_change (C := Try.checked) own started (by kernel_rfl) Try.func4
    (ChangeSpec.witness6 (enc := enc) (C := Try.checked) false ⟨#[], #[.agg #[.int .i64 0, .int .i64 0], .agg #[.slice none 0 0, .int .i64 0, .int .i64 0, .int .i64 0, .int .i64 0, .int .i64 0]], []⟩ 8 (by kernel_rfl) (by kernel_rfl) (by kernel_rfl) (by kernel_rfl)) ?_
  intro W base args ds gs before hval0 hW hcnd _
  have hval : ∀ (j : Nat) t v, Try.f4.params[j]? = some t → args[j]? = some v → Value.okWide Try.prog W .any base t v := hval0
  have hW' := hW
  obtain ⟨p, q, hA0, hV, rfl, hfz, hnd⟩ := hW
  have hA : DataW.TrodAll enc Try.prog W 0 (fun _ => true) true Try.f4.params.toList args.toList ds p := hA0
  rw [Try.params4] at hA hval
  obtain ⟨v0, vs0, d0, ds0, p0, q0, hargs, rfl, rfl, h0, r0⟩ := trodAll_cons hA
  obtain ⟨v1, vs1, d1, ds1, p1, q1, rfl, rfl, rfl, h1, r1⟩ := trodAll_cons r0
  obtain ⟨rfl, rfl, rfl⟩ := trodAll_nil r1
  obtain rfl : args = #[v0, v1] := by cases args; simp_all
  obtain ⟨rfl, rfl⟩ := trodVars_none hV
  have k0 := h0
  have lt0 : ∀ x ∈ p0, x.block < W.heap.size := by obtain ⟨m, hm⟩ := k0; exact DataW.trod_lt m _ _ _ hm
  obtain ⟨u0, x0, rfl, R0⟩ := KD.open_wrr (hval 0 36 v0 rfl rfl) h0
  have k1 := h1
  have lt1 : ∀ x ∈ p1, x.block < W.heap.size := by obtain ⟨m, hm⟩ := k1; exact DataW.trod_lt m _ _ _ hm
  obtain ⟨u1, x1, rfl, R1⟩ := KD.open_conf (hval 1 39 v1 rfl rfl) h1
  clear hA0 hval0
  refine (walk u0 x0 u1 x1 W R0 R1).mono fun e W' ⟨he, bel⟩ => ?_
  subst he
  exact ⟨_, rfl, _, _, _, [], _, [], hW', trodAll_mk1 (shut_bool Try.underlying4 _), (trodAll_cons_mk (Below.trod laidOut (by kernel_rfl) (of_decide_eq_true (by kernel_rfl)) k0 bel lt0) (trodAll_cons_mk (Below.trod laidOut (by kernel_rfl) (of_decide_eq_true (by kernel_rfl)) k1 bel lt1) trodAll_mk0)), rfl, bel.frame _, fun h => by cases h⟩

theorem over : Rows.fnExactWrrOkRow.holds Try.pinned (OpenSpec.ofChange Rows.fnExactWrrOkSpec) :=
  OpenClaim.holds_of_wide 4 Try.f4 rfl rfl rfl rfl rfl rfl rfl ⟨rfl, rfl, rfl, rfl, rfl⟩ rfl rfl rfl rfl rfl (by kernel_rfl) Try.func4 (by kernel_rfl)
    (of_decide_eq_true (by kernel_rfl)) (by unfold Func.isWrapper; first | (rw [if_pos (by decide +kernel)]; kernel_rfl) | (rw [if_neg (by decide +kernel)]; exact ⟨rfl, rfl⟩))
    (fun os started H enc _ => lifted os started H enc)

theorem proved : Rows.FnExactWrrOkSaid := over
#print axioms proved
end Go.Proofs.Ytddbhokfjdgabaa.fnExactWrrOk
