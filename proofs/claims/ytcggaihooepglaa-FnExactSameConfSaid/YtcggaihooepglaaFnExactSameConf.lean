/-
  For every two configurations the program's SameConf answers as its model does, and leaves the configurations as they were. No condition.
-/
import Derived.Test.YtcggaihooepglaaRows
import Derived.WalkKit
import Derived.ProofKit
import Derived.OpenShut
import Derived.ShutString
import Derived.ChangeOld
import Derived.Below
import Derived.Test.YtcggaihooepglaaConf5
import Derived.Test.YtcggaihooepglaaOpenConf
import Derived.Deep.RegionHeld3
namespace Go.Proofs.Ytcggaihooepglaa.fnExactSameConf
open Go.ChangeShapes Go.WideShapes Go.ChangeAt Go.RowKit
open Go.ChangeMaps (open_string shut_string)
set_option linter.unusedVariables false

theorem own : ownKnob Try.prog.godebug = none := by kernel_rfl
theorem laidOut : laidOutB Try.prog = true := by kernel_rfl
open Num GR
set_option maxHeartbeats 4000000 in
set_option maxRecDepth 100000 in
theorem walk (u0 : Value) (l0 : List Num.MC) (q0 mw0 mr0 ms0 lm0 : Int) (u1 : Value) (l1 : List Num.MC) (q1 mw1 mr1 ms1 lm1 : Int) (w : World) (R0 : GR.Rd Num.mcK u0 l0 w) (hl0 : l0.length ≤ 9223372036854775807) (R1 : GR.Rd Num.mcK u1 l1 w) (hl1 : l1.length ≤ 9223372036854775807) :
    Calls Try.prog 6 #[.agg #[u0, .int .i64 q0, .int .i64 mw0, .int .i64 mr0, .int .i64 ms0, .int .i64 lm0], .agg #[u1, .int .i64 q1, .int .i64 mw1, .int .i64 mr1, .int .i64 ms1, .int .i64 lm1]] w fun e w' => e = .returned (.bool true) ∧ Below w.heap.size w w' := by
  obtain ⟨a0, cap0, rfl⟩ := R0.slice
  obtain ⟨a1, cap1, rfl⟩ := R1.slice
  obtain ⟨len0, hlen0⟩ : ∃ n, l0.length = n := ⟨_, rfl⟩
  obtain ⟨len1, hlen1e⟩ : ∃ n, l1.length = n := ⟨_, rfl⟩
  rw [hlen0] at R0 hl0 ⊢
  rw [hlen1e] at R1 hl1 ⊢
  have hlen := hl0
  have hlen1 := hl1
  by_cases hbig : 1048576 < len0
  · have Hsz := Lib.hid (szL_no (L := 1048576) (n := len0) (by omega))
    clear R0 R1 hlen0 hlen1e
    go_enter Try.func6, Try.ntmps6
    go_wp2_with fail
    refine (szConf_any _ _ _ _ _ _ 1048576 len0 _ ⟨_, _, rfl⟩ (by omega) (by omega) hlen).mono ?_
    rintro e w1 ⟨rfl, hb1⟩
    rw [Hsz.out]
    go_wp2
    go_ret
    exact ⟨rfl, below_alloc1 ((Below.refl _ _).alloc (Nat.le_refl _) _) (by simp) hb1⟩
  · have Hsz := Lib.hid (szL_yes (L := 1048576) (n := len0) (by omega))
    obtain ⟨L, hL⟩ : ∃ L : Int, 1048576 - (len0 : Int) = L := ⟨_, rfl⟩
    rw [hL] at Hsz
    have hL0 : 0 ≤ L := by omega
    have hL1 : L ≤ 1048576 := by omega
    have HL := Lib.hid hL
    clear hL
    have A0 := (Bx.new 24 #[.slice a0 len0 cap0, .int .i64 q0, .int .i64 mw0, .int .i64 mr0, .int .i64 ms0, .int .i64 lm0] w).later ((Below.refl _ _).alloc (Nat.le_refl _) (Obj.cells #[.slice a1 len1 cap1, .int .i64 q1, .int .i64 mw1, .int .i64 mr1, .int .i64 ms1, .int .i64 lm1] 24))
    have B0 := Bx.new 24 #[.slice a1 len1 cap1, .int .i64 q1, .int .i64 mw1, .int .i64 mr1, .int .i64 ms1, .int .i64 lm1] (w.alloc (Obj.cells #[.slice a0 len0 cap0, .int .i64 q0, .int .i64 mw0, .int .i64 mr0, .int .i64 ms0, .int .i64 lm0] 24))
    have hsz : ∀ (w : World) o, (w.alloc o).heap.size = w.heap.size + 1 := fun w o => by simp
    rw [hsz] at B0
    clear hsz
    by_cases hbig1 : L < (len1 : Int)
    · have Hsz1 := Lib.hid (szL_no hbig1)
      clear R0 R1 hbig hlen0 hlen1e
      go_enter Try.func6, Try.ntmps6
      go_wp2_with fail
      refine (szConf_any _ _ _ _ _ _ 1048576 len0 _ ⟨_, _, rfl⟩ (by omega) (by omega) hlen).mono ?_
      rintro e w1 ⟨rfl, hb1⟩
      rw [Hsz.out]
      obtain ⟨g0, g1, g2, g3, g4, g5⟩ := (B0.later hb1).cells6
      have hb01 := below_alloc1 ((Below.refl w.heap.size w).alloc (Nat.le_refl _) _) (by simp) hb1
      have Hb1 := Lib.hid hb01
      clear hb1 hb01 A0 B0
      go_wp2_with fail
      refine (szConf_any _ _ _ _ _ _ L len1 _ ⟨_, _, rfl⟩ hL0 hL1 hlen1).mono ?_
      rintro e w2 ⟨rfl, hb2⟩
      rw [Hsz1.out]
      go_wp2
      go_ret
      exact ⟨rfl, Hb1.out.trans (hb2.mono Hb1.out.size)⟩
    · have Hsz1 := Lib.hid (szL_yes (L := L) (n := len1) (by omega))
      have hL2 : 0 ≤ L - (len1 : Int) := by omega
      have hL3 : L - (len1 : Int) ≤ 1048576 := by omega
      have N0 : Hid (l0.length ≤ 2000000) := Lib.hid (by omega)
      have N1 : Hid (l1.length ≤ 2000000) := Lib.hid (by have := HL.out; omega)
      have hr0 := R0
      have hr1 := R1
      replace R0 := Lib.hid hr0
      replace R1 := Lib.hid hr1
      obtain ⟨B, hB⟩ : ∃ B, sameC l0 q0 mw0 mr0 ms0 lm0 l1 q1 mw1 mr1 ms1 lm1 = B := ⟨_, rfl⟩
      have HB := Lib.hid hB
      have hBB : (B != B) = false := by simp
      clear hlen0 hlen1e hbig hbig1 hr0 hr1 hB
      go_enter Try.func6, Try.ntmps6
      go_wp2_with fail
      refine (szConf_any _ _ _ _ _ _ 1048576 len0 _ ⟨_, _, rfl⟩ (by omega) (by omega) hlen).mono ?_
      rintro e w1 ⟨rfl, hb1⟩
      rw [Hsz.out]
      have A1 := Lib.hid (A0.later hb1)
      have B1 := Lib.hid (B0.later hb1)
      have hb01 := below_alloc1 ((Below.refl w.heap.size w).alloc (Nat.le_refl _) _) (by simp) hb1
      have Hb1 := Lib.hid hb01
      obtain ⟨g0, g1, g2, g3, g4, g5⟩ := B1.out.cells6
      clear hb1 hb01 A0 B0
      go_wp2_with fail
      refine (szConf_any _ _ _ _ _ _ L len1 _ ⟨_, _, rfl⟩ hL0 hL1 hlen1).mono ?_
      rintro e w2 ⟨rfl, hb2⟩
      rw [Hsz1.out]
      have A2 := Lib.hid (A1.out.later hb2)
      have B2 := Lib.hid (B1.out.later hb2)
      have Hb2 := Lib.hid (Hb1.out.trans (hb2.mono Hb1.out.size))
      clear hb2 g0 g1 g2 g3 g4 g5 A1 B1
      obtain ⟨g0, g1, g2, g3, g4, g5⟩ := A2.out.cells6
      obtain ⟨k0, k1, k2, k3, k4, k5⟩ := B2.out.cells6
      have ltA := A2.out.lt
      have ltB := B2.out.lt
      go_wp2_with fail
      go_region_held3 (fun w' => w'.cell? ⟨w.heap.size, 0, none⟩ = some (.slice a0 len0 cap0) ∧ w'.cell? ⟨w.heap.size, 1, none⟩ = some (.int .i64 q0) ∧ w'.cell? ⟨w.heap.size, 2, none⟩ = some (.int .i64 mw0) ∧ w'.cell? ⟨w.heap.size, 3, none⟩ = some (.int .i64 mr0) ∧ w'.cell? ⟨w.heap.size, 4, none⟩ = some (.int .i64 ms0) ∧ w'.cell? ⟨w.heap.size, 5, none⟩ = some (.int .i64 lm0) ∧
        w'.cell? ⟨w.heap.size + 1, 0, none⟩ = some (.slice a1 len1 cap1) ∧ w'.cell? ⟨w.heap.size + 1, 1, none⟩ = some (.int .i64 q1) ∧ w'.cell? ⟨w.heap.size + 1, 2, none⟩ = some (.int .i64 mw1) ∧ w'.cell? ⟨w.heap.size + 1, 3, none⟩ = some (.int .i64 mr1) ∧ w'.cell? ⟨w.heap.size + 1, 4, none⟩ = some (.int .i64 ms1) ∧ w'.cell? ⟨w.heap.size + 1, 5, none⟩ = some (.int .i64 lm1)) (go_keep) (first
        | (go_at_call 9; have hz := hb3; clear hz; refine (toConf_any _ l1 _ _ _ _ _ N1.out _ (R1.out.below (Hb2.out.drew.trans (hb3.mono Hb2.out.size)))).mono ?_; rintro e w4 ⟨v1, rfl, ho1, hb4⟩; have hk2 : ∀ i, w4.cell? ⟨w.heap.size, i, none⟩ = w3.cell? ⟨w.heap.size, i, none⟩ := fun i => hb4.cell (p := ⟨w.heap.size, i, none⟩) (Nat.lt_of_lt_of_le ltA hb3.size); have hk2' : ∀ i, w4.cell? ⟨w.heap.size + 1, i, none⟩ = w3.cell? ⟨w.heap.size + 1, i, none⟩ := fun i => hb4.cell (p := ⟨w.heap.size + 1, i, none⟩) (Nat.lt_of_lt_of_le ltB hb3.size))
        | (go_at_call 9; refine (toConf_any _ l0 _ _ _ _ _ N0.out _ (R0.out.below Hb2.out.drew)).mono ?_; rintro e w3 ⟨v0, rfl, ho0, hb3⟩; have hk : ∀ i, w3.cell? ⟨w.heap.size, i, none⟩ = w2.cell? ⟨w.heap.size, i, none⟩ := fun i => hb3.cell (p := ⟨w.heap.size, i, none⟩) ltA; have hk' : ∀ i, w3.cell? ⟨w.heap.size + 1, i, none⟩ = w2.cell? ⟨w.heap.size + 1, i, none⟩ := fun i => hb3.cell (p := ⟨w.heap.size + 1, i, none⟩) ltB)
        | (go_at_call 16; refine (specSameConf _ l0 _ _ _ _ _ _ l1 _ _ _ _ _ N0.out _ (ho0.rd.below hb4) ho1.rd).mono ?_; rintro e w5 ⟨rfl, hb5⟩; rw [HB.out]; have hk3 : ∀ i, w5.cell? ⟨w.heap.size, i, none⟩ = w4.cell? ⟨w.heap.size, i, none⟩ := fun i => hb5.cell (p := ⟨w.heap.size, i, none⟩) (Nat.lt_of_lt_of_le ltA (Nat.le_trans hb3.size hb4.size)); have hk3' : ∀ i, w5.cell? ⟨w.heap.size + 1, i, none⟩ = w4.cell? ⟨w.heap.size + 1, i, none⟩ := fun i => hb5.cell (p := ⟨w.heap.size + 1, i, none⟩) (Nat.lt_of_lt_of_le ltB (Nat.le_trans hb3.size hb4.size))))
      have A5 := Lib.hid (((A2.out.drew.later hb3).later hb4).later hb5)
      have B5 := Lib.hid (((B2.out.drew.later hb3).later hb4).later hb5)
      have Hb5 := Lib.hid ((((Hb2.out.drew.trans (hb3.mono Hb2.out.size)).trans (hb4.mono (Nat.le_trans Hb2.out.size hb3.size))).trans (hb5.mono (Nat.le_trans (Nat.le_trans Hb2.out.size hb3.size) hb4.size))))
      clear hk hk' hk2 hk2' hk3 hk3' g0 g1 g2 g3 g4 g5 k0 k1 k2 k3 k4 k5 ltA ltB ho0 ho1 hb3 hb4 hb5 A2 B2
      obtain ⟨g0, g1, g2, g3, g4, g5⟩ := A5.out.cells6
      go_wp2_with fail
      refine (toConf_any _ l0 _ _ _ _ _ N0.out _ (R0.out.below Hb5.out)).mono ?_
      rintro e w6 ⟨v2, rfl, ho2, hb6⟩
      obtain ⟨ad2, cap2, rfl⟩ := ho2.slice
      have H2 := Lib.hid ho2.rd
      have A6 := Lib.hid ((A5.out.later hb6).later ((Below.refl _ _).alloc (Nat.le_refl _) (Obj.cells #[.slice ad2 l0.length cap2, .int .i64 q0, .int .i64 mw0, .int .i64 mr0, .int .i64 ms0, .int .i64 lm0] 29)))
      have B6 := Lib.hid ((B5.out.later hb6).later ((Below.refl _ _).alloc (Nat.le_refl _) (Obj.cells #[.slice ad2 l0.length cap2, .int .i64 q0, .int .i64 mw0, .int .i64 mr0, .int .i64 ms0, .int .i64 lm0] 29)))
      have X6 := Lib.hid (Bx.new 29 #[.slice ad2 l0.length cap2, .int .i64 q0, .int .i64 mw0, .int .i64 mr0, .int .i64 ms0, .int .i64 lm0] w6)
      have H26 := Lib.hid (Rd.alloc H2.out (Obj.cells #[.slice ad2 l0.length cap2, .int .i64 q0, .int .i64 mw0, .int .i64 mr0, .int .i64 ms0, .int .i64 lm0] 29))
      have Hb6 := Lib.hid ((Hb5.out.trans (hb6.mono Hb5.out.size)).alloc (Nat.le_trans Hb5.out.size hb6.size) (Obj.cells #[.slice ad2 l0.length cap2, .int .i64 q0, .int .i64 mw0, .int .i64 mr0, .int .i64 ms0, .int .i64 lm0] 29))
      obtain ⟨k0, k1, k2, k3, k4, k5⟩ := ((B5.out.later hb6)).cells6
      have ltB := (B5.out.later hb6).lt
      clear ho2 hb6 g0 g1 g2 g3 g4 g5 A5 B5 H2
      go_wp2_with fail
      refine (toConf_any _ l1 _ _ _ _ _ N1.out _ (R1.out.below Hb6.out)).mono ?_
      rintro e w7 ⟨v3, rfl, ho3, hb7⟩
      obtain ⟨ad3, cap3, rfl⟩ := ho3.slice
      have H3 := Lib.hid (Rd.alloc ho3.rd (Obj.cells #[.slice ad3 l1.length cap3, .int .i64 q1, .int .i64 mw1, .int .i64 mr1, .int .i64 ms1, .int .i64 lm1] 29))
      have ab := (Below.refl w7.heap.size w7).alloc (Nat.le_refl _) (Obj.cells #[.slice ad3 l1.length cap3, .int .i64 q1, .int .i64 mw1, .int .i64 mr1, .int .i64 ms1, .int .i64 lm1] 29)
      have A7 := Lib.hid ((A6.out.later hb7).later ab)
      have B7 := Lib.hid ((B6.out.later hb7).later ab)
      have X7 := Lib.hid ((X6.out.later hb7).later ab)
      have H27 := Lib.hid ((H26.out.below hb7).below ab)
      have Y7 := Lib.hid (Bx.new 29 #[.slice ad3 l1.length cap3, .int .i64 q1, .int .i64 mw1, .int .i64 mr1, .int .i64 ms1, .int .i64 lm1] w7)
      have Hb7 := Lib.hid ((Hb6.out.trans (hb7.mono Hb6.out.size)).trans (ab.mono (Nat.le_trans Hb6.out.size hb7.size)))
      obtain ⟨g0, g1, g2, g3, g4, g5⟩ := (X6.out.later hb7).cells6
      have ltX := (X6.out.later hb7).lt
      clear ho3 hb7 ab k0 k1 k2 k3 k4 k5 A6 B6 X6 H26 Hb6
      go_wp2_with fail
      refine (implSameConf _ l0 _ _ _ _ _ _ l1 _ _ _ _ _ N0.out _ H27.out H3.out).mono ?_
      rintro e w8 ⟨rfl, hb8⟩
      rw [HB.out]
      have A8 := Lib.hid (A7.out.later hb8)
      have B8 := Lib.hid (B7.out.later hb8)
      have X8 := Lib.hid (X7.out.later hb8)
      have Y8 := Lib.hid (Y7.out.later hb8)
      have H2 := Lib.hid (H27.out.below hb8)
      have H38 := Lib.hid (H3.out.below hb8)
      have Hb8 := Lib.hid (Hb7.out.trans (hb8.mono Hb7.out.size))
      clear hb8 A7 B7 X7 Y7 H27 H3 Hb7 g0 g1 g2 g3 g4 g5
      obtain ⟨g0, g1, g2, g3, g4, g5⟩ := A8.out.cells6
      obtain ⟨k0, k1, k2, k3, k4, k5⟩ := X8.out.cells6
      have ltA := A8.out.lt
      have ltX8 := X8.out.lt
      go_wp2_with fail
      go_region_held3 (fun w' => w'.cell? ⟨w.heap.size, 0, none⟩ = some (.slice a0 len0 cap0) ∧ w'.cell? ⟨w.heap.size, 1, none⟩ = some (.int .i64 q0) ∧ w'.cell? ⟨w.heap.size, 2, none⟩ = some (.int .i64 mw0) ∧ w'.cell? ⟨w.heap.size, 3, none⟩ = some (.int .i64 mr0) ∧ w'.cell? ⟨w.heap.size, 4, none⟩ = some (.int .i64 ms0) ∧ w'.cell? ⟨w.heap.size, 5, none⟩ = some (.int .i64 lm0) ∧
        w'.cell? ⟨w6.heap.size, 0, none⟩ = some (.slice ad2 l0.length cap2) ∧ w'.cell? ⟨w6.heap.size, 1, none⟩ = some (.int .i64 q0) ∧ w'.cell? ⟨w6.heap.size, 2, none⟩ = some (.int .i64 mw0) ∧ w'.cell? ⟨w6.heap.size, 3, none⟩ = some (.int .i64 mr0) ∧ w'.cell? ⟨w6.heap.size, 4, none⟩ = some (.int .i64 ms0) ∧ w'.cell? ⟨w6.heap.size, 5, none⟩ = some (.int .i64 lm0)) (go_keep) (first
        | (go_at_call 9; refine (toConf_any _ l0 _ _ _ _ _ N0.out _ (R0.out.below Hb8.out.drew)).mono ?_; rintro e w9 ⟨v4, rfl, ho, hbu⟩; have hk : ∀ i, w9.cell? ⟨w.heap.size, i, none⟩ = w8.cell? ⟨w.heap.size, i, none⟩ := fun i => hbu.cell (p := ⟨w.heap.size, i, none⟩) ltA; have hk' : ∀ i, w9.cell? ⟨w6.heap.size, i, none⟩ = w8.cell? ⟨w6.heap.size, i, none⟩ := fun i => hbu.cell (p := ⟨w6.heap.size, i, none⟩) ltX8)
        | (go_at_call 11; refine (eqConf_same _ _ l0 _ _ _ _ _ N0.out _ ((Rd.drew H2.out).below hbu) ho.rd).mono ?_; rintro e w10 ⟨rfl, hbv⟩; have hk2 : ∀ i, w10.cell? ⟨w.heap.size, i, none⟩ = w9.cell? ⟨w.heap.size, i, none⟩ := fun i => hbv.cell (p := ⟨w.heap.size, i, none⟩) (Nat.lt_of_lt_of_le ltA hbu.size); have hk2' : ∀ i, w10.cell? ⟨w6.heap.size, i, none⟩ = w9.cell? ⟨w6.heap.size, i, none⟩ := fun i => hbv.cell (p := ⟨w6.heap.size, i, none⟩) (Nat.lt_of_lt_of_le ltX8 hbu.size)))
      have B10 := Lib.hid ((B8.out.drew.later hbu).later hbv)
      have Y10 := Lib.hid ((Y8.out.drew.later hbu).later hbv)
      have H310 := Lib.hid (((Rd.drew H38.out).below hbu).below hbv)
      have Hb10 := Lib.hid ((Hb8.out.drew.trans (hbu.mono Hb8.out.size)).trans (hbv.mono (Nat.le_trans Hb8.out.size hbu.size)))
      clear hk hk' hk2 hk2' g0 g1 g2 g3 g4 g5 k0 k1 k2 k3 k4 k5 ho hbu hbv A8 B8 X8 Y8
      obtain ⟨g0, g1, g2, g3, g4, g5⟩ := B10.out.cells6
      obtain ⟨k0, k1, k2, k3, k4, k5⟩ := Y10.out.cells6
      have ltB10 := B10.out.lt
      have ltY := Y10.out.lt
      go_wp2_with fail
      go_region_held3 (fun w' => w'.cell? ⟨w.heap.size + 1, 0, none⟩ = some (.slice a1 len1 cap1) ∧ w'.cell? ⟨w.heap.size + 1, 1, none⟩ = some (.int .i64 q1) ∧ w'.cell? ⟨w.heap.size + 1, 2, none⟩ = some (.int .i64 mw1) ∧ w'.cell? ⟨w.heap.size + 1, 3, none⟩ = some (.int .i64 mr1) ∧ w'.cell? ⟨w.heap.size + 1, 4, none⟩ = some (.int .i64 ms1) ∧ w'.cell? ⟨w.heap.size + 1, 5, none⟩ = some (.int .i64 lm1) ∧
        w'.cell? ⟨w7.heap.size, 0, none⟩ = some (.slice ad3 l1.length cap3) ∧ w'.cell? ⟨w7.heap.size, 1, none⟩ = some (.int .i64 q1) ∧ w'.cell? ⟨w7.heap.size, 2, none⟩ = some (.int .i64 mw1) ∧ w'.cell? ⟨w7.heap.size, 3, none⟩ = some (.int .i64 mr1) ∧ w'.cell? ⟨w7.heap.size, 4, none⟩ = some (.int .i64 ms1) ∧ w'.cell? ⟨w7.heap.size, 5, none⟩ = some (.int .i64 lm1)) (go_keep) (first
        | (go_at_call 9; refine (toConf_any _ l1 _ _ _ _ _ N1.out _ (R1.out.below Hb10.out.drew)).mono ?_; rintro e w11 ⟨v5, rfl, ho, hbu⟩; have hk : ∀ i, w11.cell? ⟨w.heap.size + 1, i, none⟩ = w10.cell? ⟨w.heap.size + 1, i, none⟩ := fun i => hbu.cell (p := ⟨w.heap.size + 1, i, none⟩) ltB10; have hk' : ∀ i, w11.cell? ⟨w7.heap.size, i, none⟩ = w10.cell? ⟨w7.heap.size, i, none⟩ := fun i => hbu.cell (p := ⟨w7.heap.size, i, none⟩) ltY)
        | (go_at_call 11; refine (eqConf_same _ _ l1 _ _ _ _ _ N1.out _ ((Rd.drew H310.out).below hbu) ho.rd).mono ?_; rintro e w12 ⟨rfl, hbv⟩; have hk2 : ∀ i, w12.cell? ⟨w.heap.size + 1, i, none⟩ = w11.cell? ⟨w.heap.size + 1, i, none⟩ := fun i => hbv.cell (p := ⟨w.heap.size + 1, i, none⟩) (Nat.lt_of_lt_of_le ltB10 hbu.size); have hk2' : ∀ i, w12.cell? ⟨w7.heap.size, i, none⟩ = w11.cell? ⟨w7.heap.size, i, none⟩ := fun i => hbv.cell (p := ⟨w7.heap.size, i, none⟩) (Nat.lt_of_lt_of_le ltY hbu.size)))
      go_wp2
      go_ret
      exact ⟨rfl, (Hb10.out.drew.trans (hbu.mono Hb10.out.size)).trans (hbv.mono (Nat.le_trans Hb10.out.size hbu.size))⟩

set_option maxRecDepth 100000 in
set_option maxRecDepth 100000 in
theorem lifted (os : Os) (started : os.Started) (H : Type) (enc : TypeId × Value → H) :
    ReturnsInHanded {} Try.checked os 6 .any (Rows.fnExactSameConfSpec.pre6 enc Try.prog Try.f6 Rows.fnExactSameConfRow.domain false) (Rows.fnExactSameConfSpec.post enc Try.prog Try.f6 false true false false) := by
  refine returnsInHanded_of_change (C := Try.checked) own started (by kernel_rfl) Try.func6
    (ChangeSpec.witness6 (enc := enc) (C := Try.checked) false ⟨#[], #[.agg #[.slice none 0 0, .int .i64 0, .int .i64 0, .int .i64 0, .int .i64 0, .int .i64 0], .agg #[.slice none 0 0, .int .i64 0, .int .i64 0, .int .i64 0, .int .i64 0, .int .i64 0]], []⟩ 8 (by kernel_rfl) (by kernel_rfl) (by kernel_rfl) (by kernel_rfl)) ?_
  intro W base args ds gs before hval0 hW hcnd _
  have hval : ∀ (j : Nat) t v, Try.f6.params[j]? = some t → args[j]? = some v → Value.okWide Try.prog W .any base t v := hval0
  have hW' := hW
  obtain ⟨p, q, hA0, hV, rfl, hfz, hnd⟩ := hW
  have hA : DataW.TrodAll enc Try.prog W 0 (fun _ => true) true Try.f6.params.toList args.toList ds p := hA0
  rw [Try.params6] at hA hval
  obtain ⟨v0, vs0, d0, ds0, p0, q0, hargs, rfl, rfl, h0, r0⟩ := trodAll_cons hA
  obtain ⟨v1, vs1, d1, ds1, p1, q1, rfl, rfl, rfl, h1, r1⟩ := trodAll_cons r0
  obtain ⟨rfl, rfl, rfl⟩ := trodAll_nil r1
  obtain rfl : args = #[v0, v1] := by cases args; simp_all
  obtain ⟨rfl, rfl⟩ := trodVars_none hV
  have k0 := h0
  have lt0 : ∀ x ∈ p0, x.block < W.heap.size := by obtain ⟨m, hm⟩ := k0; exact DataW.trod_lt m _ _ _ hm
  obtain ⟨u0, l0, q0, mw0, mr0, ms0, lm0, rfl, R0, hl0⟩ := GR.open_conf (hval 0 24 v0 rfl rfl) h0
  have k1 := h1
  have lt1 : ∀ x ∈ p1, x.block < W.heap.size := by obtain ⟨m, hm⟩ := k1; exact DataW.trod_lt m _ _ _ hm
  obtain ⟨u1, l1, q1, mw1, mr1, ms1, lm1, rfl, R1, hl1⟩ := GR.open_conf (hval 1 24 v1 rfl rfl) h1
  clear hA0 hval0
  refine (walk u0 l0 q0 mw0 mr0 ms0 lm0 u1 l1 q1 mw1 mr1 ms1 lm1 W R0 hl0 R1 hl1).mono fun e W' ⟨he, bel⟩ => ?_
  subst he
  exact ⟨_, rfl, _, _, _, [], _, [], hW', trodAll_mk1 (shut_bool Try.underlying4 _), (trodAll_cons_mk (Below.trod laidOut (by kernel_rfl) (of_decide_eq_true (by kernel_rfl)) k0 bel lt0) (trodAll_cons_mk (Below.trod laidOut (by kernel_rfl) (of_decide_eq_true (by kernel_rfl)) k1 bel lt1) trodAll_mk0)), rfl, bel.frame _, fun h => by cases h⟩

theorem over : Rows.fnExactSameConfRow.holds Try.pinned (OpenSpec.ofChange Rows.fnExactSameConfSpec) :=
  OpenClaim.holds_of_wide 6 Try.f6 rfl rfl rfl rfl rfl rfl rfl ⟨rfl, rfl, rfl, rfl, rfl⟩ rfl rfl rfl rfl rfl (by kernel_rfl) Try.func6 (by kernel_rfl)
    (of_decide_eq_true (by kernel_rfl)) (by unfold Func.isWrapper; first | (rw [if_pos (by decide +kernel)]; kernel_rfl) | (rw [if_neg (by decide +kernel)]; exact ⟨rfl, rfl⟩))
    (fun os started H enc _ => lifted os started H enc)

theorem proved : Rows.FnExactSameConfSaid := over
#print axioms proved
end Go.Proofs.Ytcggaihooepglaa.fnExactSameConf
