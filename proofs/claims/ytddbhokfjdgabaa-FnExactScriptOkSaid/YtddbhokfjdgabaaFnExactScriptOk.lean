/-
  For every configuration and every script the program's ScriptOk answers as its model does, and leaves both as they were. No condition.
-/
import Derived.Test.YtddbhokfjdgabaaRows
import Derived.WalkKit
import Derived.ProofKit
import Derived.OpenShut
import Derived.ShutString
import Derived.ChangeOld
import Derived.Below
import Derived.Test.YtddbhokfjdgabaaPost3
import Derived.Test.YtddbhokfjdgabaaPost4
import Derived.Test.YtddbhokfjdgabaaScript4
import Derived.Test.YtddbhokfjdgabaaOpenScript
import Derived.Deep.RegionHeld3
namespace Go.Proofs.Ytddbhokfjdgabaa.fnExactScriptOk
open Go.ChangeShapes Go.WideShapes Go.ChangeAt Go.RowKit
open Go.ChangeMaps (open_string shut_string)
set_option linter.unusedVariables false

theorem own : ownKnob Try.prog.godebug = none := by kernel_rfl
theorem laidOut : laidOutB Try.prog = true := by kernel_rfl
open Num GR Rows3
set_option maxHeartbeats 4000000 in
set_option maxRecDepth 100000 in
theorem walk (u0 : Value) (l0 : List Num.MC) (q0 mw0 mr0 ms0 lm0 : Int) (u1 wv1 sv1 : Value) (l1 : List Num.PC) (wl1 sl1 : List Int) (w : World) (R0 : GR.Rd Num.mcK u0 l0 w) (hl0 : l0.length ≤ 9223372036854775807) (R1 : Num.RdP u1 l1 w) (Rw1 : Rows3.RdI wv1 wl1 w) (Rs1 : Rows3.RdI sv1 sl1 w) (hl1 : l1.length ≤ 9223372036854775807) (hd1 : ∀ y ∈ l1, y.da.length ≤ 9223372036854775807) (hw1 : wl1.length ≤ 9223372036854775807) (hs1 : sl1.length ≤ 9223372036854775807) :
    Calls Try.prog 8 #[.agg #[u0, .int .i64 q0, .int .i64 mw0, .int .i64 mr0, .int .i64 ms0, .int .i64 lm0], .agg #[u1, wv1, sv1]] w fun e w' => e = .returned (.bool true) ∧ Below w.heap.size w w' := by
  have HR := Lib.hid R0
  have HP := Lib.hid R1
  have HW := Lib.hid Rw1
  have HS := Lib.hid Rs1
  have HD := Lib.hid hd1
  obtain ⟨ad0, cap0, rfl⟩ := R0.slice
  obtain ⟨adp, capp, rfl⟩ := R1.slice
  obtain ⟨adw, capw, rfl, hq1⟩ := Rw1
  obtain ⟨ads, caps, rfl, hq2⟩ := Rs1
  clear hq1 hq2 R0 R1 hd1
  have hsz : ∀ (w : World) o, (w.alloc o).heap.size = w.heap.size + 1 := fun w o => by simp
  have A1 := Lib.hid ((Bx.new 39 #[.slice ad0 l0.length cap0, .int .i64 q0, .int .i64 mw0, .int .i64 mr0, .int .i64 ms0, .int .i64 lm0] w).alloc (Obj.cells #[.slice adp l1.length capp, .slice adw wl1.length capw, .slice ads sl1.length caps] 55))
  have A2 := Bx.new 55 #[.slice adp l1.length capp, .slice adw wl1.length capw, .slice ads sl1.length caps] (w.alloc (Obj.cells #[.slice ad0 l0.length cap0, .int .i64 q0, .int .i64 mw0, .int .i64 mr0, .int .i64 ms0, .int .i64 lm0] 39))
  rw [hsz] at A2
  have HA2 := Lib.hid A2
  have HB0 := Lib.hid (((Below.refl w.heap.size w).alloc (Nat.le_refl _) (Obj.cells #[.slice ad0 l0.length cap0, .int .i64 q0, .int .i64 mw0, .int .i64 mr0, .int .i64 ms0, .int .i64 lm0] 39)).alloc (by simp) (Obj.cells #[.slice adp l1.length capp, .slice adw wl1.length capw, .slice ads sl1.length caps] 55))
  clear A2 hsz
  by_cases hbig : 1048576 < l0.length
  · have Hsz := Lib.hid (szL_no (L := 1048576) (n := l0.length) (by omega))
    go_enter Try.func8, Try.ntmps8
    go_wp2_with fail
    generalize (w.alloc (Obj.cells #[.slice ad0 l0.length cap0, .int .i64 q0, .int .i64 mw0, .int .i64 mr0, .int .i64 ms0, .int .i64 lm0] 39)).alloc (Obj.cells #[.slice adp l1.length capp, .slice adw wl1.length capw, .slice ads sl1.length caps] 55) = w0 at A1 HA2 HB0 ⊢
    refine (szConf_any _ _ _ _ _ _ 1048576 l0.length _ ⟨_, _, rfl⟩ (by omega) (by omega) hl0).mono ?_
    rintro e w1 ⟨rfl, hb1⟩
    rw [Hsz.out]
    go_wp2
    go_ret
    exact ⟨rfl, HB0.out.trans (hb1.mono HB0.out.size)⟩
  · have Hsz := Lib.hid (szL_yes (L := 1048576) (n := l0.length) (by omega))
    obtain ⟨L, hL⟩ : ∃ L : Int, 1048576 - (l0.length : Int) = L := ⟨_, rfl⟩
    have hL0 : 0 ≤ L := by omega
    have hL1 : L ≤ 1048576 := by omega
    have hl2 : Hid (l0.length ≤ 2000000) := Lib.hid (by omega)
    rw [hL] at Hsz
    obtain ⟨S, hS⟩ : ∃ S, szS L l1 wl1.length sl1.length = S := ⟨_, rfl⟩
    have hSb := szS_bd l1 wl1.length sl1.length hL0
    rw [hS] at hSb
    obtain ⟨hSb0, hSb1⟩ := hSb
    have HSz := Lib.hid hS
    by_cases hneg : S < 0
    · clear hS hL hbig
      go_enter Try.func8, Try.ntmps8
      go_wp2_with fail
      generalize (w.alloc (Obj.cells #[.slice ad0 l0.length cap0, .int .i64 q0, .int .i64 mw0, .int .i64 mr0, .int .i64 ms0, .int .i64 lm0] 39)).alloc (Obj.cells #[.slice adp l1.length capp, .slice adw wl1.length capw, .slice ads sl1.length caps] 55) = w0 at A1 HA2 HB0 ⊢
      refine (szConf_any _ _ _ _ _ _ 1048576 l0.length _ ⟨_, _, rfl⟩ (by omega) (by omega) hl0).mono ?_
      rintro e w1 ⟨rfl, hb1⟩
      rw [Hsz.out]
      obtain ⟨g0, g1, g2⟩ := cells3 (HA2.out.later hb1)
      go_wp2_with fail
      refine (szScript_any _ _ _ l1 wl1.length sl1.length L _ (HP.out.below (HB0.out.trans (hb1.mono HB0.out.size))) ⟨_, _, rfl⟩ ⟨_, _, rfl⟩ hL0 hL1 hl1 HD.out hw1 hs1).mono ?_
      rintro e w2 ⟨rfl, hb2⟩
      rw [HSz.out]
      go_wp2
      go_ret
      exact ⟨rfl, (HB0.out.trans (hb1.mono HB0.out.size)).trans (hb2.mono (Nat.le_trans HB0.out.size hb1.size))⟩
    · have hfit := szS_fit (L := L) (l := l1) (a := wl1.length) (b := sl1.length) (by rw [hS]; exact hneg) hL1
      have N0 : Hid (l1.length ≤ 2000000) := Lib.hid (by omega)
      have N1 : Hid (wl1.length ≤ 2000000) := Lib.hid (by omega)
      have N2 : Hid (sl1.length ≤ 2000000) := Lib.hid (by omega)
      have N3 : Hid (∀ y ∈ l1, y.da.length ≤ 2000000) := Lib.hid (fun y hy => by have := lenP_mem hy; omega)
      obtain ⟨V, hV⟩ : ∃ V, okS (okC l0 q0 mw0 mr0 ms0 lm0) ((l0.length : Int) - 1) l1 wl1.length sl1.length = V := ⟨_, rfl⟩
      have HV := Lib.hid hV
      have hVV : (V != V) = false := by simp
      clear hS hfit hV hL hbig
      go_enter Try.func8, Try.ntmps8
      go_wp2_with fail
      generalize (w.alloc (Obj.cells #[.slice ad0 l0.length cap0, .int .i64 q0, .int .i64 mw0, .int .i64 mr0, .int .i64 ms0, .int .i64 lm0] 39)).alloc (Obj.cells #[.slice adp l1.length capp, .slice adw wl1.length capw, .slice ads sl1.length caps] 55) = w0 at A1 HA2 HB0 ⊢
      refine (szConf_any _ _ _ _ _ _ 1048576 l0.length _ ⟨_, _, rfl⟩ (by omega) (by omega) hl0).mono ?_
      rintro e w1 ⟨rfl, hb1⟩
      rw [Hsz.out]
      obtain ⟨g0, g1, g2⟩ := cells3 (HA2.out.later hb1)
      go_wp2_with fail
      refine (szScript_any _ _ _ l1 wl1.length sl1.length L _ (HP.out.below (HB0.out.trans (hb1.mono HB0.out.size))) ⟨_, _, rfl⟩ ⟨_, _, rfl⟩ hL0 hL1 hl1 HD.out hw1 hs1).mono ?_
      rintro e w2 ⟨rfl, hb2⟩
      rw [HSz.out]
      have B2 := Lib.hid ((A1.out.later hb1).later hb2)
      have D2 := Lib.hid ((HA2.out.later hb1).later hb2)
      have Hb2 := Lib.hid ((HB0.out.trans (hb1.mono HB0.out.size)).trans (hb2.mono (Nat.le_trans HB0.out.size hb1.size)))
      clear hb1 hb2 g0 g1 g2
      obtain ⟨g0, g1, g2, g3, g4, g5⟩ := B2.out.cells6
      obtain ⟨k0, k1, k2⟩ := cells3 D2.out
      have ltA := B2.out.lt
      have ltB := D2.out.lt
      go_wp2_with fail
      go_region_held3 (fun w' => w'.cell? ⟨w.heap.size, 0, none⟩ = some (.slice ad0 l0.length cap0) ∧ w'.cell? ⟨w.heap.size, 1, none⟩ = some (.int .i64 q0) ∧ w'.cell? ⟨w.heap.size, 2, none⟩ = some (.int .i64 mw0) ∧ w'.cell? ⟨w.heap.size, 3, none⟩ = some (.int .i64 mr0) ∧ w'.cell? ⟨w.heap.size, 4, none⟩ = some (.int .i64 ms0) ∧ w'.cell? ⟨w.heap.size, 5, none⟩ = some (.int .i64 lm0) ∧ w'.cell? ⟨w.heap.size + 1, 0, none⟩ = some (.slice adp l1.length capp) ∧ w'.cell? ⟨w.heap.size + 1, 1, none⟩ = some (.slice adw wl1.length capw) ∧ w'.cell? ⟨w.heap.size + 1, 2, none⟩ = some (.slice ads sl1.length caps)) (go_keep) (first
        | (go_at_call 17; refine (toConf_any _ l0 _ _ _ _ _ hl2.out _ (HR.out.below Hb2.out.drew)).mono ?_; rintro e w3 ⟨v0, rfl, ho0, hb3⟩; have hk : ∀ i, w3.cell? ⟨w.heap.size, i, none⟩ = w2.cell? ⟨w.heap.size, i, none⟩ := fun i => hb3.cell (p := ⟨w.heap.size, i, none⟩) ltA; have hk' : ∀ i, w3.cell? ⟨w.heap.size + 1, i, none⟩ = w2.cell? ⟨w.heap.size + 1, i, none⟩ := fun i => hb3.cell (p := ⟨w.heap.size + 1, i, none⟩) ltB)
        | (go_at_call 28; refine (toScript_any _ _ _ l1 wl1 sl1 N0.out N3.out N1.out N2.out _ (HP.out.below (Hb2.out.drew.trans (hb3.mono Hb2.out.size))) (HW.out.below (Hb2.out.drew.trans (hb3.mono Hb2.out.size))) (HS.out.below (Hb2.out.drew.trans (hb3.mono Hb2.out.size)))).mono ?_; rintro e w4 ⟨u4, wv4, sv4, rfl, ho1, ho1w, ho1s, hb4⟩; have hk2 : ∀ i, w4.cell? ⟨w.heap.size, i, none⟩ = w3.cell? ⟨w.heap.size, i, none⟩ := fun i => hb4.cell (p := ⟨w.heap.size, i, none⟩) (Nat.lt_of_lt_of_le ltA hb3.size); have hk2' : ∀ i, w4.cell? ⟨w.heap.size + 1, i, none⟩ = w3.cell? ⟨w.heap.size + 1, i, none⟩ := fun i => hb4.cell (p := ⟨w.heap.size + 1, i, none⟩) (Nat.lt_of_lt_of_le ltB hb3.size))
        | (go_at_call 27; refine (specScriptOk _ l0 _ _ _ _ _ _ _ _ l1 wl1.length sl1.length hl2.out N0.out N3.out N1.out N2.out _ (ho0.rd.below hb4) ho1.rd ho1w.slice ho1s.slice).mono ?_; rintro e w5 ⟨rfl, hb5⟩; rw [HV.out]; have hk3 : ∀ i, w5.cell? ⟨w.heap.size, i, none⟩ = w4.cell? ⟨w.heap.size, i, none⟩ := fun i => hb5.cell (p := ⟨w.heap.size, i, none⟩) (Nat.lt_of_lt_of_le ltA (Nat.le_trans hb3.size hb4.size)); have hk3' : ∀ i, w5.cell? ⟨w.heap.size + 1, i, none⟩ = w4.cell? ⟨w.heap.size + 1, i, none⟩ := fun i => hb5.cell (p := ⟨w.heap.size + 1, i, none⟩) (Nat.lt_of_lt_of_le ltB (Nat.le_trans hb3.size hb4.size))))
      have A5 := Lib.hid (((B2.out.drew.later hb3).later hb4).later hb5)
      have D5 := Lib.hid (((D2.out.drew.later hb3).later hb4).later hb5)
      have Hb5 := Lib.hid ((((Hb2.out.drew.trans (hb3.mono Hb2.out.size)).trans (hb4.mono (Nat.le_trans Hb2.out.size hb3.size))).trans (hb5.mono (Nat.le_trans (Nat.le_trans Hb2.out.size hb3.size) hb4.size))))
      clear hk hk' hk2 hk2' hk3 hk3' g0 g1 g2 g3 g4 g5 k0 k1 k2 ltA ltB ho0 ho1 ho1w ho1s hb3 hb4 hb5 B2 D2
      obtain ⟨g0, g1, g2, g3, g4, g5⟩ := A5.out.cells6
      go_wp2_with fail
      refine (toConf_any _ l0 _ _ _ _ _ hl2.out _ (HR.out.below Hb5.out)).mono ?_
      rintro e w6 ⟨v2, rfl, ho2, hb6⟩
      obtain ⟨ad2, cap2, rfl⟩ := ho2.slice
      have ab6 := (Below.refl w6.heap.size w6).alloc (Nat.le_refl _) (Obj.cells #[.slice ad2 l0.length cap2, .int .i64 q0, .int .i64 mw0, .int .i64 mr0, .int .i64 ms0, .int .i64 lm0] 28)
      have A6 := Lib.hid ((A5.out.later hb6).later ab6)
      have D6 := Lib.hid ((D5.out.later hb6).later ab6)
      have X6 := Lib.hid (Bx.new 28 #[.slice ad2 l0.length cap2, .int .i64 q0, .int .i64 mw0, .int .i64 mr0, .int .i64 ms0, .int .i64 lm0] w6)
      have H26 := Lib.hid (ho2.rd.below ab6)
      have Hb6 := Lib.hid ((Hb5.out.trans (hb6.mono Hb5.out.size)).trans (ab6.mono (Nat.le_trans Hb5.out.size hb6.size)))
      obtain ⟨k0, k1, k2⟩ := cells3 (D5.out.later hb6)
      have ltB := (D5.out.later hb6).lt
      clear ho2 hb6 ab6 g0 g1 g2 g3 g4 g5 A5 D5
      go_wp2_with fail
      refine (toScript_any _ _ _ l1 wl1 sl1 N0.out N3.out N1.out N2.out _ (HP.out.below Hb6.out) (HW.out.below Hb6.out) (HS.out.below Hb6.out)).mono ?_
      rintro e w7 ⟨u7, wv7, sv7, rfl, ho3, ho3w, ho3s, hb7⟩
      have P7 := ho3.rd
      have Q7 := ho3w.rd
      have R7 := ho3s.rd
      obtain ⟨bdp, bcp, rfl⟩ := ho3.slice
      obtain ⟨bdw, bcw, rfl⟩ := ho3w.slice
      obtain ⟨bds, bcs, rfl⟩ := ho3s.slice
      have ab := (Below.refl w7.heap.size w7).alloc (Nat.le_refl _) (Obj.cells #[.slice bdp l1.length bcp, .slice bdw wl1.length bcw, .slice bds sl1.length bcs] 60)
      have A7 := Lib.hid ((A6.out.later hb7).later ab)
      have D7 := Lib.hid ((D6.out.later hb7).later ab)
      have X7 := Lib.hid ((X6.out.later hb7).later ab)
      have H27 := Lib.hid ((H26.out.below hb7).below ab)
      have P8 := Lib.hid (P7.below ab)
      have Q8 := Lib.hid (Q7.below ab)
      have R8 := Lib.hid (R7.below ab)
      have Y7 := Lib.hid (Bx.new 60 #[.slice bdp l1.length bcp, .slice bdw wl1.length bcw, .slice bds sl1.length bcs] w7)
      have Hb7 := Lib.hid ((Hb6.out.trans (hb7.mono Hb6.out.size)).trans (ab.mono (Nat.le_trans Hb6.out.size hb7.size)))
      obtain ⟨g0, g1, g2, g3, g4, g5⟩ := (X6.out.later hb7).cells6
      have ltX := (X6.out.later hb7).lt
      clear ho3 ho3w ho3s P7 Q7 R7 hb7 ab k0 k1 k2 A6 D6 X6 H26 Hb6
      go_wp2_with fail
      refine (implScriptOk _ l0 _ _ _ _ _ _ _ _ l1 wl1.length sl1.length hl2.out N0.out N3.out N1.out N2.out _ H27.out P8.out ⟨_, _, rfl⟩ ⟨_, _, rfl⟩).mono ?_
      rintro e w8 ⟨rfl, hb8⟩
      rw [HV.out]
      have A8 := Lib.hid (A7.out.later hb8)
      have D8 := Lib.hid (D7.out.later hb8)
      have X8 := Lib.hid (X7.out.later hb8)
      have Y8 := Lib.hid (Y7.out.later hb8)
      have H2 := Lib.hid (H27.out.below hb8)
      have P9 := Lib.hid (P8.out.below hb8)
      have Q9 := Lib.hid (Q8.out.below hb8)
      have R9 := Lib.hid (R8.out.below hb8)
      have Hb8 := Lib.hid (Hb7.out.trans (hb8.mono Hb7.out.size))
      clear hb8 A7 D7 X7 Y7 H27 P8 Q8 R8 Hb7 g0 g1 g2 g3 g4 g5
      obtain ⟨g0, g1, g2, g3, g4, g5⟩ := A8.out.cells6
      obtain ⟨k0, k1, k2, k3, k4, k5⟩ := X8.out.cells6
      have ltA := A8.out.lt
      have ltX8 := X8.out.lt
      go_wp2_with fail
      go_region_held3 (fun w' => w'.cell? ⟨w.heap.size, 0, none⟩ = some (.slice ad0 l0.length cap0) ∧ w'.cell? ⟨w.heap.size, 1, none⟩ = some (.int .i64 q0) ∧ w'.cell? ⟨w.heap.size, 2, none⟩ = some (.int .i64 mw0) ∧ w'.cell? ⟨w.heap.size, 3, none⟩ = some (.int .i64 mr0) ∧ w'.cell? ⟨w.heap.size, 4, none⟩ = some (.int .i64 ms0) ∧ w'.cell? ⟨w.heap.size, 5, none⟩ = some (.int .i64 lm0) ∧ w'.cell? ⟨w6.heap.size, 0, none⟩ = some (.slice ad2 l0.length cap2) ∧ w'.cell? ⟨w6.heap.size, 1, none⟩ = some (.int .i64 q0) ∧ w'.cell? ⟨w6.heap.size, 2, none⟩ = some (.int .i64 mw0) ∧ w'.cell? ⟨w6.heap.size, 3, none⟩ = some (.int .i64 mr0) ∧ w'.cell? ⟨w6.heap.size, 4, none⟩ = some (.int .i64 ms0) ∧ w'.cell? ⟨w6.heap.size, 5, none⟩ = some (.int .i64 lm0)) (go_keep) (first
        | (go_at_call 17; refine (toConf_any _ l0 _ _ _ _ _ hl2.out _ (HR.out.below Hb8.out.drew)).mono ?_; rintro e w9 ⟨v4, rfl, ho, hbu⟩; have hk : ∀ i, w9.cell? ⟨w.heap.size, i, none⟩ = w8.cell? ⟨w.heap.size, i, none⟩ := fun i => hbu.cell (p := ⟨w.heap.size, i, none⟩) ltA; have hk' : ∀ i, w9.cell? ⟨w6.heap.size, i, none⟩ = w8.cell? ⟨w6.heap.size, i, none⟩ := fun i => hbu.cell (p := ⟨w6.heap.size, i, none⟩) ltX8)
        | (go_at_call 19; refine (eqConf_same _ _ l0 _ _ _ _ _ hl2.out _ ((Rd.drew H2.out).below hbu) ho.rd).mono ?_; rintro e w10 ⟨rfl, hbv⟩; have hk2 : ∀ i, w10.cell? ⟨w.heap.size, i, none⟩ = w9.cell? ⟨w.heap.size, i, none⟩ := fun i => hbv.cell (p := ⟨w.heap.size, i, none⟩) (Nat.lt_of_lt_of_le ltA hbu.size); have hk2' : ∀ i, w10.cell? ⟨w6.heap.size, i, none⟩ = w9.cell? ⟨w6.heap.size, i, none⟩ := fun i => hbv.cell (p := ⟨w6.heap.size, i, none⟩) (Nat.lt_of_lt_of_le ltX8 hbu.size)))
      have D10 := Lib.hid ((D8.out.drew.later hbu).later hbv)
      have Y10 := Lib.hid ((Y8.out.drew.later hbu).later hbv)
      have P10 := Lib.hid (((show RdP (.slice bdp l1.length bcp) l1 w8.drew from P9.out).below hbu).below hbv)
      have Q10 := Lib.hid (((show RdI (.slice bdw wl1.length bcw) wl1 w8.drew from Q9.out).below hbu).below hbv)
      have R10 := Lib.hid (((show RdI (.slice bds sl1.length bcs) sl1 w8.drew from R9.out).below hbu).below hbv)
      have Hb10 := Lib.hid ((Hb8.out.drew.trans (hbu.mono Hb8.out.size)).trans (hbv.mono (Nat.le_trans Hb8.out.size hbu.size)))
      clear hk hk' hk2 hk2' g0 g1 g2 g3 g4 g5 k0 k1 k2 k3 k4 k5 ho hbu hbv A8 D8 X8 Y8
      obtain ⟨g0, g1, g2⟩ := cells3 D10.out
      obtain ⟨k0, k1, k2⟩ := cells3 Y10.out
      have ltB10 := D10.out.lt
      have ltY := Y10.out.lt
      go_wp2_with fail
      go_region_held3 (fun w' => w'.cell? ⟨w.heap.size + 1, 0, none⟩ = some (.slice adp l1.length capp) ∧ w'.cell? ⟨w.heap.size + 1, 1, none⟩ = some (.slice adw wl1.length capw) ∧ w'.cell? ⟨w.heap.size + 1, 2, none⟩ = some (.slice ads sl1.length caps) ∧ w'.cell? ⟨w7.heap.size, 0, none⟩ = some (.slice bdp l1.length bcp) ∧ w'.cell? ⟨w7.heap.size, 1, none⟩ = some (.slice bdw wl1.length bcw) ∧ w'.cell? ⟨w7.heap.size, 2, none⟩ = some (.slice bds sl1.length bcs)) (go_keep) (first
        | (go_at_call 28; refine (toScript_any _ _ _ l1 wl1 sl1 N0.out N3.out N1.out N2.out _ (HP.out.below Hb10.out.drew) (HW.out.below Hb10.out.drew) (HS.out.below Hb10.out.drew)).mono ?_; rintro e w11 ⟨u11, wv11, sv11, rfl, ho, how, hos, hbu⟩; have hk : ∀ i, w11.cell? ⟨w.heap.size + 1, i, none⟩ = w10.cell? ⟨w.heap.size + 1, i, none⟩ := fun i => hbu.cell (p := ⟨w.heap.size + 1, i, none⟩) ltB10; have hk' : ∀ i, w11.cell? ⟨w7.heap.size, i, none⟩ = w10.cell? ⟨w7.heap.size, i, none⟩ := fun i => hbu.cell (p := ⟨w7.heap.size, i, none⟩) ltY)
        | (go_at_call 30; refine (eqScript_same _ _ _ _ _ _ l1 wl1 sl1 N0.out N3.out N1.out N2.out _ ((show RdP (.slice bdp l1.length bcp) l1 w10.drew from P10.out).below hbu) ((show RdI (.slice bdw wl1.length bcw) wl1 w10.drew from Q10.out).below hbu) ((show RdI (.slice bds sl1.length bcs) sl1 w10.drew from R10.out).below hbu) ho.rd how.rd hos.rd).mono ?_; rintro e w12 ⟨rfl, hbv⟩; have hk2 : ∀ i, w12.cell? ⟨w.heap.size + 1, i, none⟩ = w11.cell? ⟨w.heap.size + 1, i, none⟩ := fun i => hbv.cell (p := ⟨w.heap.size + 1, i, none⟩) (Nat.lt_of_lt_of_le ltB10 hbu.size); have hk2' : ∀ i, w12.cell? ⟨w7.heap.size, i, none⟩ = w11.cell? ⟨w7.heap.size, i, none⟩ := fun i => hbv.cell (p := ⟨w7.heap.size, i, none⟩) (Nat.lt_of_lt_of_le ltY hbu.size)))
      go_wp2
      go_ret
      exact ⟨rfl, (Hb10.out.drew.trans (hbu.mono Hb10.out.size)).trans (hbv.mono (Nat.le_trans Hb10.out.size hbu.size))⟩

set_option maxRecDepth 100000 in
set_option maxRecDepth 100000 in
theorem lifted (os : Os) (started : os.Started) (H : Type) (enc : TypeId × Value → H) :
    ReturnsInHanded {} Try.checked os 8 .any (Rows.fnExactScriptOkSpec.pre6 enc Try.prog Try.f8 Rows.fnExactScriptOkRow.domain false) (Rows.fnExactScriptOkSpec.post enc Try.prog Try.f8 false true false false) := by
  refine returnsInHanded_of_change (C := Try.checked) own started (by kernel_rfl) Try.func8
    (ChangeSpec.witness6 (enc := enc) (C := Try.checked) false ⟨#[], #[.agg #[.slice none 0 0, .int .i64 0, .int .i64 0, .int .i64 0, .int .i64 0, .int .i64 0], .agg #[.slice none 0 0, .slice none 0 0, .slice none 0 0]], []⟩ 8 (by kernel_rfl) (by kernel_rfl) (by kernel_rfl) (by kernel_rfl)) ?_
  intro W base args ds gs before hval0 hW hcnd _
  have hval : ∀ (j : Nat) t v, Try.f8.params[j]? = some t → args[j]? = some v → Value.okWide Try.prog W .any base t v := hval0
  have hW' := hW
  obtain ⟨p, q, hA0, hV, rfl, hfz, hnd⟩ := hW
  have hA : DataW.TrodAll enc Try.prog W 0 (fun _ => true) true Try.f8.params.toList args.toList ds p := hA0
  rw [Try.params8] at hA hval
  obtain ⟨v0, vs0, d0, ds0, p0, q0, hargs, rfl, rfl, h0, r0⟩ := trodAll_cons hA
  obtain ⟨v1, vs1, d1, ds1, p1, q1, rfl, rfl, rfl, h1, r1⟩ := trodAll_cons r0
  obtain ⟨rfl, rfl, rfl⟩ := trodAll_nil r1
  obtain rfl : args = #[v0, v1] := by cases args; simp_all
  obtain ⟨rfl, rfl⟩ := trodVars_none hV
  have k0 := h0
  have lt0 : ∀ x ∈ p0, x.block < W.heap.size := by obtain ⟨m, hm⟩ := k0; exact DataW.trod_lt m _ _ _ hm
  obtain ⟨u0, l0, q0, mw0, mr0, ms0, lm0, rfl, R0, hl0⟩ := GR.open_conf (hval 0 39 v0 rfl rfl) h0
  have k1 := h1
  have lt1 : ∀ x ∈ p1, x.block < W.heap.size := by obtain ⟨m, hm⟩ := k1; exact DataW.trod_lt m _ _ _ hm
  obtain ⟨u1, wv1, sv1, l1, wl1, sl1, rfl, R1, Rw1, Rs1, hl1, hd1, hw1, hs1⟩ := GR.open_script (hval 1 55 v1 rfl rfl) h1
  clear hA0 hval0
  refine (walk u0 l0 q0 mw0 mr0 ms0 lm0 u1 wv1 sv1 l1 wl1 sl1 W R0 hl0 R1 Rw1 Rs1 hl1 hd1 hw1 hs1).mono fun e W' ⟨he, bel⟩ => ?_
  subst he
  exact ⟨_, rfl, _, _, _, [], _, [], hW', trodAll_mk1 (shut_bool Try.underlying4 _), (trodAll_cons_mk (Below.trod laidOut (by kernel_rfl) (of_decide_eq_true (by kernel_rfl)) k0 bel lt0) (trodAll_cons_mk (Below.trod laidOut (by kernel_rfl) (of_decide_eq_true (by kernel_rfl)) k1 bel lt1) trodAll_mk0)), rfl, bel.frame _, fun h => by cases h⟩

theorem over : Rows.fnExactScriptOkRow.holds Try.pinned (OpenSpec.ofChange Rows.fnExactScriptOkSpec) :=
  OpenClaim.holds_of_wide 8 Try.f8 rfl rfl rfl rfl rfl rfl rfl ⟨rfl, rfl, rfl, rfl, rfl⟩ rfl rfl rfl rfl rfl (by kernel_rfl) Try.func8 (by kernel_rfl)
    (of_decide_eq_true (by kernel_rfl)) (by unfold Func.isWrapper; first | (rw [if_pos (by decide +kernel)]; kernel_rfl) | (rw [if_neg (by decide +kernel)]; exact ⟨rfl, rfl⟩))
    (fun os started H enc _ => lifted os started H enc)

theorem proved : Rows.FnExactScriptOkSaid := over
#print axioms proved
end Go.Proofs.Ytddbhokfjdgabaa.fnExactScriptOk
