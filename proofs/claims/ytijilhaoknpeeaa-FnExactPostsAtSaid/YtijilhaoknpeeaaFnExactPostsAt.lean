/-
  For every script and every number the program's PostsAt answers as its model does, leaves the script as it was, and what it answers is memory of its own. No condition.
-/
import Derived.Test.YtijilhaoknpeeaaRows
import Derived.WalkKit
import Derived.ProofKit
import Derived.OpenShut
import Derived.ShutString
import Derived.ChangeOld
import Derived.Below
import Derived.Test.YtijilhaoknpeeaaPost4
import Derived.Test.YtijilhaoknpeeaaPost5
import Derived.Test.YtijilhaoknpeeaaScript3
import Derived.Test.YtijilhaoknpeeaaOpenScript
import Derived.Deep.RegionHeld3
namespace Go.Proofs.Ytijilhaoknpeeaa.fnExactPostsAt
open Go.ChangeShapes Go.WideShapes Go.ChangeAt Go.RowKit
open Go.ChangeMaps (open_string shut_string)
set_option linter.unusedVariables false

theorem own : ownKnob Try.prog.godebug = none := by kernel_rfl
theorem laidOut : laidOutB Try.prog = true := by kernel_rfl
open Num GR Rows3
theorem lenP_atT (t : Int) : ∀ l : List PC, lenP (atT t l) ≤ lenP l
  | [] => Nat.le_refl _
  | x :: l => by
    have ih := lenP_atT t l
    unfold atT lenP at ih ⊢
    rw [List.filter_cons]
    split
    · simp only [List.map_cons, List.sum_cons]; omega
    · simp only [List.map_cons, List.sum_cons]; omega
set_option maxHeartbeats 4000000 in
set_option maxRecDepth 100000 in
theorem walk (u0 wv0 sv0 : Value) (l0 : List Num.PC) (wl0 sl0 : List Int) (a1 : Int) (w : World) (R0 : Num.RdP u0 l0 w) (Rw0 : Rows3.RdI wv0 wl0 w) (Rs0 : Rows3.RdI sv0 sl0 w) (hl0 : l0.length ≤ 9223372036854775807) (hd0 : ∀ y ∈ l0, y.da.length ≤ 9223372036854775807) (hw0 : wl0.length ≤ 9223372036854775807) (hs0 : sl0.length ≤ 9223372036854775807) (w1 : (Lit.int .i64 a1).wf = true) :
    Calls Try.prog 5 #[.agg #[u0, wv0, sv0], .int .i64 a1] w fun e w' => e = .returned (.bool true) ∧ Below w.heap.size w w' := by
  have HR := Lib.hid R0
  have HW := Lib.hid Rw0
  have HS := Lib.hid Rs0
  have HD := Lib.hid hd0
  obtain ⟨ad0, cap0, rfl⟩ := R0.slice
  obtain ⟨ad1, cap1, rfl, hq1⟩ := Rw0
  obtain ⟨ad2, cap2, rfl, hq2⟩ := Rs0
  clear hq1 hq2 R0 hd0
  obtain ⟨S, hS⟩ : ∃ S, szS 1048576 l0 wl0.length sl0.length = S := ⟨_, rfl⟩
  have hSb := szS_bd l0 wl0.length sl0.length (L := 1048576) (by omega)
  rw [hS] at hSb
  obtain ⟨hSb0, hSb1⟩ := hSb
  have HSz := Lib.hid hS
  by_cases hbig : S < 0
  · clear hS
    go_enter Try.func5, Try.ntmps5
    go_wp2_with fail
    refine (szScript_any _ _ _ l0 wl0.length sl0.length 1048576 _ (HR.out.alloc _) ⟨_, _, rfl⟩ ⟨_, _, rfl⟩ (by omega) (by omega) hl0 HD.out hw0 hs0).mono ?_
    rintro e w1 ⟨rfl, hb1⟩
    rw [HSz.out]
    go_wp2
    go_ret
    exact ⟨rfl, GR.below_alloc1 (Below.refl _ _) (Nat.le_refl _) hb1⟩
  · have hfit := szS_fit (L := 1048576) (l := l0) (a := wl0.length) (b := sl0.length) (by rw [hS]; exact hbig) (by omega)
    have N0 : Hid (l0.length ≤ 2000000) := Lib.hid (by omega)
    have N1 : Hid (wl0.length ≤ 2000000) := Lib.hid (by omega)
    have N2 : Hid (sl0.length ≤ 2000000) := Lib.hid (by omega)
    have N3 : Hid (∀ y ∈ l0, y.da.length ≤ 2000000) := Lib.hid (fun y hy => by have := lenP_mem hy; omega)
    have B0 := Bx.new 42 #[.slice ad0 l0.length cap0, .slice ad1 wl0.length cap1, .slice ad2 sl0.length cap2] w
    obtain ⟨M, hM⟩ : ∃ M, atT a1 l0 = M := ⟨_, rfl⟩
    have hMl : M.length ≤ 1500000 := by rw [← hM]; have := List.length_filter_le (fun y : PC => y.t == a1) l0; unfold atT; omega
    have hMd : lenP M ≤ 1500000 := by rw [← hM]; have := lenP_atT a1 l0; omega
    have HMl := Lib.hid hMl
    have HMd := Lib.hid hMd
    have HMe : Hid (∀ y ∈ M, y.da.length ≤ 2000000) := Lib.hid (fun y hy => by have := lenP_mem hy; omega)
    have HM := Lib.hid hM
    have hp0 : lenP l0 ≤ 1500000 := by omega
    have hp1 : l0.length ≤ 1500000 := by omega
    have hp2 : wl0.length ≤ 1500000 := by omega
    have hp3 : sl0.length ≤ 1500000 := by omega
    have HP0 := Lib.hid hp0
    have HP1 := Lib.hid hp1
    have HP2 := Lib.hid hp2
    have HP3 := Lib.hid hp3
    obtain ⟨K, hK⟩ : ∃ K : Int, 1 + (offP M M.length : Int) = K := ⟨_, rfl⟩
    have hK0 : ¬ K < 0 := by omega
    have hKK : (K != K) = false := by simp
    have HK := Lib.hid hK
    clear hS hfit hM hMl hMd hp0 hp1 hp2 hp3 hK
    go_enter Try.func5, Try.ntmps5
    go_wp2_with fail
    refine (szScript_any _ _ _ l0 wl0.length sl0.length 1048576 _ (HR.out.alloc _) ⟨_, _, rfl⟩ ⟨_, _, rfl⟩ (by omega) (by omega) hl0 HD.out hw0 hs0).mono ?_
    rintro e w1 ⟨rfl, hb1⟩
    rw [HSz.out]
    obtain ⟨g0, g1, g2⟩ := cells3 (B0.later hb1)
    have B1 := Lib.hid (B0.later hb1)
    have Hb1 := Lib.hid (GR.below_alloc1 (Below.refl w.heap.size w) (Nat.le_refl _) hb1)
    clear hb1 B0
    go_wp2_with fail
    refine (toScript_any _ _ _ l0 wl0 sl0 N0.out N3.out N1.out N2.out _ (HR.out.below Hb1.out) (HW.out.below Hb1.out) (HS.out.below Hb1.out)).mono ?_
    rintro e w2 ⟨u2, wv2, sv2, rfl, ho2, ho2w, ho2s, hb2⟩
    have B2 := Lib.hid (B1.out.later hb2)
    have Hb2 := Lib.hid (Hb1.out.trans (hb2.mono Hb1.out.size))
    have P2 := Lib.hid ho2
    have Q2 := Lib.hid ho2w.slice
    have R2 := Lib.hid ho2s.slice
    clear hb2 g0 g1 g2 ho2 ho2w ho2s
    go_wp2_with fail
    refine (specPostsAt _ _ _ l0 wl0.length sl0.length a1 N0.out N3.out _ _ P2.out Q2.out R2.out).mono ?_
    rw [HM.out]
    rintro e w3 ⟨v0, rfl, ho0, hb3⟩
    have W3 := Lib.hid ho0.rd
    obtain ⟨vad, vcap, rfl⟩ := ho0.slice
    obtain ⟨g0, g1, g2⟩ := cells3 (B2.out.later hb3)
    have B3 := Lib.hid (B2.out.later hb3)
    have Hb3 := Lib.hid (Hb2.out.trans (hb3.mono Hb2.out.size))
    clear hb3 ho0
    go_wp2_with fail
    refine (toScript_ap _ _ _ l0 wl0 sl0 N0.out N3.out N1.out N2.out _ (HR.out.below Hb3.out) (HW.out.below Hb3.out) (HS.out.below Hb3.out)).mono ?_
    rintro e w4 ⟨u4, wv4, sv4, rfl, ho4, hb4⟩
    have P4 := Lib.hid ho4.posts
    have Q4 := Lib.hid ho4.waits
    have R4 := Lib.hid ho4.says
    obtain ⟨ad4, cap4, rfl⟩ := ho4.posts.slice
    obtain ⟨ad5, cap5, rfl⟩ := ho4.waits.slice
    obtain ⟨ad6, cap6, rfl⟩ := ho4.says.slice
    have ab4 := (Below.refl w4.heap.size w4).alloc (Nat.le_refl _) (Obj.cells #[.slice ad4 l0.length cap4, .slice ad5 wl0.length cap5, .slice ad6 sl0.length cap6] 47)
    have S4 := Lib.hid (ho4.top.later ab4)
    have B4 := Lib.hid ((B3.out.later hb4).later ab4)
    have Hb4 := Lib.hid ((Hb3.out.trans (hb4.mono Hb3.out.size)).trans (ab4.mono (Nat.le_trans Hb3.out.size hb4.size)))
    have C4 := Lib.hid (hb4.trans (ab4.mono hb4.size))
    have X4 := Lib.hid (Bx.new 47 #[.slice ad4 l0.length cap4, .slice ad5 wl0.length cap5, .slice ad6 sl0.length cap6] w4)
    have P4a := Lib.hid (P4.out.later ab4)
    have Q4a := Lib.hid (Q4.out.later ab4)
    have R4a := Lib.hid (R4.out.later ab4)
    have Hz4 := Lib.hid (show w4.heap.size ≤ (w4.alloc (Obj.cells #[.slice ad4 l0.length cap4, .slice ad5 wl0.length cap5, .slice ad6 sl0.length cap6] 47)).heap.size by simp)
    have HWW := Lib.hid B3.out.lt
    clear ho4 hb4 ab4 g0 g1 g2 P4 Q4 R4 B3 Hb3
    go_wp2_with fail
    generalize w4.alloc (Obj.cells #[.slice ad4 l0.length cap4, .slice ad5 wl0.length cap5, .slice ad6 sl0.length cap6] 47) = y4 at S4 B4 Hb4 C4 X4 P4a Q4a R4a Hz4 ⊢
    have HZ3 := Lib.hid C4.out.size
    refine (implPostsAt _ _ _ l0 wl0.length sl0.length a1 N0.out N3.out _ _ P4a.out ⟨_, _, rfl⟩ ⟨_, _, rfl⟩).mono ?_
    rw [HM.out]
    rintro e w5 ⟨v1, rfl, ho1, hb5⟩
    obtain ⟨gad, gcap, rfl⟩ := ho1.slice
    have G5 := Lib.hid ho1
    have S5 := Lib.hid (S4.out.later hb5)
    have B5 := Lib.hid (B4.out.later hb5)
    have X5 := Lib.hid (X4.out.later hb5)
    have Hb5 := Lib.hid (Hb4.out.trans (hb5.mono Hb4.out.size))
    have C5 := Lib.hid (C4.out.trans (hb5.mono C4.out.size))
    have P5 := Lib.hid (P4a.out.later hb5)
    have Q5 := Lib.hid (Q4a.out.later hb5)
    have R5 := Lib.hid (R4a.out.later hb5)
    have Z5 := Lib.hid hb5.size
    clear ho1 hb5 S4 B4 X4 Hb4 C4 P4a Q4a R4a
    go_wp2_with fail
    refine (eqPostS_same _ _ M (by have := HMl.out; omega) HMe.out _ G5.out.rd (W3.out.below C5.out)).mono ?_
    rintro e w6 ⟨rfl, hb6⟩
    have G6 := Lib.hid (G5.out.later hb6)
    have S6 := Lib.hid (S5.out.later hb6)
    have B6 := Lib.hid (B5.out.later hb6)
    have X6 := Lib.hid (X5.out.later hb6)
    have Hb6 := Lib.hid (Hb5.out.trans (hb6.mono Hb5.out.size))
    have C6 := Lib.hid (C5.out.trans (hb6.mono C5.out.size))
    have P6 := Lib.hid (P5.out.later hb6).rd
    have Q6 := Lib.hid (Q5.out.later hb6).rd
    have R6 := Lib.hid (R5.out.later hb6).rd
    have Z6 := Lib.hid (Nat.le_trans Z5.out hb6.size)
    clear hb6 G5 S5 B5 X5 Hb5 C5 P5 Q5 R5 Z5
    obtain ⟨g0, g1, g2⟩ := cells3 B6.out
    obtain ⟨k0, k1, k2⟩ := cells3 X6.out
    have hlt := X6.out.lt
    have hlt2 := B6.out.lt
    go_wp2_with fail
    go_region_held3 (fun w' => w'.cell? ⟨w.heap.size, 0, none⟩ = some (.slice ad0 l0.length cap0) ∧ w'.cell? ⟨w.heap.size, 1, none⟩ = some (.slice ad1 wl0.length cap1) ∧ w'.cell? ⟨w.heap.size, 2, none⟩ = some (.slice ad2 sl0.length cap2) ∧
      w'.cell? ⟨w4.heap.size, 0, none⟩ = some (.slice ad4 l0.length cap4) ∧ w'.cell? ⟨w4.heap.size, 1, none⟩ = some (.slice ad5 wl0.length cap5) ∧ w'.cell? ⟨w4.heap.size, 2, none⟩ = some (.slice ad6 sl0.length cap6)) (go_keep) (first
      | (go_at_call 31; refine (toScript_any _ _ _ l0 wl0 sl0 N0.out N3.out N1.out N2.out _ (HR.out.below Hb6.out.drew) (HW.out.below Hb6.out.drew) (HS.out.below Hb6.out.drew)).mono ?_; rintro e w7 ⟨u7, wv7, sv7, rfl, ho7, ho7w, ho7s, hb7⟩; have hk : ∀ i, w7.cell? ⟨w4.heap.size, i, none⟩ = w6.cell? ⟨w4.heap.size, i, none⟩ := fun i => hb7.cell (p := ⟨w4.heap.size, i, none⟩) hlt; have hk' : ∀ i, w7.cell? ⟨w.heap.size, i, none⟩ = w6.cell? ⟨w.heap.size, i, none⟩ := fun i => hb7.cell (p := ⟨w.heap.size, i, none⟩) hlt2)
      | (go_at_call 34; (refine (eqScript_same _ _ _ _ _ _ l0 wl0 sl0 N0.out N3.out N1.out N2.out _ ((show RdP (.slice ad4 l0.length cap4) l0 w6.drew from P6.out).below hb7) ((show RdI (.slice ad5 wl0.length cap5) wl0 w6.drew from Q6.out).below hb7) ((show RdI (.slice ad6 sl0.length cap6) sl0 w6.drew from R6.out).below hb7) ho7.rd ho7w.rd ho7s.rd).mono ?_); rintro e w8 ⟨rfl, hb8⟩; have hk2 : ∀ i, w8.cell? ⟨w4.heap.size, i, none⟩ = w7.cell? ⟨w4.heap.size, i, none⟩ := fun i => hb8.cell (p := ⟨w4.heap.size, i, none⟩) (Nat.lt_of_lt_of_le hlt hb7.size); have hk2' : ∀ i, w8.cell? ⟨w.heap.size, i, none⟩ = w7.cell? ⟨w.heap.size, i, none⟩ := fun i => hb8.cell (p := ⟨w.heap.size, i, none⟩) (Nat.lt_of_lt_of_le hlt2 hb7.size)))
    have D8 := Lib.hid (((Below.refl w6.heap.size w6).drew.trans hb7).trans (hb8.mono hb7.size))
    clear hk hk' hk2 hk2' g0 g1 g2 k0 k1 k2 hlt hlt2 ho7 ho7w ho7s hb7 hb8 P6 Q6 R6
    have G8 := Lib.hid (G6.out.later D8.out)
    have S8 := Lib.hid (S6.out.later D8.out)
    have B8 := Lib.hid (B6.out.later D8.out)
    have X8 := Lib.hid (X6.out.later D8.out)
    have Hb8 := Lib.hid (Hb6.out.trans (D8.out.mono Hb6.out.size))
    have C8 := Lib.hid (C6.out.trans (D8.out.mono C6.out.size))
    have Z8 := Lib.hid (Nat.le_trans Z6.out D8.out.size)
    clear D8 G6 S6 B6 X6 Hb6 C6 Z6
    obtain ⟨k0, k1, k2⟩ := cells3 X8.out
    go_wp2_with fail
    refine (markScript_any _ w4.heap.size _ _ _ l0 wl0 sl0 HP1.out HP0.out HP2.out HP3.out _ S8.out (Nat.le_trans Hz4.out Z8.out)).mono ?_
    rintro e w9 ⟨⟨n9, hn0, hn1, rfl⟩, hm9⟩
    have hn9 : ¬ n9 < 0 := by omega
    have G9 := Lib.hid (hm9.ownP G8.out Hz4.out)
    have hb9 := hm9.below C8.out.size
    have B9 := Lib.hid (B8.out.below hb9 HWW.out)
    have Hb9 := Lib.hid (Hb8.out.trans (hb9.mono (Nat.le_of_lt HWW.out)))
    have C9 := Lib.hid (C8.out.trans hb9)
    have Z9 := Lib.hid (Nat.le_trans Z8.out hm9.size)
    clear hm9 hb9 G8 S8 B8 X8 Hb8 C8 Z8 k0 k1 k2
    go_wp2_with fail
    refine (eqPostS_same _ _ M (by have := HMl.out; omega) HMe.out _ G9.out.rd (W3.out.below C9.out)).mono ?_
    rintro e w10 ⟨rfl, hb10⟩
    have G10 := Lib.hid (G9.out.later hb10)
    have B10 := Lib.hid (B9.out.later hb10)
    have Hb10 := Lib.hid (Hb9.out.trans (hb10.mono Hb9.out.size))
    have C10 := Lib.hid (C9.out.trans (hb10.mono C9.out.size))
    have Z10 := Lib.hid (Nat.le_trans Z9.out hb10.size)
    clear hb10 G9 B9 Hb9 C9 Z9
    go_wp2_with fail
    refine (markPostS_any _ _ _ M 1 (by omega) (by omega) (by have := HMl.out; omega) (by have := HMd.out; omega) _ G10.out.cap).mono ?_
    rintro e w11 ⟨rfl, ho11, hm11⟩
    rw [HK.out]
    have M11 := Lib.hid ho11.own.rd
    have hb11 : Below w3.heap.size w10 w11 := (hm11.below Z10.out).mono HZ3.out
    have B11 := Lib.hid (B10.out.below hb11 HWW.out)
    have Hb11 := Lib.hid (Hb10.out.trans (hb11.mono (Nat.le_of_lt HWW.out)))
    have C11 := Lib.hid (C10.out.trans hb11)
    clear ho11 hm11 hb11 G10 B10 Hb10 C10 Z10
    go_wp2_with fail
    refine (heldPostS_any _ M 1 (by omega) (by omega) (by have := HMl.out; omega) (by have := HMd.out; omega) _ M11.out).mono ?_
    rintro e w12 ⟨rfl, hb12⟩
    rw [HK.out]
    have M12 := Lib.hid (M11.out.below hb12)
    have B12 := Lib.hid (B11.out.later hb12)
    have Hb12 := Lib.hid (Hb11.out.trans (hb12.mono Hb11.out.size))
    have C12 := Lib.hid (C11.out.trans (hb12.mono C11.out.size))
    clear hb12 M11 B11 Hb11 C11
    obtain ⟨g0, g1, g2⟩ := cells3 B12.out
    go_wp2_with fail
    refine (toScript_any _ _ _ l0 wl0 sl0 N0.out N3.out N1.out N2.out _ (HR.out.below Hb12.out) (HW.out.below Hb12.out) (HS.out.below Hb12.out)).mono ?_
    rintro e w13 ⟨u13, wv13, sv13, rfl, ho13, ho13w, ho13s, hb13⟩
    have P13 := Lib.hid ho13
    have Q13 := Lib.hid ho13w.slice
    have R13 := Lib.hid ho13s.slice
    have M13 := Lib.hid (M12.out.below hb13)
    have Hb13 := Lib.hid (Hb12.out.trans (hb13.mono Hb12.out.size))
    have C13 := Lib.hid (C12.out.trans (hb13.mono C12.out.size))
    clear hb13 ho13 ho13w ho13s g0 g1 g2 M12 B12 Hb12 C12
    go_wp2_with fail
    refine (implPostsAt _ _ _ l0 wl0.length sl0.length a1 N0.out N3.out _ _ P13.out Q13.out R13.out).mono ?_
    rw [HM.out]
    rintro e w14 ⟨v2, rfl, ho14, hb14⟩
    obtain ⟨had, hcap, rfl⟩ := ho14.slice
    have G14 := Lib.hid ho14.rd
    have M14 := Lib.hid (M13.out.below hb14)
    have Hb14 := Lib.hid (Hb13.out.trans (hb14.mono Hb13.out.size))
    have C14 := Lib.hid (C13.out.trans (hb14.mono C13.out.size))
    clear hb14 ho14 P13 Q13 R13 M13 Hb13 C13
    go_wp2_with fail
    refine (eqPostS_same _ _ M (by have := HMl.out; omega) HMe.out _ G14.out (W3.out.below C14.out)).mono ?_
    rintro e w15 ⟨rfl, hb15⟩
    have M15 := Lib.hid (M14.out.below hb15)
    have Hb15 := Lib.hid (Hb14.out.trans (hb15.mono Hb14.out.size))
    clear hb15 G14 M14 Hb14 C14
    go_wp2_with fail
    refine (heldPostS_any _ M 1 (by omega) (by omega) (by have := HMl.out; omega) (by have := HMd.out; omega) _ M15.out).mono ?_
    rintro e w16 ⟨rfl, hb16⟩
    rw [HK.out]
    have Hb16 := Lib.hid (Hb15.out.trans (hb16.mono Hb15.out.size))
    clear hb16
    go_wp2_with fail
    go_ret
    exact ⟨rfl, Hb16.out⟩

set_option maxRecDepth 100000 in
set_option maxRecDepth 100000 in
theorem lifted (os : Os) (started : os.Started) (H : Type) (enc : TypeId × Value → H) :
    ReturnsInHanded {} Try.checked os 5 .any (Rows.fnExactPostsAtSpec.pre6 enc Try.prog Try.f5 Rows.fnExactPostsAtRow.domain false) (Rows.fnExactPostsAtSpec.post enc Try.prog Try.f5 false true false false) := by
  refine returnsInHanded_of_change (C := Try.checked) own started (by kernel_rfl) Try.func5
    (ChangeSpec.witness6 (enc := enc) (C := Try.checked) false ⟨#[], #[.agg #[.slice none 0 0, .slice none 0 0, .slice none 0 0], .int .i64 0], []⟩ 8 (by kernel_rfl) (by kernel_rfl) (by kernel_rfl) (by kernel_rfl)) ?_
  intro W base args ds gs before hval0 hW hcnd _
  have hval : ∀ (j : Nat) t v, Try.f5.params[j]? = some t → args[j]? = some v → Value.okWide Try.prog W .any base t v := hval0
  have hW' := hW
  obtain ⟨p, q, hA0, hV, rfl, hfz, hnd⟩ := hW
  have hA : DataW.TrodAll enc Try.prog W 0 (fun _ => true) true Try.f5.params.toList args.toList ds p := hA0
  rw [Try.params5] at hA hval
  obtain ⟨v0, vs0, d0, ds0, p0, q0, hargs, rfl, rfl, h0, r0⟩ := trodAll_cons hA
  obtain ⟨v1, vs1, d1, ds1, p1, q1, rfl, rfl, rfl, h1, r1⟩ := trodAll_cons r0
  obtain ⟨rfl, rfl, rfl⟩ := trodAll_nil r1
  obtain rfl : args = #[v0, v1] := by cases args; simp_all
  obtain ⟨rfl, rfl⟩ := trodVars_none hV
  have k0 := h0
  have lt0 : ∀ x ∈ p0, x.block < W.heap.size := by obtain ⟨m, hm⟩ := k0; exact DataW.trod_lt m _ _ _ hm
  obtain ⟨u0, wv0, sv0, l0, wl0, sl0, rfl, R0, Rw0, Rs0, hl0, hd0, hw0, hs0⟩ := GR.open_script (hval 0 42 v0 rfl rfl) h0
  obtain ⟨a1, rfl, rfl, rfl, w1⟩ := open_int Try.underlying3 (hval 1 3 v1 rfl rfl) h1
  clear hA0 hval0
  refine (walk u0 wv0 sv0 l0 wl0 sl0 a1 W R0 Rw0 Rs0 hl0 hd0 hw0 hs0 w1).mono fun e W' ⟨he, bel⟩ => ?_
  subst he
  exact ⟨_, rfl, _, _, _, [], _, [], hW', trodAll_mk1 (shut_bool Try.underlying4 _), (trodAll_cons_mk (Below.trod laidOut (by kernel_rfl) (of_decide_eq_true (by kernel_rfl)) k0 bel lt0) (trodAll_cons_mk (shut_int Try.underlying3 w1) trodAll_mk0)), rfl, bel.frame _, fun h => by cases h⟩

theorem over : Rows.fnExactPostsAtRow.holds Try.pinned (OpenSpec.ofChange Rows.fnExactPostsAtSpec) :=
  OpenClaim.holds_of_wide 5 Try.f5 rfl rfl rfl rfl rfl rfl rfl ⟨rfl, rfl, rfl, rfl, rfl⟩ rfl rfl rfl rfl rfl (by kernel_rfl) Try.func5 (by kernel_rfl)
    (of_decide_eq_true (by kernel_rfl)) (by unfold Func.isWrapper; first | (rw [if_pos (by decide +kernel)]; kernel_rfl) | (rw [if_neg (by decide +kernel)]; exact ⟨rfl, rfl⟩))
    (fun os started H enc _ => lifted os started H enc)

theorem proved : Rows.FnExactPostsAtSaid := over
#print axioms proved
end Go.Proofs.Ytijilhaoknpeeaa.fnExactPostsAt
