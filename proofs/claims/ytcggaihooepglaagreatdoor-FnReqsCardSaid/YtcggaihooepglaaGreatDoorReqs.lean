
/-
  The law on requests: of any request and any text that are drawn.
-/
import Derived.Test.YtcggaihooepglaaGreatDoorDrawR
import Derived.Test.YtcggaihooepglaaGreatDoorReqOk
import Derived.Test.YtcggaihooepglaaGreatDoorSameReq
import Derived.Test.YtcggaihooepglaaGreatDoorRead2
import Derived.Test.YtcggaihooepglaaGreatDoorRead6
import Derived.Test.YtcggaihooepglaaGreatDoorRead7
namespace Go.Proofs.YtcggaihooepglaaGreatDoor.Cur
open Go.RowKit Bytes Num Rows3

theorem sameR_self (q : Bool) (x y z : Int) (k : Bool) (l : List Int) : sameR q x y z k l q x y z k l = true := by
  unfold sameR; simp [eqLB_yes]
theorem rq_own {q : Bool} {x y z : Int} {lk : Bool} {l : List Int} {T : ByteArray} (hT : txtB q x y z lk l = T) {q' : Bool} {x' y' z' : Int} {lk' : Bool} {l' : List Int} {b : Bool} (h : RQ T q' x' y' z' lk' l' b) :
    b = okR q x y z l ∧ (b = true → q' = q ∧ x' = x ∧ y' = y ∧ z' = z ∧ lk' = lk ∧ l' = l) := by
  cases hok : okR q x y z l with
  | true =>
    obtain ⟨h1, h2, h3, h4, h5, h6, h7⟩ := h.uniq (.inl ⟨rfl, hok, hT⟩ : RQ T q x y z lk l true)
    exact ⟨h7, fun _ => ⟨h1, h2, h3, h4, h5, h6⟩⟩
  | false =>
    have hT0 : T = ⟨#[]⟩ := by rw [← hT]; unfold txtB; rw [hok]; rfl
    rcases h with ⟨_, hok', ht'⟩ | ⟨rfl, _⟩
    · have h1 := cutW_words hok' ht'
      have h2 := cutW_len T
      have h4 := wordsL_len q' x' y' z' lk' l'
      rw [h1, hT0] at h2
      have h3 : (⟨#[]⟩ : ByteArray).size = 0 := rfl
      omega
    · exact ⟨rfl, fun e => by cases e⟩
theorem rq_true {s : ByteArray} {q : Bool} {x y z : Int} {lk : Bool} {l : List Int} (h : RQ s q x y z lk l true) : txtB q x y z lk l = s := by
  rcases h with ⟨_, _, h⟩ | ⟨h, _⟩
  · exact h
  · cases h
set_option maxHeartbeats 8000000 in
set_option maxRecDepth 100000 in
theorem reqs_all (a : Option Addr) (len cap : Nat) (zc : List Int) (w : World) (hC : CodeIn a len zc w) (herr : Errs w) (htab : Pow w) :
    Calls Tryz.prog 3 #[.slice a len cap] w fun e w' => e = .returned (.bool true) ∧ Below w.heap.size w w' := by
  have HC := Lib.hid hC
  have Herr := Lib.hid herr
  have Htab := Lib.hid htab
  have hlen : ¬ 1048576 < len := by have := hC.2.2; omega
  clear hC herr htab
  go_enter Tryz.func3, Tryz.ntmps3
  go_wp2_with fail
  refine (bigE_no a len cap hlen _).mono ?_
  rintro e w0 ⟨rfl, rfl⟩
  go_wp2_with fail
  refine (drawText_any a len cap zc _ HC.out).mono ?_
  rintro e w1 ⟨q, x, y, z, lk, v, l, rfl, ho, hl, hb1⟩
  obtain ⟨ad, cp, rfl⟩ := ho.slice
  have hl2 : Hid (l.length ≤ 2000000) := Lib.hid (by omega)
  have HB := Lib.hid hb1
  have Rc := Lib.hid ho.rd
  clear ho hl hb1
  have Bc' := Num.Blk.new 26 (.bool q) (.int .i64 x) (.int .i64 y) (.int .i64 z) (.bool lk) (.slice ad l.length cp) w1
  have b' := (Below.refl w1.heap.size w1).alloc (Nat.le_refl _) (.cells #[.bool q, .int .i64 x, .int .i64 y, .int .i64 z, .bool lk, .slice ad l.length cp] 26)
  have A' := Num.Blk.new 26 (.bool false) (.int .i64 0) (.int .i64 0) (.int .i64 0) (.bool false) (.slice none 0 0) w1
  obtain ⟨f0, f1, f2, f3, f4, f5⟩ := A'.warm
  obtain ⟨w2, hw2⟩ : ∃ w2, w1.alloc (.cells #[.bool q, .int .i64 x, .int .i64 y, .int .i64 z, .bool lk, .slice ad l.length cp] 26) = w2 := ⟨_, rfl⟩
  rw [hw2] at Bc' b'
  have Bc := Lib.hid Bc'
  replace HB := Lib.hid (HB.out.trans (b'.mono HB.out.size))
  replace Rc := Lib.hid (Rc.out.below b')
  clear Bc' b' A'
  obtain ⟨g0, g1, g2, g3, g4, g5⟩ := Bc.out.cells
  go_wp2_with fail
  clear hw2 f0 f1 f2 f3 f4 f5 g0 g1 g2 g3 g4 g5
  obtain ⟨T, hT⟩ : ∃ T, txtB q x y z lk l = T := ⟨_, rfl⟩
  have HT := Lib.hid hT
  have HS : Hid (T.size ≤ 1048576) := Lib.hid (by rw [← hT]; exact Nat.le_trans (txtB_size _ _ _ _ _ _) (by decide))
  clear hT
  refine (implText q x y z lk _ l hl2.out _ Rc.out (Htab.out.below HB.out)).mono ?_
  rintro e w3 ⟨rfl, hb3⟩
  rw [HT.out]
  replace HB := Lib.hid (HB.out.trans (hb3.mono HB.out.size))
  replace Rc := Lib.hid (Rc.out.below hb3)
  replace Bc := Lib.hid (Bc.out.later hb3)
  clear hb3
  go_wp2_with fail
  refine (implRead T HS.out _ (errs_below Herr.out HB.out) (Htab.out.below HB.out)).mono ?_
  rintro e w4 ⟨q1, x1, y1, z1, lk1, v1, l1, is, rfl, ho1, hb4, hrc⟩
  obtain ⟨ad1, cp1, rfl⟩ := ho1.slice
  have Rx := Lib.hid ho1.rd
  have Hrc := Lib.hid (rq_own HT.out hrc)
  clear ho1 hrc
  replace HB := Lib.hid (HB.out.trans (hb4.mono HB.out.size))
  replace Rc := Lib.hid (Rc.out.below hb4)
  replace Bc := Lib.hid (Bc.out.later hb4)
  clear hb4
  have Bq' := Num.Blk.new 26 (.bool q1) (.int .i64 x1) (.int .i64 y1) (.int .i64 z1) (.bool lk1) (.slice ad1 l1.length cp1) w4
  have b' := (Below.refl w4.heap.size w4).alloc (Nat.le_refl _) (.cells #[.bool q1, .int .i64 x1, .int .i64 y1, .int .i64 z1, .bool lk1, .slice ad1 l1.length cp1] 26)
  have A' := Num.Blk.new 26 (.bool false) (.int .i64 0) (.int .i64 0) (.int .i64 0) (.bool false) (.slice none 0 0) w4
  obtain ⟨f0, f1, f2, f3, f4, f5⟩ := A'.warm
  obtain ⟨w5, hw5⟩ : ∃ w5, w4.alloc (.cells #[.bool q1, .int .i64 x1, .int .i64 y1, .int .i64 z1, .bool lk1, .slice ad1 l1.length cp1] 26) = w5 := ⟨_, rfl⟩
  rw [hw5] at Bq' b'
  have Bq := Lib.hid Bq'
  replace HB := Lib.hid (HB.out.trans (b'.mono HB.out.size))
  replace Rc := Lib.hid (Rc.out.below b')
  replace Bc := Lib.hid (Bc.out.later b')
  replace Rx := Lib.hid (Rx.out.below b')
  clear Bq' b' A'
  go_wp2_with fail
  clear hw5 f0 f1 f2 f3 f4 f5
  refine (drawReadR_any a len cap zc _ (HC.out.below HB.out)).mono ?_
  rintro e w6 ⟨s, rfl, hs, hb6⟩
  have Hs := Lib.hid hs
  clear hs
  replace HB := Lib.hid (HB.out.trans (hb6.mono HB.out.size))
  replace Rc := Lib.hid (Rc.out.below hb6)
  replace Bc := Lib.hid (Bc.out.later hb6)
  replace Rx := Lib.hid (Rx.out.below hb6)
  replace Bq := Lib.hid (Bq.out.later hb6)
  clear hb6
  go_wp2_with fail
  refine (implRead s Hs.out _ (errs_below Herr.out HB.out) (Htab.out.below HB.out)).mono ?_
  rintro e w7 ⟨q2, x2, y2, z2, lk2, v2, l2, fine, rfl, ho2, hb7, hr2⟩
  obtain ⟨ad2, cp2, rfl⟩ := ho2.slice
  have hl22 : Hid (l2.length ≤ 2000000) := Lib.hid (Nat.le_trans hr2.len (by decide))
  have Ry := Lib.hid ho2.rd
  have Hr2 := Lib.hid hr2
  clear ho2 hr2
  replace HB := Lib.hid (HB.out.trans (hb7.mono HB.out.size))
  replace Rc := Lib.hid (Rc.out.below hb7)
  replace Bc := Lib.hid (Bc.out.later hb7)
  replace Rx := Lib.hid (Rx.out.below hb7)
  replace Bq := Lib.hid (Bq.out.later hb7)
  clear hb7
  have By' := Num.Blk.new 26 (.bool q2) (.int .i64 x2) (.int .i64 y2) (.int .i64 z2) (.bool lk2) (.slice ad2 l2.length cp2) w7
  have b' := (Below.refl w7.heap.size w7).alloc (Nat.le_refl _) (.cells #[.bool q2, .int .i64 x2, .int .i64 y2, .int .i64 z2, .bool lk2, .slice ad2 l2.length cp2] 26)
  have A' := Num.Blk.new 26 (.bool false) (.int .i64 0) (.int .i64 0) (.int .i64 0) (.bool false) (.slice none 0 0) w7
  obtain ⟨f0, f1, f2, f3, f4, f5⟩ := A'.warm
  obtain ⟨w8, hw8⟩ : ∃ w8, w7.alloc (.cells #[.bool q2, .int .i64 x2, .int .i64 y2, .int .i64 z2, .bool lk2, .slice ad2 l2.length cp2] 26) = w8 := ⟨_, rfl⟩
  rw [hw8] at By' b'
  have By := Lib.hid By'
  replace HB := Lib.hid (HB.out.trans (b'.mono HB.out.size))
  replace Rc := Lib.hid (Rc.out.below b')
  replace Bc := Lib.hid (Bc.out.later b')
  replace Rx := Lib.hid (Rx.out.below b')
  replace Bq := Lib.hid (Bq.out.later b')
  replace Ry := Lib.hid (Ry.out.below b')
  clear By' b' A'
  go_wp2_with fail
  clear hw8 f0 f1 f2 f3 f4 f5
  refine (specRead s Hs.out _).mono ?_
  rintro e w9 ⟨q3, x3, y3, z3, lk3, v3, l3, told, rfl, ho3, hb9, hr3⟩
  obtain ⟨ad3, cp3, rfl⟩ := ho3.slice
  obtain ⟨rfl, rfl, rfl, rfl, rfl, rfl, rfl⟩ := Hr2.out.uniq hr3
  clear ho3 hr3
  replace HB := Lib.hid (HB.out.trans (hb9.mono HB.out.size))
  replace Rc := Lib.hid (Rc.out.below hb9)
  replace Bc := Lib.hid (Bc.out.later hb9)
  replace Rx := Lib.hid (Rx.out.below hb9)
  replace Bq := Lib.hid (Bq.out.later hb9)
  replace Ry := Lib.hid (Ry.out.below hb9)
  replace By := Lib.hid (By.out.later hb9)
  clear hb9
  have Bt' := Num.Blk.new 26 (.bool q2) (.int .i64 x2) (.int .i64 y2) (.int .i64 z2) (.bool lk2) (.slice ad3 l2.length cp3) w9
  have b' := (Below.refl w9.heap.size w9).alloc (Nat.le_refl _) (.cells #[.bool q2, .int .i64 x2, .int .i64 y2, .int .i64 z2, .bool lk2, .slice ad3 l2.length cp3] 26)
  have A' := Num.Blk.new 26 (.bool false) (.int .i64 0) (.int .i64 0) (.int .i64 0) (.bool false) (.slice none 0 0) w9
  obtain ⟨f0, f1, f2, f3, f4, f5⟩ := A'.warm
  obtain ⟨w10, hw10⟩ : ∃ w10, w9.alloc (.cells #[.bool q2, .int .i64 x2, .int .i64 y2, .int .i64 z2, .bool lk2, .slice ad3 l2.length cp3] 26) = w10 := ⟨_, rfl⟩
  rw [hw10] at Bt' b'
  have Bt := Lib.hid Bt'
  replace HB := Lib.hid (HB.out.trans (b'.mono HB.out.size))
  replace Rc := Lib.hid (Rc.out.below b')
  replace Bc := Lib.hid (Bc.out.later b')
  replace Rx := Lib.hid (Rx.out.below b')
  replace Bq := Lib.hid (Bq.out.later b')
  replace Ry := Lib.hid (Ry.out.below b')
  replace By := Lib.hid (By.out.later b')
  clear Bt' b' A'
  obtain ⟨g0, g1, g2, g3, g4, g5⟩ := Bc.out.cells
  obtain ⟨ok, hok⟩ : ∃ b, okR q x y z l = b := ⟨_, rfl⟩
  have Hok := Lib.hid hok
  have hio := Hrc.out.1
  rw [hok] at hio
  subst hio
  clear hok
  go_wp2_with fail
  clear hw10 f0 f1 f2 f3 f4 f5
  refine (specReqOk q x y z lk _ l hl2.out _ Rc.out).mono ?_
  rintro e w11 ⟨rfl, hb11⟩
  rw [Hok.out]
  replace HB := Lib.hid (HB.out.trans (hb11.mono HB.out.size))
  replace Rc := Lib.hid (Rc.out.below hb11)
  replace Bc := Lib.hid (Bc.out.later hb11)
  replace Rx := Lib.hid (Rx.out.below hb11)
  replace Bq := Lib.hid (Bq.out.later hb11)
  replace Ry := Lib.hid (Ry.out.below hb11)
  replace By := Lib.hid (By.out.later hb11)
  clear hb11
  clear g0 g1 g2 g3 g4 g5
  obtain ⟨g0, g1, g2, g3, g4, g5⟩ := Bc.out.cells
  cases is with
  | false =>
    go_wp2_with fail
    refine (implReqOk _ _ _ _ _ _ _ hl2.out _ Rc.out).mono ?_
    rintro e w12 ⟨rfl, hb12⟩
    rw [Hok.out]
    replace HB := Lib.hid (HB.out.trans (hb12.mono HB.out.size))
    replace Rc := Lib.hid (Rc.out.below hb12)
    replace Bc := Lib.hid (Bc.out.later hb12)
    replace Rx := Lib.hid (Rx.out.below hb12)
    replace Bq := Lib.hid (Bq.out.later hb12)
    replace Ry := Lib.hid (Ry.out.below hb12)
    replace By := Lib.hid (By.out.later hb12)
    clear hb12
    clear g0 g1 g2 g3 g4 g5
    cases fine with
    | false =>
      go_wp2
      go_ret
      exact ⟨rfl, HB.out⟩
    | true =>
      have hts := rq_true Hr2.out
      have HT2 := Lib.hid hts
      have hss : (s.toList == s.toList) = true := by simp
      clear hts
      obtain ⟨k0, k1, k2, k3, k4, k5⟩ := By.out.cells
      go_wp2_with fail
      refine (implText q2 x2 y2 z2 lk2 _ l2 hl22.out _ Ry.out (Htab.out.below HB.out)).mono ?_
      rintro e w15 ⟨rfl, hb15⟩
      rw [HT2.out]
      replace HB := Lib.hid (HB.out.trans (hb15.mono HB.out.size))
      clear hb15
      go_wp2
      go_ret
      exact ⟨rfl, HB.out⟩
  | true =>
    obtain ⟨rfl, rfl, rfl, rfl, rfl, rfl⟩ := Hrc.out.2 rfl
    have Hsm := Lib.hid (sameR_self q1 x1 y1 z1 lk1 l1)
    go_wp2_with fail
    refine (implReqOk _ _ _ _ _ _ _ hl2.out _ Rc.out).mono ?_
    rintro e w12 ⟨rfl, hb12⟩
    rw [Hok.out]
    replace HB := Lib.hid (HB.out.trans (hb12.mono HB.out.size))
    replace Rc := Lib.hid (Rc.out.below hb12)
    replace Bc := Lib.hid (Bc.out.later hb12)
    replace Rx := Lib.hid (Rx.out.below hb12)
    replace Bq := Lib.hid (Bq.out.later hb12)
    replace Ry := Lib.hid (Ry.out.below hb12)
    replace By := Lib.hid (By.out.later hb12)
    clear hb12
    clear g0 g1 g2 g3 g4 g5
    obtain ⟨g0, g1, g2, g3, g4, g5⟩ := Bc.out.cells
    obtain ⟨k0, k1, k2, k3, k4, k5⟩ := Bq.out.cells
    go_wp2_with fail
    refine (specSame _ _ _ _ _ _ l1 _ _ _ _ _ _ l1 hl2.out _ Rx.out Rc.out).mono ?_
    rintro e w13 ⟨rfl, hb13⟩
    rw [Hsm.out]
    replace HB := Lib.hid (HB.out.trans (hb13.mono HB.out.size))
    replace Rc := Lib.hid (Rc.out.below hb13)
    replace Bc := Lib.hid (Bc.out.later hb13)
    replace Rx := Lib.hid (Rx.out.below hb13)
    replace Bq := Lib.hid (Bq.out.later hb13)
    replace Ry := Lib.hid (Ry.out.below hb13)
    replace By := Lib.hid (By.out.later hb13)
    clear hb13
    clear g0 g1 g2 g3 g4 g5
    clear k0 k1 k2 k3 k4 k5
    obtain ⟨g0, g1, g2, g3, g4, g5⟩ := Bc.out.cells
    obtain ⟨k0, k1, k2, k3, k4, k5⟩ := Bq.out.cells
    go_wp2_with fail
    refine (implSame _ _ _ _ _ _ l1 _ _ _ _ _ _ l1 hl2.out _ Rx.out Rc.out).mono ?_
    rintro e w14 ⟨rfl, hb14⟩
    rw [Hsm.out]
    replace HB := Lib.hid (HB.out.trans (hb14.mono HB.out.size))
    replace Rc := Lib.hid (Rc.out.below hb14)
    replace Bc := Lib.hid (Bc.out.later hb14)
    replace Rx := Lib.hid (Rx.out.below hb14)
    replace Bq := Lib.hid (Bq.out.later hb14)
    replace Ry := Lib.hid (Ry.out.below hb14)
    replace By := Lib.hid (By.out.later hb14)
    clear hb14
    clear g0 g1 g2 g3 g4 g5
    clear k0 k1 k2 k3 k4 k5
    cases fine with
    | false =>
      go_wp2
      go_ret
      exact ⟨rfl, HB.out⟩
    | true =>
      have hts := rq_true Hr2.out
      have HT2 := Lib.hid hts
      have hss : (s.toList == s.toList) = true := by simp
      clear hts
      obtain ⟨k0, k1, k2, k3, k4, k5⟩ := By.out.cells
      go_wp2_with fail
      refine (implText q2 x2 y2 z2 lk2 _ l2 hl22.out _ Ry.out (Htab.out.below HB.out)).mono ?_
      rintro e w15 ⟨rfl, hb15⟩
      rw [HT2.out]
      replace HB := Lib.hid (HB.out.trans (hb15.mono HB.out.size))
      clear hb15
      go_wp2
      go_ret
      exact ⟨rfl, HB.out⟩
end Go.Proofs.YtcggaihooepglaaGreatDoor.Cur
