
/-
  The numbers and the texts of chapter 1's draws.
-/
import Derived.Test.YtilbaooancgodaaDoorCur2
namespace Go.Proofs.YtilbaooancgodaaDoor.Cur
open Go.RowKit Bytes

def numList : List Int := [-1, 0, 127, 128, 255, 256, 16383, 16384, 65535, 65536, 562949953421311, 562949953421312, 999999999, 1000000000, -999999999, 9223372036854775807, -9223372036854775808]
theorem numList_bd : ∀ k, -9223372036854775808 ≤ numList.getD k 0 ∧ numList.getD k 0 ≤ 9223372036854775807 := by
  intro k
  by_cases h : k < 17
  · have : ∀ j, j < 17 → -9223372036854775808 ≤ numList.getD j 0 ∧ numList.getD j 0 ≤ 9223372036854775807 := by decide +kernel
    exact this k h
  · have : numList.getD k 0 = 0 := by simp [List.getD, List.getElem?_eq_none (show numList.length ≤ k by simp [numList]; omega)]
    rw [this]; omega
/-- a number, small, at a limit, or any. -/
def numD (len : Nat) (z : List Int) (s : St) : Int × St :=
  let k := belowD len z 8 s
  if k.1 = 0 then (numList.getD (belowD len z 17 k.2).1.toNat 0, (belowD len z 17 k.2).2)
  else if k.1 = 1 then ((belowD len z 1000000000 k.2).1 * (belowD len z 1000000000 (belowD len z 1000000000 k.2).2).1, (belowD len z 1000000000 (belowD len z 1000000000 k.2).2).2)
  else if k.1 = 2 then (-(belowD len z 100000 k.2).1, (belowD len z 100000 k.2).2)
  else belowD len z 70000 k.2
theorem mul_bd {x y : Int} (hx : 0 ≤ x ∧ x < 1000000000) (hy : 0 ≤ y ∧ y < 1000000000) : 0 ≤ x * y ∧ x * y ≤ 1000000000000000000 := by
  refine ⟨Int.mul_nonneg hx.1 hy.1, ?_⟩
  have := Int.mul_le_mul (show x ≤ 1000000000 by omega) (show y ≤ 1000000000 by omega) hy.1 (by omega)
  omega
theorem numD_bd (len : Nat) (z : List Int) (s : St) : -9223372036854775808 ≤ (numD len z s).1 ∧ (numD len z s).1 ≤ 9223372036854775807 := by
  unfold numD
  simp only
  split
  · exact numList_bd _
  · split
    · have := mul_bd (belowD_bd len z 1000000000 (belowD len z 8 s).2 (by omega)) (belowD_bd len z 1000000000 (belowD len z 1000000000 (belowD len z 8 s).2).2 (by omega))
      omega
    · split
      · have := belowD_bd len z 100000 (belowD len z 8 s).2 (by omega); omega
      · have := belowD_bd len z 70000 (belowD len z 8 s).2 (by omega); omega
set_option maxHeartbeats 1000000 in
set_option maxRecDepth 100000 in
theorem num_any (c : Nat) (a : Option Addr) (len cap : Nat) (z : List Int) (s : St) (w : World) (h : At c a len cap z s w) :
    Calls Tryd.prog 58 #[.pointer (some ⟨c, 0, none⟩)] w fun e w' => e = .returned (.int .i64 (numD len z s).1) ∧ At c a len cap z (numD len z s).2 w' ∧ Only c w w' := by
  have hk := belowD_bd len z 8 s (by omega)
  obtain ⟨s1, hs1⟩ : ∃ s1, s1 = (belowD len z 8 s).2 := ⟨_, rfl⟩
  obtain ⟨k, hk1⟩ : ∃ k, k = (belowD len z 8 s).1 := ⟨_, rfl⟩
  have He := Lib.hid (show numD len z s = if k = 0 then (numList.getD (belowD len z 17 s1).1.toNat 0, (belowD len z 17 s1).2)
      else if k = 1 then ((belowD len z 1000000000 s1).1 * (belowD len z 1000000000 (belowD len z 1000000000 s1).2).1, (belowD len z 1000000000 (belowD len z 1000000000 s1).2).2)
      else if k = 2 then (-(belowD len z 100000 s1).1, (belowD len z 100000 s1).2)
      else belowD len z 70000 s1 by rw [hs1, hk1]; rfl)
  have H1 := Lib.hid hs1
  have K1 := Lib.hid hk1
  rw [← hk1] at hk
  clear hs1 hk1
  by_cases k0 : k = 0
  · subst k0
    have He2 := Lib.hid (He.out.trans (if_pos rfl))
    go_enter Tryd.func58, Tryd.ntmps58
    go_wp2_with fail
    refine (below_any c a len cap z s 8 (by omega) (by omega) _ h).mono ?_
    rintro e w1 ⟨rfl, hA1, hO1⟩
    rw [← K1.out]
    rw [← H1.out] at hA1
    have hclt := hA1.lt
    go_wp2_with fail
    refine (pickInt_any c a len cap z s1 w1.heap.size numList 17 rfl (by omega) (by omega) (by omega) _ (heap_alloc_new w1 _) (hA1.below ((Below.refl _ _).alloc (Nat.le_refl _) _))).mono ?_
    rintro e w2 ⟨rfl, hA2, hO2⟩
    go_wp2
    go_ret
    exact ⟨by rw [He2.out]; rfl, by rw [He2.out]; exact hA2, (hO1.alloc _).trans hO2⟩
  · have t0 : (k == 0) = false := by rw [beq_eq_false_iff_ne]; exact k0
    by_cases k1 : k = 1
    · subst k1
      have He2 := Lib.hid (He.out.trans ((if_neg (by omega)).trans (if_pos rfl)))
      obtain ⟨x, hx⟩ : ∃ x, x = (belowD len z 1000000000 s1).1 := ⟨_, rfl⟩
      obtain ⟨s2, hs2⟩ : ∃ x, x = (belowD len z 1000000000 s1).2 := ⟨_, rfl⟩
      obtain ⟨y, hy⟩ : ∃ x, x = (belowD len z 1000000000 s2).1 := ⟨_, rfl⟩
      have bx := belowD_bd len z 1000000000 s1 (by omega)
      have byy := belowD_bd len z 1000000000 s2 (by omega)
      rw [← hx] at bx; rw [← hy] at byy
      have bxy := mul_bd bx byy
      have He3 := Lib.hid (show numD len z s = (x * y, (belowD len z 1000000000 s2).2) by rw [He2.out, hx, hy, hs2])
      have X1 := Lib.hid hx; have X2 := Lib.hid hs2; have X3 := Lib.hid hy
      clear hx hs2 hy k0 t0
      go_enter Tryd.func58, Tryd.ntmps58
      go_wp2_with fail
      refine (below_any c a len cap z s 8 (by omega) (by omega) _ h).mono ?_
      rintro e w1 ⟨rfl, hA1, hO1⟩
      rw [← K1.out]
      rw [← H1.out] at hA1
      go_wp2_with fail
      refine (below_any c a len cap z s1 1000000000 (by omega) (by omega) _ hA1).mono ?_
      rintro e w2 ⟨rfl, hA2, hO2⟩
      rw [← X1.out]
      rw [← X2.out] at hA2
      go_wp2_with fail
      refine (below_any c a len cap z s2 1000000000 (by omega) (by omega) _ hA2).mono ?_
      rintro e w3 ⟨rfl, hA3, hO3⟩
      rw [← X3.out]
      go_wp2
      go_ret
      exact ⟨by rw [He3.out]; rfl, by rw [He3.out]; exact hA3, (hO1.trans hO2).trans hO3⟩
    · have t1 : (k == 1) = false := by rw [beq_eq_false_iff_ne]; exact k1
      by_cases k2 : k = 2
      · subst k2
        have He2 := Lib.hid (He.out.trans ((if_neg (by omega)).trans ((if_neg (by omega)).trans (if_pos rfl))))
        obtain ⟨x, hx⟩ : ∃ x, x = (belowD len z 100000 s1).1 := ⟨_, rfl⟩
        have bx := belowD_bd len z 100000 s1 (by omega)
        rw [← hx] at bx
        have He3 := Lib.hid (show numD len z s = (-x, (belowD len z 100000 s1).2) by rw [He2.out, hx])
        have X1 := Lib.hid hx
        clear hx k0 t0 k1 t1
        go_enter Tryd.func58, Tryd.ntmps58
        go_wp2_with fail
        refine (below_any c a len cap z s 8 (by omega) (by omega) _ h).mono ?_
        rintro e w1 ⟨rfl, hA1, hO1⟩
        rw [← K1.out]
        rw [← H1.out] at hA1
        go_wp2_with fail
        refine (below_any c a len cap z s1 100000 (by omega) (by omega) _ hA1).mono ?_
        rintro e w2 ⟨rfl, hA2, hO2⟩
        rw [← X1.out]
        go_wp2
        go_ret
        exact ⟨by rw [He3.out]; rfl, by rw [He3.out]; exact hA2, hO1.trans hO2⟩
      · have t2 : (k == 2) = false := by rw [beq_eq_false_iff_ne]; exact k2
        have He2 := Lib.hid (He.out.trans ((if_neg k0).trans ((if_neg k1).trans (if_neg k2))))
        clear k0 k1 k2
        go_enter Tryd.func58, Tryd.ntmps58
        go_wp2_with fail
        refine (below_any c a len cap z s 8 (by omega) (by omega) _ h).mono ?_
        rintro e w1 ⟨rfl, hA1, hO1⟩
        rw [← K1.out]
        rw [← H1.out] at hA1
        go_wp2_with fail
        refine (below_any c a len cap z s1 70000 (by omega) (by omega) _ hA1).mono ?_
        rintro e w2 ⟨rfl, hA2, hO2⟩
        go_wp2
        go_ret
        exact ⟨by rw [He2.out]; rfl, by rw [He2.out]; exact hA2, hO1.trans hO2⟩

def styleB (st b : Int) : Int := if st = 1 then b % 2 else if st = 2 then 97 + b % 4 else b
theorem styleB_bd {st b : Int} (hb : 0 ≤ b ∧ b < 256) : 0 ≤ styleB st b ∧ styleB st b < 256 := by
  unfold styleB; split; omega; split <;> omega
def textLoop (len : Nat) (z : List Int) (st : Int) : Nat → St → List UInt8 × St
  | 0, s => ([], s)
  | k + 1, s => (UInt8.ofNat (styleB st (byteD len z s).1).toNat :: (textLoop len z st k (byteD len z s).2).1, (textLoop len z st k (byteD len z s).2).2)
theorem textLoop_length (len : Nat) (z : List Int) (st : Int) : ∀ k s, (textLoop len z st k s).1.length = k
  | 0, _ => rfl
  | k + 1, s => by simp [textLoop, textLoop_length len z st k]
/-- bytes, at most so many. -/
def textD (len : Nat) (z : List Int) (most : Int) (s : St) : List UInt8 × St :=
  let st := belowD len z 4 s
  let n := belowD len z (most + 1) st.2
  textLoop len z st.1 n.1.toNat n.2
theorem textD_length (len : Nat) (z : List Int) (most : Int) (s : St) (h : 0 ≤ most) : ((textD len z most s).1.length : Int) ≤ most := by
  unfold textD; simp only; rw [textLoop_length]
  have := belowD_bd len z (most + 1) (belowD len z 4 s).2 (by omega)
  omega
set_option maxHeartbeats 1000000 in
set_option maxRecDepth 100000 in
theorem text_any (c : Nat) (a : Option Addr) (len cap : Nat) (z : List Int) (s : St) (most : Int) (hm0 : 0 ≤ most) (hm1 : most ≤ 100000) (w : World) (h : At c a len cap z s w) :
    Calls Tryd.prog 59 #[.pointer (some ⟨c, 0, none⟩), .int .i64 most] w fun e w' => e = .returned (.string ⟨(textD len z most s).1.toArray⟩) ∧ At c a len cap z (textD len z most s).2 w' ∧ Only c w w' := by
  have hst := belowD_bd len z 4 s (by omega)
  obtain ⟨s1, hs1⟩ : ∃ s1, s1 = (belowD len z 4 s).2 := ⟨_, rfl⟩
  obtain ⟨st, hst1⟩ : ∃ k, k = (belowD len z 4 s).1 := ⟨_, rfl⟩
  have hn := belowD_bd len z (most + 1) s1 (by omega)
  obtain ⟨s2, hs2⟩ : ∃ s2, s2 = (belowD len z (most + 1) s1).2 := ⟨_, rfl⟩
  obtain ⟨n, hn1⟩ : ∃ n : Nat, (n : Int) = (belowD len z (most + 1) s1).1 := ⟨_, Int.toNat_of_nonneg hn.1⟩
  rw [← hst1] at hst
  rw [← hn1] at hn
  have He := Lib.hid (show textD len z most s = textLoop len z st n s2 by
    unfold textD; simp only; rw [← hs1, ← hst1, ← hs2, ← hn1]; rfl)
  have X1 := Lib.hid hs1; have X2 := Lib.hid hst1; have X3 := Lib.hid hs2; have X4 := Lib.hid hn1
  clear hs1 hst1 hs2 hn1
  have hclt := h.lt
  have hab := Lib.hid h.reach
  have hA0 := h.below ((Below.refl _ _).alloc (Nat.le_refl _) (.cells #[] 5))
  go_enter Tryd.func59, Tryd.ntmps59
  go_wp2_with fail
  refine (below_any c a len cap z s 4 (by omega) (by omega) _ hA0).mono ?_
  rintro e w1 ⟨rfl, hA1, hO1⟩
  rw [← X2.out]
  rw [← X1.out] at hA1
  go_wp2_with fail
  refine (below_any c a len cap z s1 (most + 1) (by omega) (by omega) _ hA1).mono ?_
  rintro e w2 ⟨rfl, hA2, hO2⟩
  rw [← X4.out]
  rw [← X3.out] at hA2
  have hOw := (((Only.refl c w).alloc (.cells #[] 5)).trans hO1).trans hO2
  have hown0 : OwnB w.heap.size (.slice (some ⟨w.heap.size, 0, none⟩) 0 0) [] w2 := ownB_only (ownB_only (OwnB.made _ _ (Nat.le_refl _)) hO1 hclt) hO2 hclt
  go_wp2
  go_loopw [5, 7] (fun o x wr => ∃ (q : Nat) (l : List UInt8) (t : St), x = .int .i64 q ∧ (l.length : Int) + q ≤ 100001 ∧ l ++ (textLoop len z st q t).1 = (textLoop len z st n s2).1 ∧ (textLoop len z st q t).2 = (textLoop len z st n s2).2 ∧ OwnB w.heap.size o l wr ∧ At c a len cap z t wr ∧ Only c w wr) (fun _ x _ => (intOf x).toNat)
  case atStart => exact ⟨n, [], s2, rfl, by simp; omega, rfl, rfl, hown0, hA2, hOw⟩
  case round =>
    obtain ⟨q, l, t, rfl, hlen, hl, ht, hown, hA, hO⟩ := hrel
    have Hl := Lib.hid hl
    have Ht := Lib.hid ht
    clear hl ht
    have hOs := hO.size
    by_cases hq : 0 < q
    · obtain ⟨r, rfl⟩ : ∃ r, q = r + 1 := ⟨q - 1, by omega⟩
      have hx := byteD_bd len z t
      obtain ⟨x, hx1⟩ : ∃ x, x = (byteD len z t).1 := ⟨_, rfl⟩
      obtain ⟨t2, ht2⟩ : ∃ x, x = (byteD len z t).2 := ⟨_, rfl⟩
      rw [← hx1] at hx
      have hsb := styleB_bd (st := st) hx
      obtain ⟨y, hy⟩ : ∃ y : UInt8, y = UInt8.ofNat (styleB st x).toNat := ⟨_, rfl⟩
      have Hy := Lib.hid (show styleB st x = (y.toNat : Int) by rw [hy, ← u8_ofNat _ (by omega)]; omega)
      have Hs := Lib.hid (show textLoop len z st (r + 1) t = (y :: (textLoop len z st r t2).1, (textLoop len z st r t2).2) by rw [textLoop, hy, hx1, ht2])
      have Y1 := Lib.hid hx1; have Y2 := Lib.hid ht2
      clear hx1 ht2 hy
      by_cases c1 : st = 1
      · subst c1
        have Hc := Lib.hid (show x % 2 = (y.toNat : Int) by rw [← Hy.out]; unfold styleB; rw [if_pos rfl])
        go_wp2_with fail
        refine (byte_any c a len cap z t _ hA).mono ?_
        rintro e w3 ⟨rfl, hA3, hO3⟩
        rw [← Y1.out]
        rw [← Y2.out] at hA3
        have hown3 := ownB_only hown hO3 hclt
        have hs3 : w.heap.size ≤ w3.heap.size := Nat.le_trans hOs hO3.size
        go_wp2_with (at_builtin; refine app rfl _ _ rfl w.heap.size u5 l w3 _ y rfl rfl hown3 Hc.out hs3 (by omega) ?_; intro v' w4 hown4 hb4)
        go_roundw
        case rel => exact ⟨r, l ++ [y], t2, by go_num, by simp; omega, by rw [← Hl.out, Hs.out]; simp, by rw [← Ht.out, Hs.out], hown4, hA3.belowB hb4 hclt hab.out, (hO.trans hO3).transB hb4⟩
        case measure => simp [intOf]
      · have t1 : (st == 1) = false := by rw [beq_eq_false_iff_ne]; exact c1
        by_cases c2 : st = 2
        · subst c2
          have Hc := Lib.hid (show 97 + x % 4 = (y.toNat : Int) by rw [← Hy.out]; unfold styleB; rw [if_neg c1, if_pos rfl])
          clear c1 t1
          go_wp2_with fail
          refine (byte_any c a len cap z t _ hA).mono ?_
          rintro e w3 ⟨rfl, hA3, hO3⟩
          rw [← Y1.out]
          rw [← Y2.out] at hA3
          have hown3 := ownB_only hown hO3 hclt
          have hs3 : w.heap.size ≤ w3.heap.size := Nat.le_trans hOs hO3.size
          go_wp2_with (at_builtin; refine app rfl _ _ rfl w.heap.size u5 l w3 _ y rfl rfl hown3 Hc.out hs3 (by omega) ?_; intro v' w4 hown4 hb4)
          go_roundw
          case rel => exact ⟨r, l ++ [y], t2, by go_num, by simp; omega, by rw [← Hl.out, Hs.out]; simp, by rw [← Ht.out, Hs.out], hown4, hA3.belowB hb4 hclt hab.out, (hO.trans hO3).transB hb4⟩
          case measure => simp [intOf]
        · have t2' : (st == 2) = false := by rw [beq_eq_false_iff_ne]; exact c2
          have Hc := Lib.hid (show x = (y.toNat : Int) by rw [← Hy.out]; unfold styleB; rw [if_neg c1, if_neg c2])
          go_wp2_with fail
          refine (byte_any c a len cap z t _ hA).mono ?_
          rintro e w3 ⟨rfl, hA3, hO3⟩
          rw [← Y1.out]
          rw [← Y2.out] at hA3
          have hown3 := ownB_only hown hO3 hclt
          have hs3 : w.heap.size ≤ w3.heap.size := Nat.le_trans hOs hO3.size
          go_wp2_with (at_builtin; refine app rfl _ _ rfl w.heap.size u5 l w3 _ y rfl rfl hown3 Hc.out hs3 (by omega) ?_; intro v' w4 hown4 hb4)
          go_roundw
          case rel => exact ⟨r, l ++ [y], t2, by go_num, by simp; omega, by rw [← Hl.out, Hs.out]; simp, by rw [← Ht.out, Hs.out], hown4, hA3.belowB hb4 hclt hab.out, (hO.trans hO3).transB hb4⟩
          case measure => simp [intOf]
    · have hq0 : q = 0 := by omega
      subst hq0
      have Hz := Lib.hid (show l = (textLoop len z st n s2).1 by rw [← Hl.out]; simp [textLoop])
      have Hz2 := Lib.hid (show t = (textLoop len z st n s2).2 by rw [← Ht.out]; rfl)
      have hcv := hown.str
      go_wp2
      go_ret
      exact ⟨by rw [He.out, ← Hz.out]; rfl, by rw [He.out, ← Hz2.out]; exact hA, hO⟩
end Go.Proofs.YtilbaooancgodaaDoor.Cur
