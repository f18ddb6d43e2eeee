
/-
  The requests that FnReqs draws: spec.l5Any.
-/
import Derived.Test.YtcggaihooepglaaGreatDoorDrawQ
namespace Go.Proofs.YtcggaihooepglaaGreatDoor.Cur
open Go.RowKit Bytes Num Rows3

set_option maxHeartbeats 4000000 in
set_option maxRecDepth 100000 in
theorem any_any (D c : Nat) (w : World) (h : CuD D c w) : Calls Tryz.prog 14 #[.pointer (some ⟨c, 0, none⟩)] w (DrewQ 9 D c w) := by
  have hD := h.le
  have hcD := h.lt
  have B0 := Blk.new 26 (.bool false) (.int .i64 0) (.int .i64 0) (.int .i64 0) (.bool false) (.slice none 0 0) w
  have hO0 := (Only.refl c w).alloc (.cells #[.bool false, .int .i64 0, .int .i64 0, .int .i64 0, .bool false, .slice none 0 0] 26)
  have hC0 := h.alloc (.cells #[.bool false, .int .i64 0, .int .i64 0, .int .i64 0, .bool false, .slice none 0 0] 26)
  go_enter Tryz.func14, Tryz.ntmps14
  go_wp2_with fail
  refine (req_any D c _ hC0).mono ?_
  rintro e w2 ⟨q, x, y, z, lk, v, l, rfl, ho, hl, hC2, hO2⟩
  obtain ⟨ad, cap, rfl⟩ := ho.slice
  have hs2 : w.heap.size + 1 ≤ w2.heap.size := by have := hO2.size; simpa using this
  have B2 := blk_only B0 hO2 (by omega)
  have b3 := (Below.refl w2.heap.size w2).alloc (Nat.le_refl _) (.cells #[.bool q, .int .i64 x, .int .i64 y, .int .i64 z, .bool lk, .slice ad l.length cap] 26)
  have X3 := Blk.new 26 (.bool q) (.int .i64 x) (.int .i64 y) (.int .i64 z) (.bool lk) (.slice ad l.length cap) w2
  have A3 := Blk.new 26 (.bool false) (.int .i64 0) (.int .i64 0) (.int .i64 0) (.bool false) (.slice none 0 0) w2
  obtain ⟨f0, f1, f2, f3, f4, f5⟩ := A3.warm
  have hO3 := (hO0.trans hO2).alloc (.cells #[.bool q, .int .i64 x, .int .i64 y, .int .i64 z, .bool lk, .slice ad l.length cap] 26)
  have hC3 := hC2.below b3
  have ho3 := (ho.mono (show w.heap.size + 1 ≤ _ by simp)).later b3
  have B3 := B2.later b3
  obtain ⟨w3, hw3⟩ : ∃ w3, w2.alloc (.cells #[.bool q, .int .i64 x, .int .i64 y, .int .i64 z, .bool lk, .slice ad l.length cap] 26) = w3 := ⟨_, rfl⟩
  rw [hw3] at b3 X3 hO3 hC3 ho3 B3
  have HO3 := Lib.hid hO3
  have HC3 := Lib.hid hC3
  have Ho3 := Lib.hid ho3
  have HB3 := Lib.hid B3
  have HX3 := Lib.hid X3
  have Hl := Lib.hid hl
  have hn := b3.size
  clear hO3 hC3 ho3 B3 X3 hl A3 B2 B0 hO0 hC0 ho hC2 hO2 h b3
  go_wp2_with fail
  refine (belowC D c 12 (by omega) (by omega) _ HC3.out).mono ?_
  rintro e w4 ⟨k, ⟨hk0, hk1⟩, rfl, hC4, hO4⟩
  have HO4 := Lib.hid (HO3.out.trans hO4)
  have Ho4 := Lib.hid (ownI_only5 Ho3.out hO4 (by omega))
  have HB4 := Lib.hid (blk_only HB3.out hO4 (by omega))
  have HX4 := Lib.hid (blk_only HX3.out hO4 (by omega))
  have HC4 := Lib.hid hC4
  obtain ⟨r0, r1, r2, r3, r4, r5⟩ := HB4.out.warm
  obtain ⟨q0, q1, q2, q3, q4, q5⟩ := HB4.out.cells
  clear hC4 hO4 f0 f1 f2 f3 f4 f5 hw3
  obtain ⟨f0, f1, f2, f3, f4, f5⟩ := HX4.out.warm
  obtain ⟨g0, g1, g2, g3, g4, g5⟩ := HX4.out.cells
  by_cases k5 : 5 ≤ k
  · have e0 : (k == 0) = false := by rw [beq_eq_false_iff_ne]; omega
    have e1 : (k == 1) = false := by rw [beq_eq_false_iff_ne]; omega
    have e2 : (k == 2) = false := by rw [beq_eq_false_iff_ne]; omega
    have e3 : (k == 3) = false := by rw [beq_eq_false_iff_ne]; omega
    have e4 : (k == 4) = false := by rw [beq_eq_false_iff_ne]; omega
    go_wp2_with fail
    refine bodyPost_ret (v := .agg #[.bool q, .int .i64 x, .int .i64 y, .int .i64 z, .bool lk, .slice ad l.length cap]) (by simp [results, Tryz.results14, go_sem, q0, q1, q2, q3, q4, q5]) rfl ?_
    exact DrewQ.fin hD (Nat.lt_succ_self _) Ho4.out (Nat.le_trans Hl.out (by decide)) HC4.out HO4.out
  · have hk : k = 0 ∨ k = 1 ∨ k = 2 ∨ k = 3 ∨ k = 4 := by omega
    clear k5 hk0 hk1
    rcases hk with rfl | rfl | rfl | rfl | rfl
    · go_wp2_with fail
      refine (pickLit D c [-4, 510, 512, 61] 4 rfl (by omega) (by omega) _ HC4.out _ rfl).mono ?_
      rintro e w5 ⟨u, -, rfl, hC5, hO5⟩
      have HO5 := Lib.hid (HO4.out.trans hO5)
      have Ho5 := Lib.hid (ownI_only5 Ho4.out hO5 (by omega))
      have HB5 := Lib.hid (blk_only HB4.out hO5 (by omega))
      have HX5 := Lib.hid (blk_only HX4.out hO5 (by omega))
      have HC5 := Lib.hid hC5
      clear hC5 hO5
      obtain ⟨w6, hw6⟩ : ∃ w6, w5.setCell ⟨w2.heap.size, 1, none⟩ (.int .i64 u) = w6 := ⟨_, rfl⟩
      have hb6 := (Below.refl (w.heap.size + 1) w5).setCell (p := ⟨w2.heap.size, 1, none⟩) hs2 (.int .i64 u)
      have HX6 : Num.Blk 26 w2.heap.size (.bool q) (.int .i64 u) (.int .i64 y) (.int .i64 z) (.bool lk) (.slice ad l.length cap) w6 := by have h := blk_set HX5.out 1 (.int .i64 u); rw [hw6] at h; exact h
      have Ho6 := own_set_ne Ho5.out (a := ⟨w2.heap.size, 1, none⟩) (own_ne (T := 26) (by decide) Ho5.out HX5.out) (.int .i64 u)
      rw [hw6] at hb6 Ho6
      have HB6 := HB5.out.below hb6 (Nat.lt_succ_self _)
      have Fin := Lib.hid (DrewQ.fin (m := 9) (q := q) (x := u) (y := y) (z := z) (lk := lk) hD (Nat.lt_succ_self _) Ho6 (Nat.le_trans Hl.out (by decide)) (HC5.out.belowB hb6 (Nat.le_succ_of_le hD)) (HO5.out.transB (hb6.mono (Nat.le_succ _))))
      clear hb6 Ho6 f0 f1 f2 f3 f4 f5 g0 g1 g2 g3 g4 g5 r0 r1 r2 r3 r4 r5 q0 q1 q2 q3 q4 q5
      obtain ⟨f0, f1, f2, f3, f4, f5⟩ := HX5.out.warm
      obtain ⟨g0, g1, g2, g3, g4, g5⟩ := HX5.out.cells
      obtain ⟨t0, t1, t2, t3, t4, t5⟩ := HX6.cells
      obtain ⟨r0, r1, r2, r3, r4, r5⟩ := HB6.warm
      obtain ⟨q0, q1, q2, q3, q4, q5⟩ := HB6.cells
      clear HX6 HB6
      go_wp2_with fail
      refine bodyPost_ret (v := .agg #[.bool q, .int .i64 u, .int .i64 y, .int .i64 z, .bool lk, .slice ad l.length cap]) (by simp [results, Tryz.results14, go_sem, q0, q1, q2, q3, q4, q5]) rfl ?_
      exact Fin.out
    · have HO5 := HO4
      have Ho5 := Ho4
      have HB5 := HB4
      have HX5 := HX4
      have HC5 := HC4
      obtain ⟨w6, hw6⟩ : ∃ w6, w4.setCell ⟨w2.heap.size, 0, none⟩ (.bool (!q)) = w6 := ⟨_, rfl⟩
      have hb6 := (Below.refl (w.heap.size + 1) w4).setCell (p := ⟨w2.heap.size, 0, none⟩) hs2 (.bool (!q))
      have HX6 : Num.Blk 26 w2.heap.size (.bool (!q)) (.int .i64 x) (.int .i64 y) (.int .i64 z) (.bool lk) (.slice ad l.length cap) w6 := by have h := blk_set HX5.out 0 (.bool (!q)); rw [hw6] at h; exact h
      have Ho6 := own_set_ne Ho5.out (a := ⟨w2.heap.size, 0, none⟩) (own_ne (T := 26) (by decide) Ho5.out HX5.out) (.bool (!q))
      rw [hw6] at hb6 Ho6
      have HB6 := HB5.out.below hb6 (Nat.lt_succ_self _)
      have Fin := Lib.hid (DrewQ.fin (m := 9) (q := !q) (x := x) (y := y) (z := z) (lk := lk) hD (Nat.lt_succ_self _) Ho6 (Nat.le_trans Hl.out (by decide)) (HC5.out.belowB hb6 (Nat.le_succ_of_le hD)) (HO5.out.transB (hb6.mono (Nat.le_succ _))))
      clear hb6 Ho6 f0 f1 f2 f3 f4 f5 g0 g1 g2 g3 g4 g5 r0 r1 r2 r3 r4 r5 q0 q1 q2 q3 q4 q5
      obtain ⟨f0, f1, f2, f3, f4, f5⟩ := HX5.out.warm
      obtain ⟨g0, g1, g2, g3, g4, g5⟩ := HX5.out.cells
      obtain ⟨t0, t1, t2, t3, t4, t5⟩ := HX6.cells
      obtain ⟨r0, r1, r2, r3, r4, r5⟩ := HB6.warm
      obtain ⟨q0, q1, q2, q3, q4, q5⟩ := HB6.cells
      clear HX6 HB6
      go_wp2_with fail
      refine bodyPost_ret (v := .agg #[.bool (!q), .int .i64 x, .int .i64 y, .int .i64 z, .bool lk, .slice ad l.length cap]) (by simp [results, Tryz.results14, go_sem, q0, q1, q2, q3, q4, q5]) rfl ?_
      exact Fin.out
    · go_wp2_with fail
      refine (smallC D c _ HC4.out).mono ?_
      rintro e w5 ⟨u, -, rfl, hC5, hO5⟩
      have HO5 := Lib.hid (HO4.out.trans hO5)
      have Ho5 := Lib.hid (ownI_only5 Ho4.out hO5 (by omega))
      have HB5 := Lib.hid (blk_only HB4.out hO5 (by omega))
      have HX5 := Lib.hid (blk_only HX4.out hO5 (by omega))
      have HC5 := Lib.hid hC5
      clear hC5 hO5
      obtain ⟨w6, hw6⟩ : ∃ w6, w5.setCell ⟨w2.heap.size, 2, none⟩ (.int .i64 u) = w6 := ⟨_, rfl⟩
      have hb6 := (Below.refl (w.heap.size + 1) w5).setCell (p := ⟨w2.heap.size, 2, none⟩) hs2 (.int .i64 u)
      have HX6 : Num.Blk 26 w2.heap.size (.bool q) (.int .i64 x) (.int .i64 u) (.int .i64 z) (.bool lk) (.slice ad l.length cap) w6 := by have h := blk_set HX5.out 2 (.int .i64 u); rw [hw6] at h; exact h
      have Ho6 := own_set_ne Ho5.out (a := ⟨w2.heap.size, 2, none⟩) (own_ne (T := 26) (by decide) Ho5.out HX5.out) (.int .i64 u)
      rw [hw6] at hb6 Ho6
      have HB6 := HB5.out.below hb6 (Nat.lt_succ_self _)
      have Fin := Lib.hid (DrewQ.fin (m := 9) (q := q) (x := x) (y := u) (z := z) (lk := lk) hD (Nat.lt_succ_self _) Ho6 (Nat.le_trans Hl.out (by decide)) (HC5.out.belowB hb6 (Nat.le_succ_of_le hD)) (HO5.out.transB (hb6.mono (Nat.le_succ _))))
      clear hb6 Ho6 f0 f1 f2 f3 f4 f5 g0 g1 g2 g3 g4 g5 r0 r1 r2 r3 r4 r5 q0 q1 q2 q3 q4 q5
      obtain ⟨f0, f1, f2, f3, f4, f5⟩ := HX5.out.warm
      obtain ⟨g0, g1, g2, g3, g4, g5⟩ := HX5.out.cells
      obtain ⟨t0, t1, t2, t3, t4, t5⟩ := HX6.cells
      obtain ⟨r0, r1, r2, r3, r4, r5⟩ := HB6.warm
      obtain ⟨q0, q1, q2, q3, q4, q5⟩ := HB6.cells
      clear HX6 HB6
      go_wp2_with fail
      refine bodyPost_ret (v := .agg #[.bool q, .int .i64 x, .int .i64 u, .int .i64 z, .bool lk, .slice ad l.length cap]) (by simp [results, Tryz.results14, go_sem, q0, q1, q2, q3, q4, q5]) rfl ?_
      exact Fin.out
    · go_wp2_with fail
      refine (smallC D c _ HC4.out).mono ?_
      rintro e w5 ⟨u, -, rfl, hC5, hO5⟩
      have HO5 := Lib.hid (HO4.out.trans hO5)
      have Ho5 := Lib.hid (ownI_only5 Ho4.out hO5 (by omega))
      have HB5 := Lib.hid (blk_only HB4.out hO5 (by omega))
      have HX5 := Lib.hid (blk_only HX4.out hO5 (by omega))
      have HC5 := Lib.hid hC5
      clear hC5 hO5
      obtain ⟨w6, hw6⟩ : ∃ w6, w5.setCell ⟨w2.heap.size, 3, none⟩ (.int .i64 u) = w6 := ⟨_, rfl⟩
      have hb6 := (Below.refl (w.heap.size + 1) w5).setCell (p := ⟨w2.heap.size, 3, none⟩) hs2 (.int .i64 u)
      have HX6 : Num.Blk 26 w2.heap.size (.bool q) (.int .i64 x) (.int .i64 y) (.int .i64 u) (.bool lk) (.slice ad l.length cap) w6 := by have h := blk_set HX5.out 3 (.int .i64 u); rw [hw6] at h; exact h
      have Ho6 := own_set_ne Ho5.out (a := ⟨w2.heap.size, 3, none⟩) (own_ne (T := 26) (by decide) Ho5.out HX5.out) (.int .i64 u)
      rw [hw6] at hb6 Ho6
      have HB6 := HB5.out.below hb6 (Nat.lt_succ_self _)
      have Fin := Lib.hid (DrewQ.fin (m := 9) (q := q) (x := x) (y := y) (z := u) (lk := lk) hD (Nat.lt_succ_self _) Ho6 (Nat.le_trans Hl.out (by decide)) (HC5.out.belowB hb6 (Nat.le_succ_of_le hD)) (HO5.out.transB (hb6.mono (Nat.le_succ _))))
      clear hb6 Ho6 f0 f1 f2 f3 f4 f5 g0 g1 g2 g3 g4 g5 r0 r1 r2 r3 r4 r5 q0 q1 q2 q3 q4 q5
      obtain ⟨f0, f1, f2, f3, f4, f5⟩ := HX5.out.warm
      obtain ⟨g0, g1, g2, g3, g4, g5⟩ := HX5.out.cells
      obtain ⟨t0, t1, t2, t3, t4, t5⟩ := HX6.cells
      obtain ⟨r0, r1, r2, r3, r4, r5⟩ := HB6.warm
      obtain ⟨q0, q1, q2, q3, q4, q5⟩ := HB6.cells
      clear HX6 HB6
      go_wp2_with fail
      refine bodyPost_ret (v := .agg #[.bool q, .int .i64 x, .int .i64 y, .int .i64 u, .bool lk, .slice ad l.length cap]) (by simp [results, Tryz.results14, go_sem, q0, q1, q2, q3, q4, q5]) rfl ?_
      exact Fin.out
    · have hne := own_ne (T := 26) (by decide) Ho4.out HX4.out
      have Hne := Lib.hid hne
      have hs4 : w.heap.size + 1 ≤ w4.heap.size := by have := HX4.out.lt; omega
      have Hs2 := Lib.hid hs2
      have HD := Lib.hid hD
      clear hne
      go_wp2_with (at_builtin; (refine appIs rfl _ _ rfl (w.heap.size + 1) (.slice ad l.length cap) l w4 1 rfl rfl Ho4.out hs4 (by have := Hl.out; omega) ?_); intro v5 w5 hown5 hb5 hsame; obtain ⟨l5, hl5⟩ : ∃ l5, l ++ [1] = l5 := ⟨_, rfl⟩; have hlen5 : l5.length ≤ 9 := (by rw [← hl5]; have := Hl.out; simp; omega); rw [hl5] at hown5; obtain ⟨ad5, cap5, rfl⟩ := hown5.slice; have X5 := blk_same HX4.out (hsame _ HX4.out.lt Hne.out); have B5 := HB4.out.below hb5 (Nat.lt_succ_self _); obtain ⟨w6, hw6⟩ : ∃ w6, w5.setCell ⟨w2.heap.size, 5, none⟩ (.slice ad5 l5.length cap5) = w6 := ⟨_, rfl⟩; have hb6 := (Below.refl (w.heap.size + 1) w5).setCell (p := ⟨w2.heap.size, 5, none⟩) Hs2.out (.slice ad5 l5.length cap5); have HX6 : Num.Blk 26 w2.heap.size (.bool q) (.int .i64 x) (.int .i64 y) (.int .i64 z) (.bool lk) (.slice ad5 l5.length cap5) w6 := (by have h := blk_set X5 5 (.slice ad5 l5.length cap5); rw [hw6] at h; exact h); have Ho6 := own_set_ne hown5 (a := ⟨w2.heap.size, 5, none⟩) (own_ne (T := 26) (by decide) hown5 X5) (.slice ad5 l5.length cap5); rw [hw6] at hb6 Ho6; have HB6 := B5.below hb6 (Nat.lt_succ_self _); have Fin := Lib.hid (DrewQ.fin (m := 9) (q := q) (x := x) (y := y) (z := z) (lk := lk) HD.out (Nat.lt_succ_self _) Ho6 hlen5 (HC4.out.belowB (hb5.trans hb6) (Nat.le_succ_of_le HD.out)) (HO4.out.transB ((hb5.trans hb6).mono (Nat.le_succ _)))); clear f0 f1 f2 f3 f4 f5 g0 g1 g2 g3 g4 g5 r0 r1 r2 r3 r4 r5 q0 q1 q2 q3 q4 q5 hb6 Ho6 hb5 hsame hown5 hl5 B5 hlen5; obtain ⟨f0, f1, f2, f3, f4, f5⟩ := X5.warm; obtain ⟨g0, g1, g2, g3, g4, g5⟩ := X5.cells; obtain ⟨t0, t1, t2, t3, t4, t5⟩ := HX6.cells; obtain ⟨r0, r1, r2, r3, r4, r5⟩ := HB6.warm; obtain ⟨q0, q1, q2, q3, q4, q5⟩ := HB6.cells; clear HX6 HB6 X5)
      refine bodyPost_ret (v := .agg #[.bool q, .int .i64 x, .int .i64 y, .int .i64 z, .bool lk, .slice ad5 l5.length cap5]) (by simp [results, Tryz.results14, go_sem, q0, q1, q2, q3, q4, q5]) rfl ?_
      exact Fin.out
/-- some request, made from w on. -/
def SomeQ (m : Nat) (w : World) (e : Ending) (w' : World) : Prop :=
  ∃ q x y z lk v l, e = .returned (.agg #[.bool q, .int .i64 x, .int .i64 y, .int .i64 z, .bool lk, v]) ∧ OwnI w.heap.size v l w' ∧ l.length ≤ m ∧ Below w.heap.size w w'
set_option maxRecDepth 100000 in
theorem drawText_any (a : Option Addr) (len cap : Nat) (z : List Int) (w : World) (h : CodeIn a len z w) : Calls Tryz.prog 5 #[.slice a len cap] w (SomeQ 9 w) := by
  have hh := h
  have B0 := Num.Blk.new 26 (.bool false) (.int .i64 0) (.int .i64 0) (.int .i64 0) (.bool false) (.slice none 0 0) w
  go_enter Tryz.func5, Tryz.ntmps5
  go_wp2_with fail
  refine (newC a len cap z _ (hh.below ((Below.refl _ _).alloc (Nat.le_refl _) _))).mono ?_
  rintro e w1 ⟨c, rfl, hc, hC1, hb1⟩
  have hcw := hC1.lt
  go_wp2_with fail
  refine (any_any _ c _ hC1).mono ?_
  rintro e w2 ⟨q, x, y, z', lk, v, l, rfl, ho, hl, hC2, hO2⟩
  obtain ⟨ad, cap2, rfl⟩ := ho.slice
  have hb01 := below_alloc1 (Below.refl w.heap.size w) (Nat.le_refl _) hb1
  have hs1 := hb1.size
  have hs1' : w.heap.size + 1 ≤ w1.heap.size := by simpa using hs1
  have hc' : w.heap.size + 1 ≤ c := by simpa using hc
  have B2 := blk_only (B0.later hb1) hO2 (by omega)
  have hb02 := hb01.trans (hO2.belowB (B := w.heap.size) (by omega) (by omega))
  obtain ⟨r0, r1, r2, r3, r4, r5⟩ := B2.warm
  obtain ⟨q0, q1, q2, q3, q4, q5⟩ := B2.cells
  have Fin : Hid (SomeQ 9 w (.returned (.agg #[.bool q, .int .i64 x, .int .i64 y, .int .i64 z', .bool lk, .slice ad l.length cap2])) (fill w2 w.heap.size (.bool q) (.int .i64 x) (.int .i64 y) (.int .i64 z') (.bool lk) (.slice ad l.length cap2))) :=
    Lib.hid ⟨q, x, y, z', lk, _, l, rfl, (fill_low ho (by omega) _ _ _ _ _ _).mono (by omega), hl, below_fill hb02 (Nat.le_refl _) _ _ _ _ _ _⟩
  clear B2 B0 ho hl hb01 hb02 hC2 hO2 hb1 hC1 hh h
  go_wp2_with fail
  refine bodyPost_ret (v := .agg #[.bool q, .int .i64 x, .int .i64 y, .int .i64 z', .bool lk, .slice ad l.length cap2]) (by simp [results, Tryz.results5, go_sem, q0, q1, q2, q3, q4, q5]) rfl ?_
  exact Fin.out
end Go.Proofs.YtcggaihooepglaaGreatDoor.Cur
