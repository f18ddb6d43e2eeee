/-
  Several texts in one: Draw5, DrawMs2, DrawMs3.
-/
import Derived.Test.YtijilhaoknpeeaaDrawQ
import Derived.Test.YtijilhaoknpeeaaDrawMs
import Derived.Deep.Cut
namespace Go.Proofs.Ytijilhaoknpeeaa.Cur
open Go.RowKit Bytes Num Rows3

set_option maxHeartbeats 4000000 in
set_option maxRecDepth 100000 in
theorem any_any (D c : Nat) (w : World) (h : CuD D c w) : Calls Try.prog 66 #[.pointer (some ⟨c, 0, none⟩)] w (DrewQ 9 D c w) := by
  have hD := h.le
  have hcD := h.lt
  have B0 := Blk.new 35 (.bool false) (.int .i64 0) (.int .i64 0) (.int .i64 0) (.bool false) (.slice none 0 0) w
  have hO0 := (Only.refl c w).alloc (.cells #[.bool false, .int .i64 0, .int .i64 0, .int .i64 0, .bool false, .slice none 0 0] 35)
  have hC0 := h.alloc (.cells #[.bool false, .int .i64 0, .int .i64 0, .int .i64 0, .bool false, .slice none 0 0] 35)
  go_enter Try.func66, Try.ntmps66
  go_wp2_with fail
  refine (req_any D c _ hC0).mono ?_
  rintro e w2 ⟨q, x, y, z, lk, v, l, rfl, ho, hl, hC2, hO2⟩
  obtain ⟨ad, cap, rfl⟩ := ho.slice
  have hs2 : w.heap.size + 1 ≤ w2.heap.size := by have := hO2.size; simpa using this
  have B2 := blk_only B0 hO2 (by omega)
  have b3 := (Below.refl w2.heap.size w2).alloc (Nat.le_refl _) (.cells #[.bool q, .int .i64 x, .int .i64 y, .int .i64 z, .bool lk, .slice ad l.length cap] 35)
  have X3 := Blk.new 35 (.bool q) (.int .i64 x) (.int .i64 y) (.int .i64 z) (.bool lk) (.slice ad l.length cap) w2
  have A3 := Blk.new 35 (.bool false) (.int .i64 0) (.int .i64 0) (.int .i64 0) (.bool false) (.slice none 0 0) w2
  obtain ⟨f0, f1, f2, f3, f4, f5⟩ := A3.warm
  have hO3 := (hO0.trans hO2).alloc (.cells #[.bool q, .int .i64 x, .int .i64 y, .int .i64 z, .bool lk, .slice ad l.length cap] 35)
  have hC3 := hC2.below b3
  have ho3 := (ho.mono (show w.heap.size + 1 ≤ _ by simp)).later b3
  have B3 := B2.later b3
  obtain ⟨w3, hw3⟩ : ∃ w3, w2.alloc (.cells #[.bool q, .int .i64 x, .int .i64 y, .int .i64 z, .bool lk, .slice ad l.length cap] 35) = w3 := ⟨_, rfl⟩
  rw [hw3] at b3 X3 hO3 hC3 ho3 B3
  have HO3 := Lib.hid hO3
  have HC3 := Lib.hid hC3
  have Ho3 := Lib.hid ho3
  have HB3 := Lib.hid B3
  have HX3 := Lib.hid X3
  have Hl := Lib.hid hl
  have hn := b3.size
  clear hO3 hC3 ho3 B3 X3 hl A3 B2 B0 hO0 hC0 ho hC2 hO2 h b3
  go_wp2_with fail
  refine (belowC D c 12 (by omega) (by omega) _ HC3.out).mono ?_
  rintro e w4 ⟨k, ⟨hk0, hk1⟩, rfl, hC4, hO4⟩
  have HO4 := Lib.hid (HO3.out.trans hO4)
  have Ho4 := Lib.hid (ownI_only5 Ho3.out hO4 (by omega))
  have HB4 := Lib.hid (blk_only HB3.out hO4 (by omega))
  have HX4 := Lib.hid (blk_only HX3.out hO4 (by omega))
  have HC4 := Lib.hid hC4
  obtain ⟨r0, r1, r2, r3, r4, r5⟩ := HB4.out.warm
  obtain ⟨q0, q1, q2, q3, q4, q5⟩ := HB4.out.cells
  clear hC4 hO4 f0 f1 f2 f3 f4 f5 hw3
  obtain ⟨f0, f1, f2, f3, f4, f5⟩ := HX4.out.warm
  obtain ⟨g0, g1, g2, g3, g4, g5⟩ := HX4.out.cells
  by_cases k5 : 5 ≤ k
  · have e0 : (k == 0) = false := by rw [beq_eq_false_iff_ne]; omega
    have e1 : (k == 1) = false := by rw [beq_eq_false_iff_ne]; omega
    have e2 : (k == 2) = false := by rw [beq_eq_false_iff_ne]; omega
    have e3 : (k == 3) = false := by rw [beq_eq_false_iff_ne]; omega
    have e4 : (k == 4) = false := by rw [beq_eq_false_iff_ne]; omega
    go_wp2_with fail
    refine bodyPost_ret (v := .agg #[.bool q, .int .i64 x, .int .i64 y, .int .i64 z, .bool lk, .slice ad l.length cap]) (by simp [results, Try.results66, go_sem, q0, q1, q2, q3, q4, q5]) rfl ?_
    exact DrewQ.fin hD (Nat.lt_succ_self _) Ho4.out (Nat.le_trans Hl.out (by decide)) HC4.out HO4.out
  · have hk : k = 0 ∨ k = 1 ∨ k = 2 ∨ k = 3 ∨ k = 4 := by omega
    clear k5 hk0 hk1
    rcases hk with rfl | rfl | rfl | rfl | rfl
    · go_wp2_with fail
      refine (pickLit D c [-4, 510, 512, 61] 4 rfl (by omega) (by omega) _ HC4.out _ rfl).mono ?_
      rintro e w5 ⟨u, -, rfl, hC5, hO5⟩
      have HO5 := Lib.hid (HO4.out.trans hO5)
      have Ho5 := Lib.hid (ownI_only5 Ho4.out hO5 (by omega))
      have HB5 := Lib.hid (blk_only HB4.out hO5 (by omega))
      have HX5 := Lib.hid (blk_only HX4.out hO5 (by omega))
      have HC5 := Lib.hid hC5
      clear hC5 hO5
      obtain ⟨w6, hw6⟩ : ∃ w6, w5.setCell ⟨w2.heap.size, 1, none⟩ (.int .i64 u) = w6 := ⟨_, rfl⟩
      have hb6 := (Below.refl (w.heap.size + 1) w5).setCell (p := ⟨w2.heap.size, 1, none⟩) hs2 (.int .i64 u)
      have HX6 : Num.Blk 35 w2.heap.size (.bool q) (.int .i64 u) (.int .i64 y) (.int .i64 z) (.bool lk) (.slice ad l.length cap) w6 := by have h := blk_set HX5.out 1 (.int .i64 u); rw [hw6] at h; exact h
      have Ho6 := own_set_ne Ho5.out (a := ⟨w2.heap.size, 1, none⟩) (own_ne (T := 35) (by decide) Ho5.out HX5.out) (.int .i64 u)
      rw [hw6] at hb6 Ho6
      have HB6 := HB5.out.below hb6 (Nat.lt_succ_self _)
      have Fin := Lib.hid (DrewQ.fin (m := 9) (q := q) (x := u) (y := y) (z := z) (lk := lk) hD (Nat.lt_succ_self _) Ho6 (Nat.le_trans Hl.out (by decide)) (HC5.out.belowB hb6 (Nat.le_succ_of_le hD)) (HO5.out.transB (hb6.mono (Nat.le_succ _))))
      clear hb6 Ho6 f0 f1 f2 f3 f4 f5 g0 g1 g2 g3 g4 g5 r0 r1 r2 r3 r4 r5 q0 q1 q2 q3 q4 q5
      obtain ⟨f0, f1, f2, f3, f4, f5⟩ := HX5.out.warm
      obtain ⟨g0, g1, g2, g3, g4, g5⟩ := HX5.out.cells
      obtain ⟨t0, t1, t2, t3, t4, t5⟩ := HX6.cells
      obtain ⟨r0, r1, r2, r3, r4, r5⟩ := HB6.warm
      obtain ⟨q0, q1, q2, q3, q4, q5⟩ := HB6.cells
      clear HX6 HB6
      go_wp2_with fail
      refine bodyPost_ret (v := .agg #[.bool q, .int .i64 u, .int .i64 y, .int .i64 z, .bool lk, .slice ad l.length cap]) (by simp [results, Try.results66, go_sem, q0, q1, q2, q3, q4, q5]) rfl ?_
      exact Fin.out
    · have HO5 := HO4
      have Ho5 := Ho4
      have HB5 := HB4
      have HX5 := HX4
      have HC5 := HC4
      obtain ⟨w6, hw6⟩ : ∃ w6, w4.setCell ⟨w2.heap.size, 0, none⟩ (.bool (!q)) = w6 := ⟨_, rfl⟩
      have hb6 := (Below.refl (w.heap.size + 1) w4).setCell (p := ⟨w2.heap.size, 0, none⟩) hs2 (.bool (!q))
      have HX6 : Num.Blk 35 w2.heap.size (.bool (!q)) (.int .i64 x) (.int .i64 y) (.int .i64 z) (.bool lk) (.slice ad l.length cap) w6 := by have h := blk_set HX5.out 0 (.bool (!q)); rw [hw6] at h; exact h
      have Ho6 := own_set_ne Ho5.out (a := ⟨w2.heap.size, 0, none⟩) (own_ne (T := 35) (by decide) Ho5.out HX5.out) (.bool (!q))
      rw [hw6] at hb6 Ho6
      have HB6 := HB5.out.below hb6 (Nat.lt_succ_self _)
      have Fin := Lib.hid (DrewQ.fin (m := 9) (q := !q) (x := x) (y := y) (z := z) (lk := lk) hD (Nat.lt_succ_self _) Ho6 (Nat.le_trans Hl.out (by decide)) (HC5.out.belowB hb6 (Nat.le_succ_of_le hD)) (HO5.out.transB (hb6.mono (Nat.le_succ _))))
      clear hb6 Ho6 f0 f1 f2 f3 f4 f5 g0 g1 g2 g3 g4 g5 r0 r1 r2 r3 r4 r5 q0 q1 q2 q3 q4 q5
      obtain ⟨f0, f1, f2, f3, f4, f5⟩ := HX5.out.warm
      obtain ⟨g0, g1, g2, g3, g4, g5⟩ := HX5.out.cells
      obtain ⟨t0, t1, t2, t3, t4, t5⟩ := HX6.cells
      obtain ⟨r0, r1, r2, r3, r4, r5⟩ := HB6.warm
      obtain ⟨q0, q1, q2, q3, q4, q5⟩ := HB6.cells
      clear HX6 HB6
      go_wp2_with fail
      refine bodyPost_ret (v := .agg #[.bool (!q), .int .i64 x, .int .i64 y, .int .i64 z, .bool lk, .slice ad l.length cap]) (by simp [results, Try.results66, go_sem, q0, q1, q2, q3, q4, q5]) rfl ?_
      exact Fin.out
    · go_wp2_with fail
      refine (smallC D c _ HC4.out).mono ?_
      rintro e w5 ⟨u, -, rfl, hC5, hO5⟩
      have HO5 := Lib.hid (HO4.out.trans hO5)
      have Ho5 := Lib.hid (ownI_only5 Ho4.out hO5 (by omega))
      have HB5 := Lib.hid (blk_only HB4.out hO5 (by omega))
      have HX5 := Lib.hid (blk_only HX4.out hO5 (by omega))
      have HC5 := Lib.hid hC5
      clear hC5 hO5
      obtain ⟨w6, hw6⟩ : ∃ w6, w5.setCell ⟨w2.heap.size, 2, none⟩ (.int .i64 u) = w6 := ⟨_, rfl⟩
      have hb6 := (Below.refl (w.heap.size + 1) w5).setCell (p := ⟨w2.heap.size, 2, none⟩) hs2 (.int .i64 u)
      have HX6 : Num.Blk 35 w2.heap.size (.bool q) (.int .i64 x) (.int .i64 u) (.int .i64 z) (.bool lk) (.slice ad l.length cap) w6 := by have h := blk_set HX5.out 2 (.int .i64 u); rw [hw6] at h; exact h
      have Ho6 := own_set_ne Ho5.out (a := ⟨w2.heap.size, 2, none⟩) (own_ne (T := 35) (by decide) Ho5.out HX5.out) (.int .i64 u)
      rw [hw6] at hb6 Ho6
      have HB6 := HB5.out.below hb6 (Nat.lt_succ_self _)
      have Fin := Lib.hid (DrewQ.fin (m := 9) (q := q) (x := x) (y := u) (z := z) (lk := lk) hD (Nat.lt_succ_self _) Ho6 (Nat.le_trans Hl.out (by decide)) (HC5.out.belowB hb6 (Nat.le_succ_of_le hD)) (HO5.out.transB (hb6.mono (Nat.le_succ _))))
      clear hb6 Ho6 f0 f1 f2 f3 f4 f5 g0 g1 g2 g3 g4 g5 r0 r1 r2 r3 r4 r5 q0 q1 q2 q3 q4 q5
      obtain ⟨f0, f1, f2, f3, f4, f5⟩ := HX5.out.warm
      obtain ⟨g0, g1, g2, g3, g4, g5⟩ := HX5.out.cells
      obtain ⟨t0, t1, t2, t3, t4, t5⟩ := HX6.cells
      obtain ⟨r0, r1, r2, r3, r4, r5⟩ := HB6.warm
      obtain ⟨q0, q1, q2, q3, q4, q5⟩ := HB6.cells
      clear HX6 HB6
      go_wp2_with fail
      refine bodyPost_ret (v := .agg #[.bool q, .int .i64 x, .int .i64 u, .int .i64 z, .bool lk, .slice ad l.length cap]) (by simp [results, Try.results66, go_sem, q0, q1, q2, q3, q4, q5]) rfl ?_
      exact Fin.out
    · go_wp2_with fail
      refine (smallC D c _ HC4.out).mono ?_
      rintro e w5 ⟨u, -, rfl, hC5, hO5⟩
      have HO5 := Lib.hid (HO4.out.trans hO5)
      have Ho5 := Lib.hid (ownI_only5 Ho4.out hO5 (by omega))
      have HB5 := Lib.hid (blk_only HB4.out hO5 (by omega))
      have HX5 := Lib.hid (blk_only HX4.out hO5 (by omega))
      have HC5 := Lib.hid hC5
      clear hC5 hO5
      obtain ⟨w6, hw6⟩ : ∃ w6, w5.setCell ⟨w2.heap.size, 3, none⟩ (.int .i64 u) = w6 := ⟨_, rfl⟩
      have hb6 := (Below.refl (w.heap.size + 1) w5).setCell (p := ⟨w2.heap.size, 3, none⟩) hs2 (.int .i64 u)
      have HX6 : Num.Blk 35 w2.heap.size (.bool q) (.int .i64 x) (.int .i64 y) (.int .i64 u) (.bool lk) (.slice ad l.length cap) w6 := by have h := blk_set HX5.out 3 (.int .i64 u); rw [hw6] at h; exact h
      have Ho6 := own_set_ne Ho5.out (a := ⟨w2.heap.size, 3, none⟩) (own_ne (T := 35) (by decide) Ho5.out HX5.out) (.int .i64 u)
      rw [hw6] at hb6 Ho6
      have HB6 := HB5.out.below hb6 (Nat.lt_succ_self _)
      have Fin := Lib.hid (DrewQ.fin (m := 9) (q := q) (x := x) (y := y) (z := u) (lk := lk) hD (Nat.lt_succ_self _) Ho6 (Nat.le_trans Hl.out (by decide)) (HC5.out.belowB hb6 (Nat.le_succ_of_le hD)) (HO5.out.transB (hb6.mono (Nat.le_succ _))))
      clear hb6 Ho6 f0 f1 f2 f3 f4 f5 g0 g1 g2 g3 g4 g5 r0 r1 r2 r3 r4 r5 q0 q1 q2 q3 q4 q5
      obtain ⟨f0, f1, f2, f3, f4, f5⟩ := HX5.out.warm
      obtain ⟨g0, g1, g2, g3, g4, g5⟩ := HX5.out.cells
      obtain ⟨t0, t1, t2, t3, t4, t5⟩ := HX6.cells
      obtain ⟨r0, r1, r2, r3, r4, r5⟩ := HB6.warm
      obtain ⟨q0, q1, q2, q3, q4, q5⟩ := HB6.cells
      clear HX6 HB6
      go_wp2_with fail
      refine bodyPost_ret (v := .agg #[.bool q, .int .i64 x, .int .i64 y, .int .i64 u, .bool lk, .slice ad l.length cap]) (by simp [results, Try.results66, go_sem, q0, q1, q2, q3, q4, q5]) rfl ?_
      exact Fin.out
    · have hne := own_ne (T := 35) (by decide) Ho4.out HX4.out
      have Hne := Lib.hid hne
      have hs4 : w.heap.size + 1 ≤ w4.heap.size := by have := HX4.out.lt; omega
      have Hs2 := Lib.hid hs2
      have HD := Lib.hid hD
      clear hne
      go_wp2_with (at_builtin; (refine appIs rfl _ _ rfl (w.heap.size + 1) (.slice ad l.length cap) l w4 1 rfl rfl Ho4.out hs4 (by have := Hl.out; omega) ?_); intro v5 w5 hown5 hb5 hsame; obtain ⟨l5, hl5⟩ : ∃ l5, l ++ [1] = l5 := ⟨_, rfl⟩; have hlen5 : l5.length ≤ 9 := (by rw [← hl5]; have := Hl.out; simp; omega); rw [hl5] at hown5; obtain ⟨ad5, cap5, rfl⟩ := hown5.slice; have X5 := blk_same HX4.out (hsame _ HX4.out.lt Hne.out); have B5 := HB4.out.below hb5 (Nat.lt_succ_self _); obtain ⟨w6, hw6⟩ : ∃ w6, w5.setCell ⟨w2.heap.size, 5, none⟩ (.slice ad5 l5.length cap5) = w6 := ⟨_, rfl⟩; have hb6 := (Below.refl (w.heap.size + 1) w5).setCell (p := ⟨w2.heap.size, 5, none⟩) Hs2.out (.slice ad5 l5.length cap5); have HX6 : Num.Blk 35 w2.heap.size (.bool q) (.int .i64 x) (.int .i64 y) (.int .i64 z) (.bool lk) (.slice ad5 l5.length cap5) w6 := (by have h := blk_set X5 5 (.slice ad5 l5.length cap5); rw [hw6] at h; exact h); have Ho6 := own_set_ne hown5 (a := ⟨w2.heap.size, 5, none⟩) (own_ne (T := 35) (by decide) hown5 X5) (.slice ad5 l5.length cap5); rw [hw6] at hb6 Ho6; have HB6 := B5.below hb6 (Nat.lt_succ_self _); have Fin := Lib.hid (DrewQ.fin (m := 9) (q := q) (x := x) (y := y) (z := z) (lk := lk) HD.out (Nat.lt_succ_self _) Ho6 hlen5 (HC4.out.belowB (hb5.trans hb6) (Nat.le_succ_of_le HD.out)) (HO4.out.transB ((hb5.trans hb6).mono (Nat.le_succ _)))); clear f0 f1 f2 f3 f4 f5 g0 g1 g2 g3 g4 g5 r0 r1 r2 r3 r4 r5 q0 q1 q2 q3 q4 q5 hb6 Ho6 hb5 hsame hown5 hl5 B5 hlen5; obtain ⟨f0, f1, f2, f3, f4, f5⟩ := X5.warm; obtain ⟨g0, g1, g2, g3, g4, g5⟩ := X5.cells; obtain ⟨t0, t1, t2, t3, t4, t5⟩ := HX6.cells; obtain ⟨r0, r1, r2, r3, r4, r5⟩ := HB6.warm; obtain ⟨q0, q1, q2, q3, q4, q5⟩ := HB6.cells; clear HX6 HB6 X5)
      refine bodyPost_ret (v := .agg #[.bool q, .int .i64 x, .int .i64 y, .int .i64 z, .bool lk, .slice ad5 l5.length cap5]) (by simp [results, Try.results66, go_sem, q0, q1, q2, q3, q4, q5]) rfl ?_
      exact Fin.out
/-- some request, made from w on. -/
def SomeQ (m : Nat) (w : World) (e : Ending) (w' : World) : Prop :=
  ∃ q x y z lk v l, e = .returned (.agg #[.bool q, .int .i64 x, .int .i64 y, .int .i64 z, .bool lk, v]) ∧ OwnI w.heap.size v l w' ∧ l.length ≤ m ∧ Below w.heap.size w w'
end Go.Proofs.Ytijilhaoknpeeaa.Cur

namespace Go.Proofs.Ytijilhaoknpeeaa.Cur
open Go.RowKit Bytes Num Rows3 GR KD
set_option linter.unusedVariables false

/-- the master stands in block b. -/
def StA (D c : Nat) (w : World) (b n : Nat) (wr : World) : Prop :=
  ∃ a p q be dn tr pa br, Sm n (q, be, dn, tr, pa, br) ∧ Bx 26 b #[.slice a q.length p, .int .i64 be, .int .i64 dn, .int .i64 tr, .bool pa, .bool br] wr ∧ mstK.cap (fun k => w.heap.size + 1 ≤ k ∧ k ≠ b) [.slice a q.length p, .int .i64 be, .int .i64 dn, .int .i64 tr, .bool pa, .bool br] (q, be, dn, tr, pa, br) wr ∧ Bx 26 w.heap.size #[.slice none 0 0, .int .i64 0, .int .i64 0, .int .i64 0, .bool false, .bool false] wr ∧ CuD D c wr ∧ Only c w wr
theorem StA.drawn {D c b n : Nat} {w wr w' : World} (h : StA D c w b n wr) (hC : CuD D c w') (hO : Only c wr w') (hcw : c < w.heap.size) (hb : w.heap.size < b) : StA D c w b n w' := by
  obtain ⟨a, p, q, be, dn, tr, pa, br, h1, h2, h3, h4, h5, h6⟩ := h
  exact ⟨a, p, q, be, dn, tr, pa, br, h1, bx_onlyM h2 hO (by omega), cap_onlyM mstK h3 hO (fun hf => by have := hf.1; omega), bx_onlyM h4 hO (by omega), hC, h6.trans hO⟩
theorem StA.beat {D c b n : Nat} {w y : World} (h : StA D c w b n y) (hD : D ≤ w.heap.size) (hb : w.heap.size < b) (v : Int) : StA D c w b n (y.setCell ⟨b, 1, none⟩ (.int .i64 v)) := by
  obtain ⟨a, p, q, be, dn, tr, pa, br, h1, h2, h3, h4, h5, h6⟩ := h
  have hbl : Below b y (y.setCell ⟨b, 1, none⟩ (.int .i64 v)) := (Below.refl b y).setCell (p := ⟨b, 1, none⟩) (Nat.le_refl _) _
  obtain ⟨ax, px, Fx, e, g1, g2⟩ := cap_mst h3
  simp at e
  obtain ⟨rfl, rfl⟩ := e
  exact ⟨a, p, q, v, dn, tr, pa, br, h1, h2.set 1 _, mst_cap (reqS.cap_set (p := ⟨b, 1, none⟩) g1 (fun hf => (g2 _ hf).2 rfl) _) g2, h4.below hbl hb, h5.belowB hbl (by omega), h6.transB (hbl.mono (by omega))⟩
theorem StA.done {D c b n : Nat} {w y : World} (h : StA D c w b n y) (hD : D ≤ w.heap.size) (hb : w.heap.size < b) (v : Int) : StA D c w b n (y.setCell ⟨b, 2, none⟩ (.int .i64 v)) := by
  obtain ⟨a, p, q, be, dn, tr, pa, br, h1, h2, h3, h4, h5, h6⟩ := h
  have hbl : Below b y (y.setCell ⟨b, 2, none⟩ (.int .i64 v)) := (Below.refl b y).setCell (p := ⟨b, 2, none⟩) (Nat.le_refl _) _
  obtain ⟨ax, px, Fx, e, g1, g2⟩ := cap_mst h3
  simp at e
  obtain ⟨rfl, rfl⟩ := e
  exact ⟨a, p, q, be, v, tr, pa, br, h1, h2.set 2 _, mst_cap (reqS.cap_set (p := ⟨b, 2, none⟩) g1 (fun hf => (g2 _ hf).2 rfl) _) g2, h4.below hbl hb, h5.belowB hbl (by omega), h6.transB (hbl.mono (by omega))⟩
theorem StA.tries {D c b n : Nat} {w y : World} (h : StA D c w b n y) (hD : D ≤ w.heap.size) (hb : w.heap.size < b) (v : Int) : StA D c w b n (y.setCell ⟨b, 3, none⟩ (.int .i64 v)) := by
  obtain ⟨a, p, q, be, dn, tr, pa, br, h1, h2, h3, h4, h5, h6⟩ := h
  have hbl : Below b y (y.setCell ⟨b, 3, none⟩ (.int .i64 v)) := (Below.refl b y).setCell (p := ⟨b, 3, none⟩) (Nat.le_refl _) _
  obtain ⟨ax, px, Fx, e, g1, g2⟩ := cap_mst h3
  simp at e
  obtain ⟨rfl, rfl⟩ := e
  exact ⟨a, p, q, be, dn, v, pa, br, h1, h2.set 3 _, mst_cap (reqS.cap_set (p := ⟨b, 3, none⟩) g1 (fun hf => (g2 _ hf).2 rfl) _) g2, h4.below hbl hb, h5.belowB hbl (by omega), h6.transB (hbl.mono (by omega))⟩
theorem StA.fin {D c n : Nat} {w y : World} {b : Nat} {a : Option Addr} {p : Nat} {q : List ReqX} {be dn tr : Int} {pa br : Bool} (hD : D ≤ w.heap.size) (hs : Sm n (q, be, dn, tr, pa, br))
    (hc : mstK.cap (fun k => w.heap.size + 1 ≤ k ∧ k ≠ b) [.slice a q.length p, .int .i64 be, .int .i64 dn, .int .i64 tr, .bool pa, .bool br] (q, be, dn, tr, pa, br) y) (hC : CuD D c y) (hO : Only c w y) :
    DrewMs n D c w (.returned (.agg #[.slice a q.length p, .int .i64 be, .int .i64 dn, .int .i64 tr, .bool pa, .bool br])) (set6 w.heap.size (.slice a q.length p) be dn tr pa br y) := by
  have hb : Below w.heap.size y (set6 w.heap.size (.slice a q.length p) be dn tr pa br y) := by
    iterate 6 refine Below.setCell ?_ (by exact Nat.le_refl _) _
    exact Below.refl _ _
  have ht : Turn (fun k => k = w.heap.size) y (set6 w.heap.size (.slice a q.length p) be dn tr pa br y) := by
    iterate 6 refine Turn.set (F := fun k => k = w.heap.size) ?_ rfl _
    exact Turn.refl _ _
  exact ⟨_, _, rfl, hs, mstK.cap_wide (mstK.cap_turn hc ht (fun k _ h1 h2 => by have := h1.1; omega)) (fun k _ hk => by have := hk.1; omega), hC.belowB hb hD, hO.transB hb⟩
/-- what each operation of the append's sentence leaves. -/
def RA (bX n : Nat) (au : Option Addr) (pu : Nat) (q : List ReqX) (cb B : Nat) (G : Foot) : Nat → Value → World → Prop
  | 0, v, _ => v = .pointer (some ⟨bX, 0, none⟩)
  | 1, v, _ => v = .slice au n pu
  | 2, v, _ => v = .pointer (some ⟨cb, 0, none⟩)
  | 3, v, w => ∃ us r, r.2.2.2.2.2.length ≤ 9 ∧ v = agg us ∧ reqK.cap (fun k => B ≤ k) us r w
  | 4, v, w => ∃ g us r, r.2.2.2.2.2.length ≤ 9 ∧ v = .slice (some ⟨g, 0, none⟩) 1 1 ∧ B ≤ g ∧ w.heap[g]? = some (.cells us.toArray 35) ∧ reqK.cap (fun k => B ≤ k) us r w
  | 5, v, w => ∃ ad cp r, r.2.2.2.2.2.length ≤ 9 ∧ v = .slice ad (n + 1) cp ∧ reqS.cap G [v] (q ++ [r]) w
  | 6, v, _ => v = .pointer (some ⟨bX, 0, none⟩)
  | _, _, _ => True
theorem RA.step {bX n : Nat} {au : Option Addr} {pu : Nat} {q : List ReqX} {cb B : Nat} {G : Foot} {w w' : World} {F : Foot} (ht : Turn F w w') (hF : ∀ k, F k → k < B) (j : Nat) (u : Value) (hj5 : j ≠ 5) (hj : RA bX n au pu q cb B G j u w) : RA bX n au pu q cb B G j u w' := by
  match j, hj with
  | 0, hj => have e : u = _ := hj; exact e
  | 1, hj => have e : u = _ := hj; exact e
  | 2, hj => have e : u = _ := hj; exact e
  | 3, hj => obtain ⟨us, r, h0, h1, h2⟩ := hj; exact ⟨us, r, h0, h1, reqK.cap_turn h2 ht (fun k _ h3 h4 => by have := hF k h4; omega)⟩
  | 4, hj => obtain ⟨g, us, r, h0, h1, h2, h3, h4⟩ := hj; exact ⟨g, us, r, h0, h1, h2, (ht.block g (Array.getElem?_eq_some_iff.1 h3).1 (fun hf => by have := hF g hf; omega)).trans h3, reqK.cap_turn h4 ht (fun k _ h5 h6 => by have := hF k h6; omega)⟩
  | 5, hj => exact absurd rfl hj5
  | 6, hj => have e : u = _ := hj; exact e
  | n + 7, _ => trivial
theorem RA.only {bX n : Nat} {au : Option Addr} {pu : Nat} {q : List ReqX} {cb B : Nat} {G : Foot} {w w' : World} {c : Nat} (hO : Only c w w') (hB : c < B) (hG : ¬ G c) (j : Nat) (u : Value) (hj : RA bX n au pu q cb B G j u w) : RA bX n au pu q cb B G j u w' := by
  by_cases h : j = 5
  · subst h
    obtain ⟨ad, cp, r, h0, h1, h2⟩ := hj
    exact ⟨ad, cp, r, h0, h1, cap_onlyM reqS h2 hO hG⟩
  · exact RA.step (F := fun k => k = c) (only_turnM hO) (fun k h => h ▸ hB) j u h hj
theorem RA.later {bX n : Nat} {au : Option Addr} {pu : Nat} {q : List ReqX} {cb B : Nat} {G : Foot} {w w' : World} (hb : Below w.heap.size w w') (j : Nat) (u : Value) (hj : RA bX n au pu q cb B G j u w) : RA bX n au pu q cb B G j u w' := by
  by_cases h : j = 5
  · subst h
    obtain ⟨ad, cp, r, h0, h1, h2⟩ := hj
    exact ⟨ad, cp, r, h0, h1, reqS.cap_later h2 hb⟩
  · exact RA.step (F := fun _ => False) (Turn.later hb) (fun _ h => h.elim) j u h hj
theorem RA.none {bX n : Nat} {au : Option Addr} {pu : Nat} {q : List ReqX} {cb B : Nat} {G : Foot} (i : Nat) (v : Value) (w : World) (h : 7 ≤ i) : RA bX n au pu q cb B G i v w := by
  obtain ⟨n, rfl⟩ : ∃ n, i = n + 7 := ⟨i - 7, by omega⟩
  trivial
/-- what holds of the world: the cursor stands; all else is as it was, but for the row once it has been appended to. -/
def CA (F : Foot) (D c : Nat) (w5 : World) (b : Bool) (w : World) : Prop := CuD D c w ∧ (if b = true then Turn (fun k => F k ∨ k = c) w5 w else Only c w5 w)
theorem CA.turn {F : Foot} {D c : Nat} {w5 w : World} {b : Bool} (h : CA F D c w5 b w) : Turn (fun k => F k ∨ k = c) w5 w := by
  obtain ⟨_, h⟩ := h
  split at h
  · exact h
  · exact (only_turnM h).wide (fun k hk => .inr hk)
theorem CA.later {F : Foot} {D c : Nat} {w5 w w' : World} {b : Bool} (h : CA F D c w5 b w) (hb : Below w.heap.size w w') : CA F D c w5 b w' := by
  refine ⟨h.1.below hb, ?_⟩
  cases b with
  | true => exact (show Turn _ w5 w' from (show Turn (fun k => F k ∨ k = c) w5 w from h.2).trans (Turn.later hb))
  | false => exact (show Only c w5 w' from (show Only c w5 w from h.2).trans (Only.of_below hb))
theorem mstA_len {D c b n : Nat} {w wr : World} (h : StA D c w b n wr) : CuD D c wr ∧ b < wr.heap.size := by
  obtain ⟨a, p, q, be, dn, tr, pa, br, h1, h2, h3, h4, h5, h6⟩ := h
  exact ⟨h5, h2.lt⟩
theorem StA.mono {D c b n m : Nat} {w wr : World} (h : StA D c w b n wr) (hn : n ≤ m) : StA D c w b m wr := by
  obtain ⟨a, p, q, be, dn, tr, pa, br, h1, h2⟩ := h
  exact ⟨a, p, q, be, dn, tr, pa, br, h1.mono hn, h2⟩
set_option maxHeartbeats 8000000 in
set_option maxRecDepth 100000 in
theorem mstAny_any (D c : Nat) (w : World) (h : CuD D c w) : Calls Try.prog 55 #[.pointer (some ⟨c, 0, none⟩)] w (DrewMs 4 D c w) := by
  have hD := h.le
  have hcD := h.lt
  have hcw : c < w.heap.size := by omega
  have hsz : ∀ (w : World) o, (w.alloc o).heap.size = w.heap.size + 1 := fun w o => by simp
  have A0 := Lib.hid (Bx.new 26 #[.slice none 0 0, .int .i64 0, .int .i64 0, .int .i64 0, .bool false, .bool false] w)
  have C0 := Lib.hid (h.alloc (.cells #[.slice none 0 0, .int .i64 0, .int .i64 0, .int .i64 0, .bool false, .bool false] 26))
  have O0 := Lib.hid ((Only.refl c w).alloc (.cells #[.slice none 0 0, .int .i64 0, .int .i64 0, .int .i64 0, .bool false, .bool false] 26))
  have HZ := Lib.hid (hsz w (.cells #[.slice none 0 0, .int .i64 0, .int .i64 0, .int .i64 0, .bool false, .bool false] 26))
  go_enter Try.func55, Try.ntmps55
  go_wp2_with fail
  generalize w.alloc _ = y0 at A0 C0 O0 HZ ⊢
  refine (mst_any D c _ C0.out).mono ?_
  rintro e y1 ⟨us, ⟨q, be, dn, tr, pa, br⟩, he, hs, hc, hC1, hO1⟩
  obtain ⟨a, p, rfl, _⟩ := mst_form (mstK.cap_rd hc)
  obtain rfl : e = .returned (.agg #[.slice a q.length p, .int .i64 be, .int .i64 dn, .int .i64 tr, .bool pa, .bool br]) := he
  have ab := (Below.refl y1.heap.size y1).alloc (Nat.le_refl _) (Obj.cells #[.slice a q.length p, .int .i64 be, .int .i64 dn, .int .i64 tr, .bool pa, .bool br] 26)
  have r1 := bx_onlyM A0.out hO1 (by omega)
  have hwb : w.heap.size < y1.heap.size := r1.lt
  have L1 : Hid (StA D c w y1.heap.size 3 (y1.alloc (Obj.cells #[.slice a q.length p, .int .i64 be, .int .i64 dn, .int .i64 tr, .bool pa, .bool br] 26))) := Lib.hid ⟨a, p, q, be, dn, tr, pa, br, hs, Bx.new _ _ _, mstK.cap_later (mstK.cap_wide (mstK.cap_top hc) (fun k _ hk => by have := hk.1; have := hk.2; rw [HZ.out] at *; exact ⟨by omega, by omega⟩)) ab, r1.later ab, hC1.below ab, (O0.out.trans hO1).trans (Only.of_below ab)⟩
  obtain ⟨b, hb⟩ : ∃ b, y1.heap.size = b := ⟨_, rfl⟩
  rw [hb] at L1 hwb
  clear hs hc hC1 hO1 ab r1 hsz A0 C0 O0 HZ
  go_wp2_with fail
  generalize y1.alloc _ = y2 at L1 ⊢
  have HC1 := Lib.hid (mstA_len L1.out).1
  refine (belowC D c 12 (by omega) (by omega) _ HC1.out).mono ?_
  rintro e y2 ⟨x, ⟨hx0, hx1⟩, rfl, hC2, hO2⟩
  have L2 := Lib.hid (L1.out.drawn hC2 hO2 hcw hwb)
  clear L1 hC2 hO2 HC1 hb
  have HC2 := Lib.hid (mstA_len L2.out).1
  by_cases h0 : x = 0
  · subst h0
    go_wp2_with fail
    refine (belowC D c 10 (by omega) (by omega) _ HC2.out).mono ?_
    rintro e y3 ⟨v0, ⟨hv0, hv1⟩, rfl, hC2, hO2⟩
    obtain ⟨v, hv⟩ : ∃ v, v0 - 1 = v := ⟨_, rfl⟩
    have L3 := Lib.hid (L2.out.drawn hC2 hO2 hcw hwb)
    clear L2 hC2 hO2
    have LF := Lib.hid ((L3.out.beat hD hwb v).mono (m := 4) (by omega))
    obtain ⟨a, p, q, be, dn, tr, pa, br, hs, hx, hc, hr, hC, hO⟩ := L3.out
    obtain ⟨m0, m1, m2, m3, m4, m5⟩ := Bx.cells6 hx
    obtain ⟨f0, f1, f2, f3, f4, f5⟩ := warm6 hx
    clear hs hx hc hr hC hO L3
    go_upto_region 11 with fail
    generalize World.setCell _ _ _ = y9 at LF ⊢
    clear m0 m1 m2 m3 m4 m5 f0 f1 f2 f3 f4 f5
    obtain ⟨a, p, q, be, dn, tr, pa, br, hs, hx, hc, hr, hC, hO⟩ := LF.out
    have hne : ¬ b = w.heap.size := by omega
    obtain ⟨m0, m1, m2, m3, m4, m5⟩ := Bx.cells6 hx
    obtain ⟨z0, z1, z2, z3, z4, z5⟩ := warm6 hr
    have Fin := Lib.hid (StA.fin hD hs hc hC hO)
    have RR := Lib.hid (Bx.cells6 (show Bx 26 w.heap.size #[.slice a q.length p, .int .i64 be, .int .i64 dn, .int .i64 tr, .bool pa, .bool br] _ from (((((hr.set 0 (.slice a q.length p)).set 1 (.int .i64 be)).set 2 (.int .i64 dn)).set 3 (.int .i64 tr)).set 4 (.bool pa)).set 5 (.bool br)))
    obtain ⟨q0, q1, q2, q3, q4, q5⟩ := Bx.cells6 hr
    clear hs hx hc hr hC hO LF
    go_wp2_with fail
    obtain ⟨r0, r1, r2, r3, r4, r5⟩ := RR.out
    refine bodyPost_ret (v := .agg #[.slice a q.length p, .int .i64 be, .int .i64 dn, .int .i64 tr, .bool pa, .bool br]) (by simp [results, Try.results55, go_sem, r0, r1, r2, r3, r4, r5]) rfl ?_
    exact Fin.out
  · by_cases h1 : x = 1
    · subst h1
      go_wp2_with fail
      refine (belowC D c 10 (by omega) (by omega) _ HC2.out).mono ?_
      rintro e y3 ⟨v0, ⟨hv0, hv1⟩, rfl, hC2, hO2⟩
      obtain ⟨v, hv⟩ : ∃ v, v0 - 1 = v := ⟨_, rfl⟩
      have L3 := Lib.hid (L2.out.drawn hC2 hO2 hcw hwb)
      clear L2 hC2 hO2
      have LF := Lib.hid ((L3.out.done hD hwb v).mono (m := 4) (by omega))
      obtain ⟨a, p, q, be, dn, tr, pa, br, hs, hx, hc, hr, hC, hO⟩ := L3.out
      obtain ⟨m0, m1, m2, m3, m4, m5⟩ := Bx.cells6 hx
      obtain ⟨f0, f1, f2, f3, f4, f5⟩ := warm6 hx
      clear hs hx hc hr hC hO L3
      go_upto_region 11 with fail
      generalize World.setCell _ _ _ = y9 at LF ⊢
      clear m0 m1 m2 m3 m4 m5 f0 f1 f2 f3 f4 f5
      obtain ⟨a, p, q, be, dn, tr, pa, br, hs, hx, hc, hr, hC, hO⟩ := LF.out
      have hne : ¬ b = w.heap.size := by omega
      obtain ⟨m0, m1, m2, m3, m4, m5⟩ := Bx.cells6 hx
      obtain ⟨z0, z1, z2, z3, z4, z5⟩ := warm6 hr
      have Fin := Lib.hid (StA.fin hD hs hc hC hO)
      have RR := Lib.hid (Bx.cells6 (show Bx 26 w.heap.size #[.slice a q.length p, .int .i64 be, .int .i64 dn, .int .i64 tr, .bool pa, .bool br] _ from (((((hr.set 0 (.slice a q.length p)).set 1 (.int .i64 be)).set 2 (.int .i64 dn)).set 3 (.int .i64 tr)).set 4 (.bool pa)).set 5 (.bool br)))
      obtain ⟨q0, q1, q2, q3, q4, q5⟩ := Bx.cells6 hr
      clear hs hx hc hr hC hO LF
      go_wp2_with fail
      obtain ⟨r0, r1, r2, r3, r4, r5⟩ := RR.out
      refine bodyPost_ret (v := .agg #[.slice a q.length p, .int .i64 be, .int .i64 dn, .int .i64 tr, .bool pa, .bool br]) (by simp [results, Try.results55, go_sem, r0, r1, r2, r3, r4, r5]) rfl ?_
      exact Fin.out
    · by_cases h2 : x = 2
      · subst h2
        go_wp2_with fail
        refine (pickLit D c [-1, 1, 3] 3 rfl (by omega) (by omega) _ HC2.out _ rfl).mono ?_
        rintro e y3 ⟨v, hv, rfl, hC2, hO2⟩
        have L3 := Lib.hid (L2.out.drawn hC2 hO2 hcw hwb)
        clear L2 hC2 hO2
        have LF := Lib.hid ((L3.out.tries hD hwb v).mono (m := 4) (by omega))
        obtain ⟨a, p, q, be, dn, tr, pa, br, hs, hx, hc, hr, hC, hO⟩ := L3.out
        obtain ⟨m0, m1, m2, m3, m4, m5⟩ := Bx.cells6 hx
        obtain ⟨f0, f1, f2, f3, f4, f5⟩ := warm6 hx
        clear hs hx hc hr hC hO L3
        go_upto_region 11 with fail
        generalize World.setCell _ _ _ = y9 at LF ⊢
        clear m0 m1 m2 m3 m4 m5 f0 f1 f2 f3 f4 f5
        obtain ⟨a, p, q, be, dn, tr, pa, br, hs, hx, hc, hr, hC, hO⟩ := LF.out
        have hne : ¬ b = w.heap.size := by omega
        obtain ⟨m0, m1, m2, m3, m4, m5⟩ := Bx.cells6 hx
        obtain ⟨z0, z1, z2, z3, z4, z5⟩ := warm6 hr
        have Fin := Lib.hid (StA.fin hD hs hc hC hO)
        have RR := Lib.hid (Bx.cells6 (show Bx 26 w.heap.size #[.slice a q.length p, .int .i64 be, .int .i64 dn, .int .i64 tr, .bool pa, .bool br] _ from (((((hr.set 0 (.slice a q.length p)).set 1 (.int .i64 be)).set 2 (.int .i64 dn)).set 3 (.int .i64 tr)).set 4 (.bool pa)).set 5 (.bool br)))
        obtain ⟨q0, q1, q2, q3, q4, q5⟩ := Bx.cells6 hr
        clear hs hx hc hr hC hO LF
        go_wp2_with fail
        obtain ⟨r0, r1, r2, r3, r4, r5⟩ := RR.out
        refine bodyPost_ret (v := .agg #[.slice a q.length p, .int .i64 be, .int .i64 dn, .int .i64 tr, .bool pa, .bool br]) (by simp [results, Try.results55, go_sem, r0, r1, r2, r3, r4, r5]) rfl ?_
        exact Fin.out
      · by_cases h3 : x = 3
        · subst h3
          obtain ⟨a, p, q, be, dn, tr, pa, br, hs, hx, hc, hr, hC, hO⟩ := L2.out
          obtain ⟨ax, px, F0, e, cc, ss⟩ := cap_mst (mstK.cap_top hc)
          simp at e
          obtain ⟨rfl, rfl⟩ := e
          obtain ⟨n, hn⟩ : ∃ n, q.length = n := ⟨_, rfl⟩
          have HN := Lib.hid hn
          have hlen : q.length ≤ 3 := hs.1
          have HL4 := Lib.hid (show q.length + 1 ≤ 4000000 by omega)
          have HS := Lib.hid hs
          have HX := Lib.hid hx
          have HR := Lib.hid hr
          have HC := Lib.hid hC
          have HO := Lib.hid hO
          have CC := Lib.hid cc
          rw [hn] at HX CC
          have S0 : Hid (∀ k, F0 k → k < y2.heap.size) := Lib.hid (fun k hk => (ss k hk).2)
          have SB : Hid (∀ k, F0 k → w.heap.size < k ∧ k ≠ b) := Lib.hid (fun k hk => ⟨(ss k hk).1.1, (ss k hk).1.2⟩)
          have NX := Lib.hid (show ¬ (F0 b ∨ b = c) from fun hf => by rcases hf with hf | hf; exact (SB.out _ hf).2 rfl; omega)
          have HcB := Lib.hid (show c < y2.heap.size by have := hx.lt; omega)
          have HGc := Lib.hid (show ¬ (F0 c ∨ y2.heap.size ≤ c) from fun hf => by rcases hf with hf | hf; have := (SB.out _ hf).1; omega; have := hx.lt; omega)
          have HBl := Lib.hid hx.lt
          have xc0 := HX.out.cell 0 _ rfl
          clear hn hs hx hc hr hC hO cc ss L2 hlen
          go_upto_region 10 with fail
          generalize y2 = y at *
          refine Inv.region_tailJ 7 5 (by decide) [28, 29, 30, 31, 32, 33, 34] (by kernel_rfl) (by kernel_rfl) (by kernel_rfl) (by kernel_rfl) (by kernel_rfl) (CA F0 D c y) (RA b n a p q c y.heap.size (fun k => F0 k ∨ y.heap.size ≤ k)) ?_ ⟨HC.out.drew, (Only.refl c y).drew⟩ ?_ ?_
          · intro i v w' hi
            exact RA.none i v w' (none_at 7 (by kernel_rfl) i hi)
          · intro i o ho hi16 listed ac w' s hcl hln hl haft K hK
            have hT := hcl.turn
            match i, ho with
            | 0, ho =>
              simp only [List.getElem?_toArray, List.getElem?_cons_zero, Option.some.injEq] at ho
              subst ho
              have e3 : ac.tmps.getD 3 undef = .pointer (some ⟨b, 0, none⟩) := s.other 3 (fun jj _ e => Inv.none_at (t := 3) (by kernel_rfl) e)
              unfold Oper.wp
              go_simp
              exact hK _ _ (by rw [if_neg (by decide)]; exact hcl) (fun _ _ _ hj => hj) rfl
            | 1, ho =>
              simp only [List.getElem?_toArray, List.getElem?_cons_zero, List.getElem?_cons_succ, Option.some.injEq] at ho
              subst ho
              have e28 : ac.tmps.getD 28 undef = .pointer (some ⟨b, 0, none⟩) := s.val 0 (by decide) (haft ⟨0, .data⟩ (by simp) rfl)
              have c0 := (turnC hT (i := 0) HX.out.lt NX.out).trans xc0
              unfold Oper.wp
              go_simp
              exact hK _ _ (by rw [if_neg (by decide)]; exact hcl) (fun _ _ _ hj => hj) rfl
            | 2, ho =>
              simp only [List.getElem?_toArray, List.getElem?_cons_zero, List.getElem?_cons_succ, Option.some.injEq] at ho
              subst ho
              have e0 : ac.tmps.getD 0 undef = .pointer (some ⟨c, 0, none⟩) := s.other 0 (fun jj _ e => Inv.none_at (t := 0) (by kernel_rfl) e)
              unfold Oper.wp
              go_simp
              exact hK _ _ (by rw [if_neg (by decide)]; exact hcl) (fun _ _ _ hj => hj) rfl
            | 3, ho =>
              simp only [List.getElem?_toArray, List.getElem?_cons_zero, List.getElem?_cons_succ, Option.some.injEq] at ho
              subst ho
              have e30 : ac.tmps.getD 30 undef = .pointer (some ⟨c, 0, none⟩) := s.val 2 (by decide) (haft ⟨2, .data⟩ (by simp) rfl)
              have hn4 := unlisted_up s (i := 3) (j := 4) rfl ⟨⟨3, .data⟩, by simp, rfl, rfl⟩ (unlisted hl)
              have hn5 := unlisted_up s (i := 4) (j := 5) rfl ⟨⟨4, .data⟩, by simp, rfl, rfl⟩ hn4
              rw [hn5] at hcl
              obtain ⟨hcu, hon⟩ := hcl
              have hon : Only c y w' := hon
              unfold Oper.wp
              go_simp
              refine (any_any D c _ hcu).mono ?_
              rintro e w7 ⟨rq, rx, ry, rz, rl, rv, rd, rfl, ro, rn, hC7, hO7⟩
              refine hK _ _ (by rw [if_neg (by decide), hn5]; exact ⟨hC7, (show Only c y w7 from hon.trans hO7)⟩) (fun j u _ hj => RA.only hO7 HcB.out HGc.out j u hj) ⟨_, (rq, rx, ry, rz, rl, rd), rn, rfl, reqK.cap_wide (req_own ro rn) (fun k _ hk => Nat.le_trans hon.size hk)⟩
            | 4, ho =>
              simp only [List.getElem?_toArray, List.getElem?_cons_zero, List.getElem?_cons_succ, Option.some.injEq] at ho
              subst ho
              obtain ⟨us, r, hr9, e31, hc⟩ : RA b n a p q c y.heap.size (fun k => F0 k ∨ y.heap.size ≤ k) 3 (ac.tmps.getD 31 undef) w' := s.val 3 (by decide) (haft ⟨3, .data⟩ (by simp) rfl)
              obtain ⟨rq, rx, ry, rz, rl, rd⟩ := r
              obtain ⟨ay, py, rfl, _⟩ := rd_req (reqK.cap_rd hc)
              have e31 : ac.tmps.getD 31 undef = .agg #[.bool rq, .int .i64 rx, .int .i64 ry, .int .i64 rz, .bool rl, .slice ay rd.length py] := e31
              rw [Array.getD_eq_getD_getElem?] at e31
              unfold Oper.wp
              go_simp
              exact hK _ _ (by rw [if_neg (by decide)]; exact hcl.later ((Below.refl _ _).alloc (Nat.le_refl _) _)) (fun j u _ hj => RA.later ((Below.refl _ _).alloc (Nat.le_refl _) _) j u hj) ⟨_, _, (rq, rx, ry, rz, rl, rd), hr9, rfl, hT.size, heap_alloc_new _ _, reqK.cap_alloc hc _⟩
            | 5, ho =>
              simp only [List.getElem?_toArray, List.getElem?_cons_zero, List.getElem?_cons_succ, Option.some.injEq] at ho
              subst ho
              have e29 : ac.tmps.getD 29 undef = .slice a n p := s.val 1 (by decide) (haft ⟨1, .data⟩ (by simp) rfl)
              obtain ⟨g9, us, r, hr9, e32, hg9, hgc, hc9⟩ : RA b n a p q c y.heap.size (fun k => F0 k ∨ y.heap.size ≤ k) 4 (ac.tmps.getD 32 undef) w' := s.val 4 (by decide) (haft ⟨4, .data⟩ (by simp) rfl)
              obtain ⟨rq, rx, ry, rz, rl, rd⟩ := r
              obtain ⟨ay, py, rfl, _⟩ := rd_req (reqK.cap_rd hc9)
              have hn5 := unlisted hl
              rw [hn5] at hcl
              obtain ⟨hcu, hon⟩ := hcl
              have hon : Only c y w' := hon
              refine appJ 24 35 Try.underlying24 elReq (.tmp 29) (.tmp 32) rfl F0 (fun k => y.heap.size ≤ k) (.slice a n p) q (rq, rx, ry, rz, rl, rd) _ g9 w' e29 e32 hgc (cap_onlyM reqS CC.out hon (fun hf => by have := SB.out _ hf; omega)) hc9 (fun k _ h1 h2 => by have := S0.out k h2; omega) (req_one rq rx ry rz rl ay rd.length py) HL4.out (fun v7 w7 hcap7 ht7 => ?_)
              obtain ⟨a7, p7, ev7, _, _⟩ := row_form (reqS.cap_rd hcap7)
              rw [List.length_append, List.length_singleton, HN.out] at ev7
              have ev8 : v7 = .slice a7 (n + 1) p7 := by simpa using ev7
              refine hK _ _ ?_ (fun j u hj hjj => RA.step ht7 (fun k hk => S0.out k hk) j u hj hjj) ⟨a7, p7, (rq, rx, ry, rz, rl, rd), hr9, ev8, reqS.cap_wide hcap7 (fun k _ hk => ?_)⟩
              · rw [if_pos rfl]
                exact ⟨hcu.belowB (ht7.below hcu.le (fun k hk => by have := SB.out k hk; omega)) (Nat.le_refl _), (show Turn (fun k => F0 k ∨ k = c) y w7 from ((only_turnM hon).wide (fun k hk => .inr hk)).trans (ht7.wide (fun k hk => .inl hk)))⟩
              · rcases hk with hk | hk | hk
                · exact .inl hk
                · exact .inr hk
                · exact .inr (Nat.le_trans hon.size hk)
            | 6, ho =>
              simp only [List.getElem?_toArray, List.getElem?_cons_zero, List.getElem?_cons_succ, Option.some.injEq] at ho
              subst ho
              have e3 : ac.tmps.getD 3 undef = .pointer (some ⟨b, 0, none⟩) := s.other 3 (fun jj _ e => Inv.none_at (t := 3) (by kernel_rfl) e)
              unfold Oper.wp
              go_simp
              exact hK _ _ (by rw [if_neg (by decide)]; exact hcl) (fun _ _ _ hj => hj) rfl
            | n + 7, ho => omega
          · intro f w6 o ho hC6 hv
            have hT := hC6.turn
            obtain ⟨a7, p7, r, hr9, e33, hcap7⟩ : RA b n a p q c y.heap.size (fun k => F0 k ∨ y.heap.size ≤ k) 5 (f 33) w6 := hv 5 (by decide)
            have e34 : f 34 = .pointer (some ⟨b, 0, none⟩) := hv 6 (by decide)
            simp only [Inv.setAll, List.setIfInBounds_toArray, List.set_cons_zero, List.set_cons_succ]
            rw [e33] at hcap7
            rw [e33, e34]
            simp only [List.getElem?_toArray, List.getElem?_cons_zero, List.getElem?_cons_succ, Option.some.injEq] at ho
            subst ho
            have X6 := bx_turn HX.out hT NX.out
            have R6 := bx_turn HR.out hT (fun hf => by rcases hf with hf | hf; have := (SB.out _ hf).1; omega; omega)
            have O6 : Only c w w6 := ⟨hT.os.trans HO.out.os, hT.tape.trans HO.out.tape, hT.output.trans HO.out.output, Nat.le_trans HO.out.size hT.size, fun k hk hkc => (hT.block k (Nat.lt_of_lt_of_le hk HO.out.size) (fun hf => by rcases hf with hf | hf; have := (SB.out _ hf).1; omega; exact hkc hf)).trans (HO.out.block k hk hkc)⟩
            have hs7 : Sm 4 (q ++ [r], be, dn, tr, pa, br) := ⟨by have := HS.out.1; simp at this ⊢; omega, fun x hx => by
              rcases List.mem_append.1 hx with hx | hx
              · exact HS.out.2 x hx
              · rw [List.mem_singleton.1 hx]; exact hr9⟩
            have hl7 : (q ++ [r]).length = n + 1 := by rw [List.length_append, HN.out]; rfl
            have hcapF : reqS.cap (fun k => w.heap.size + 1 ≤ k ∧ k ≠ b) [.slice a7 (n + 1) p7] (q ++ [r]) w6 := reqS.cap_wide hcap7 (fun k _ hk => by
              rcases hk with hk | hk
              · have := SB.out k hk; exact ⟨this.1, this.2⟩
              · have := HBl.out; exact ⟨by omega, by omega⟩)
            have hbl : Below b w6 (w6.setCell ⟨b, 0, none⟩ (.slice a7 (n + 1) p7)) := (Below.refl b w6).setCell (p := ⟨b, 0, none⟩) (Nat.le_refl _) _
            have LF : Hid (StA D c w b 4 (w6.setCell ⟨b, 0, none⟩ (.slice a7 (n + 1) p7))) := Lib.hid ⟨a7, p7, q ++ [r], be, dn, tr, pa, br, hs7, by rw [hl7]; exact X6.set 0 _, by rw [hl7]; exact mst_cap (reqS.cap_set (p := ⟨b, 0, none⟩) hcapF (fun hf => hf.2 rfl) _) (fun k hk => hk), R6.below hbl hwb, hC6.1.belowB hbl (by omega), O6.transB (hbl.mono (by omega))⟩
            have xw := X6.warm 0
            obtain ⟨v0, v1, v2, v3, v4, v5⟩ := Bx.cells6 X6
            clear hv hcap7 e33 e34 hC6 X6 R6 O6 hT hcapF hbl hs7
            unfold Oper.wp
            go_simp
            generalize World.setCell _ _ _ = y9 at LF ⊢
            clear xw v0 v1 v2 v3 v4 v5 xc0
            obtain ⟨a, p, q, be, dn, tr, pa, br, hs, hx, hc, hr, hC, hO⟩ := LF.out
            have hne : ¬ b = w.heap.size := by omega
            obtain ⟨m0, m1, m2, m3, m4, m5⟩ := Bx.cells6 hx
            obtain ⟨z0, z1, z2, z3, z4, z5⟩ := warm6 hr
            have Fin := Lib.hid (StA.fin hD hs hc hC hO)
            have RR := Lib.hid (Bx.cells6 (show Bx 26 w.heap.size #[.slice a q.length p, .int .i64 be, .int .i64 dn, .int .i64 tr, .bool pa, .bool br] _ from (((((hr.set 0 (.slice a q.length p)).set 1 (.int .i64 be)).set 2 (.int .i64 dn)).set 3 (.int .i64 tr)).set 4 (.bool pa)).set 5 (.bool br)))
            obtain ⟨q0, q1, q2, q3, q4, q5⟩ := Bx.cells6 hr
            clear hs hx hc hr hC hO LF
            go_wp2_with fail
            obtain ⟨r0, r1, r2, r3, r4, r5⟩ := RR.out
            refine bodyPost_ret (v := .agg #[.slice a q.length p, .int .i64 be, .int .i64 dn, .int .i64 tr, .bool pa, .bool br]) (by simp [results, Try.results55, go_sem, r0, r1, r2, r3, r4, r5]) rfl ?_
            exact Fin.out
        · have LF := Lib.hid (L2.out.mono (m := 4) (by omega))
          clear L2
          go_upto_region 11 with fail
          obtain ⟨a, p, q, be, dn, tr, pa, br, hs, hx, hc, hr, hC, hO⟩ := LF.out
          have hne : ¬ b = w.heap.size := by omega
          obtain ⟨m0, m1, m2, m3, m4, m5⟩ := Bx.cells6 hx
          obtain ⟨z0, z1, z2, z3, z4, z5⟩ := warm6 hr
          have Fin := Lib.hid (StA.fin hD hs hc hC hO)
          have RR := Lib.hid (Bx.cells6 (show Bx 26 w.heap.size #[.slice a q.length p, .int .i64 be, .int .i64 dn, .int .i64 tr, .bool pa, .bool br] _ from (((((hr.set 0 (.slice a q.length p)).set 1 (.int .i64 be)).set 2 (.int .i64 dn)).set 3 (.int .i64 tr)).set 4 (.bool pa)).set 5 (.bool br)))
          obtain ⟨q0, q1, q2, q3, q4, q5⟩ := Bx.cells6 hr
          clear hs hx hc hr hC hO LF
          go_wp2_with fail
          obtain ⟨r0, r1, r2, r3, r4, r5⟩ := RR.out
          refine bodyPost_ret (v := .agg #[.slice a q.length p, .int .i64 be, .int .i64 dn, .int .i64 tr, .bool pa, .bool br]) (by simp [results, Try.results55, go_sem, r0, r1, r2, r3, r4, r5]) rfl ?_
          exact Fin.out
end Go.Proofs.Ytijilhaoknpeeaa.Cur

namespace Go.Proofs.Ytijilhaoknpeeaa.Cur
open Go.RowKit Bytes Num Rows3 GR KD
set_option linter.unusedVariables false

/-- some master, made from w on. -/
def SomeM (n : Nat) (w : World) (e : Ending) (w' : World) : Prop :=
  ∃ us x, e = .returned (agg us) ∧ Sm n x ∧ mstK.cap (fun k => w.heap.size ≤ k) us x w' ∧ Below w.heap.size w w'
/-- some master and some request, made from w on. -/
def SomeMQ (n : Nat) (w : World) (e : Ending) (w' : World) : Prop :=
  ∃ us x vs r, e = .returned (.tuple #[agg us, agg vs]) ∧ Sm n x ∧ r.2.2.2.2.2.length ≤ 9 ∧ mstK.cap (fun k => w.heap.size ≤ k) us x w' ∧ reqK.cap (fun k => w.heap.size ≤ k) vs r w' ∧ Below w.heap.size w w'
theorem set6_below (b B : Nat) (hB : B ≤ b) (v : Value) (be dn tr : Int) (pa br : Bool) (y : World) : Below B y (set6 b v be dn tr pa br y) := by
  iterate 6 refine Below.setCell ?_ (by exact hB) _
  exact Below.refl _ _
theorem set6_turn (b : Nat) (v : Value) (be dn tr : Int) (pa br : Bool) (y : World) : Turn (fun k => k = b) y (set6 b v be dn tr pa br y) := by
  iterate 6 refine Turn.set (F := fun k => k = b) ?_ rfl _
  exact Turn.refl _ _
set_option maxHeartbeats 4000000 in
set_option maxRecDepth 100000 in
theorem drawIssue_any (a : Option Addr) (len cap : Nat) (z : List Int) (w : World) (h : CodeIn a len z w) : Calls Try.prog 15 #[.slice a len cap] w (SomeM 4 w) := by
  have hh := h
  have B0 := Bx.new 26 #[.slice none 0 0, .int .i64 0, .int .i64 0, .int .i64 0, .bool false, .bool false] w
  go_enter Try.func15, Try.ntmps15
  go_wp2_with fail
  refine (newC a len cap z _ (hh.below ((Below.refl _ _).alloc (Nat.le_refl _) _))).mono ?_
  rintro e w1 ⟨c, rfl, hc, hC1, hb1⟩
  have hcw := hC1.lt
  go_wp2_with fail
  refine (mstAny_any _ c _ hC1).mono ?_
  rintro e w2 ⟨us, ⟨q, be, dn, tr, pa, br⟩, he, hs, hcap, hC2, hO2⟩
  obtain ⟨ad, cp, rfl, _⟩ := mst_form (mstK.cap_rd hcap)
  obtain rfl : e = .returned (.agg #[.slice ad q.length cp, .int .i64 be, .int .i64 dn, .int .i64 tr, .bool pa, .bool br]) := he
  have hb01 := Num.below_alloc1 (Below.refl w.heap.size w) (Nat.le_refl _) hb1
  have hs1 := hb1.size
  have hs1' : w.heap.size + 1 ≤ w1.heap.size := by simpa using hs1
  have hc' : w.heap.size + 1 ≤ c := by simpa using hc
  have B2 := bx_onlyM (B0.later hb1) hO2 (by omega)
  have hb02 := hb01.trans (hO2.belowB (B := w.heap.size) (by omega) (by omega))
  obtain ⟨r0, r1, r2, r3, r4, r5⟩ := warm6 B2
  obtain ⟨q0, q1, q2, q3, q4, q5⟩ := Bx.cells6 B2
  have Fin : Hid (SomeM 4 w (.returned (.agg #[.slice ad q.length cp, .int .i64 be, .int .i64 dn, .int .i64 tr, .bool pa, .bool br])) (set6 w.heap.size (.slice ad q.length cp) be dn tr pa br w2)) :=
    Lib.hid ⟨_, _, rfl, hs, mstK.cap_wide (mstK.cap_turn hcap (set6_turn ..) (fun k _ h1 h2 => by omega)) (fun k _ hk => by omega), hb02.trans (set6_below _ _ (Nat.le_refl _) ..)⟩
  have RR := Lib.hid (Bx.cells6 (show Bx 26 w.heap.size #[.slice ad q.length cp, .int .i64 be, .int .i64 dn, .int .i64 tr, .bool pa, .bool br] _ from (((((B2.set 0 (.slice ad q.length cp)).set 1 (.int .i64 be)).set 2 (.int .i64 dn)).set 3 (.int .i64 tr)).set 4 (.bool pa)).set 5 (.bool br)))
  clear B2 B0 hs hcap hb01 hb02 hC2 hO2 hb1 hC1 hh h
  go_wp2_with fail
  obtain ⟨e0, e1, e2, e3, e4, e5⟩ := RR.out
  refine bodyPost_ret (v := .agg #[.slice ad q.length cp, .int .i64 be, .int .i64 dn, .int .i64 tr, .bool pa, .bool br]) (by simp [results, Try.results15, go_sem, e0, e1, e2, e3, e4, e5]) rfl ?_
  exact Fin.out
abbrev setQ (b : Nat) (v0 v1 v2 v3 v4 v5 : Value) (y : World) : World :=
  (((((y.setCell ⟨b, 0, none⟩ v0).setCell ⟨b, 1, none⟩ v1).setCell ⟨b, 2, none⟩ v2).setCell ⟨b, 3, none⟩ v3).setCell ⟨b, 4, none⟩ v4).setCell ⟨b, 5, none⟩ v5
theorem setQ_below (b B : Nat) (hB : B ≤ b) (v0 v1 v2 v3 v4 v5 : Value) (y : World) : Below B y (setQ b v0 v1 v2 v3 v4 v5 y) := by
  iterate 6 refine Below.setCell ?_ (by exact hB) _
  exact Below.refl _ _
theorem setQ_turn (b : Nat) (v0 v1 v2 v3 v4 v5 : Value) (y : World) : Turn (fun k => k = b) y (setQ b v0 v1 v2 v3 v4 v5 y) := by
  iterate 6 refine Turn.set (F := fun k => k = b) ?_ rfl _
  exact Turn.refl _ _
set_option maxHeartbeats 4000000 in
set_option maxRecDepth 100000 in
theorem drawPost_any (a : Option Addr) (len cap : Nat) (z : List Int) (w : World) (h : CodeIn a len z w) : Calls Try.prog 25 #[.slice a len cap] w (SomeMQ 4 w) := by
  have hh := h
  have hsz : ∀ (w : World) o, (w.alloc o).heap.size = w.heap.size + 1 := fun w o => by simp
  have B0 := (Bx.new 26 #[.slice none 0 0, .int .i64 0, .int .i64 0, .int .i64 0, .bool false, .bool false] w).alloc (.cells #[.bool false, .int .i64 0, .int .i64 0, .int .i64 0, .bool false, .slice none 0 0] 35)
  have D0 := Bx.new 35 #[.bool false, .int .i64 0, .int .i64 0, .int .i64 0, .bool false, .slice none 0 0] (w.alloc (.cells #[.slice none 0 0, .int .i64 0, .int .i64 0, .int .i64 0, .bool false, .bool false] 26))
  rw [hsz] at D0
  have hb0 := ((Below.refl w.heap.size w).alloc (Nat.le_refl _) (.cells #[.slice none 0 0, .int .i64 0, .int .i64 0, .int .i64 0, .bool false, .bool false] 26)).alloc (by simp) (.cells #[.bool false, .int .i64 0, .int .i64 0, .int .i64 0, .bool false, .slice none 0 0] 35)
  have hz0 : ((w.alloc (.cells #[.slice none 0 0, .int .i64 0, .int .i64 0, .int .i64 0, .bool false, .bool false] 26)).alloc (.cells #[.bool false, .int .i64 0, .int .i64 0, .int .i64 0, .bool false, .slice none 0 0] 35)).heap.size = w.heap.size + 2 := by rw [hsz, hsz]
  have HBx := Lib.hid B0
  have HDx := Lib.hid D0
  have HB0 := Lib.hid hb0
  have HZ := Lib.hid hz0
  have HH := Lib.hid (hh.below hb0)
  clear B0 D0 hb0 hz0 hh hsz
  go_enter Try.func25, Try.ntmps25
  go_wp2_with fail
  generalize (w.alloc _).alloc _ = y0 at HBx HDx HB0 HZ HH ⊢
  refine (newC a len cap z _ HH.out).mono ?_
  rintro e w1 ⟨c, rfl, hc, hC1, hb1⟩
  have hcw := hC1.lt
  rw [HZ.out] at hc
  have hs1 := hb1.size
  rw [HZ.out] at hs1
  go_wp2_with fail
  refine (mstAny_any _ c _ hC1).mono ?_
  rintro e w2 ⟨us, ⟨q, be, dn, tr, pa, br⟩, he, hs, hcap, hC2, hO2⟩
  obtain ⟨ad, cp, rfl, _⟩ := mst_form (mstK.cap_rd hcap)
  obtain rfl : e = .returned (.agg #[.slice ad q.length cp, .int .i64 be, .int .i64 dn, .int .i64 tr, .bool pa, .bool br]) := he
  go_wp2_with fail
  refine (any_any _ c _ hC2).mono ?_
  rintro e w3 ⟨rq, rx, ry, rz, rl, rv, rd, rfl, ro, rn, hC3, hO3⟩
  obtain ⟨ad2, cp2, rfl⟩ := ro.slice
  have hcap3 := cap_onlyM mstK hcap hO3 (by omega)
  have hrq := req_own (q := rq) (lk := rl) (x := rx) (y := ry) (z := rz) ro rn
  have hs2 := hO2.size
  have hs3 := hO3.size
  have B3 := bx_onlyM (bx_onlyM (HBx.out.later hb1) hO2 (by omega)) hO3 (by omega)
  have D3 := bx_onlyM (bx_onlyM (HDx.out.later hb1) hO2 (by omega)) hO3 (by omega)
  have hb03 := ((HB0.out.trans (hb1.mono HB0.out.size)).trans (hO2.belowB (B := w.heap.size) (by omega) (by omega))).trans (hO3.belowB (B := w.heap.size) (by omega) (by omega))
  have hne : ¬ w.heap.size + 1 = w.heap.size := by omega
  obtain ⟨r0, r1, r2, r3, r4, r5⟩ := warm6 B3
  obtain ⟨q0, q1, q2, q3, q4, q5⟩ := Bx.cells6 B3
  obtain ⟨s0, s1, s2, s3, s4, s5⟩ := warm6 D3
  obtain ⟨t0, t1, t2, t3, t4, t5⟩ := Bx.cells6 D3
  have Fin : Hid (SomeMQ 4 w (.returned (.tuple #[.agg #[.slice ad q.length cp, .int .i64 be, .int .i64 dn, .int .i64 tr, .bool pa, .bool br], .agg #[.bool rq, .int .i64 rx, .int .i64 ry, .int .i64 rz, .bool rl, .slice ad2 rd.length cp2]])) (setQ (w.heap.size + 1) (.bool rq) (.int .i64 rx) (.int .i64 ry) (.int .i64 rz) (.bool rl) (.slice ad2 rd.length cp2) (set6 w.heap.size (.slice ad q.length cp) be dn tr pa br w3))) :=
    Lib.hid ⟨_, _, _, (rq, rx, ry, rz, rl, rd), rfl, hs, rn, mstK.cap_wide (mstK.cap_turn (mstK.cap_turn hcap3 (set6_turn ..) (fun k _ h1 h2 => by omega)) (setQ_turn ..) (fun k _ h1 h2 => by omega)) (fun k _ hk => by omega), reqK.cap_wide (reqK.cap_turn (reqK.cap_turn hrq (set6_turn ..) (fun k _ h1 h2 => by omega)) (setQ_turn ..) (fun k _ h1 h2 => by omega)) (fun k _ hk => by omega), (hb03.trans (set6_below _ _ (Nat.le_refl _) ..)).trans (setQ_below _ _ (Nat.le_succ _) ..)⟩
  have B4 : Bx 26 w.heap.size #[.slice ad q.length cp, .int .i64 be, .int .i64 dn, .int .i64 tr, .bool pa, .bool br] (set6 w.heap.size (.slice ad q.length cp) be dn tr pa br w3) := (((((B3.set 0 (.slice ad q.length cp)).set 1 (.int .i64 be)).set 2 (.int .i64 dn)).set 3 (.int .i64 tr)).set 4 (.bool pa)).set 5 (.bool br)
  have D4 := D3.below (B := w.heap.size + 2) (w' := w3) (Below.refl _ _) (by omega)
  have BB := Lib.hid (Bx.cells6 (B4.below (setQ_below (w.heap.size + 1) (w.heap.size + 1) (Nat.le_refl _) (.bool rq) (.int .i64 rx) (.int .i64 ry) (.int .i64 rz) (.bool rl) (.slice ad2 rd.length cp2) _) (Nat.lt_succ_self _)))
  have D5 := bx_turn D3 (set6_turn w.heap.size (.slice ad q.length cp) be dn tr pa br w3) (fun h => by omega)
  have DD := Lib.hid (Bx.cells6 (show Bx 35 (w.heap.size + 1) #[.bool rq, .int .i64 rx, .int .i64 ry, .int .i64 rz, .bool rl, .slice ad2 rd.length cp2] _ from (((((D5.set 0 (.bool rq)).set 1 (.int .i64 rx)).set 2 (.int .i64 ry)).set 3 (.int .i64 rz)).set 4 (.bool rl)).set 5 (.slice ad2 rd.length cp2)))
  clear B3 D3 B4 D4 D5 hs hcap hcap3 hrq hb03 hC2 hO2 hb1 hC1 hC3 hO3 ro rn h HBx HDx HB0 HZ HH hs1 hs2 hs3 hc hcw
  go_wp2_with fail
  obtain ⟨e0, e1, e2, e3, e4, e5⟩ := BB.out
  obtain ⟨d0, d1, d2, d3, d4, d5⟩ := DD.out
  refine bodyPost_ret (v := .tuple #[.agg #[.slice ad q.length cp, .int .i64 be, .int .i64 dn, .int .i64 tr, .bool pa, .bool br], .agg #[.bool rq, .int .i64 rx, .int .i64 ry, .int .i64 rz, .bool rl, .slice ad2 rd.length cp2]]) (by simp [results, Try.results25, go_sem, e0, e1, e2, e3, e4, e5, d0, d1, d2, d3, d4, d5]) rfl ?_
  exact Fin.out
end Go.Proofs.Ytijilhaoknpeeaa.Cur
