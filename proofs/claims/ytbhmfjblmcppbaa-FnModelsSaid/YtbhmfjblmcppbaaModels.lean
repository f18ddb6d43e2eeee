
/-
  The law on models: its walk.
-/
import Derived.Test.YtbhmfjblmcppbaaModels1
import Derived.Test.YtbhmfjblmcppbaaDrawM3
import Derived.Deep.Cut
namespace Go.Proofs.Ytbhmfjblmcppbaa.KD
open Go.RowKit Rows3 GR Num
set_option linter.unusedVariables false

set_option maxHeartbeats 8000000 in
set_option maxRecDepth 100000 in
theorem models_all (a : Option Addr) (len cap : Nat) (z : List Int) (w : World) (hC : Cur.CodeIn a len z w) :
    Calls Try.prog 3 #[.slice a len cap] w fun e w' => e = .returned (.bool true) ∧ Below w.heap.size w w' := by
  have HC := Lib.hid hC
  have hlen : ¬ 1048576 < len := by have := hC.2.2; omega
  clear hC
  go_enter Try.func3, Try.ntmps3
  go_wp2_with fail
  refine (Cur.bigE_no a len cap hlen _).mono ?_
  rintro e w0 ⟨rfl, rfl⟩
  go_wp2_with fail
  refine (Cur.drawMo_any a len cap z _ HC.out).mono ?_
  rintro e w1 ⟨us, wr, ad, k, v, he, ⟨l, r, t, f, hl0, hr0, hf0, hcap⟩, hb1⟩
  have rd1 := modelK.cap_rd hcap
  obtain ⟨a0, p0, a1, p1, a2, p2, rfl, _, _, _⟩ := model_form rd1
  obtain ⟨⟨⟨l', r', t', f'⟩, n, q⟩, hD⟩ : ∃ D, doM wr ad k v l r t f = D := ⟨_, rfl⟩
  have HD := Lib.hid hD
  have hl : Hid (l.length ≤ 2000000) := Lib.hid (by omega)
  have hr : Hid (r.length ≤ 2000000) := Lib.hid (by omega)
  have hf : Hid (f.length ≤ 2000000) := Lib.hid (by omega)
  have hsz' : modelK.sz (l', (r', t', f')) ≤ 2000000 := doM_sz (by rw [model_sz, dev_sz, ints_sz, ints_sz, ints_sz]; omega) hD
  have hl' := Lib.hid (mod_len hsz')
  have hr' := Lib.hid (mod_len0 hsz')
  have hf' := Lib.hid (mod_len2 hsz')
  clear hD hsz' hl0 hr0 hf0
  obtain ⟨m0, hm0⟩ : ∃ m, l.length = m := ⟨_, rfl⟩
  obtain ⟨m1, hm1⟩ : ∃ m, r.length = m := ⟨_, rfl⟩
  obtain ⟨m2, hm2⟩ : ∃ m, f.length = m := ⟨_, rfl⟩
  obtain ⟨m0', hm0'⟩ : ∃ m, l'.length = m := ⟨_, rfl⟩
  obtain ⟨m1', hm1'⟩ : ∃ m, r'.length = m := ⟨_, rfl⟩
  obtain ⟨m2', hm2'⟩ : ∃ m, f'.length = m := ⟨_, rfl⟩
  have HM0 := Lib.hid hm0'
  have HM1 := Lib.hid hm1'
  have HM2 := Lib.hid hm2'
  rw [hm0, hm1, hm2] at he rd1
  obtain rfl : e = .returned (.tuple #[.agg #[.slice a0 m0 p0, .slice a1 m1 p1, .int .i64 t, .slice a2 m2 p2], .bool wr, .int .i64 ad, .int .i64 k, .int .i64 v]) := he
  have XA := Bx.new 28 #[.slice a0 m0 p0, .slice a1 m1 p1, .int .i64 t, .slice a2 m2 p2] w1
  have ba := (Below.refl w1.heap.size w1).alloc (Nat.le_refl _) (.cells #[.slice a0 m0 p0, .slice a1 m1 p1, .int .i64 t, .slice a2 m2 p2] 28)
  have rda := modelK.rd_later rd1 ba
  have bA := Lib.hid (hb1.trans (ba.mono hb1.size))
  obtain ⟨b1, hb1e⟩ : ∃ b1, w1.heap.size = b1 := ⟨_, rfl⟩
  rw [hb1e] at XA
  go_wp2_with fail
  clear ba hcap rd1
  generalize w1.alloc (.cells #[.slice a0 m0 p0, .slice a1 m1 p1, .int .i64 t, .slice a2 m2 p2] 28) = W1 at bA XA rda ⊢
  refine (implModelDo _ wr ad k v l r t f hl.out hr.out hf.out _ rda).mono ?_
  rw [HD.out]
  rintro e w2 ⟨xs, he, hcx, hbx⟩
  have rdx := modelK.cap_rd hcx
  obtain ⟨c0, q0, c1, q1, c2, q2, rfl, _, _, _⟩ := model_form rdx
  dsimp only at he rdx
  rw [hm0', hm1', hm2'] at he rdx
  obtain rfl : e = .returned (.tuple #[.agg #[.slice c0 m0' q0, .slice c1 m1' q1, .int .i64 t', .slice c2 m2' q2], .int .i64 n, .int .i64 q]) := he
  have bx := (Below.refl w2.heap.size w2).alloc (Nat.le_refl _) (.cells #[.slice c0 m0' q0, .slice c1 m1' q1, .int .i64 t', .slice c2 m2' q2] 28)
  have XB := Bx.new 28 #[.slice c0 m0' q0, .slice c1 m1' q1, .int .i64 t', .slice c2 m2' q2] w2
  have XA2 := (XA.later hbx).later bx
  have rda2 := modelK.rd_later (modelK.rd_later rda hbx) bx
  have rdx2 := modelK.rd_later rdx bx
  have bA2 := Lib.hid ((bA.out.trans (hbx.mono bA.out.size)).trans (bx.mono (Nat.le_trans bA.out.size hbx.size)))
  obtain ⟨b2, hb2e⟩ : ∃ b2, w2.heap.size = b2 := ⟨_, rfl⟩
  rw [hb2e] at XB
  obtain ⟨g0, g1, g2, g3⟩ := cells4 XA2
  clear XA rda rdx hcx bx hbx bA hb1e
  go_wp2_with fail
  clear g0 g1 g2 g3
  generalize w2.alloc (.cells #[.slice c0 m0' q0, .slice c1 m1' q1, .int .i64 t', .slice c2 m2' q2] 28) = W2 at bA2 XA2 XB rda2 rdx2 ⊢
  refine (specModelDo _ wr ad k v l r t f hl.out hr.out hf.out _ rda2).mono ?_
  rw [HD.out]
  rintro e w3 ⟨ys, he, hcy, hby⟩
  have rdy := modelK.cap_rd hcy
  obtain ⟨d0, s0, d1, s1, d2, s2, rfl, _, _, _⟩ := model_form rdy
  dsimp only at he rdy
  rw [hm0', hm1', hm2'] at he rdy
  obtain rfl : e = .returned (.tuple #[.agg #[.slice d0 m0' s0, .slice d1 m1' s1, .int .i64 t', .slice d2 m2' s2], .int .i64 n, .int .i64 q]) := he
  have bx := (Below.refl w3.heap.size w3).alloc (Nat.le_refl _) (.cells #[.slice d0 m0' s0, .slice d1 m1' s1, .int .i64 t', .slice d2 m2' s2] 28)
  have XY := Lib.hid (Bx.new 28 #[.slice d0 m0' s0, .slice d1 m1' s1, .int .i64 t', .slice d2 m2' s2] w3)
  have XA3 := Lib.hid ((XA2.later hby).later bx)
  have XB3 := Lib.hid ((XB.later hby).later bx)
  have rda3 := Lib.hid (modelK.rd_later (modelK.rd_later rda2 hby) bx)
  have rdx3 := Lib.hid (modelK.rd_later (modelK.rd_later rdx2 hby) bx)
  have rdy3 := Lib.hid (modelK.rd_later rdy bx)
  have bA3 := Lib.hid ((bA2.out.trans (hby.mono bA2.out.size)).trans (bx.mono (Nat.le_trans bA2.out.size hby.size)))
  obtain ⟨b3, hb3e⟩ : ∃ b3, w3.heap.size = b3 := ⟨_, rfl⟩
  rw [hb3e] at XY
  clear XA2 XB rda2 rdx2 rdy hcy bx hby bA2 hb2e
  have nn : (n != n) = false := by simp
  have qq : (q != q) = false := by simp
  go_upto_region 6 with fail
  clear hb3e
  generalize w3.alloc (.cells #[.slice d0 m0' s0, .slice d1 m1' s1, .int .i64 t', .slice d2 m2' s2] 28) = W3 at bA3 XA3 XB3 XY rda3 rdx3 rdy3 ⊢
  obtain ⟨g0, g1, g2, g3⟩ := cells4 XA3.out
  obtain ⟨h0, h1, h2, h3⟩ := cells4 XB3.out
  obtain ⟨i0, i1, i2, i3⟩ := cells4 XY.out
  go_wp2_with fail
  refine (sameMT _ _ l' r' t' f' hl'.out hr'.out hf'.out _ rdx3.out rdy3.out).mono ?_
  rintro e W4 ⟨rfl, hq⟩
  have bA4 := Lib.hid (bA3.out.trans (hq.mono bA3.out.size))
  have XA4 := Lib.hid (XA3.out.later hq)
  have XB4 := Lib.hid (XB3.out.later hq)
  have Rd4 := Lib.hid (modelK.rd_later rda3.out hq)
  have Rx4 := Lib.hid (modelK.rd_later rdx3.out hq)
  clear g0 g1 g2 g3 h0 h1 h2 h3 i0 i1 i2 i3 hq bA3 XA3 XB3 XY rda3 rdx3 rdy3
  obtain ⟨g0, g1, g2, g3⟩ := cells4 XA4.out
  obtain ⟨h0, h1, h2, h3⟩ := cells4 XB4.out
  by_cases hq : q = 0
  · obtain rfl := hq
    obtain ⟨ho, hB⟩ := doM_ok HD.out
    obtain ⟨ho', hnv⟩ := doB_ok hB ho
    have HB := Lib.hid hB
    have Ho := Lib.hid ho
    clear ho hB qq nn
    have hnw : wr = false ∨ (wr = true ∧ n = v) := by
      cases wr with
      | true => exact .inr ⟨rfl, hnv rfl⟩
      | false => exact .inl rfl
    have low := fun h => doB_low HB.out Ho.out (show ad < 192 from h)
    have high := fun h => doB_high HB.out (show ¬ ad < 192 from h)
    have Low := Lib.hid low
    have High := Lib.hid high
    have MemL : Hid (∀ W, modelK.rd [.slice a0 m0 p0, .slice a1 m1 p1, .int .i64 t, .slice a2 m2 p2] (l, (r, t, f)) W → RdI (.slice a0 m0 p0) l W) := Lib.hid (fun W h => by
      obtain ⟨_, _, _, _, _, _, e, h2, _⟩ := rd_model h
      simp at e
      obtain ⟨⟨rfl, rfl, rfl⟩, _⟩ := e
      exact h2)
    have MemL' : Hid (∀ W, modelK.rd [.slice c0 m0' q0, .slice c1 m1' q1, .int .i64 t', .slice c2 m2' q2] (l', (r', t', f')) W → RdI (.slice c0 m0' q0) l' W) := Lib.hid (fun W h => by
      obtain ⟨_, _, _, _, _, _, e, h2, _⟩ := rd_model h
      simp at e
      obtain ⟨⟨rfl, rfl, rfl⟩, _⟩ := e
      exact h2)
    clear low high hnv
    rcases hnw with rfl | ⟨rfl, rfl⟩
    · go_wp2_with fail
      refine (okMI _ ho' hl'.out hr'.out hf'.out _ Rx4.out).mono ?_
      rintro e W5 ⟨rfl, hq⟩
      have bA5 := Lib.hid (bA4.out.trans (hq.mono bA4.out.size))
      have XA5 := Lib.hid (XA4.out.later hq)
      have XB5 := Lib.hid (XB4.out.later hq)
      have Rd5 := Lib.hid (modelK.rd_later Rd4.out hq)
      have Rx5 := Lib.hid (modelK.rd_later Rx4.out hq)
      clear g0 g1 g2 g3 h0 h1 h2 h3 hq bA4 XA4 XB4 Rd4 Rx4
      obtain ⟨g0, g1, g2, g3⟩ := cells4 XA5.out
      obtain ⟨h0, h1, h2, h3⟩ := cells4 XB5.out
      by_cases ha : ad < 192
      · obtain ⟨j, hz, hjw, hjr⟩ := Low.out ha
        have HZ := Lib.hid hz
        clear hz
        obtain ⟨rfl, rfl, rfl, rfl, rfl⟩ := hjr (by simp)
        clear hjw
        go_wp2_with fail
        refine (implModelDo _ false ad k 0 _ _ _ _ hl'.out hr'.out hf'.out _ Rx5.out).mono ?_
        rw [HZ.out]
        rintro e W6 ⟨zs, he, hcz, hbz⟩
        have rdz := modelK.cap_rd hcz
        obtain ⟨d0, s0, d1, s1, d2, s2, rfl, _, _, _⟩ := model_form rdz
        dsimp only at he rdz
        rw [HM0.out, HM1.out, HM2.out] at he rdz
        obtain rfl : e = .returned (.tuple #[.agg #[.slice d0 m0' s0, .slice d1 m1' s1, .int .i64 t', .slice d2 m2' s2], .int .i64 j, .int .i64 0]) := he
        have bx := (Below.refl W6.heap.size W6).alloc (Nat.le_refl _) (.cells #[.slice d0 m0' s0, .slice d1 m1' s1, .int .i64 t', .slice d2 m2' s2] 28)
        have XZ := Lib.hid (Bx.new 28 #[.slice d0 m0' s0, .slice d1 m1' s1, .int .i64 t', .slice d2 m2' s2] W6)
        have XA7 := Lib.hid ((XA5.out.later hbz).later bx)
        have XB7 := Lib.hid ((XB5.out.later hbz).later bx)
        have Rd7 := Lib.hid (modelK.rd_later (modelK.rd_later Rd5.out hbz) bx)
        have Rx7 := Lib.hid (modelK.rd_later (modelK.rd_later Rx5.out hbz) bx)
        have Rz7 := Lib.hid (modelK.rd_later rdz bx)
        have bA7 := Lib.hid ((bA5.out.trans (hbz.mono bA5.out.size)).trans (bx.mono (Nat.le_trans bA5.out.size hbz.size)))
        obtain ⟨b4, hb4e⟩ : ∃ b4, W6.heap.size = b4 := ⟨_, rfl⟩
        rw [hb4e] at XZ
        clear g0 g1 g2 g3 h0 h1 h2 h3 rdz hcz bx hbz bA5 XA5 XB5 Rd5 Rx5
        go_upto_region 14 with fail
        clear hb4e
        generalize W6.alloc (.cells #[.slice d0 m0' s0, .slice d1 m1' s1, .int .i64 t', .slice d2 m2' s2] 28) = W7 at bA7 XA7 XB7 XZ Rd7 Rx7 Rz7 ⊢
        obtain ⟨g0, g1, g2, g3⟩ := cells4 XA7.out
        obtain ⟨h0, h1, h2, h3⟩ := cells4 XB7.out
        obtain ⟨i0, i1, i2, i3⟩ := cells4 XZ.out
        have jj : (j == j) = true := by simp
        by_cases hjv : j = v
        · subst hjv
          go_wp2_with fail
          refine (sameMT _ _ l' r' t' f' hl'.out hr'.out hf'.out _ Rz7.out Rx7.out).mono ?_
          rintro e W8 ⟨rfl, hq⟩
          have bA8 := bA7.out.trans (hq.mono bA7.out.size)
          have XA8 := XA7.out.later hq
          have XB8 := XB7.out.later hq
          have Rd8 := Lib.hid (modelK.rd_later Rd7.out hq)
          have Rx8 := Lib.hid (modelK.rd_later Rx7.out hq)
          clear g0 g1 g2 g3 h0 h1 h2 h3 i0 i1 i2 i3
          obtain ⟨g0, g1, g2, g3⟩ := cells4 XA8
          obtain ⟨h0, h1, h2, h3⟩ := cells4 XB8
          clear XA8 XB8 hq
          go_wp2_with fail
          refine (sameMT _ _ l' r' t' f' hl'.out hr'.out hf'.out _ Rx8.out Rd8.out).mono ?_
          rintro e W9 ⟨rfl, hq⟩
          have bA9 := bA8.trans (hq.mono bA8.size)
          go_wp2_with fail
          go_ret
          exact ⟨rfl, bA9⟩
        · have hjv2 : (j == v) = false := by simp [hjv]
          go_wp2_with fail
          refine (sameMT _ _ l' r' t' f' hl'.out hr'.out hf'.out _ Rz7.out Rx7.out).mono ?_
          rintro e W8 ⟨rfl, hq⟩
          have bA8 := bA7.out.trans (hq.mono bA7.out.size)
          have XA8 := XA7.out.later hq
          have XB8 := XB7.out.later hq
          have Rd8 := Lib.hid (modelK.rd_later Rd7.out hq)
          have Rx8 := Lib.hid (modelK.rd_later Rx7.out hq)
          clear g0 g1 g2 g3 h0 h1 h2 h3 i0 i1 i2 i3
          obtain ⟨g0, g1, g2, g3⟩ := cells4 XA8
          obtain ⟨h0, h1, h2, h3⟩ := cells4 XB8
          clear XA8 XB8 hq
          go_wp2_with fail
          refine (sameMT _ _ l' r' t' f' hl'.out hr'.out hf'.out _ Rx8.out Rd8.out).mono ?_
          rintro e W9 ⟨rfl, hq⟩
          have bA9 := bA8.trans (hq.mono bA8.size)
          go_wp2_with fail
          go_ret
          exact ⟨rfl, bA9⟩
      · obtain rfl := High.out (by omega)
        go_wp2_with fail
        refine (sameI_same _ _ l' hl'.out _ (MemL'.out _ Rx5.out) (MemL.out _ Rd5.out)).mono ?_
        rintro e W6 ⟨rfl, hq⟩
        go_wp2_with fail
        go_ret
        exact ⟨rfl, bA5.out.trans (hq.mono bA5.out.size)⟩
    · go_wp2_with fail
      refine (okMI _ ho' hl'.out hr'.out hf'.out _ Rx4.out).mono ?_
      rintro e W5 ⟨rfl, hq⟩
      have bA5 := Lib.hid (bA4.out.trans (hq.mono bA4.out.size))
      have XA5 := Lib.hid (XA4.out.later hq)
      have XB5 := Lib.hid (XB4.out.later hq)
      have Rd5 := Lib.hid (modelK.rd_later Rd4.out hq)
      have Rx5 := Lib.hid (modelK.rd_later Rx4.out hq)
      clear g0 g1 g2 g3 h0 h1 h2 h3 hq bA4 XA4 XB4 Rd4 Rx4
      obtain ⟨g0, g1, g2, g3⟩ := cells4 XA5.out
      obtain ⟨h0, h1, h2, h3⟩ := cells4 XB5.out
      by_cases ha : ad < 192
      · obtain ⟨j, hz, hjw, hjr⟩ := Low.out ha
        have HZ := Lib.hid hz
        clear hz
        obtain rfl := hjw (by simp)
        clear hjr
        go_wp2_with fail
        refine (implModelDo _ false ad k 0 _ _ _ _ hl'.out hr'.out hf'.out _ Rx5.out).mono ?_
        rw [HZ.out]
        rintro e W6 ⟨zs, he, hcz, hbz⟩
        have rdz := modelK.cap_rd hcz
        obtain ⟨d0, s0, d1, s1, d2, s2, rfl, _, _, _⟩ := model_form rdz
        dsimp only at he rdz
        rw [HM0.out, HM1.out, HM2.out] at he rdz
        obtain rfl : e = .returned (.tuple #[.agg #[.slice d0 m0' s0, .slice d1 m1' s1, .int .i64 t', .slice d2 m2' s2], .int .i64 j, .int .i64 0]) := he
        have bx := (Below.refl W6.heap.size W6).alloc (Nat.le_refl _) (.cells #[.slice d0 m0' s0, .slice d1 m1' s1, .int .i64 t', .slice d2 m2' s2] 28)
        have XZ := Lib.hid (Bx.new 28 #[.slice d0 m0' s0, .slice d1 m1' s1, .int .i64 t', .slice d2 m2' s2] W6)
        have XA7 := Lib.hid ((XA5.out.later hbz).later bx)
        have XB7 := Lib.hid ((XB5.out.later hbz).later bx)
        have Rd7 := Lib.hid (modelK.rd_later (modelK.rd_later Rd5.out hbz) bx)
        have Rx7 := Lib.hid (modelK.rd_later (modelK.rd_later Rx5.out hbz) bx)
        have Rz7 := Lib.hid (modelK.rd_later rdz bx)
        have bA7 := Lib.hid ((bA5.out.trans (hbz.mono bA5.out.size)).trans (bx.mono (Nat.le_trans bA5.out.size hbz.size)))
        obtain ⟨b4, hb4e⟩ : ∃ b4, W6.heap.size = b4 := ⟨_, rfl⟩
        rw [hb4e] at XZ
        clear g0 g1 g2 g3 h0 h1 h2 h3 rdz hcz bx hbz bA5 XA5 XB5 Rd5 Rx5
        go_upto_region 14 with fail
        clear hb4e
        generalize W6.alloc (.cells #[.slice d0 m0' s0, .slice d1 m1' s1, .int .i64 t', .slice d2 m2' s2] 28) = W7 at bA7 XA7 XB7 XZ Rd7 Rx7 Rz7 ⊢
        obtain ⟨g0, g1, g2, g3⟩ := cells4 XA7.out
        obtain ⟨h0, h1, h2, h3⟩ := cells4 XB7.out
        obtain ⟨i0, i1, i2, i3⟩ := cells4 XZ.out
        have jj : (j == j) = true := by simp
        go_wp2_with fail
        refine (sameMT _ _ l' r' t' f' hl'.out hr'.out hf'.out _ Rz7.out Rx7.out).mono ?_
        rintro e W8 ⟨rfl, hq⟩
        have bA8 := bA7.out.trans (hq.mono bA7.out.size)
        go_wp2_with fail
        go_ret
        exact ⟨rfl, bA8⟩
      · obtain rfl := High.out (by omega)
        go_wp2_with fail
        refine (sameI_same _ _ l' hl'.out _ (MemL'.out _ Rx5.out) (MemL.out _ Rd5.out)).mono ?_
        rintro e W6 ⟨rfl, hq⟩
        go_wp2_with fail
        go_ret
        exact ⟨rfl, bA5.out.trans (hq.mono bA5.out.size)⟩
  · obtain ⟨rfl, rfl, rfl, rfl, rfl, rfl⟩ := doM_err HD.out hq
    clear hq qq nn
    go_wp2_with fail
    refine (sameMT _ _ l' r' t' f' hl'.out hr'.out hf'.out _ Rx4.out Rd4.out).mono ?_
    rintro e W5 ⟨rfl, hq⟩
    go_wp2_with fail
    go_ret
    exact ⟨rfl, bA4.out.trans (hq.mono bA4.out.size)⟩
end Go.Proofs.Ytbhmfjblmcppbaa.KD
