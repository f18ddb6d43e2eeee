
/-
  What the program's ReadReq returns: the walk.
-/
import Derived.Test.YtfpnflhkfpolcaaGreatDoorRead5
namespace Go.Proofs.YtfpnflhkfpolcaaGreatDoor.Num
open Go.RowKit Rows3 Bytes

set_option maxHeartbeats 4000000 in
set_option maxRecDepth 100000 in
theorem implRead (s : ByteArray) (hs : s.size ≤ 1048576) (w : World) (herr : Errs w) (htab : Pow w) : Calls Tryz.prog 37 #[.string s] w (ReqP s w) := by
  have B0 := Blk.new 35 (.bool false) (.int .i64 0) (.int .i64 0) (.int .i64 0) (.bool false) (.slice none 0 0) w
  have b0 := (Below.refl w.heap.size w).alloc (Nat.le_refl _) (.cells #[.bool false, .int .i64 0, .int .i64 0, .int .i64 0, .bool false, .slice none 0 0] 35)
  have Herr0 := Lib.hid (errs_below herr b0)
  have Htab0 := Lib.hid (htab.below b0)
  clear herr htab b0
  go_enter Tryz.func37, Tryz.ntmps37
  go_wp2_with fail
  refine (implSplit s hs _).mono ?_
  rintro e w1 ⟨ws, g, cp, rfl, hcp, hc14, hyes, hno, hg, hcell, hb1⟩
  obtain ⟨n, hn⟩ : ∃ n, ws.length = n := ⟨_, rfl⟩
  rw [hn] at hcp hno hcell ⊢
  have Herr := Lib.hid (errs_below Herr0.out hb1)
  have Htab := Lib.hid (Htab0.out.below hb1)
  have B1 := Lib.hid (B0.later hb1)
  have Hb1 := Lib.hid (below_alloc1 (Below.refl w.heap.size w) (Nat.le_refl _) hb1)
  have Hn := Lib.hid hn
  have Hyes := Lib.hid hyes
  have Hno := Lib.hid hno
  have Hcell := Lib.hid hcell
  clear hb1 hn hyes hno hcell B0
  by_cases h4 : n < 4
  · have Hr := Lib.hid (read_short (s := s) (by have h := Hyes.out (Hno.out (by omega)); rw [← h, Hn.out]; exact h4))
    obtain ⟨f0, f1, f2, f3, f4, f5⟩ := B1.out.warm
    obtain ⟨g0, g1, g2, g3, g4, g5⟩ := B1.out.cells
    go_wp2
    refine bodyPost_ret (v := .tuple #[.agg #[.bool false, .int .i64 0, .int .i64 0, .int .i64 0, .bool false, .slice none 0 0], .bool false]) (by simp [results, Tryz.results37, go_sem, g0, g1, g2, g3, g4, g5]) rfl ?_
    exact ReqP.mk rfl (OwnI.nil _ _) (below_fill Hb1.out (Nat.le_refl _) _ _ _ _ _ _) Hr.out
  · by_cases h13 : 13 < n
    · have Hr := Lib.hid (read_long (s := s) (by
        refine Nat.lt_of_not_le fun h => ?_
        have h' := Hyes.out h
        have := Hn.out
        rw [h'] at this; omega))
      obtain ⟨f0, f1, f2, f3, f4, f5⟩ := B1.out.warm
      obtain ⟨g0, g1, g2, g3, g4, g5⟩ := B1.out.cells
      go_wp2
      refine bodyPost_ret (v := .tuple #[.agg #[.bool false, .int .i64 0, .int .i64 0, .int .i64 0, .bool false, .slice none 0 0], .bool false]) (by simp [results, Tryz.results37, go_sem, g0, g1, g2, g3, g4, g5]) rfl ?_
      exact ReqP.mk rfl (OwnI.nil _ _) (below_fill Hb1.out (Nat.le_refl _) _ _ _ _ _ _) Hr.out
    · have Hws : Hid (ws = cutW s) := Lib.hid (Hyes.out (Hno.out (by omega)))
      have hsz : ∀ j, (ws.getD j ByteArray.empty).size ≤ 1048576 := fun j => by rw [Hws.out]; exact Nat.le_trans (cutW_size s j) hs
      have Hsz := Lib.hid hsz
      have hle4 : 4 ≤ n := by omega
      have hle13 : n ≤ 13 := by omega
      clear hsz
      go_wp2_with fail
      refine (implMade ws g n cp Hn.out hle4 hle13 hcp hc14 Hsz.out _ hg Hcell.out Herr.out).mono ?_
      rintro e w2 ⟨q, x, y, z, lk, v, l, rfl, hown, hb2, hpr⟩
      obtain ⟨ad, cap, rfl⟩ := hown.slice
      have hl2 : Hid (l.length ≤ 2000000) := Lib.hid (by
        obtain ⟨-, -, -, -, -, k, -, hlen, -⟩ := hpr
        rw [Hn.out] at hlen; omega)
      have Hpr := Lib.hid hpr
      have Hown := Lib.hid hown
      have Hb2 := Lib.hid hb2
      have A5 := Blk.new 35 (.bool false) (.int .i64 0) (.int .i64 0) (.int .i64 0) (.bool false) (.slice none 0 0) w2
      obtain ⟨f0, f1, f2, f3, f4, f5⟩ := A5.warm
      clear hpr hown hb2
      go_wp2_with fail
      obtain ⟨nr, hnr⟩ : ∃ nr, l.length = nr := ⟨_, rfl⟩
      have Hnr := Lib.hid hnr
      rw [hnr]
      have Own2 : Hid (OwnI w1.heap.size (.slice ad nr cap) l w2) := Lib.hid (by have h := Hown.out; rwa [hnr] at h)
      clear Hown hnr
      have B5 := Blk.new 35 (.bool q) (.int .i64 x) (.int .i64 y) (.int .i64 z) (.bool lk) (.slice ad nr cap) w2
      have b3 := (Below.refl w2.heap.size w2).alloc (Nat.le_refl _) (.cells #[.bool q, .int .i64 x, .int .i64 y, .int .i64 z, .bool lk, .slice ad nr cap] 35)
      have O3 := Own2.out.later b3
      obtain ⟨w3, hw3⟩ : ∃ w3, w2.alloc (.cells #[.bool q, .int .i64 x, .int .i64 y, .int .i64 z, .bool lk, .slice ad nr cap] 35) = w3 := ⟨_, rfl⟩
      rw [hw3] at B5 b3 O3 ⊢
      refine (implReqOk q x y z lk _ l hl2.out w3 O3.rd).mono ?_
      rintro e w4 ⟨rfl, hb4⟩
      have Z4 := Lib.hid ((Hb2.out.trans (b3.mono Hb2.out.size)).trans (hb4.mono (Nat.le_trans Hb2.out.size b3.size)))
      have RB4 := Lib.hid (B1.out.below Z4.out B1.out.lt)
      have Own4 := Lib.hid (O3.later hb4)
      have C4 := Lib.hid (B5.later hb4)
      have hlow : w.heap.size < w1.heap.size := B1.out.lt
      obtain ⟨h0, h1, h2, h3, h4c, h5⟩ := C4.out.cells
      clear B5 b3 O3 hw3 hb4 f0 f1 f2 f3 f4 f5
      have hlen2 : 2 ≤ (cutW s).length := by rw [← Hws.out, Hn.out]; omega
      obtain ⟨ok, hok⟩ : ∃ ok, okR q x y z l = ok := ⟨_, rfl⟩
      rw [hok]
      cases ok with
      | false =>
        have Hq := Lib.hid (rq_false (s := s) (by rw [← Hws.out]; exact Hpr.out) (fun e => by have := txtB_ok hlen2 e; rw [hok] at this; cases this))
        clear hok
        obtain ⟨r0, r1, r2, r3, r4, r5⟩ := RB4.out.warm
        obtain ⟨q0, q1, q2, q3, q4, q5⟩ := RB4.out.cells
        have hfin := below_fill (Hb1.out.trans (Z4.out.mono (Nat.le_of_lt hlow))) (Nat.le_refl _) (.bool false) (.int .i64 0) (.int .i64 0) (.int .i64 0) (.bool false) (.slice none 0 0)
        have Hfin := Lib.hid hfin
        clear hfin
        go_wp2_with fail
        refine bodyPost_ret (v := .tuple #[.agg #[.bool false, .int .i64 0, .int .i64 0, .int .i64 0, .bool false, .slice none 0 0], .bool false]) (by simp [results, Tryz.results37, go_sem, q0, q1, q2, q3, q4, q5]) rfl ?_
        exact ReqP.mk rfl (OwnI.nil _ _) Hfin.out Hq.out
      | true =>
        have Hok := Lib.hid hok
        clear hok
        go_wp2_with fail
        refine (implText q x y z lk _ l hl2.out w4 Own4.out.rd (Htab.out.belowB Z4.out ?_)).mono ?_
        · exact Htab.out.lt
        rintro e w5 ⟨rfl, hb5⟩
        have Z5 := Lib.hid (Z4.out.trans (hb5.mono Z4.out.size))
        have RB5 := Lib.hid (B1.out.below Z5.out B1.out.lt)
        have Own5 := Lib.hid (Own4.out.later hb5)
        have C5 := Lib.hid (C4.out.later hb5)
        clear h0 h1 h2 h3 h4c h5
        obtain ⟨h0, h1, h2, h3, h4c, h5⟩ := C5.out.cells
        clear hb5
        obtain ⟨T, hT⟩ : ∃ T, txtB q x y z lk l = T := ⟨_, rfl⟩
        rw [hT]
        have HT := Lib.hid hT
        clear hT
        by_cases hTs : T = s
        · have hq2 : (T.toList != s.toList) = false := by rw [hTs]; simp
          have hq3 : (T.toList == s.toList) = true := by rw [hTs]; simp
          have Hq := Lib.hid (rq_true (s := s) (by rw [← Hws.out, Hn.out]; omega) (HT.out.trans hTs))
          clear hTs
          obtain ⟨r0, r1, r2, r3, r4, r5⟩ := RB5.out.warm
          obtain ⟨q0, q1, q2, q3, q4, q5⟩ := RB5.out.cells
          have hfin := below_fill (Hb1.out.trans (Z5.out.mono (Nat.le_of_lt hlow))) (Nat.le_refl _) (.bool q) (.int .i64 x) (.int .i64 y) (.int .i64 z) (.bool lk) (.slice ad nr cap)
          have Hfin := Lib.hid hfin
          clear hfin
          go_wp2_with fail
          refine bodyPost_ret (v := .tuple #[.agg #[.bool q, .int .i64 x, .int .i64 y, .int .i64 z, .bool lk, .slice ad nr cap], .bool true]) (by simp [results, Tryz.results37, go_sem, q0, q1, q2, q3, q4, q5]) rfl ?_
          have h7 := (fill_low Own5.out hlow (.bool q) (.int .i64 x) (.int .i64 y) (.int .i64 z) (.bool lk) (.slice ad nr cap)).mono (Nat.le_of_lt hlow)
          exact ReqP.mk rfl h7 Hfin.out Hq.out
        · have hq2 : (T.toList != s.toList) = true := by
            rw [bne_iff_ne]; intro e; apply hTs
            rw [ByteArray.toList_eq, ByteArray.toList_eq] at e
            exact ByteArray.ext (Array.toList_inj.1 e)
          have hq3 : (T.toList == s.toList) = false := by
            rw [beq_eq_false_iff_ne]; intro e; apply hTs
            rw [ByteArray.toList_eq, ByteArray.toList_eq] at e
            exact ByteArray.ext (Array.toList_inj.1 e)
          have Hq := Lib.hid (rq_false (s := s) (by rw [← Hws.out]; exact Hpr.out) (fun e => hTs (HT.out.symm.trans e)))
          clear hTs
          obtain ⟨r0, r1, r2, r3, r4, r5⟩ := RB5.out.warm
          obtain ⟨q0, q1, q2, q3, q4, q5⟩ := RB5.out.cells
          have hfin := below_fill (Hb1.out.trans (Z5.out.mono (Nat.le_of_lt hlow))) (Nat.le_refl _) (.bool false) (.int .i64 0) (.int .i64 0) (.int .i64 0) (.bool false) (.slice none 0 0)
          have Hfin := Lib.hid hfin
          clear hfin
          go_wp2_with fail
          refine bodyPost_ret (v := .tuple #[.agg #[.bool false, .int .i64 0, .int .i64 0, .int .i64 0, .bool false, .slice none 0 0], .bool false]) (by simp [results, Tryz.results37, go_sem, q0, q1, q2, q3, q4, q5]) rfl ?_
          exact ReqP.mk rfl (OwnI.nil _ _) Hfin.out Hq.out
end Go.Proofs.YtfpnflhkfpolcaaGreatDoor.Num
