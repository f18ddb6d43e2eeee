
/-
  The configurations that FnConfs draws: spec.l6Any.
-/
import Derived.Test.YtddbhokfjdgabaaDraw6
namespace Go.Proofs.Ytddbhokfjdgabaa.Cur
open Go.RowKit Bytes Num GR

def frL (B n : Nat) (zs : List Int) : Fresh.Fr := ⟨fun v => ∃ b, v = .slice (some ⟨b, 0, none⟩) n n, fun v w => ∃ b, v = .slice (some ⟨b, 0, none⟩) n n ∧ B ≤ b ∧ b < w.heap.size ∧ Ints b zs w⟩
set_option maxHeartbeats 8000000 in
set_option maxRecDepth 100000 in
theorem confAny_any (D c : Nat) (w : World) (h : CuD D c w) : Calls Try.prog 53 #[.pointer (some ⟨c, 0, none⟩)] w (DrewC 0 4 D c w) := by
  have hD := h.le
  have hcD := h.lt
  have B0 := Bx.new 28 #[.slice none 0 0, .int .i64 0, .int .i64 0, .int .i64 0, .int .i64 0, .int .i64 0] w
  have hO0 := (Only.refl c w).alloc (.cells #[.slice none 0 0, .int .i64 0, .int .i64 0, .int .i64 0, .int .i64 0, .int .i64 0] 28)
  have hC0 := h.alloc (.cells #[.slice none 0 0, .int .i64 0, .int .i64 0, .int .i64 0, .int .i64 0, .int .i64 0] 28)
  go_enter Try.func53, Try.ntmps53
  go_wp2_with fail
  refine (conf_any D c _ hC0).mono ?_
  rintro e w2 ⟨v, l, q, mw, mr, ms, lm, rfl, ho, hl1, hl, hC2, hO2⟩
  obtain ⟨ad, cap, rfl⟩ := ho.slice
  have hs2 : w.heap.size + 1 ≤ w2.heap.size := by have := hO2.size; simpa using this
  have B2 := bx_only B0 hO2 (by omega)
  have b3 := (Below.refl w2.heap.size w2).alloc (Nat.le_refl _) (.cells #[.slice ad l.length cap, .int .i64 q, .int .i64 mw, .int .i64 mr, .int .i64 ms, .int .i64 lm] 28)
  have X3 := Bx.new 28 #[.slice ad l.length cap, .int .i64 q, .int .i64 mw, .int .i64 mr, .int .i64 ms, .int .i64 lm] w2
  have A3 := Bx.new 28 #[.slice none 0 0, .int .i64 0, .int .i64 0, .int .i64 0, .int .i64 0, .int .i64 0] w2
  have f0 := A3.warm 0
  have f1 := A3.warm 1
  have f2 := A3.warm 2
  have f3 := A3.warm 3
  have f4 := A3.warm 4
  have f5 := A3.warm 5
  have hO3 := (hO0.trans hO2).below2 b3
  have hC3 := hC2.below b3
  have ho3 := (ho.mono (show w.heap.size + 1 ≤ _ by simp)).later b3
  have B3 := B2.later b3
  obtain ⟨w3, hw3⟩ : ∃ w3, w2.alloc (.cells #[.slice ad l.length cap, .int .i64 q, .int .i64 mw, .int .i64 mr, .int .i64 ms, .int .i64 lm] 28) = w3 := ⟨_, rfl⟩
  rw [hw3] at b3 X3 hO3 hC3 ho3 B3
  have HO3 := Lib.hid hO3
  have HC3 := Lib.hid hC3
  have Ho3 := Lib.hid ho3
  have HB3 := Lib.hid B3
  have HX3 := Lib.hid X3
  have Hl := Lib.hid hl
  have Hl1 := Lib.hid hl1
  clear hO3 hC3 ho3 B3 X3 hl hl1 A3 B2 B0 hO0 hC0 ho hC2 hO2 h b3
  go_wp2_with fail
  refine (belowC D c 14 (by omega) (by omega) _ HC3.out).mono ?_
  rintro e w4 ⟨k, ⟨hk0, hk1⟩, rfl, hC4, hO4⟩
  have HO4 := Lib.hid (HO3.out.trans hO4)
  have Ho4 := Lib.hid (own_only Ho3.out hO4 (by omega))
  have HB4 := Lib.hid (bx_only HB3.out hO4 (by omega))
  have HX4 := Lib.hid (bx_only HX3.out hO4 (by omega))
  have HC4 := Lib.hid hC4
  have hcb : w2.heap.size ≠ c := by omega
  clear hC4 hO4 f0 f1 f2 f3 f4 f5 hw3 Ho3 HB3 HX3 HC3 HO3
  by_cases k7 : 7 ≤ k
  · have e0 : (k == 0) = false := by rw [beq_eq_false_iff_ne]; omega
    have e1 : (k == 1) = false := by rw [beq_eq_false_iff_ne]; omega
    have e2 : (k == 2) = false := by rw [beq_eq_false_iff_ne]; omega
    have e3 : (k == 3) = false := by rw [beq_eq_false_iff_ne]; omega
    have e4 : (k == 4) = false := by rw [beq_eq_false_iff_ne]; omega
    have e5 : (k == 5) = false := by rw [beq_eq_false_iff_ne]; omega
    have e6 : (k == 6) = false := by rw [beq_eq_false_iff_ne]; omega
    obtain ⟨t0, t1, t2, t3, t4, t5⟩ := HX4.out.cells6
    obtain ⟨r0, r1, r2, r3, r4, r5⟩ := HB4.out.cells6
    have y0 := HB4.out.warm 0
    have y1 := HB4.out.warm 1
    have y2 := HB4.out.warm 2
    have y3 := HB4.out.warm 3
    have y4 := HB4.out.warm 4
    have y5 := HB4.out.warm 5
    go_wp2_with fail
    refine bodyPost_ret (v := .agg #[.slice ad l.length cap, .int .i64 q, .int .i64 mw, .int .i64 mr, .int .i64 ms, .int .i64 lm]) (by simp [results, Try.results53, go_sem, r0, r1, r2, r3, r4, r5]) rfl ?_
    exact DrewC.fin hD Ho4.out (Nat.zero_le _) Hl.out HC4.out HO4.out
  · have hk : k = 0 ∨ k = 1 ∨ k = 2 ∨ k = 3 ∨ k = 4 ∨ k = 5 ∨ k = 6 := by omega
    clear k7 hk0 hk1
    rcases hk with rfl | rfl | rfl | rfl | rfl | rfl | rfl
    · obtain ⟨g, cap', e, hgB, hgz⟩ := own_block Ho4.out (by have := Hl1.out; omega)
      obtain ⟨rfl, hcc⟩ : ad = some ⟨g, 0, none⟩ ∧ cap = cap' := by simpa using e
      subst hcc
      have hgb : w2.heap.size ≠ g := fun e => own_ne_bxC Ho4.out HX4.out (by decide) (by rw [e]; rfl)
      have hl0 : 0 < l.length := Hl1.out
      obtain ⟨m, hm⟩ := get_of (l := l) (i := 0) hl0
      have Hm := Lib.hid hm
      have hin : Nonempty (Fresh.In (fun w' => Only c w4 w' ∧ CuD D c w')) := ⟨⟨w4, Only.refl _ _, HC4.out⟩⟩
      have q0 : ∀ x : Fresh.In (fun w' => Only c w4 w' ∧ CuD D c w'), x.w.cell? ⟨w2.heap.size, 0, none⟩ = some (.slice (some ⟨g, 0, none⟩) l.length cap) := fun x => (bx_only HX4.out x.h.1 hcb).cell 0 _ rfl
      go_wp2_with fail
      refine Fresh.wp_fresh_last (fun w' => ∃ x : Fresh.In (fun w' => Only c w4 w' ∧ CuD D c w'), w' = x.w) (fun _ w' w'' => Only c w' w'') (fun i => if i = 3 then some (frL w4.heap.size 2 [0, 5]) else if i = 4 then some (frI (fun _ => True)) else none) (by simp) (by kernel_rfl) (by kernel_rfl) (by kernel_rfl) (by kernel_rfl) (by kernel_rfl) rfl ?_ (Fresh.in_of ⟨Only.of_below (Below.refl _ _).drew, HC4.out.drew⟩) ?_
      · intro _ i fr hfr _ _ v w' w'' hR hp
        repeat' split at hfr
        · cases hfr
          obtain ⟨b, e, hB, hlt, hz⟩ := hp
          exact ⟨b, e, hB, Nat.lt_of_lt_of_le hlt hR.size, (hR.block b hlt (by have := HC4.out.le; omega)).trans hz⟩
        · cases hfr; trivial
        · cases hfr
      · dsimp only [List.dropLast, List.getLast]
        iterate 3 (refine Fresh.step_plain rfl rfl rfl (fun K hK => ?_); go_big_quiet_op; refine hK _ ?_; clear hK K)
        refine Fresh.step_fresh _ rfl rfl ?_ ⟨_, 0, rfl⟩ ?_
        · rintro w7 hC7 -
          obtain ⟨h7, c7⟩ := Fresh.of_in hC7
          go_simp
          have hb7 := (Below.refl w7.heap.size w7).alloc (Nat.le_refl _) (Obj.cells #[.int .i64 0, .int .i64 5] 3)
          exact Fresh.value_of ⟨⟨_, rfl⟩, ⟨_, rfl, h7.size, by simp, Ints.new w7 [0, 5] _ rfl⟩, by exact Only.of_below hb7, Fresh.in_of ⟨h7.below2 hb7, c7.below hb7⟩⟩
        rintro v ⟨b1, rfl⟩
        go_simp
        refine Fresh.step_fresh _ rfl rfl ?_ ⟨_, 0, trivial, rfl⟩ ?_
        · rintro w7 hC7 hF
          obtain ⟨h7, c7⟩ := Fresh.of_in hC7
          obtain ⟨b2, e, hB, hlt, hz⟩ := Fresh.fact_of (hF 3 (by kernel_rfl))
          obtain rfl : b1 = b2 := by simpa using e
          clear hF e
          go_simp
          refine Fresh.enter_of ((pickC D c b1 [0, 5] 2 rfl (by omega) (by omega) (by have := HC4.out.le; omega) _ hz c7).mono ?_)
          rintro e w8 ⟨x, -, he, hC8, hO8⟩
          exact ⟨_, he, ⟨x, trivial, rfl⟩, trivial, by exact hO8, Fresh.in_of ⟨h7.trans hO8, hC8⟩⟩
        rintro v ⟨u, -, rfl⟩
        go_simp
        iterate 2 (refine Fresh.step_plain rfl rfl rfl (fun K hK => ?_); go_big_quiet_op; refine hK _ ?_; clear hK K)
        refine Fresh.step_end (fun w8 hC8 _ => ?_)
        obtain ⟨h8, c8⟩ := Fresh.of_in hC8
        have o8 := own_only Ho4.out h8 (by omega)
        have x8 := bx_only HX4.out h8 hcb
        have r8 := bx_only HB4.out h8 (by omega)
        have n8 := HO4.out.trans h8
        have f0 : w8.cell? ⟨g, 0, none⟩ = some (.int .i64 m.wt) := (mc_at0 (o8.at_ 0 _ Hm.out)).1
        have f1 : w8.cell? ⟨g, 1, none⟩ = some (.bool m.pr) := (mc_at0 (o8.at_ 0 _ Hm.out)).2.1
        have z := o8.frozen 0
        have hb8 := (Below.refl (w.heap.size + 1) w8).setCell (p := ⟨g, 0, none⟩) hgB (.int .i64 u)
        obtain ⟨L, hL⟩ : ∃ L, l.set 0 (⟨u, m.pr, m.ev, m.cp⟩) = L := ⟨_, rfl⟩
        have O6 := Lib.hid (show Own mcK 78 (w.heap.size + 1) (.slice (some ⟨g, 0, none⟩) l.length cap) L (w8.setCell ⟨g, 0, none⟩ (.int .i64 u)) by rw [← hL]; exact own_cell o8 0 0 _ (⟨u, m.pr, m.ev, m.cp⟩) (.int .i64 u) Hm.out rfl (by omega))
        have HL : Hid (L.length = l.length) := Lib.hid (by rw [← hL, List.length_set])
        have X6 := Lib.hid (x8.far (p := ⟨g, 0, none⟩) hgb (.int .i64 u))
        have R6 := Lib.hid (r8.far (p := ⟨g, 0, none⟩) (by show w.heap.size ≠ g; omega) (.int .i64 u))
        have C6 := Lib.hid (c8.belowB hb8 (by omega))
        have N6 := Lib.hid (n8.transB (hb8.mono (Nat.le_succ _)))
        clear hC8 o8 x8 r8 n8 hb8 h8 c8 hin q0 hL HX4 HB4 Ho4 HC4 HO4
        go_simp
        generalize w8.setCell ⟨g, 0, none⟩ (.int .i64 u) = w9 at O6 X6 R6 C6 N6 ⊢
        clear f0 f1 z
        obtain ⟨t0, t1, t2, t3, t4, t5⟩ := X6.out.cells6
        obtain ⟨r0, r1, r2, r3, r4, r5⟩ := R6.out.cells6
        have y0 := R6.out.warm 0
        have y1 := R6.out.warm 1
        have y2 := R6.out.warm 2
        have y3 := R6.out.warm 3
        have y4 := R6.out.warm 4
        have y5 := R6.out.warm 5
        go_wp2_with fail
        refine bodyPost_ret (v := .agg #[.slice (some ⟨g, 0, none⟩) l.length cap, .int .i64 q, .int .i64 mw, .int .i64 mr, .int .i64 ms, .int .i64 lm]) (by simp [results, Try.results53, go_sem, r0, r1, r2, r3, r4, r5]) rfl ?_
        exact DrewC.fin hD O6.out (Nat.zero_le _) (by rw [HL.out]; exact Hl.out) C6.out N6.out
    · obtain ⟨g, cap', e, hgB, hgz⟩ := own_block Ho4.out (by have := Hl1.out; omega)
      obtain ⟨rfl, hcc⟩ : ad = some ⟨g, 0, none⟩ ∧ cap = cap' := by simpa using e
      subst hcc
      have hgb : w2.heap.size ≠ g := fun e => own_ne_bxC Ho4.out HX4.out (by decide) (by rw [e]; rfl)
      have hl0 : 0 < l.length := Hl1.out
      obtain ⟨m, hm⟩ := get_of (l := l) (i := 0) hl0
      have Hm := Lib.hid hm
      have hin : Nonempty (Fresh.In (fun w' => Only c w4 w' ∧ CuD D c w')) := ⟨⟨w4, Only.refl _ _, HC4.out⟩⟩
      have q0 : ∀ x : Fresh.In (fun w' => Only c w4 w' ∧ CuD D c w'), x.w.cell? ⟨w2.heap.size, 0, none⟩ = some (.slice (some ⟨g, 0, none⟩) l.length cap) := fun x => (bx_only HX4.out x.h.1 hcb).cell 0 _ rfl
      have q1 : ∀ x : Fresh.In (fun w' => Only c w4 w' ∧ CuD D c w'), x.w.cell? ⟨g, 1, none⟩ = some (.bool m.pr) := fun x => (mc_at0 ((own_only Ho4.out x.h.1 (by omega)).at_ 0 _ Hm.out)).2.1
      go_wp2_with fail
      refine Fresh.wp_fresh_last (fun w' => ∃ x : Fresh.In (fun w' => Only c w4 w' ∧ CuD D c w'), w' = x.w) (fun _ w' w'' => Only c w' w'') (fun i => none) (by simp) (by kernel_rfl) (by kernel_rfl) (by kernel_rfl) (by kernel_rfl) (by kernel_rfl) rfl ?_ (Fresh.in_of ⟨Only.of_below (Below.refl _ _).drew, HC4.out.drew⟩) ?_
      · intro _ i fr hfr
        cases hfr
      · dsimp only [List.dropLast, List.getLast]
        iterate 10 (refine Fresh.step_plain rfl rfl rfl (fun K hK => ?_); go_big_quiet_op; refine hK _ ?_; clear hK K)
        refine Fresh.step_end (fun w8 hC8 _ => ?_)
        obtain ⟨h8, c8⟩ := Fresh.of_in hC8
        have o8 := own_only Ho4.out h8 (by omega)
        have x8 := bx_only HX4.out h8 hcb
        have r8 := bx_only HB4.out h8 (by omega)
        have n8 := HO4.out.trans h8
        have f0 : w8.cell? ⟨g, 0, none⟩ = some (.int .i64 m.wt) := (mc_at0 (o8.at_ 0 _ Hm.out)).1
        have f1 : w8.cell? ⟨g, 1, none⟩ = some (.bool m.pr) := (mc_at0 (o8.at_ 0 _ Hm.out)).2.1
        have z := o8.frozen 1
        have hb8 := (Below.refl (w.heap.size + 1) w8).setCell (p := ⟨g, 1, none⟩) hgB (.bool (!m.pr))
        obtain ⟨L, hL⟩ : ∃ L, l.set 0 (⟨m.wt, !m.pr, m.ev, m.cp⟩) = L := ⟨_, rfl⟩
        have O6 := Lib.hid (show Own mcK 78 (w.heap.size + 1) (.slice (some ⟨g, 0, none⟩) l.length cap) L (w8.setCell ⟨g, 1, none⟩ (.bool (!m.pr))) by rw [← hL]; exact own_cell o8 0 1 _ (⟨m.wt, !m.pr, m.ev, m.cp⟩) (.bool (!m.pr)) Hm.out rfl (by omega))
        have HL : Hid (L.length = l.length) := Lib.hid (by rw [← hL, List.length_set])
        have X6 := Lib.hid (x8.far (p := ⟨g, 1, none⟩) hgb (.bool (!m.pr)))
        have R6 := Lib.hid (r8.far (p := ⟨g, 1, none⟩) (by show w.heap.size ≠ g; omega) (.bool (!m.pr)))
        have C6 := Lib.hid (c8.belowB hb8 (by omega))
        have N6 := Lib.hid (n8.transB (hb8.mono (Nat.le_succ _)))
        clear hC8 o8 x8 r8 n8 hb8 h8 c8 hin q0 q1 hL HX4 HB4 Ho4 HC4 HO4
        go_simp
        generalize w8.setCell ⟨g, 1, none⟩ (.bool (!m.pr)) = w9 at O6 X6 R6 C6 N6 ⊢
        clear f0 f1 z
        obtain ⟨t0, t1, t2, t3, t4, t5⟩ := X6.out.cells6
        obtain ⟨r0, r1, r2, r3, r4, r5⟩ := R6.out.cells6
        have y0 := R6.out.warm 0
        have y1 := R6.out.warm 1
        have y2 := R6.out.warm 2
        have y3 := R6.out.warm 3
        have y4 := R6.out.warm 4
        have y5 := R6.out.warm 5
        go_wp2_with fail
        refine bodyPost_ret (v := .agg #[.slice (some ⟨g, 0, none⟩) l.length cap, .int .i64 q, .int .i64 mw, .int .i64 mr, .int .i64 ms, .int .i64 lm]) (by simp [results, Try.results53, go_sem, r0, r1, r2, r3, r4, r5]) rfl ?_
        exact DrewC.fin hD O6.out (Nat.zero_le _) (by rw [HL.out]; exact Hl.out) C6.out N6.out
    · go_wp2_with fail
      refine (pickLit D c [0, 5, 4] 3 rfl (by omega) (by omega) _ HC4.out _ rfl).mono ?_
      rintro e w5 ⟨u, -, rfl, hC5, hO5⟩
      have x5 := bx_only HX4.out hO5 hcb
      have hb6 := (Below.refl (w.heap.size + 1) w5).setCell (p := ⟨w2.heap.size, 1, none⟩) hs2 (.int .i64 u)
      have o5 := own_only Ho4.out hO5 (by omega)
      obtain ⟨w6, hw6⟩ : ∃ w6, w5.setCell ⟨w2.heap.size, 1, none⟩ (.int .i64 u) = w6 := ⟨_, rfl⟩
      have x6 : Bx 28 w2.heap.size #[.slice ad l.length cap, .int .i64 u, .int .i64 mw, .int .i64 mr, .int .i64 ms, .int .i64 lm] w6 := by rw [← hw6]; exact x5.set 1 (.int .i64 u)
      have X6 := Lib.hid x6
      have R6 := Lib.hid (show Bx 28 w.heap.size #[.slice none 0 0, .int .i64 0, .int .i64 0, .int .i64 0, .int .i64 0, .int .i64 0] w6 by rw [← hw6]; exact (bx_only HB4.out hO5 (by omega)).far (p := ⟨w2.heap.size, 1, none⟩) (by show w.heap.size ≠ w2.heap.size; omega) (.int .i64 u))
      have O6 := Lib.hid (show Own mcK 78 (w.heap.size + 1) (.slice ad l.length cap) l w6 by rw [← hw6]; exact ownsRow_setCell_other o5 (own_ne_bxC o5 x5 (by decide)) _)
      rw [hw6] at hb6
      have C6 := Lib.hid (hC5.belowB hb6 (by omega))
      have N6 := Lib.hid ((HO4.out.trans hO5).transB (hb6.mono (Nat.le_succ _)))
      obtain ⟨g0, g1, g2, g3, g4, g5⟩ := x5.cells6
      have z := x5.warm 1
      clear hC5 hO5 x5 hb6 o5 HX4 HB4 Ho4 HC4 HO4 x6
      obtain ⟨t0, t1, t2, t3, t4, t5⟩ := X6.out.cells6
      obtain ⟨r0, r1, r2, r3, r4, r5⟩ := R6.out.cells6
      have y0 := R6.out.warm 0
      have y1 := R6.out.warm 1
      have y2 := R6.out.warm 2
      have y3 := R6.out.warm 3
      have y4 := R6.out.warm 4
      have y5 := R6.out.warm 5
      go_wp2_with fail
      refine bodyPost_ret (v := .agg #[.slice ad l.length cap, .int .i64 u, .int .i64 mw, .int .i64 mr, .int .i64 ms, .int .i64 lm]) (by simp [results, Try.results53, go_sem, r0, r1, r2, r3, r4, r5]) rfl ?_
      exact DrewC.fin hD O6.out (Nat.zero_le _) Hl.out C6.out N6.out
    · go_wp2_with fail
      refine (pickLit D c [-1, 4, 3] 3 rfl (by omega) (by omega) _ HC4.out _ rfl).mono ?_
      rintro e w5 ⟨u, -, rfl, hC5, hO5⟩
      have x5 := bx_only HX4.out hO5 hcb
      have hb6 := (Below.refl (w.heap.size + 1) w5).setCell (p := ⟨w2.heap.size, 2, none⟩) hs2 (.int .i64 u)
      have o5 := own_only Ho4.out hO5 (by omega)
      obtain ⟨w6, hw6⟩ : ∃ w6, w5.setCell ⟨w2.heap.size, 2, none⟩ (.int .i64 u) = w6 := ⟨_, rfl⟩
      have x6 : Bx 28 w2.heap.size #[.slice ad l.length cap, .int .i64 q, .int .i64 u, .int .i64 mr, .int .i64 ms, .int .i64 lm] w6 := by rw [← hw6]; exact x5.set 2 (.int .i64 u)
      have X6 := Lib.hid x6
      have R6 := Lib.hid (show Bx 28 w.heap.size #[.slice none 0 0, .int .i64 0, .int .i64 0, .int .i64 0, .int .i64 0, .int .i64 0] w6 by rw [← hw6]; exact (bx_only HB4.out hO5 (by omega)).far (p := ⟨w2.heap.size, 2, none⟩) (by show w.heap.size ≠ w2.heap.size; omega) (.int .i64 u))
      have O6 := Lib.hid (show Own mcK 78 (w.heap.size + 1) (.slice ad l.length cap) l w6 by rw [← hw6]; exact ownsRow_setCell_other o5 (own_ne_bxC o5 x5 (by decide)) _)
      rw [hw6] at hb6
      have C6 := Lib.hid (hC5.belowB hb6 (by omega))
      have N6 := Lib.hid ((HO4.out.trans hO5).transB (hb6.mono (Nat.le_succ _)))
      obtain ⟨g0, g1, g2, g3, g4, g5⟩ := x5.cells6
      have z := x5.warm 2
      clear hC5 hO5 x5 hb6 o5 HX4 HB4 Ho4 HC4 HO4 x6
      obtain ⟨t0, t1, t2, t3, t4, t5⟩ := X6.out.cells6
      obtain ⟨r0, r1, r2, r3, r4, r5⟩ := R6.out.cells6
      have y0 := R6.out.warm 0
      have y1 := R6.out.warm 1
      have y2 := R6.out.warm 2
      have y3 := R6.out.warm 3
      have y4 := R6.out.warm 4
      have y5 := R6.out.warm 5
      go_wp2_with fail
      refine bodyPost_ret (v := .agg #[.slice ad l.length cap, .int .i64 q, .int .i64 u, .int .i64 mr, .int .i64 ms, .int .i64 lm]) (by simp [results, Try.results53, go_sem, r0, r1, r2, r3, r4, r5]) rfl ?_
      exact DrewC.fin hD O6.out (Nat.zero_le _) Hl.out C6.out N6.out
    · go_wp2_with fail
      refine (pickLit D c [0, 13] 2 rfl (by omega) (by omega) _ HC4.out _ rfl).mono ?_
      rintro e w5 ⟨u, -, rfl, hC5, hO5⟩
      have x5 := bx_only HX4.out hO5 hcb
      have hb6 := (Below.refl (w.heap.size + 1) w5).setCell (p := ⟨w2.heap.size, 4, none⟩) hs2 (.int .i64 u)
      have o5 := own_only Ho4.out hO5 (by omega)
      obtain ⟨w6, hw6⟩ : ∃ w6, w5.setCell ⟨w2.heap.size, 4, none⟩ (.int .i64 u) = w6 := ⟨_, rfl⟩
      have x6 : Bx 28 w2.heap.size #[.slice ad l.length cap, .int .i64 q, .int .i64 mw, .int .i64 mr, .int .i64 u, .int .i64 lm] w6 := by rw [← hw6]; exact x5.set 4 (.int .i64 u)
      have X6 := Lib.hid x6
      have R6 := Lib.hid (show Bx 28 w.heap.size #[.slice none 0 0, .int .i64 0, .int .i64 0, .int .i64 0, .int .i64 0, .int .i64 0] w6 by rw [← hw6]; exact (bx_only HB4.out hO5 (by omega)).far (p := ⟨w2.heap.size, 4, none⟩) (by show w.heap.size ≠ w2.heap.size; omega) (.int .i64 u))
      have O6 := Lib.hid (show Own mcK 78 (w.heap.size + 1) (.slice ad l.length cap) l w6 by rw [← hw6]; exact ownsRow_setCell_other o5 (own_ne_bxC o5 x5 (by decide)) _)
      rw [hw6] at hb6
      have C6 := Lib.hid (hC5.belowB hb6 (by omega))
      have N6 := Lib.hid ((HO4.out.trans hO5).transB (hb6.mono (Nat.le_succ _)))
      obtain ⟨g0, g1, g2, g3, g4, g5⟩ := x5.cells6
      have z := x5.warm 4
      clear hC5 hO5 x5 hb6 o5 HX4 HB4 Ho4 HC4 HO4 x6
      obtain ⟨t0, t1, t2, t3, t4, t5⟩ := X6.out.cells6
      obtain ⟨r0, r1, r2, r3, r4, r5⟩ := R6.out.cells6
      have y0 := R6.out.warm 0
      have y1 := R6.out.warm 1
      have y2 := R6.out.warm 2
      have y3 := R6.out.warm 3
      have y4 := R6.out.warm 4
      have y5 := R6.out.warm 5
      go_wp2_with fail
      refine bodyPost_ret (v := .agg #[.slice ad l.length cap, .int .i64 q, .int .i64 mw, .int .i64 mr, .int .i64 u, .int .i64 lm]) (by simp [results, Try.results53, go_sem, r0, r1, r2, r3, r4, r5]) rfl ?_
      exact DrewC.fin hD O6.out (Nat.zero_le _) Hl.out C6.out N6.out
    · have o5 := Own.made mcK 78 (w.heap.size + 1) w4 (by have := HX4.out.lt; omega)
      have b5 := (Below.refl w4.heap.size w4).alloc (Nat.le_refl _) (Obj.cells #[] 78)
      have x5 := HX4.out.later b5
      have r5' := HB4.out.later b5
      have c5 := HC4.out.below b5
      have n5 := HO4.out.below2 b5
      obtain ⟨w5, hw5⟩ : ∃ w5, w4.alloc (Obj.cells #[] 78) = w5 := ⟨_, rfl⟩
      rw [hw5] at o5 b5 x5 r5' c5 n5
      have hb6 := (Below.refl (w.heap.size + 1) w5).setCell (p := ⟨w2.heap.size, 0, none⟩) hs2 (.slice (some ⟨w4.heap.size, 0, none⟩) 0 0)
      obtain ⟨w6, hw6⟩ : ∃ w6, w5.setCell ⟨w2.heap.size, 0, none⟩ (.slice (some ⟨w4.heap.size, 0, none⟩) 0 0) = w6 := ⟨_, rfl⟩
      have x6 : Bx 28 w2.heap.size #[.slice (some ⟨w4.heap.size, 0, none⟩) 0 0, .int .i64 q, .int .i64 mw, .int .i64 mr, .int .i64 ms, .int .i64 lm] w6 := by rw [← hw6]; exact x5.set 0 (.slice (some ⟨w4.heap.size, 0, none⟩) 0 0)
      have X6 := Lib.hid x6
      have R6 := Lib.hid (show Bx 28 w.heap.size #[.slice none 0 0, .int .i64 0, .int .i64 0, .int .i64 0, .int .i64 0, .int .i64 0] w6 by rw [← hw6]; exact r5'.far (p := ⟨w2.heap.size, 0, none⟩) (by show w.heap.size ≠ w2.heap.size; omega) (.slice (some ⟨w4.heap.size, 0, none⟩) 0 0))
      have O6 := Lib.hid (show Own mcK 78 (w.heap.size + 1) (.slice (some ⟨w4.heap.size, 0, none⟩) 0 0) [] w6 by rw [← hw6]; exact ownsRow_setCell_other o5 (own_ne_bxC o5 x5 (by decide)) _)
      rw [hw6] at hb6
      have C6 := Lib.hid (c5.belowB hb6 (by omega))
      have N6 := Lib.hid (n5.transB (hb6.mono (Nat.le_succ _)))
      obtain ⟨g0, g1, g2, g3, g4, g5⟩ := x5.cells6
      have z := x5.warm 0
      clear x5 r5' c5 n5 hb6 o5 b5 HX4 HB4 Ho4 HC4 HO4 x6
      obtain ⟨t0, t1, t2, t3, t4, t5⟩ := X6.out.cells6
      obtain ⟨r0, r1, r2, r3, r4, r5⟩ := R6.out.cells6
      have y0 := R6.out.warm 0
      have y1 := R6.out.warm 1
      have y2 := R6.out.warm 2
      have y3 := R6.out.warm 3
      have y4 := R6.out.warm 4
      have y5 := R6.out.warm 5
      go_wp2_with fail
      refine bodyPost_ret (v := .agg #[.slice (some ⟨w4.heap.size, 0, none⟩) 0 0, .int .i64 q, .int .i64 mw, .int .i64 mr, .int .i64 ms, .int .i64 lm]) (by simp [results, Try.results53, go_sem, r0, r1, r2, r3, r4, r5]) rfl ?_
      exact DrewC.fin hD O6.out (Nat.zero_le _) (Nat.zero_le _) C6.out N6.out
    · go_wp2_with fail
      refine (pickLit D c [-1, 4, 3] 3 rfl (by omega) (by omega) _ HC4.out _ rfl).mono ?_
      rintro e w5 ⟨u, -, rfl, hC5, hO5⟩
      have x5 := bx_only HX4.out hO5 hcb
      have hb6 := (Below.refl (w.heap.size + 1) w5).setCell (p := ⟨w2.heap.size, 3, none⟩) hs2 (.int .i64 u)
      have o5 := own_only Ho4.out hO5 (by omega)
      obtain ⟨w6, hw6⟩ : ∃ w6, w5.setCell ⟨w2.heap.size, 3, none⟩ (.int .i64 u) = w6 := ⟨_, rfl⟩
      have x6 : Bx 28 w2.heap.size #[.slice ad l.length cap, .int .i64 q, .int .i64 mw, .int .i64 u, .int .i64 ms, .int .i64 lm] w6 := by rw [← hw6]; exact x5.set 3 (.int .i64 u)
      have X6 := Lib.hid x6
      have R6 := Lib.hid (show Bx 28 w.heap.size #[.slice none 0 0, .int .i64 0, .int .i64 0, .int .i64 0, .int .i64 0, .int .i64 0] w6 by rw [← hw6]; exact (bx_only HB4.out hO5 (by omega)).far (p := ⟨w2.heap.size, 3, none⟩) (by show w.heap.size ≠ w2.heap.size; omega) (.int .i64 u))
      have O6 := Lib.hid (show Own mcK 78 (w.heap.size + 1) (.slice ad l.length cap) l w6 by rw [← hw6]; exact ownsRow_setCell_other o5 (own_ne_bxC o5 x5 (by decide)) _)
      rw [hw6] at hb6
      have C6 := Lib.hid (hC5.belowB hb6 (by omega))
      have N6 := Lib.hid ((HO4.out.trans hO5).transB (hb6.mono (Nat.le_succ _)))
      obtain ⟨g0, g1, g2, g3, g4, g5⟩ := x5.cells6
      have z := x5.warm 3
      clear hC5 hO5 x5 hb6 o5 HX4 HB4 Ho4 HC4 HO4 x6
      obtain ⟨t0, t1, t2, t3, t4, t5⟩ := X6.out.cells6
      obtain ⟨r0, r1, r2, r3, r4, r5⟩ := R6.out.cells6
      have y0 := R6.out.warm 0
      have y1 := R6.out.warm 1
      have y2 := R6.out.warm 2
      have y3 := R6.out.warm 3
      have y4 := R6.out.warm 4
      have y5 := R6.out.warm 5
      go_wp2_with fail
      refine bodyPost_ret (v := .agg #[.slice ad l.length cap, .int .i64 q, .int .i64 mw, .int .i64 u, .int .i64 ms, .int .i64 lm]) (by simp [results, Try.results53, go_sem, r0, r1, r2, r3, r4, r5]) rfl ?_
      exact DrewC.fin hD O6.out (Nat.zero_le _) Hl.out C6.out N6.out
end Go.Proofs.Ytddbhokfjdgabaa.Cur
