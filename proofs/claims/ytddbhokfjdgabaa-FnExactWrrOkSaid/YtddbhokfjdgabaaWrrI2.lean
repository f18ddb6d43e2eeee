
/-
  WrrBack of the program. (Made by wip/genwrri.py.)
-/
import Derived.Test.YtddbhokfjdgabaaWrrI1
namespace Go.Proofs.Ytddbhokfjdgabaa.KD
open Go.RowKit Rows3 GR Num
set_option linter.unusedVariables false
theorem iWrrOkIs (a c : Int) {cs : List Value} {l : List (Int × Bool × Int × Int)} {q mw mr ms lm : Int} {b : Bool} {w : World} (hb : okWr a c (l, q, mw, mr, ms, lm) = b) (hl : l.length ≤ 2000000) (h : confK.rd cs (l, q, mw, mr, ms, lm) w) :
    Calls Try.prog 18 #[.agg #[.int .i64 a, .int .i64 c], agg cs] w fun e w' => e = .returned (.bool b) ∧ Below w.heap.size w w' := hb ▸ implWrrOk _ a c (w0 := w) wrr_rd cs l q mw mr ms lm hl w h

set_option maxHeartbeats 8000000 in
set_option maxRecDepth 100000 in
theorem implWrrBack (who : Int) (ws : List Value) (a c : Int) {w0 : World} (hw : wrrK.rd ws (a, c) w0) (cs : List Value) (l : List (Int × Bool × Int × Int)) (q mw mr ms lm : Int) (hl : l.length ≤ 2000000) (w : World) (h : confK.rd cs (l, q, mw, mr, ms, lm) w) :
    Calls Try.prog 14 #[agg ws, agg cs, .int .i64 who] w (NewWrr (backR a c (l, q, mw, mr, ms, lm) who) w) := by
  obtain rfl := wrr_form hw
  have hr := h
  obtain ⟨a0, p0, rfl, hm⟩ := conf_form h
  have hsz : ∀ (w : World) o, (w.alloc o).heap.size = w.heap.size + 1 := fun w o => by simp
  have X := ((Bx.new 25 #[.int .i64 a, .int .i64 c] w).alloc (Obj.cells #[.slice a0 l.length p0, .int .i64 q, .int .i64 mw, .int .i64 mr, .int .i64 ms, .int .i64 lm] 28)).alloc (Obj.cells #[.int .i64 0, .int .i64 0] 25)
  have A := (Bx.new 28 #[.slice a0 l.length p0, .int .i64 q, .int .i64 mw, .int .i64 mr, .int .i64 ms, .int .i64 lm] (w.alloc (Obj.cells #[.int .i64 a, .int .i64 c] 25))).alloc (Obj.cells #[.int .i64 0, .int .i64 0] 25)
  have R := Bx.new 25 #[.int .i64 0, .int .i64 0] ((w.alloc (Obj.cells #[.int .i64 a, .int .i64 c] 25)).alloc (Obj.cells #[.slice a0 l.length p0, .int .i64 q, .int .i64 mw, .int .i64 mr, .int .i64 ms, .int .i64 lm] 28))
  rw [hsz] at A
  rw [hsz, hsz] at R
  have HX := Lib.hid X
  have HA := Lib.hid A
  have HZ := Lib.hid R
  have HB := Lib.hid (below_al3 _ w rfl (Obj.cells #[.int .i64 a, .int .i64 c] 25) (Obj.cells #[.slice a0 l.length p0, .int .i64 q, .int .i64 mw, .int .i64 mr, .int .i64 ms, .int .i64 lm] 28) (Obj.cells #[.int .i64 0, .int .i64 0] 25))
  have HR := Lib.hid hr
  have HL := Lib.hid hl
  clear X A R hsz hr hm h hl
  show Calls _ _ #[.agg #[.int .i64 a, .int .i64 c], .agg #[.slice a0 l.length p0, .int .i64 q, .int .i64 mw, .int .i64 mr, .int .i64 ms, .int .i64 lm], .int .i64 who] w _
  obtain ⟨t, ht⟩ : ∃ t, turnW (l, q, mw, mr, ms, lm) who = t := ⟨_, rfl⟩
  have hbd := turnW_bd (l, q, mw, mr, ms, lm) who
  rw [ht] at hbd
  have HT := Lib.hid ht
  clear ht
  cases hok : okWr a c (l, q, mw, mr, ms, lm) with
  | false =>
    rw [show backR a c (l, q, mw, mr, ms, lm) who = (a, c) by unfold backR; rw [hok]; simp]
    have HO := Lib.hid hok
    clear hok
    go_enter Try.func14, Try.ntmps14
    go_wp2_with fail
    generalize ((w.alloc _).alloc _).alloc _ = y0 at HX HA HZ HB ⊢
    obtain ⟨e0, e1⟩ := Bx.cells2 HX.out
    obtain ⟨e2, e3, e4, e5, e6, e7⟩ := HA.out.cells6
    have x0 := cell_regrown e0
    have x1 := cell_regrown e1
    have g0 := cell_regrown e2
    have g1 := cell_regrown e3
    have g2 := cell_regrown e4
    have g3 := cell_regrown e5
    have g4 := cell_regrown e6
    have g5 := cell_regrown e7
    clear e0 e1 e2 e3 e4 e5 e6 e7
    refine wp_region_quiet_below (by kernel_rfl) (by kernel_rfl) ?_
    repeat (go_big_quiet_step (first
      | (go_at_call 18; exact Calls.regrown_of (iWrrOkIs a c HO.out HL.out (confK.rd_later HR.out (HB.out.trans ((below_regrown _ _ _).mono HB.out.size)))))
      | (go_at_call 25; exact Calls.regrown_of (iTurnIs HT.out HL.out (confK.rd_later HR.out (HB.out.trans ((below_regrown _ _ _).mono HB.out.size)))))))
    refine wpQuiet_nil ?_
    rintro _ ⟨qq, rfl⟩
    have hb := below_regrown y0 qq.d qq.os
    generalize Sort.grow (redrawn y0 qq.d) qq.os = y1 at hb ⊢
    have HX1 := Lib.hid (HX.out.later hb)
    have HZ1 := Lib.hid (HZ.out.later hb)
    have HB1 := Lib.hid (HB.out.trans (hb.mono HB.out.size))
    clear HX HA HZ HB hb x0 x1 g0 g1 g2 g3 g4 g5
    obtain ⟨x0, x1⟩ := Bx.cells2 HX1.out
    have xw0 := HX1.out.warm 0
    have xw1 := HX1.out.warm 1
    obtain ⟨r0, r1⟩ := Bx.cells2 HZ1.out
    have z0 := HZ1.out.warm 0
    have z1 := HZ1.out.warm 1
    go_wp2_with fail
    refine bodyPost_ret (v := .agg #[.int .i64 a, .int .i64 c]) (by simp [results, Try.results14, go_sem, r0, r1]) rfl ⟨[.int .i64 a, .int .i64 c], rfl, wrr_capz _ _ _ _, ((HB1.out.setCell (by simp; try omega) _).setCell (by simp; try omega) _)⟩
  | true =>
    obtain ⟨hx, ha, hc⟩ := okWr_facts hok
    have HO := Lib.hid hok
    clear hok
    by_cases hwho : a = who
    · subst hwho
      rw [HT.out] at hc
      have hbk : backR a c (l, q, mw, mr, ms, lm) a = (a, if t < c + 1 then t else c + 1) := by unfold backR; rw [HO.out, HT.out]; simp
      rw [hbk]
      clear hbk hx
      by_cases hct : c < t
      · rw [if_neg (by omega)]
        have hlt : decide (c < t) = true := by simp [hct]
        go_enter Try.func14, Try.ntmps14
        go_wp2_with fail
        generalize ((w.alloc _).alloc _).alloc _ = y0 at HX HA HZ HB ⊢
        obtain ⟨e0, e1⟩ := Bx.cells2 HX.out
        obtain ⟨e2, e3, e4, e5, e6, e7⟩ := HA.out.cells6
        have x0 := cell_regrown e0
        have x1 := cell_regrown e1
        have g0 := cell_regrown e2
        have g1 := cell_regrown e3
        have g2 := cell_regrown e4
        have g3 := cell_regrown e5
        have g4 := cell_regrown e6
        have g5 := cell_regrown e7
        clear e0 e1 e2 e3 e4 e5 e6 e7
        refine wp_region_quiet_below (by kernel_rfl) (by kernel_rfl) ?_
        repeat (go_big_quiet_step (first
          | (go_at_call 18; exact Calls.regrown_of (iWrrOkIs a c HO.out HL.out (confK.rd_later HR.out (HB.out.trans ((below_regrown _ _ _).mono HB.out.size)))))
          | (go_at_call 25; exact Calls.regrown_of (iTurnIs HT.out HL.out (confK.rd_later HR.out (HB.out.trans ((below_regrown _ _ _).mono HB.out.size)))))))
        refine wpQuiet_nil ?_
        rintro _ ⟨qq, rfl⟩
        have hb := below_regrown y0 qq.d qq.os
        generalize Sort.grow (redrawn y0 qq.d) qq.os = y1 at hb ⊢
        have HX1 := Lib.hid (HX.out.later hb)
        have HZ1 := Lib.hid (HZ.out.later hb)
        have HB1 := Lib.hid (HB.out.trans (hb.mono HB.out.size))
        clear HX HA HZ HB hb x0 x1 g0 g1 g2 g3 g4 g5
        obtain ⟨x0, x1⟩ := Bx.cells2 HX1.out
        have xw0 := HX1.out.warm 0
        have xw1 := HX1.out.warm 1
        obtain ⟨r0, r1⟩ := Bx.cells2 HZ1.out
        have z0 := HZ1.out.warm 0
        have z1 := HZ1.out.warm 1
        go_wp2_with fail
        obtain ⟨s0, s1⟩ := Bx.cells2 (show Bx 25 (w.heap.size + 1 + 1) #[.int .i64 a, .int .i64 (c + 1)] _ from ((HZ1.out.far (p := ⟨w.heap.size, 1, none⟩) (by dsimp only; omega) (.int .i64 (c + 1))).set 0 (.int .i64 a)).set 1 (.int .i64 (c + 1)))
        refine bodyPost_ret (v := .agg #[.int .i64 a, .int .i64 (c + 1)]) (by simp [results, Try.results14, go_sem, s0, s1]) rfl ⟨[.int .i64 a, .int .i64 (c + 1)], rfl, wrr_capz _ _ _ _, ?_⟩
        exact (((HB1.out.setCell (by simp) _).setCell (by simp; omega) _).setCell (by simp; omega) _)
      · obtain rfl : c = t := by omega
        rw [if_pos (by omega)]
        have hlt : decide (c < c) = false := by simp
        go_enter Try.func14, Try.ntmps14
        go_wp2_with fail
        generalize ((w.alloc _).alloc _).alloc _ = y0 at HX HA HZ HB ⊢
        obtain ⟨e0, e1⟩ := Bx.cells2 HX.out
        obtain ⟨e2, e3, e4, e5, e6, e7⟩ := HA.out.cells6
        have x0 := cell_regrown e0
        have x1 := cell_regrown e1
        have g0 := cell_regrown e2
        have g1 := cell_regrown e3
        have g2 := cell_regrown e4
        have g3 := cell_regrown e5
        have g4 := cell_regrown e6
        have g5 := cell_regrown e7
        clear e0 e1 e2 e3 e4 e5 e6 e7
        refine wp_region_quiet_below (by kernel_rfl) (by kernel_rfl) ?_
        repeat (go_big_quiet_step (first
          | (go_at_call 18; exact Calls.regrown_of (iWrrOkIs a c HO.out HL.out (confK.rd_later HR.out (HB.out.trans ((below_regrown _ _ _).mono HB.out.size)))))
          | (go_at_call 25; exact Calls.regrown_of (iTurnIs HT.out HL.out (confK.rd_later HR.out (HB.out.trans ((below_regrown _ _ _).mono HB.out.size)))))))
        refine wpQuiet_nil ?_
        rintro _ ⟨qq, rfl⟩
        have hb := below_regrown y0 qq.d qq.os
        generalize Sort.grow (redrawn y0 qq.d) qq.os = y1 at hb ⊢
        have HX1 := Lib.hid (HX.out.later hb)
        have HZ1 := Lib.hid (HZ.out.later hb)
        have HB1 := Lib.hid (HB.out.trans (hb.mono HB.out.size))
        clear HX HA HZ HB hb x0 x1 g0 g1 g2 g3 g4 g5
        obtain ⟨x0, x1⟩ := Bx.cells2 HX1.out
        have xw0 := HX1.out.warm 0
        have xw1 := HX1.out.warm 1
        obtain ⟨r0, r1⟩ := Bx.cells2 HZ1.out
        have z0 := HZ1.out.warm 0
        have z1 := HZ1.out.warm 1
        go_wp2_with fail
        refine bodyPost_ret (v := .agg #[.int .i64 a, .int .i64 c]) (by simp [results, Try.results14, go_sem, r0, r1]) rfl ⟨[.int .i64 a, .int .i64 c], rfl, wrr_capz _ _ _ _, ((HB1.out.setCell (by simp; try omega) _).setCell (by simp; try omega) _)⟩
    · rw [show backR a c (l, q, mw, mr, ms, lm) who = (a, c) by unfold backR; rw [if_neg (fun h => hwho h.2)]]
      have hne : (who == a) = false := by simp; omega
      go_enter Try.func14, Try.ntmps14
      go_wp2_with fail
      generalize ((w.alloc _).alloc _).alloc _ = y0 at HX HA HZ HB ⊢
      obtain ⟨e0, e1⟩ := Bx.cells2 HX.out
      obtain ⟨e2, e3, e4, e5, e6, e7⟩ := HA.out.cells6
      have x0 := cell_regrown e0
      have x1 := cell_regrown e1
      have g0 := cell_regrown e2
      have g1 := cell_regrown e3
      have g2 := cell_regrown e4
      have g3 := cell_regrown e5
      have g4 := cell_regrown e6
      have g5 := cell_regrown e7
      clear e0 e1 e2 e3 e4 e5 e6 e7
      refine wp_region_quiet_below (by kernel_rfl) (by kernel_rfl) ?_
      repeat (go_big_quiet_step (first
        | (go_at_call 18; exact Calls.regrown_of (iWrrOkIs a c HO.out HL.out (confK.rd_later HR.out (HB.out.trans ((below_regrown _ _ _).mono HB.out.size)))))
        | (go_at_call 25; exact Calls.regrown_of (iTurnIs HT.out HL.out (confK.rd_later HR.out (HB.out.trans ((below_regrown _ _ _).mono HB.out.size)))))))
      refine wpQuiet_nil ?_
      rintro _ ⟨qq, rfl⟩
      have hb := below_regrown y0 qq.d qq.os
      generalize Sort.grow (redrawn y0 qq.d) qq.os = y1 at hb ⊢
      have HX1 := Lib.hid (HX.out.later hb)
      have HZ1 := Lib.hid (HZ.out.later hb)
      have HB1 := Lib.hid (HB.out.trans (hb.mono HB.out.size))
      clear HX HA HZ HB hb x0 x1 g0 g1 g2 g3 g4 g5
      obtain ⟨x0, x1⟩ := Bx.cells2 HX1.out
      have xw0 := HX1.out.warm 0
      have xw1 := HX1.out.warm 1
      obtain ⟨r0, r1⟩ := Bx.cells2 HZ1.out
      have z0 := HZ1.out.warm 0
      have z1 := HZ1.out.warm 1
      go_wp2_with fail
      refine bodyPost_ret (v := .agg #[.int .i64 a, .int .i64 c]) (by simp [results, Try.results14, go_sem, r0, r1]) rfl ⟨[.int .i64 a, .int .i64 c], rfl, wrr_capz _ _ _ _, ((HB1.out.setCell (by simp; try omega) _).setCell (by simp; try omega) _)⟩
end Go.Proofs.Ytddbhokfjdgabaa.KD
