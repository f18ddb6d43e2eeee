
/-
  WrrBack and WrrPick of chapter 11's model. (Made by wip/genwrr3.py.)
-/
import Derived.Test.YtddbhokfjdgabaaWrr2
import Derived.Deep.RegionWith
import Derived.Deep.Cut
namespace Go.Proofs.Ytddbhokfjdgabaa.KD
open Go.RowKit Rows3 GR Num
set_option linter.unusedVariables false

theorem okWr_facts {a c : Int} {l : List (Int × Bool × Int × Int)} {q mw mr ms lm : Int} (h : okWr a c (l, q, mw, mr, ms, lm) = true) : okX (l, q, mw, mr, ms, lm) = true ∧ (0 ≤ a ∧ a < l.length) ∧ (0 ≤ c ∧ c ≤ turnW (l, q, mw, mr, ms, lm) a) := by
  unfold okWr at h
  rw [Bool.and_eq_true, Bool.and_eq_true, inB_iff, inB_iff] at h
  obtain ⟨h1, h2, h3⟩ := h
  have h2' : 0 ≤ a ∧ a ≤ (l.length : Int) - 1 := h2
  exact ⟨h1, by omega, h3⟩
theorem below_al3 (B : Nat) (w : World) (hB : B = w.heap.size) (o1 o2 o3 : Obj) : Below B w (((w.alloc o1).alloc o2).alloc o3) := by
  subst hB; exact (((Below.refl _ _).alloc (Nat.le_refl _) _).alloc (by simp) _).alloc (by simp; omega) _
theorem Bx.cells2 {T : TypeId} {b : Nat} {c0 c1 : Value} {w : World} (h : Bx T b #[c0, c1] w) : w.cell? ⟨b, 0, none⟩ = some c0 ∧ w.cell? ⟨b, 1, none⟩ = some c1 := ⟨h.cell 0 _ rfl, h.cell 1 _ rfl⟩
theorem sWrrOkIs (a c : Int) {cs : List Value} {l : List (Int × Bool × Int × Int)} {q mw mr ms lm : Int} {b : Bool} {w : World} (hb : okWr a c (l, q, mw, mr, ms, lm) = b) (hl : l.length ≤ 2000000) (h : confK.rd cs (l, q, mw, mr, ms, lm) w) :
    Calls Try.prog 13 #[.agg #[.int .i64 a, .int .i64 c], agg cs] w fun e w' => e = .returned (.bool b) ∧ Below w.heap.size w w' := hb ▸ specWrrOk _ a c (w0 := w) wrr_rd cs l q mw mr ms lm hl w h

set_option maxHeartbeats 8000000 in
set_option maxRecDepth 100000 in
theorem specWrrBack (who : Int) (ws : List Value) (a c : Int) {w0 : World} (hw : wrrK.rd ws (a, c) w0) (cs : List Value) (l : List (Int × Bool × Int × Int)) (q mw mr ms lm : Int) (hl : l.length ≤ 2000000) (w : World) (h : confK.rd cs (l, q, mw, mr, ms, lm) w) :
    Calls Try.prog 23 #[agg ws, agg cs, .int .i64 who] w (NewWrr (backR a c (l, q, mw, mr, ms, lm) who) w) := by
  obtain rfl := wrr_form hw
  have hr := h
  obtain ⟨a0, p0, rfl, hm⟩ := conf_form h
  have hsz : ∀ (w : World) o, (w.alloc o).heap.size = w.heap.size + 1 := fun w o => by simp
  have X := ((Bx.new 25 #[.int .i64 a, .int .i64 c] w).alloc (Obj.cells #[.slice a0 l.length p0, .int .i64 q, .int .i64 mw, .int .i64 mr, .int .i64 ms, .int .i64 lm] 28)).alloc (Obj.cells #[.int .i64 0, .int .i64 0] 25)
  have A := (Bx.new 28 #[.slice a0 l.length p0, .int .i64 q, .int .i64 mw, .int .i64 mr, .int .i64 ms, .int .i64 lm] (w.alloc (Obj.cells #[.int .i64 a, .int .i64 c] 25))).alloc (Obj.cells #[.int .i64 0, .int .i64 0] 25)
  have R := Bx.new 25 #[.int .i64 0, .int .i64 0] ((w.alloc (Obj.cells #[.int .i64 a, .int .i64 c] 25)).alloc (Obj.cells #[.slice a0 l.length p0, .int .i64 q, .int .i64 mw, .int .i64 mr, .int .i64 ms, .int .i64 lm] 28))
  rw [hsz] at A
  rw [hsz, hsz] at R
  have HX := Lib.hid X
  have HA := Lib.hid A
  have HZ := Lib.hid R
  have HB := Lib.hid (below_al3 _ w rfl (Obj.cells #[.int .i64 a, .int .i64 c] 25) (Obj.cells #[.slice a0 l.length p0, .int .i64 q, .int .i64 mw, .int .i64 mr, .int .i64 ms, .int .i64 lm] 28) (Obj.cells #[.int .i64 0, .int .i64 0] 25))
  have HR := Lib.hid hr
  have HL := Lib.hid hl
  clear X A R hsz hr hm h hl
  show Calls _ _ #[.agg #[.int .i64 a, .int .i64 c], .agg #[.slice a0 l.length p0, .int .i64 q, .int .i64 mw, .int .i64 mr, .int .i64 ms, .int .i64 lm], .int .i64 who] w _
  cases hok : okWr a c (l, q, mw, mr, ms, lm) with
  | false =>
    rw [show backR a c (l, q, mw, mr, ms, lm) who = (a, c) by unfold backR; rw [hok]; simp]
    have HO := Lib.hid hok
    clear hok
    go_enter Try.func23, Try.ntmps23
    go_wp2_with fail
    generalize ((w.alloc _).alloc _).alloc _ = y0 at HX HA HZ HB ⊢
    refine (sWrrOkIs a c HO.out HL.out (confK.rd_later HR.out HB.out)).mono ?_
    rintro e y1 ⟨rfl, hb⟩
    have HX1 := Lib.hid (HX.out.later hb)
    have HA1 := Lib.hid (HA.out.later hb)
    have HZ1 := Lib.hid (HZ.out.later hb)
    have HB1 := Lib.hid (HB.out.trans (hb.mono HB.out.size))
    clear HX HA HZ HB hb
    obtain ⟨x0, x1⟩ := Bx.cells2 HX1.out
    have xw0 := HX1.out.warm 0
    have xw1 := HX1.out.warm 1
    obtain ⟨g0, g1, g2, g3, g4, g5⟩ := HA1.out.cells6
    obtain ⟨r0, r1⟩ := Bx.cells2 HZ1.out
    have z0 := HZ1.out.warm 0
    have z1 := HZ1.out.warm 1
    go_wp2_with fail
    refine bodyPost_ret (v := .agg #[.int .i64 a, .int .i64 c]) (by simp [results, Try.results23, go_sem, r0, r1]) rfl ⟨[.int .i64 a, .int .i64 c], rfl, wrr_capz _ _ _ _, ((HB1.out.setCell (by simp; try omega) _).setCell (by simp; try omega) _)⟩
  | true =>
    obtain ⟨hx, ha, hc⟩ := okWr_facts hok
    have hbd := turnW_bd (l, q, mw, mr, ms, lm) a
    have HO := Lib.hid hok
    clear hok
    by_cases hwho : a = who
    · subst hwho
      obtain ⟨t, ht⟩ : ∃ t, turnW (l, q, mw, mr, ms, lm) a = t := ⟨_, rfl⟩
      have HT := Lib.hid ht
      rw [ht] at hc hbd
      have hbk : backR a c (l, q, mw, mr, ms, lm) a = (a, if t < c + 1 then t else c + 1) := by unfold backR; rw [HO.out, ht]; simp
      rw [hbk]
      clear hbk ht hx
      rcases (show c + 1 < t ∨ t = c + 1 ∨ t = c by omega) with h1 | rfl | rfl
      · rw [if_neg (by omega)]
        have hwr : IntKind.i64.wrap (c + 1) = c + 1 := by rw [IntKind.wrap_i64]; omega
        go_enter Try.func23, Try.ntmps23
        go_wp2_with fail
        generalize ((w.alloc _).alloc _).alloc _ = y0 at HX HA HZ HB ⊢
        refine (sWrrOkIs a c HO.out HL.out (confK.rd_later HR.out HB.out)).mono ?_
        rintro e y1 ⟨rfl, hb⟩
        have HX1 := Lib.hid (HX.out.later hb)
        have HA1 := Lib.hid (HA.out.later hb)
        have HZ1 := Lib.hid (HZ.out.later hb)
        have HB1 := Lib.hid (HB.out.trans (hb.mono HB.out.size))
        clear HX HA HZ HB hb
        obtain ⟨x0, x1⟩ := Bx.cells2 HX1.out
        have xw0 := HX1.out.warm 0
        have xw1 := HX1.out.warm 1
        obtain ⟨g0, g1, g2, g3, g4, g5⟩ := HA1.out.cells6
        obtain ⟨r0, r1⟩ := Bx.cells2 HZ1.out
        have z0 := HZ1.out.warm 0
        have z1 := HZ1.out.warm 1
        have HRy := Lib.hid (confK.rd_later HR.out HB1.out)
        go_wp2_with fail
        go_region_with (first
          | (go_at_call 24; refine (sTurnIs HT.out HL.out (by first | exact HRy.out | exact confK.rd_drew HRy.out)).mono ?_; rintro e y2 ⟨rfl, hb'⟩; have hb : Below y1.heap.size y1 y2 := (by first | exact hb' | exact ((Below.refl _ _).drew.trans hb')); clear hb'; have X2 := HX1.out.later hb; obtain ⟨v0, v1⟩ := Bx.cells2 X2; have vw0 := X2.warm 0; have vw1 := X2.warm 1))
        all_goals
          have Z2 := HZ1.out.later hb
          have HB2 := HB1.out.trans (hb.mono HB1.out.size)
          obtain ⟨q0, q1⟩ := Bx.cells2 Z2
          have qw0 := Z2.warm 0
          have qw1 := Z2.warm 1
          go_wp2_with fail
          obtain ⟨s0, s1⟩ := Bx.cells2 (show Bx 25 (w.heap.size + 1 + 1) #[.int .i64 a, .int .i64 (c + 1)] _ from ((Z2.far (p := ⟨w.heap.size, 1, none⟩) (by dsimp only; omega) (.int .i64 (c + 1))).set 0 (.int .i64 a)).set 1 (.int .i64 (c + 1)))
          refine bodyPost_ret (v := .agg #[.int .i64 a, .int .i64 (c + 1)]) (by simp [results, Try.results23, go_sem, s0, s1]) rfl ⟨[.int .i64 a, .int .i64 (c + 1)], rfl, wrr_capz _ _ _ _, ?_⟩
          first
            | exact (((HB2.setCell (by simp) _).setCell (by simp; omega) _).setCell (by simp; omega) _)
            | exact ((((HB2.setCell (by simp) _).drew).setCell (by simp; omega) _).setCell (by simp; omega) _)
            | exact ((((HB2.drew).setCell (by simp) _).setCell (by simp; omega) _).setCell (by simp; omega) _)
      · rw [if_neg (by omega)]
        have hwr : IntKind.i64.wrap (c + 1) = c + 1 := by rw [IntKind.wrap_i64]; omega
        go_enter Try.func23, Try.ntmps23
        go_wp2_with fail
        generalize ((w.alloc _).alloc _).alloc _ = y0 at HX HA HZ HB ⊢
        refine (sWrrOkIs a c HO.out HL.out (confK.rd_later HR.out HB.out)).mono ?_
        rintro e y1 ⟨rfl, hb⟩
        have HX1 := Lib.hid (HX.out.later hb)
        have HA1 := Lib.hid (HA.out.later hb)
        have HZ1 := Lib.hid (HZ.out.later hb)
        have HB1 := Lib.hid (HB.out.trans (hb.mono HB.out.size))
        clear HX HA HZ HB hb
        obtain ⟨x0, x1⟩ := Bx.cells2 HX1.out
        have xw0 := HX1.out.warm 0
        have xw1 := HX1.out.warm 1
        obtain ⟨g0, g1, g2, g3, g4, g5⟩ := HA1.out.cells6
        obtain ⟨r0, r1⟩ := Bx.cells2 HZ1.out
        have z0 := HZ1.out.warm 0
        have z1 := HZ1.out.warm 1
        have HRy := Lib.hid (confK.rd_later HR.out HB1.out)
        go_wp2_with fail
        go_region_with (first
          | (go_at_call 24; refine (sTurnIs HT.out HL.out (by first | exact HRy.out | exact confK.rd_drew HRy.out)).mono ?_; rintro e y2 ⟨rfl, hb'⟩; have hb : Below y1.heap.size y1 y2 := (by first | exact hb' | exact ((Below.refl _ _).drew.trans hb')); clear hb'; have X2 := HX1.out.later hb; obtain ⟨v0, v1⟩ := Bx.cells2 X2; have vw0 := X2.warm 0; have vw1 := X2.warm 1))
        all_goals
          have Z2 := HZ1.out.later hb
          have HB2 := HB1.out.trans (hb.mono HB1.out.size)
          obtain ⟨q0, q1⟩ := Bx.cells2 Z2
          have qw0 := Z2.warm 0
          have qw1 := Z2.warm 1
          go_wp2_with fail
          obtain ⟨s0, s1⟩ := Bx.cells2 (show Bx 25 (w.heap.size + 1 + 1) #[.int .i64 a, .int .i64 (c + 1)] _ from ((Z2.far (p := ⟨w.heap.size, 1, none⟩) (by dsimp only; omega) (.int .i64 (c + 1))).set 0 (.int .i64 a)).set 1 (.int .i64 (c + 1)))
          refine bodyPost_ret (v := .agg #[.int .i64 a, .int .i64 (c + 1)]) (by simp [results, Try.results23, go_sem, s0, s1]) rfl ⟨[.int .i64 a, .int .i64 (c + 1)], rfl, wrr_capz _ _ _ _, ?_⟩
          first
            | exact (((HB2.setCell (by simp) _).setCell (by simp; omega) _).setCell (by simp; omega) _)
            | exact ((((HB2.setCell (by simp) _).drew).setCell (by simp; omega) _).setCell (by simp; omega) _)
            | exact ((((HB2.drew).setCell (by simp) _).setCell (by simp; omega) _).setCell (by simp; omega) _)
      · rw [if_pos (by omega)]
        have hwr : IntKind.i64.wrap (t + 1) = t + 1 := by rw [IntKind.wrap_i64]; omega
        go_enter Try.func23, Try.ntmps23
        go_wp2_with fail
        generalize ((w.alloc _).alloc _).alloc _ = y0 at HX HA HZ HB ⊢
        refine (sWrrOkIs a t HO.out HL.out (confK.rd_later HR.out HB.out)).mono ?_
        rintro e y1 ⟨rfl, hb⟩
        have HX1 := Lib.hid (HX.out.later hb)
        have HA1 := Lib.hid (HA.out.later hb)
        have HZ1 := Lib.hid (HZ.out.later hb)
        have HB1 := Lib.hid (HB.out.trans (hb.mono HB.out.size))
        clear HX HA HZ HB hb
        obtain ⟨x0, x1⟩ := Bx.cells2 HX1.out
        have xw0 := HX1.out.warm 0
        have xw1 := HX1.out.warm 1
        obtain ⟨g0, g1, g2, g3, g4, g5⟩ := HA1.out.cells6
        obtain ⟨r0, r1⟩ := Bx.cells2 HZ1.out
        have z0 := HZ1.out.warm 0
        have z1 := HZ1.out.warm 1
        have HRy := Lib.hid (confK.rd_later HR.out HB1.out)
        go_wp2_with fail
        go_region_with (first
          | (go_at_call 24; refine (sTurnIs HT.out HL.out (by first | exact HRy.out | exact confK.rd_drew HRy.out)).mono ?_; rintro e y2 ⟨rfl, hb'⟩; have hb : Below y1.heap.size y1 y2 := (by first | exact hb' | exact ((Below.refl _ _).drew.trans hb')); clear hb'; have X2 := HX1.out.later hb; obtain ⟨v0, v1⟩ := Bx.cells2 X2; have vw0 := X2.warm 0; have vw1 := X2.warm 1))
        all_goals
          have Z2 := HZ1.out.later hb
          have HB2 := HB1.out.trans (hb.mono HB1.out.size)
          obtain ⟨q0, q1⟩ := Bx.cells2 Z2
          have qw0 := Z2.warm 0
          have qw1 := Z2.warm 1
          go_wp2_with fail
          obtain ⟨s0, s1⟩ := Bx.cells2 (show Bx 25 (w.heap.size + 1 + 1) #[.int .i64 a, .int .i64 t] _ from ((Z2.far (p := ⟨w.heap.size, 1, none⟩) (by dsimp only; omega) (.int .i64 t)).set 0 (.int .i64 a)).set 1 (.int .i64 t))
          refine bodyPost_ret (v := .agg #[.int .i64 a, .int .i64 t]) (by simp [results, Try.results23, go_sem, s0, s1]) rfl ⟨[.int .i64 a, .int .i64 t], rfl, wrr_capz _ _ _ _, ?_⟩
          first
            | exact (((HB2.setCell (by simp) _).setCell (by simp; omega) _).setCell (by simp; omega) _)
            | exact ((((HB2.setCell (by simp) _).drew).setCell (by simp; omega) _).setCell (by simp; omega) _)
            | exact ((((HB2.drew).setCell (by simp) _).setCell (by simp; omega) _).setCell (by simp; omega) _)
    · rw [show backR a c (l, q, mw, mr, ms, lm) who = (a, c) by unfold backR; rw [if_neg (fun h => hwho h.2)]]
      go_enter Try.func23, Try.ntmps23
      go_wp2_with fail
      generalize ((w.alloc _).alloc _).alloc _ = y0 at HX HA HZ HB ⊢
      refine (sWrrOkIs a c HO.out HL.out (confK.rd_later HR.out HB.out)).mono ?_
      rintro e y1 ⟨rfl, hb⟩
      have HX1 := Lib.hid (HX.out.later hb)
      have HA1 := Lib.hid (HA.out.later hb)
      have HZ1 := Lib.hid (HZ.out.later hb)
      have HB1 := Lib.hid (HB.out.trans (hb.mono HB.out.size))
      clear HX HA HZ HB hb
      obtain ⟨x0, x1⟩ := Bx.cells2 HX1.out
      have xw0 := HX1.out.warm 0
      have xw1 := HX1.out.warm 1
      obtain ⟨g0, g1, g2, g3, g4, g5⟩ := HA1.out.cells6
      obtain ⟨r0, r1⟩ := Bx.cells2 HZ1.out
      have z0 := HZ1.out.warm 0
      have z1 := HZ1.out.warm 1
      go_wp2_with fail
      refine bodyPost_ret (v := .agg #[.int .i64 a, .int .i64 c]) (by simp [results, Try.results23, go_sem, r0, r1]) rfl ⟨[.int .i64 a, .int .i64 c], rfl, wrr_capz _ _ _ _, ((HB1.out.setCell (by simp; try omega) _).setCell (by simp; try omega) _)⟩
end Go.Proofs.Ytddbhokfjdgabaa.KD
