
/-
  TurnOf and WrrOk of the program. (Made by wip/genwrri.py.)
-/
import Derived.Test.YtdhaelaoackfkaaGreatGW13
import Derived.Test.YtdhaelaoackfkaaGreatIsM
namespace Go.Proofs.YtdhaelaoackfkaaGreat.KD
open Go.RowKit Rows3 GR Num
set_option linter.unusedVariables false

set_option maxRecDepth 100000 in
theorem implTurn (who : Int) (cs : List Value) (l : List (Int × Bool × Int × Int)) (q mw mr ms lm : Int) (hl : l.length ≤ 2000000) (w : World) (h : confK.rd cs (l, q, mw, mr, ms, lm) w) :
    Calls Tryz.prog 98 #[agg cs, .int .i64 who] w fun e w' => e = .returned (.int .i64 (turnW (l, q, mw, mr, ms, lm) who)) ∧ Below w.heap.size w w' := by
  have hr := h
  obtain ⟨a0, p0, rfl, hm⟩ := conf_form h
  have HR := Lib.hid hr
  have HM := Lib.hid hm
  have A := Bx.new 43 #[.slice a0 l.length p0, .int .i64 q, .int .i64 mw, .int .i64 mr, .int .i64 ms, .int .i64 lm] w
  have hb0 := (Below.refl w.heap.size w).alloc (Nat.le_refl _) (Obj.cells #[.slice a0 l.length p0, .int .i64 q, .int .i64 mw, .int .i64 mr, .int .i64 ms, .int .i64 lm] 43)
  have HA := Lib.hid A
  have HB := Lib.hid hb0
  clear A hb0 hr hm h
  have HL := Lib.hid hl
  show Calls _ _ #[.agg #[.slice a0 l.length p0, .int .i64 q, .int .i64 mw, .int .i64 mr, .int .i64 ms, .int .i64 lm], .int .i64 who] w _
  obtain ⟨ok, hok⟩ : ∃ ok, okX (l, q, mw, mr, ms, lm) = ok := ⟨_, rfl⟩
  have HO := Lib.hid hok
  go_enter Tryz.func98, Tryz.ntmps98
  go_wp2_with fail
  generalize w.alloc (Obj.cells #[.slice a0 l.length p0, .int .i64 q, .int .i64 mw, .int .i64 mr, .int .i64 ms, .int .i64 lm] 43) = y0 at HA HB ⊢
  refine (implConfX _ l q mw mr ms lm HL.out _ (confK.rd_later HR.out HB.out)).mono ?_
  rintro e y1 ⟨rfl, hb⟩
  rw [HO.out]
  have HA1 := Lib.hid (HA.out.later hb)
  have HB1 := Lib.hid (HB.out.trans (hb.mono HB.out.size))
  obtain ⟨g0, g1, g2, g3, g4, g5⟩ := HA1.out.cells6
  clear HA HB hb hok
  cases ok with
  | false =>
    have HE := Lib.hid (turnW_bad (c := (l, q, mw, mr, ms, lm)) (who := who) (by rw [HO.out]; simp))
    go_wp2_with fail
    go_ret
    exact ⟨by rw [HE.out]; rfl, HB1.out⟩
  | true =>
    obtain ⟨hlen, hq, hw⟩ := confX_facts HO.out
    by_cases hin : 0 ≤ who ∧ who < l.length
    · obtain ⟨k, rfl⟩ : ∃ k : Nat, who = k := ⟨who.toNat, by omega⟩
      have hi := Lib.hid (inB_yes (x := (k : Int)) (lo := 0) (hi := (l.length : Int) - 1) (by omega) (by omega))
      obtain ⟨x, hx⟩ : ∃ x, l[k]? = some x := ⟨_, List.getElem?_eq_getElem (by omega)⟩
      have HE := Lib.hid (turnW_at (c := (l, q, mw, mr, ms, lm)) HO.out hx)
      have hxw := hw x (List.mem_of_getElem? hx)
      obtain ⟨b, o, rfl, hbl, hc⟩ := conf_at HM.out hx
      have hmb := mul_bd (A := 4) (B := 4) (a := x.1) (b := q) (by omega) hxw.2 (by omega) hq.2
      clear hw hx
      have hin' : (0 : Int) ≤ (k : Int) ∧ (k : Int) < ((l.length : Nat) : Int) := hin
      generalize x.1 = xw at hc hmb hxw HE
      go_wp2_with fail
      refine (isMaster_is hi.out (by omega) _ _ _ _ _ _ _ _).mono ?_
      rintro e y2 ⟨rfl, hb⟩
      have HA2 := Lib.hid (HA1.out.later hb)
      have HB2 := Lib.hid (HB1.out.trans (hb.mono HB1.out.size))
      rw [← HB2.out.cell (p := ⟨b, o + k * 4, none⟩) hbl] at hc
      clear HA1 HB1 hb g0 g1 g2 g3 g4 g5
      obtain ⟨g0, g1, g2, g3, g4, g5⟩ := HA2.out.cells6
      go_wp2_with fail
      go_quiet (fail)
      go_wp2
      go_ret
      exact ⟨by rw [HE.out]; rfl, below_drewN HB2.out _⟩
    · have hi := Lib.hid (inB_no (x := who) (lo := 0) (hi := (l.length : Int) - 1) (by omega))
      have HE := Lib.hid (turnW_bad (c := (l, q, mw, mr, ms, lm)) (who := who) (by rintro ⟨_, h1, h2⟩; exact hin ⟨h1, h2⟩))
      go_wp2_with fail
      refine (isMaster_is hi.out (by omega) _ _ _ _ _ _ _ _).mono ?_
      rintro e y2 ⟨rfl, hb⟩
      have HA2 := Lib.hid (HA1.out.later hb)
      have HB2 := Lib.hid (HB1.out.trans (hb.mono HB1.out.size))
      clear HA1 HB1 hb g0 g1 g2 g3 g4 g5
      obtain ⟨g0, g1, g2, g3, g4, g5⟩ := HA2.out.cells6
      go_wp2_with fail
      go_ret
      exact ⟨by rw [HE.out]; rfl, HB2.out⟩

theorem iConfIs {cs : List Value} {l : List (Int × Bool × Int × Int)} {q mw mr ms lm : Int} {b : Bool} {w : World} (hb : okX (l, q, mw, mr, ms, lm) = b) (hl : l.length ≤ 2000000) (h : confK.rd cs (l, q, mw, mr, ms, lm) w) :
    Calls Tryz.prog 68 #[agg cs] w fun e w' => e = .returned (.bool b) ∧ Below w.heap.size w w' := hb ▸ implConfX cs l q mw mr ms lm hl w h
theorem iTurnIs {cs : List Value} {l : List (Int × Bool × Int × Int)} {q mw mr ms lm who t : Int} {w : World} (ht : turnW (l, q, mw, mr, ms, lm) who = t) (hl : l.length ≤ 2000000) (h : confK.rd cs (l, q, mw, mr, ms, lm) w) :
    Calls Tryz.prog 98 #[agg cs, .int .i64 who] w fun e w' => e = .returned (.int .i64 t) ∧ Below w.heap.size w w' := ht ▸ implTurn who cs l q mw mr ms lm hl w h
theorem within_isC {x lo hi : Int} {b : Bool} (h : inB x lo hi = b) (w : World) :
    Calls Tryz.prog 69 #[.int .i64 x, .int .i64 lo, .int .i64 hi] w fun e w' => e = .returned (.bool b) ∧ Below w.heap.size w w' :=
  (within_is h w).mono fun _ _ ⟨h1, h2⟩ => ⟨h1, h2 ▸ Below.refl _ _⟩
set_option maxRecDepth 100000 in
theorem implWrrOk (ws : List Value) (a c : Int) {w0 : World} (hw : wrrK.rd ws (a, c) w0) (cs : List Value) (l : List (Int × Bool × Int × Int)) (q mw mr ms lm : Int) (hl : l.length ≤ 2000000) (w : World) (h : confK.rd cs (l, q, mw, mr, ms, lm) w) :
    Calls Tryz.prog 70 #[agg ws, agg cs] w fun e w' => e = .returned (.bool (okWr a c (l, q, mw, mr, ms, lm))) ∧ Below w.heap.size w w' := by
  obtain rfl := wrr_form hw
  have hr := h
  obtain ⟨a0, p0, rfl, hm⟩ := conf_form h
  have hsz : ∀ (w : World) o, (w.alloc o).heap.size = w.heap.size + 1 := fun w o => by simp
  have X := (Bx.new 45 #[.int .i64 a, .int .i64 c] w).alloc (Obj.cells #[.slice a0 l.length p0, .int .i64 q, .int .i64 mw, .int .i64 mr, .int .i64 ms, .int .i64 lm] 43)
  have A := Bx.new 43 #[.slice a0 l.length p0, .int .i64 q, .int .i64 mw, .int .i64 mr, .int .i64 ms, .int .i64 lm] (w.alloc (Obj.cells #[.int .i64 a, .int .i64 c] 45))
  rw [hsz] at A
  have x0 := cell_regrown (X.cell 0 _ rfl)
  have x1 := cell_regrown (X.cell 1 _ rfl)
  have g0 := cell_regrown (A.cell 0 _ rfl)
  have g1 := cell_regrown (A.cell 1 _ rfl)
  have g2 := cell_regrown (A.cell 2 _ rfl)
  have g3 := cell_regrown (A.cell 3 _ rfl)
  have g4 := cell_regrown (A.cell 4 _ rfl)
  have g5 := cell_regrown (A.cell 5 _ rfl)
  have HB := Lib.hid (((Below.refl w.heap.size w).alloc (Nat.le_refl _) (Obj.cells #[.int .i64 a, .int .i64 c] 45)).alloc (by simp) (Obj.cells #[.slice a0 l.length p0, .int .i64 q, .int .i64 mw, .int .i64 mr, .int .i64 ms, .int .i64 lm] 43))
  have HR := Lib.hid hr
  have HL := Lib.hid hl
  have hlb := hl
  clear X A hsz hr hm h hl
  show Calls _ _ #[.agg #[.int .i64 a, .int .i64 c], .agg #[.slice a0 l.length p0, .int .i64 q, .int .i64 mw, .int .i64 mr, .int .i64 ms, .int .i64 lm]] w _
  cases hok : okX (l, q, mw, mr, ms, lm) with
  | false =>
    have HO := Lib.hid hok
    have HI := Lib.hid (show inB a 0 ((l.length : Int) - 1) = inB a 0 ((l.length : Int) - 1) from rfl)
    have HJ := HI
    have HT := Lib.hid (show turnW (l, q, mw, mr, ms, lm) a = turnW (l, q, mw, mr, ms, lm) a from rfl)
    have HE := Lib.hid (show okWr a c (l, q, mw, mr, ms, lm) = false by unfold okWr; rw [hok]; rfl)
    clear hok
    go_enter Tryz.func70, Tryz.ntmps70
    go_wp2_with fail
    generalize (w.alloc _).alloc _ = y0 at x0 x1 g0 g1 g2 g3 g4 g5 HB ⊢
    refine wp_region_quiet_below (by kernel_rfl) (by kernel_rfl) ?_
    repeat (go_big_quiet_step (first
      | (go_at_call 68; exact Calls.regrown_of (iConfIs HO.out HL.out (confK.rd_later HR.out (HB.out.trans ((below_regrown _ _ _).mono HB.out.size)))))
      | (go_at_call 98; exact Calls.regrown_of (iTurnIs HT.out HL.out (confK.rd_later HR.out (HB.out.trans ((below_regrown _ _ _).mono HB.out.size)))))
      | (go_at_call 71; with_reducible exact Calls.regrown_of (isMaster_is HI.out HL.out _ _ _ _ _ _ _ _))
      | (go_at_call 69; with_reducible exact Calls.regrown_of (within_isC HJ.out _))))
    refine wpQuiet_nil ?_
    rintro _ ⟨q, rfl⟩
    have hq := below_regrown y0 q.d q.os
    have HB1 := Lib.hid (HB.out.trans (hq.mono HB.out.size))
    clear hq
    go_wp2
    go_ret
    exact ⟨by rw [HE.out]; rfl, HB1.out⟩
  | true =>
    have HO := Lib.hid hok
    have hbd := turnW_bd (l, q, mw, mr, ms, lm) a
    obtain ⟨t, ht⟩ : ∃ t, turnW (l, q, mw, mr, ms, lm) a = t := ⟨_, rfl⟩
    have HT := Lib.hid ht
    rw [ht] at hbd
    cases hi : inB a 0 ((l.length : Int) - 1) with
    | false =>
      have HI := Lib.hid hi
      have HJ := HI
      have HE := Lib.hid (show okWr a c (l, q, mw, mr, ms, lm) = false by unfold okWr; rw [hok]; show (true && (inB a 0 ((l.length : Int) - 1) && _)) = false; rw [hi]; rfl)
      clear hok hi ht
      go_enter Tryz.func70, Tryz.ntmps70
      go_wp2_with fail
      generalize (w.alloc _).alloc _ = y0 at x0 x1 g0 g1 g2 g3 g4 g5 HB ⊢
      refine wp_region_quiet_below (by kernel_rfl) (by kernel_rfl) ?_
      repeat (go_big_quiet_step (first
        | (go_at_call 68; exact Calls.regrown_of (iConfIs HO.out HL.out (confK.rd_later HR.out (HB.out.trans ((below_regrown _ _ _).mono HB.out.size)))))
        | (go_at_call 98; exact Calls.regrown_of (iTurnIs HT.out HL.out (confK.rd_later HR.out (HB.out.trans ((below_regrown _ _ _).mono HB.out.size)))))
        | (go_at_call 71; with_reducible exact Calls.regrown_of (isMaster_is HI.out HL.out _ _ _ _ _ _ _ _))
        | (go_at_call 69; with_reducible exact Calls.regrown_of (within_isC HJ.out _))))
      refine wpQuiet_nil ?_
      rintro _ ⟨q, rfl⟩
      have hq := below_regrown y0 q.d q.os
      have HB1 := Lib.hid (HB.out.trans (hq.mono HB.out.size))
      clear hq
      go_wp2
      go_ret
      exact ⟨by rw [HE.out]; rfl, HB1.out⟩
    | true =>
      cases hj : inB c 0 t with
      | false =>
        have HI := Lib.hid hi
        have HJ := Lib.hid hj
        have HE := Lib.hid (show okWr a c (l, q, mw, mr, ms, lm) = false by unfold okWr; rw [hok, ht]; show (true && (inB a 0 ((l.length : Int) - 1) && _)) = false; rw [hi, hj]; rfl)
        clear hok hi hj ht
        go_enter Tryz.func70, Tryz.ntmps70
        go_wp2_with fail
        generalize (w.alloc _).alloc _ = y0 at x0 x1 g0 g1 g2 g3 g4 g5 HB ⊢
        refine wp_region_quiet_below (by kernel_rfl) (by kernel_rfl) ?_
        repeat (go_big_quiet_step (first
          | (go_at_call 68; exact Calls.regrown_of (iConfIs HO.out HL.out (confK.rd_later HR.out (HB.out.trans ((below_regrown _ _ _).mono HB.out.size)))))
          | (go_at_call 98; exact Calls.regrown_of (iTurnIs HT.out HL.out (confK.rd_later HR.out (HB.out.trans ((below_regrown _ _ _).mono HB.out.size)))))
          | (go_at_call 71; with_reducible exact Calls.regrown_of (isMaster_is HI.out HL.out _ _ _ _ _ _ _ _))
          | (go_at_call 69; with_reducible exact Calls.regrown_of (within_isC HJ.out _))))
        refine wpQuiet_nil ?_
        rintro _ ⟨q, rfl⟩
        have hq := below_regrown y0 q.d q.os
        have HB1 := Lib.hid (HB.out.trans (hq.mono HB.out.size))
        clear hq
        go_wp2
        go_ret
        exact ⟨by rw [HE.out]; rfl, HB1.out⟩
      | true =>
        have HI := Lib.hid hi
        have HJ := Lib.hid hj
        have HE := Lib.hid (show okWr a c (l, q, mw, mr, ms, lm) = true by unfold okWr; rw [hok, ht]; show (true && (inB a 0 ((l.length : Int) - 1) && _)) = true; rw [hi, hj]; rfl)
        clear hok hi hj ht
        go_enter Tryz.func70, Tryz.ntmps70
        go_wp2_with fail
        generalize (w.alloc _).alloc _ = y0 at x0 x1 g0 g1 g2 g3 g4 g5 HB ⊢
        refine wp_region_quiet_below (by kernel_rfl) (by kernel_rfl) ?_
        repeat (go_big_quiet_step (first
          | (go_at_call 68; exact Calls.regrown_of (iConfIs HO.out HL.out (confK.rd_later HR.out (HB.out.trans ((below_regrown _ _ _).mono HB.out.size)))))
          | (go_at_call 98; exact Calls.regrown_of (iTurnIs HT.out HL.out (confK.rd_later HR.out (HB.out.trans ((below_regrown _ _ _).mono HB.out.size)))))
          | (go_at_call 71; with_reducible exact Calls.regrown_of (isMaster_is HI.out HL.out _ _ _ _ _ _ _ _))
          | (go_at_call 69; with_reducible exact Calls.regrown_of (within_isC HJ.out _))))
        refine wpQuiet_nil ?_
        rintro _ ⟨q, rfl⟩
        have hq := below_regrown y0 q.d q.os
        have HB1 := Lib.hid (HB.out.trans (hq.mono HB.out.size))
        clear hq
        go_wp2
        go_ret
        exact ⟨by rw [HE.out]; rfl, HB1.out⟩
end Go.Proofs.YtdhaelaoackfkaaGreat.KD
