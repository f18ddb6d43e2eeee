/-
  Several texts in one: Wrr2, Wrr3, Wrr4.
-/
import Derived.Test.YtdhaelaoackfkaaGreatWrr1
import Derived.Lib.QuietBelow
import Derived.Deep.QuietTactic
import Derived.Deep.RegionWith
import Derived.Deep.Cut
namespace Go.Proofs.YtdhaelaoackfkaaGreat.KD
open Go.RowKit Rows3 GR Num
set_option linter.unusedVariables false

theorem confX_facts {l : List (Int × Bool × Int × Int)} {q mw mr ms lm : Int} (h : okX (l, q, mw, mr, ms, lm) = true) : (1 ≤ l.length ∧ l.length ≤ 4) ∧ (1 ≤ q ∧ q ≤ 4) ∧ ∀ x ∈ l, 1 ≤ x.1 ∧ x.1 ≤ 4 := by
  unfold okX okC at h
  simp only [Bool.and_eq_true, inB_iff, List.all_eq_true, List.length_map] at h
  obtain ⟨hm, hl, hq, _⟩ := h
  refine ⟨by omega, hq, fun x hx => ?_⟩
  have h1 := hm (mcOf x) (List.mem_map_of_mem hx)
  unfold okM at h1
  rw [Bool.and_eq_true, inB_iff] at h1
  exact h1.1
theorem turnW_bad {c : ConfX} {who : Int} (h : ¬ (okX c = true ∧ 0 ≤ who ∧ who < c.1.length)) : turnW c who = 0 := if_neg h
theorem turnW_at {c : ConfX} {i : Nat} {x : Int × Bool × Int × Int} (h : okX c = true) (hx : c.1[i]? = some x) : turnW c i = x.1 * c.2.1 := by
  have hi := (List.getElem?_eq_some_iff.1 hx).1
  unfold turnW
  rw [if_pos ⟨h, by omega, by omega⟩, Int.toNat_natCast]
  simp [List.getD, hx]
theorem turnW_bd (c : ConfX) (who : Int) : 0 ≤ turnW c who ∧ turnW c who ≤ 16 := by
  obtain ⟨l, q, mw, mr, ms, lm⟩ := c
  by_cases h : okX (l, q, mw, mr, ms, lm) = true ∧ 0 ≤ who ∧ who < l.length
  · obtain ⟨h1, h2, h3⟩ := h
    obtain ⟨k, rfl⟩ : ∃ k : Nat, who = k := ⟨who.toNat, by omega⟩
    have hx : l[k]? = some l[k] := List.getElem?_eq_getElem (by omega)
    rw [turnW_at h1 hx]
    obtain ⟨_, hq, hm⟩ := confX_facts h1
    have hw := hm _ (List.getElem_mem (by omega : k < l.length))
    exact mul_bd (A := 4) (B := 4) (by omega) hw.2 (show 0 ≤ q by omega) hq.2
  · rw [turnW_bad h]; omega
theorem conf_at {a0 : Option Addr} {p0 : Nat} {l : List (Int × Bool × Int × Int)} {w : World} (h : mConfS.rd [.slice a0 l.length p0] l w) {i : Nat} {x : Int × Bool × Int × Int} (hx : l[i]? = some x) :
    ∃ b o, a0 = some ⟨b, o, none⟩ ∧ b < w.heap.size ∧ w.cell? ⟨b, o + i * 4, none⟩ = some (.int .i64 x.1) := by
  obtain ⟨ad, cp, e, _, h⟩ := h
  obtain ⟨rfl, _⟩ : a0 = ad ∧ p0 = cp := by simpa using e
  obtain ⟨b, o, es, e1, h1, h2, h3⟩ := h i x hx
  obtain ⟨y0, y1, y2, y3⟩ := x
  obtain rfl := mConf_form h3
  exact ⟨b, o, e1, h1, h2 0 _ rfl⟩
theorem below_drewN {B : Nat} {a w : World} (h : Below B a w) (n : Nat) : Below B a (w.drewN n) := ⟨h.os, h.tape, h.output, h.size, h.block⟩

set_option maxRecDepth 100000 in
theorem specTurn (who : Int) (cs : List Value) (l : List (Int × Bool × Int × Int)) (q mw mr ms lm : Int) (hl : l.length ≤ 2000000) (w : World) (h : confK.rd cs (l, q, mw, mr, ms, lm) w) :
    Calls Tryz.prog 56 #[agg cs, .int .i64 who] w fun e w' => e = .returned (.int .i64 (turnW (l, q, mw, mr, ms, lm) who)) ∧ Below w.heap.size w w' := by
  have hr := h
  obtain ⟨a0, p0, rfl, hm⟩ := conf_form h
  have HR := Lib.hid hr
  have HM := Lib.hid hm
  have A := Bx.new 43 #[.slice a0 l.length p0, .int .i64 q, .int .i64 mw, .int .i64 mr, .int .i64 ms, .int .i64 lm] w
  have hb0 := (Below.refl w.heap.size w).alloc (Nat.le_refl _) (Obj.cells #[.slice a0 l.length p0, .int .i64 q, .int .i64 mw, .int .i64 mr, .int .i64 ms, .int .i64 lm] 43)
  have HA := Lib.hid A
  have HB := Lib.hid hb0
  clear A hb0 hr hm h
  have HL := Lib.hid hl
  show Calls _ _ #[.agg #[.slice a0 l.length p0, .int .i64 q, .int .i64 mw, .int .i64 mr, .int .i64 ms, .int .i64 lm], .int .i64 who] w _
  obtain ⟨ok, hok⟩ : ∃ ok, okX (l, q, mw, mr, ms, lm) = ok := ⟨_, rfl⟩
  have HO := Lib.hid hok
  go_enter Tryz.func56, Tryz.ntmps56
  go_wp2_with fail
  generalize w.alloc (Obj.cells #[.slice a0 l.length p0, .int .i64 q, .int .i64 mw, .int .i64 mr, .int .i64 ms, .int .i64 lm] 43) = y0 at HA HB ⊢
  refine (specConfX _ l q mw mr ms lm HL.out _ (confK.rd_later HR.out HB.out)).mono ?_
  rintro e y1 ⟨rfl, hb⟩
  rw [HO.out]
  have HA1 := Lib.hid (HA.out.later hb)
  have HB1 := Lib.hid (HB.out.trans (hb.mono HB.out.size))
  obtain ⟨g0, g1, g2, g3, g4, g5⟩ := HA1.out.cells6
  clear HA HB hb hok
  cases ok with
  | false =>
    have HE := Lib.hid (turnW_bad (c := (l, q, mw, mr, ms, lm)) (who := who) (by rw [HO.out]; simp))
    go_wp2_with fail
    go_ret
    exact ⟨by rw [HE.out]; rfl, HB1.out⟩
  | true =>
    obtain ⟨hlen, hq, hw⟩ := confX_facts HO.out
    by_cases hin : 0 ≤ who ∧ who < l.length
    · obtain ⟨k, rfl⟩ : ∃ k : Nat, who = k := ⟨who.toNat, by omega⟩
      have hi := Lib.hid (inB_yes (x := (k : Int)) (lo := 0) (hi := (l.length : Int) - 1) (by omega) (by omega))
      obtain ⟨x, hx⟩ : ∃ x, l[k]? = some x := ⟨_, List.getElem?_eq_getElem (by omega)⟩
      have HE := Lib.hid (turnW_at (c := (l, q, mw, mr, ms, lm)) HO.out hx)
      have hxw := hw x (List.mem_of_getElem? hx)
      obtain ⟨b, o, rfl, hbl, hc⟩ := conf_at HM.out hx
      rw [← HB1.out.cell (p := ⟨b, o + k * 4, none⟩) hbl] at hc
      have hmb := mul_bd (A := 4) (B := 4) (a := x.1) (b := q) (by omega) hxw.2 (by omega) hq.2
      have hin' : (0 : Int) ≤ (k : Int) ∧ (k : Int) < ((l.length : Nat) : Int) := hin
      generalize x.1 = xw at hc hmb hxw HE
      clear hw hx
      go_wp2_with (go_at_call 19; refine (l1In_any _ _ _ _).mono ?_; rintro e w1 ⟨rfl, rfl⟩; rw [hi.out])
      go_quiet (fail)
      go_wp2
      go_ret
      exact ⟨by rw [HE.out]; rfl, below_drewN HB1.out _⟩
    · have hi := Lib.hid (inB_no (x := who) (lo := 0) (hi := (l.length : Int) - 1) (by omega))
      have HE := Lib.hid (turnW_bad (c := (l, q, mw, mr, ms, lm)) (who := who) (by rintro ⟨_, h1, h2⟩; exact hin ⟨h1, h2⟩))
      go_wp2_with (go_at_call 19; refine (l1In_any _ _ _ _).mono ?_; rintro e w1 ⟨rfl, rfl⟩; rw [hi.out])
      go_ret
      exact ⟨by rw [HE.out]; rfl, HB1.out⟩

theorem sConfIs {cs : List Value} {l : List (Int × Bool × Int × Int)} {q mw mr ms lm : Int} {b : Bool} {w : World} (hb : okX (l, q, mw, mr, ms, lm) = b) (hl : l.length ≤ 2000000) (h : confK.rd cs (l, q, mw, mr, ms, lm) w) :
    Calls Tryz.prog 18 #[agg cs] w fun e w' => e = .returned (.bool b) ∧ Below w.heap.size w w' := hb ▸ specConfX cs l q mw mr ms lm hl w h
theorem sTurnIs {cs : List Value} {l : List (Int × Bool × Int × Int)} {q mw mr ms lm who t : Int} {w : World} (ht : turnW (l, q, mw, mr, ms, lm) who = t) (hl : l.length ≤ 2000000) (h : confK.rd cs (l, q, mw, mr, ms, lm) w) :
    Calls Tryz.prog 56 #[agg cs, .int .i64 who] w fun e w' => e = .returned (.int .i64 t) ∧ Below w.heap.size w w' := ht ▸ specTurn who cs l q mw mr ms lm hl w h
theorem l1In_isC {x lo hi : Int} {b : Bool} (h : inB x lo hi = b) (w : World) :
    Calls Tryz.prog 19 #[.int .i64 x, .int .i64 lo, .int .i64 hi] w fun e w' => e = .returned (.bool b) ∧ Below w.heap.size w w' :=
  (l1In_is h w).mono fun _ _ ⟨h1, h2⟩ => ⟨h1, h2 ▸ Below.refl _ _⟩
set_option maxRecDepth 100000 in
theorem specWrrOk (ws : List Value) (a c : Int) {w0 : World} (hw : wrrK.rd ws (a, c) w0) (cs : List Value) (l : List (Int × Bool × Int × Int)) (q mw mr ms lm : Int) (hl : l.length ≤ 2000000) (w : World) (h : confK.rd cs (l, q, mw, mr, ms, lm) w) :
    Calls Tryz.prog 20 #[agg ws, agg cs] w fun e w' => e = .returned (.bool (okWr a c (l, q, mw, mr, ms, lm))) ∧ Below w.heap.size w w' := by
  obtain rfl := wrr_form hw
  have hr := h
  obtain ⟨a0, p0, rfl, hm⟩ := conf_form h
  have hsz : ∀ (w : World) o, (w.alloc o).heap.size = w.heap.size + 1 := fun w o => by simp
  have X := (Bx.new 45 #[.int .i64 a, .int .i64 c] w).alloc (Obj.cells #[.slice a0 l.length p0, .int .i64 q, .int .i64 mw, .int .i64 mr, .int .i64 ms, .int .i64 lm] 43)
  have A := Bx.new 43 #[.slice a0 l.length p0, .int .i64 q, .int .i64 mw, .int .i64 mr, .int .i64 ms, .int .i64 lm] (w.alloc (Obj.cells #[.int .i64 a, .int .i64 c] 45))
  rw [hsz] at A
  have x0 := cell_regrown (X.cell 0 _ rfl)
  have x1 := cell_regrown (X.cell 1 _ rfl)
  have g0 := cell_regrown (A.cell 0 _ rfl)
  have g1 := cell_regrown (A.cell 1 _ rfl)
  have g2 := cell_regrown (A.cell 2 _ rfl)
  have g3 := cell_regrown (A.cell 3 _ rfl)
  have g4 := cell_regrown (A.cell 4 _ rfl)
  have g5 := cell_regrown (A.cell 5 _ rfl)
  have HB := Lib.hid (((Below.refl w.heap.size w).alloc (Nat.le_refl _) (Obj.cells #[.int .i64 a, .int .i64 c] 45)).alloc (by simp) (Obj.cells #[.slice a0 l.length p0, .int .i64 q, .int .i64 mw, .int .i64 mr, .int .i64 ms, .int .i64 lm] 43))
  have HR := Lib.hid hr
  have HL := Lib.hid hl
  have hlb := hl
  clear X A hsz hr hm h hl
  show Calls _ _ #[.agg #[.int .i64 a, .int .i64 c], .agg #[.slice a0 l.length p0, .int .i64 q, .int .i64 mw, .int .i64 mr, .int .i64 ms, .int .i64 lm]] w _
  cases hok : okX (l, q, mw, mr, ms, lm) with
  | false =>
    have HO := Lib.hid hok
    have HI := Lib.hid (show inB a 0 ((l.length : Int) - 1) = inB a 0 ((l.length : Int) - 1) from rfl)
    have HJ := HI
    have HT := Lib.hid (show turnW (l, q, mw, mr, ms, lm) a = turnW (l, q, mw, mr, ms, lm) a from rfl)
    have HE := Lib.hid (show okWr a c (l, q, mw, mr, ms, lm) = false by unfold okWr; rw [hok]; rfl)
    clear hok
    go_enter Tryz.func20, Tryz.ntmps20
    go_wp2_with fail
    generalize (w.alloc _).alloc _ = y0 at x0 x1 g0 g1 g2 g3 g4 g5 HB ⊢
    refine wp_region_quiet_below (by kernel_rfl) (by kernel_rfl) ?_
    repeat (go_big_quiet_step (first
      | (go_at_call 18; exact Calls.regrown_of (sConfIs HO.out HL.out (confK.rd_later HR.out (HB.out.trans ((below_regrown _ _ _).mono HB.out.size)))))
      | (go_at_call 56; exact Calls.regrown_of (sTurnIs HT.out HL.out (confK.rd_later HR.out (HB.out.trans ((below_regrown _ _ _).mono HB.out.size)))))
      | (go_at_call 19; first | with_reducible exact Calls.regrown_of (l1In_isC HI.out _) | with_reducible exact Calls.regrown_of (l1In_isC HJ.out _))))
    refine wpQuiet_nil ?_
    rintro _ ⟨q, rfl⟩
    have hq := below_regrown y0 q.d q.os
    have HB1 := Lib.hid (HB.out.trans (hq.mono HB.out.size))
    clear hq
    go_wp2
    go_ret
    exact ⟨by rw [HE.out]; rfl, HB1.out⟩
  | true =>
    have HO := Lib.hid hok
    have hbd := turnW_bd (l, q, mw, mr, ms, lm) a
    obtain ⟨t, ht⟩ : ∃ t, turnW (l, q, mw, mr, ms, lm) a = t := ⟨_, rfl⟩
    have HT := Lib.hid ht
    rw [ht] at hbd
    cases hi : inB a 0 ((l.length : Int) - 1) with
    | false =>
      have HI := Lib.hid hi
      have HJ := HI
      have HE := Lib.hid (show okWr a c (l, q, mw, mr, ms, lm) = false by unfold okWr; rw [hok]; show (true && (inB a 0 ((l.length : Int) - 1) && _)) = false; rw [hi]; rfl)
      clear hok hi ht
      go_enter Tryz.func20, Tryz.ntmps20
      go_wp2_with fail
      generalize (w.alloc _).alloc _ = y0 at x0 x1 g0 g1 g2 g3 g4 g5 HB ⊢
      refine wp_region_quiet_below (by kernel_rfl) (by kernel_rfl) ?_
      repeat (go_big_quiet_step (first
        | (go_at_call 18; exact Calls.regrown_of (sConfIs HO.out HL.out (confK.rd_later HR.out (HB.out.trans ((below_regrown _ _ _).mono HB.out.size)))))
        | (go_at_call 56; exact Calls.regrown_of (sTurnIs HT.out HL.out (confK.rd_later HR.out (HB.out.trans ((below_regrown _ _ _).mono HB.out.size)))))
        | (go_at_call 19; first | with_reducible exact Calls.regrown_of (l1In_isC HI.out _) | with_reducible exact Calls.regrown_of (l1In_isC HJ.out _))))
      refine wpQuiet_nil ?_
      rintro _ ⟨q, rfl⟩
      have hq := below_regrown y0 q.d q.os
      have HB1 := Lib.hid (HB.out.trans (hq.mono HB.out.size))
      clear hq
      go_wp2
      go_ret
      exact ⟨by rw [HE.out]; rfl, HB1.out⟩
    | true =>
      cases hj : inB c 0 t with
      | false =>
        have HI := Lib.hid hi
        have HJ := Lib.hid hj
        have HE := Lib.hid (show okWr a c (l, q, mw, mr, ms, lm) = false by unfold okWr; rw [hok, ht]; show (true && (inB a 0 ((l.length : Int) - 1) && _)) = false; rw [hi, hj]; rfl)
        clear hok hi hj ht
        go_enter Tryz.func20, Tryz.ntmps20
        go_wp2_with fail
        generalize (w.alloc _).alloc _ = y0 at x0 x1 g0 g1 g2 g3 g4 g5 HB ⊢
        refine wp_region_quiet_below (by kernel_rfl) (by kernel_rfl) ?_
        repeat (go_big_quiet_step (first
          | (go_at_call 18; exact Calls.regrown_of (sConfIs HO.out HL.out (confK.rd_later HR.out (HB.out.trans ((below_regrown _ _ _).mono HB.out.size)))))
          | (go_at_call 56; exact Calls.regrown_of (sTurnIs HT.out HL.out (confK.rd_later HR.out (HB.out.trans ((below_regrown _ _ _).mono HB.out.size)))))
          | (go_at_call 19; first | with_reducible exact Calls.regrown_of (l1In_isC HI.out _) | with_reducible exact Calls.regrown_of (l1In_isC HJ.out _))))
        refine wpQuiet_nil ?_
        rintro _ ⟨q, rfl⟩
        have hq := below_regrown y0 q.d q.os
        have HB1 := Lib.hid (HB.out.trans (hq.mono HB.out.size))
        clear hq
        go_wp2
        go_ret
        exact ⟨by rw [HE.out]; rfl, HB1.out⟩
      | true =>
        have HI := Lib.hid hi
        have HJ := Lib.hid hj
        have HE := Lib.hid (show okWr a c (l, q, mw, mr, ms, lm) = true by unfold okWr; rw [hok, ht]; show (true && (inB a 0 ((l.length : Int) - 1) && _)) = true; rw [hi, hj]; rfl)
        clear hok hi hj ht
        go_enter Tryz.func20, Tryz.ntmps20
        go_wp2_with fail
        generalize (w.alloc _).alloc _ = y0 at x0 x1 g0 g1 g2 g3 g4 g5 HB ⊢
        refine wp_region_quiet_below (by kernel_rfl) (by kernel_rfl) ?_
        repeat (go_big_quiet_step (first
          | (go_at_call 18; exact Calls.regrown_of (sConfIs HO.out HL.out (confK.rd_later HR.out (HB.out.trans ((below_regrown _ _ _).mono HB.out.size)))))
          | (go_at_call 56; exact Calls.regrown_of (sTurnIs HT.out HL.out (confK.rd_later HR.out (HB.out.trans ((below_regrown _ _ _).mono HB.out.size)))))
          | (go_at_call 19; first | with_reducible exact Calls.regrown_of (l1In_isC HI.out _) | with_reducible exact Calls.regrown_of (l1In_isC HJ.out _))))
        refine wpQuiet_nil ?_
        rintro _ ⟨q, rfl⟩
        have hq := below_regrown y0 q.d q.os
        have HB1 := Lib.hid (HB.out.trans (hq.mono HB.out.size))
        clear hq
        go_wp2
        go_ret
        exact ⟨by rw [HE.out]; rfl, HB1.out⟩
end Go.Proofs.YtdhaelaoackfkaaGreat.KD

namespace Go.Proofs.YtdhaelaoackfkaaGreat.KD
open Go.RowKit Rows3 GR Num
set_option linter.unusedVariables false

theorem okWr_facts {a c : Int} {l : List (Int × Bool × Int × Int)} {q mw mr ms lm : Int} (h : okWr a c (l, q, mw, mr, ms, lm) = true) : okX (l, q, mw, mr, ms, lm) = true ∧ (0 ≤ a ∧ a < l.length) ∧ (0 ≤ c ∧ c ≤ turnW (l, q, mw, mr, ms, lm) a) := by
  unfold okWr at h
  rw [Bool.and_eq_true, Bool.and_eq_true, inB_iff, inB_iff] at h
  obtain ⟨h1, h2, h3⟩ := h
  have h2' : 0 ≤ a ∧ a ≤ (l.length : Int) - 1 := h2
  exact ⟨h1, by omega, h3⟩
theorem below_al3 (B : Nat) (w : World) (hB : B = w.heap.size) (o1 o2 o3 : Obj) : Below B w (((w.alloc o1).alloc o2).alloc o3) := by
  subst hB; exact (((Below.refl _ _).alloc (Nat.le_refl _) _).alloc (by simp) _).alloc (by simp; omega) _
theorem Bx.cells2 {T : TypeId} {b : Nat} {c0 c1 : Value} {w : World} (h : Bx T b #[c0, c1] w) : w.cell? ⟨b, 0, none⟩ = some c0 ∧ w.cell? ⟨b, 1, none⟩ = some c1 := ⟨h.cell 0 _ rfl, h.cell 1 _ rfl⟩
theorem sWrrOkIs (a c : Int) {cs : List Value} {l : List (Int × Bool × Int × Int)} {q mw mr ms lm : Int} {b : Bool} {w : World} (hb : okWr a c (l, q, mw, mr, ms, lm) = b) (hl : l.length ≤ 2000000) (h : confK.rd cs (l, q, mw, mr, ms, lm) w) :
    Calls Tryz.prog 20 #[.agg #[.int .i64 a, .int .i64 c], agg cs] w fun e w' => e = .returned (.bool b) ∧ Below w.heap.size w w' := hb ▸ specWrrOk _ a c (w0 := w) wrr_rd cs l q mw mr ms lm hl w h

end Go.Proofs.YtdhaelaoackfkaaGreat.KD

namespace Go.Proofs.YtdhaelaoackfkaaGreat.KD
open Go.RowKit Rows3 GR Num
set_option linter.unusedVariables false

theorem first_yes {a : Int} {wants : List Bool} {n : Nat} {j : Int} (h : wants.getD ((a + j) % wants.length).toNat false = true) : firstR a wants (n + 1) j = some ((a + j) % wants.length) := by
  show (if _ then _ else _) = _; rw [if_pos h]
theorem first_no {a : Int} {wants : List Bool} {n : Nat} {j : Int} (h : wants.getD ((a + j) % wants.length).toNat false = false) : firstR a wants (n + 1) j = firstR a wants n (j + 1) := by
  show (if _ then _ else _) = _; rw [if_neg (by rw [h]; simp)]
theorem pick_bad {a c : Int} {C : ConfX} {wants : List Bool} (h : ¬ (okWr a c C = true ∧ wants.length = C.1.length)) : pickR a c C wants = ((a, c), -1) := by unfold pickR; rw [if_neg h]
theorem pick_at {a c : Int} {C : ConfX} {wants : List Bool} (h : okWr a c C = true ∧ wants.length = C.1.length) (h1 : 0 < c) (h2 : wants.getD a.toNat false = true) : pickR a c C wants = ((a, c - 1), a) := by
  unfold pickR; rw [if_pos h, if_pos ⟨h1, h2⟩]
theorem pick_some {a c i : Int} {C : ConfX} {wants : List Bool} (h : okWr a c C = true ∧ wants.length = C.1.length) (h1 : ¬ (0 < c ∧ wants.getD a.toNat false = true)) (h2 : firstR a wants wants.length 1 = some i) : pickR a c C wants = ((i, turnW C i - 1), i) := by
  unfold pickR; rw [if_pos h, if_neg h1, h2]
theorem pick_none {a c : Int} {C : ConfX} {wants : List Bool} (h : okWr a c C = true ∧ wants.length = C.1.length) (h1 : ¬ (0 < c ∧ wants.getD a.toNat false = true)) (h2 : firstR a wants wants.length 1 = none) : pickR a c C wants = ((a, 0), -1) := by
  unfold pickR; rw [if_pos h, if_neg h1, h2]

end Go.Proofs.YtdhaelaoackfkaaGreat.KD
