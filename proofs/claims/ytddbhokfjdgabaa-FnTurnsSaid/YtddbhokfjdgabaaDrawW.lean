
/-
  The arbiters and configurations that are drawn: spec.l11Draw.
-/
import Derived.Test.YtddbhokfjdgabaaDraw7
import Derived.Test.YtddbhokfjdgabaaWrr2
import Derived.Deep.Cut
import Derived.Deep.CutRange
namespace Go.Proofs.Ytddbhokfjdgabaa.Cur
open Go.RowKit Bytes Num GR KD
set_option linter.unusedVariables false

def tup (m : MC) : Int × Bool × Int × Int := (m.wt, m.pr, m.ev, m.cp)
theorem own_kd {B : Nat} {v : Value} {l : List MC} {w : World} (h : Own mcK 78 B v l w) : mConfS.rd [v] (l.map tup) w := by
  have hbd : ∀ ad n cp, v = .slice ad n cp → n ≤ cp ∧ cp ≤ 9223372036854775807 := by
    intro ad n cp e
    rcases h.2 with ⟨rfl, h0⟩ | ⟨g, cap, cur, rfl, _, _, hn, hm, _⟩
    · cases e; omega
    · cases e; exact ⟨hn, by unfold maxLen at hm; omega⟩
  obtain ⟨ad, cp, rfl, hr⟩ := h.rd
  refine ⟨ad, cp, by rw [List.length_map], by rw [List.length_map]; exact hbd _ _ _ rfl, fun i x hi => ?_⟩
  rw [List.getElem?_map] at hi
  obtain ⟨m, hm, rfl⟩ := Option.map_eq_some_iff.1 hi
  obtain ⟨b, o, e1, h1, h2⟩ := hr i m hm
  exact ⟨b, o, [.int .i64 m.wt, .bool m.pr, .int .i64 m.ev, .int .i64 m.cp], e1, h1, fun j u hu => h2 j u hu, mConf_rd⟩
theorem own_conf {B : Nat} {v : Value} {l : List MC} {q mw mr ms lm : Int} {w : World} (h : Own mcK 78 B v l w) : confK.rd [v, .int .i64 q, .int .i64 mw, .int .i64 mr, .int .i64 ms, .int .i64 lm] (l.map tup, q, mw, mr, ms, lm) w := by
  have h1 := own_kd h
  obtain ⟨ad, cp, e, _⟩ := id h1
  exact ⟨[v], _, rfl, h1, ⟨[.int .i64 q], _, rfl, rfl, ⟨[.int .i64 mw], _, rfl, rfl, ⟨[.int .i64 mr], _, rfl, rfl, ⟨[.int .i64 ms], _, rfl, rfl, rfl⟩⟩⟩⟩⟩
theorem Only.below2W {c : Nat} {w w1 w2 : World} (h : Only c w w1) (k : Below w1.heap.size w1 w2) : Only c w w2 := h.trans (Only.of_below k)
theorem Bx.cells2W {T : TypeId} {b : Nat} {c0 c1 : Value} {w : World} (h : Bx T b #[c0, c1] w) : w.cell? ⟨b, 0, none⟩ = some c0 ∧ w.cell? ⟨b, 1, none⟩ = some c1 := ⟨h.cell 0 _ rfl, h.cell 1 _ rfl⟩
/-- a configuration stands in block b. -/
def StC (D c : Nat) (w : World) (b : Nat) (wr : World) : Prop :=
  ∃ ad cp l q mw mr ms lm, l.length ≤ 4 ∧ Bx 28 b #[.slice ad l.length cp, .int .i64 q, .int .i64 mw, .int .i64 mr, .int .i64 ms, .int .i64 lm] wr ∧ Own mcK 78 (w.heap.size + 2) (.slice ad l.length cp) l wr ∧ Bx 25 w.heap.size #[.int .i64 0, .int .i64 0] wr ∧ Bx 28 (w.heap.size + 1) #[.slice none 0 0, .int .i64 0, .int .i64 0, .int .i64 0, .int .i64 0, .int .i64 0] wr ∧ CuD D c wr ∧ Only c w wr
theorem grown_set (w : World) (p : Addr) (u : Value) : w.grownBy (w.setCell p u) (some p.block) :=
  ⟨rfl, rfl, rfl, by simp [World.setCell], fun k hk hne => Below.heap_setCell w p u k (fun e => hne (by rw [e]))⟩
theorem StC.set {D c : Nat} {w y : World} {n4 n5 : Nat} (h : StC D c w n4 y) {cs : Array Value} (hX : Bx 25 n5 cs y) (hn : n4 < n5) (hD : D ≤ n4) (hw : w.heap.size + 1 < n4) (i : Nat) (u : Value) : StC D c w n4 (y.setCell ⟨n5, i, none⟩ u) := by
  obtain ⟨ad, cp, l, q, mw, mr, ms, lm, hl, hx, ho, hb, hm, hC, hO⟩ := h
  have hbs : Below n5 y (y.setCell ⟨n5, i, none⟩ u) := (Below.refl n5 y).setCell (p := ⟨n5, i, none⟩) (Nat.le_refl _) u
  exact ⟨ad, cp, l, q, mw, mr, ms, lm, hl, hx.below hbs hn, ho.far (grown_set y ⟨n5, i, none⟩ u) (fun k hk e => own_ne_bxC ho hX (by decide) (hk.trans e)), hb.below hbs (by omega), hm.below hbs (by omega), hC.belowB hbs (by omega), hO.transB (hbs.mono (by omega))⟩
theorem StC.drawn {D c : Nat} {w y y' : World} {n4 : Nat} (h : StC D c w n4 y) (hC' : CuD D c y') (hO' : Only c y y') (h4 : n4 ≠ c) (h0 : w.heap.size ≠ c) (h1 : w.heap.size + 1 ≠ c) (h2 : c < w.heap.size + 2) : StC D c w n4 y' := by
  obtain ⟨ad, cp, l, q, mw, mr, ms, lm, hl, hx, ho, hb, hm, hC, hO⟩ := h
  exact ⟨ad, cp, l, q, mw, mr, ms, lm, hl, bx_only hx hO' h4, own_only ho hO' h2, bx_only hb hO' h0, bx_only hm hO' h1, hC', hO.trans hO'⟩
theorem StC.later {D c : Nat} {w y y' : World} {n4 : Nat} (h : StC D c w n4 y) (hb' : Below y.heap.size y y') : StC D c w n4 y' := by
  obtain ⟨ad, cp, l, q, mw, mr, ms, lm, hl, hx, ho, hb, hm, hC, hO⟩ := h
  exact ⟨ad, cp, l, q, mw, mr, ms, lm, hl, hx.later hb', ho.later hb', hb.later hb', hm.later hb', hC.below hb', hO.below2W hb'⟩
/-- an arbiter and a configuration drawn. -/
def DrewWC (D c : Nat) (w : World) (e : Ending) (w' : World) : Prop :=
  ∃ ad cp l q mw mr ms lm a k, e = .returned (.tuple #[.agg #[.int .i64 a, .int .i64 k], .agg #[.slice ad l.length cp, .int .i64 q, .int .i64 mw, .int .i64 mr, .int .i64 ms, .int .i64 lm]]) ∧ l.length ≤ 4 ∧ Own mcK 78 w.heap.size (.slice ad l.length cp) l w' ∧ CuD D c w' ∧ Only c w w'

set_option maxHeartbeats 8000000 in
set_option maxRecDepth 100000 in
theorem wc_any (D c : Nat) (w : World) (h : CuD D c w) : Calls Try.prog 32 #[.pointer (some ⟨c, 0, none⟩)] w (DrewWC D c w) := by
  have hD := h.le
  have hcD := h.lt
  have hsz : ∀ (w : World) o, (w.alloc o).heap.size = w.heap.size + 1 := fun w o => by simp
  have B0 := (Bx.new 25 #[.int .i64 0, .int .i64 0] w).alloc (.cells #[.slice none 0 0, .int .i64 0, .int .i64 0, .int .i64 0, .int .i64 0, .int .i64 0] 28)
  have M0 := Bx.new 28 #[.slice none 0 0, .int .i64 0, .int .i64 0, .int .i64 0, .int .i64 0, .int .i64 0] (w.alloc (.cells #[.int .i64 0, .int .i64 0] 25))
  rw [hsz] at M0
  have O0 := ((Only.refl c w).alloc (.cells #[.int .i64 0, .int .i64 0] 25)).alloc (.cells #[.slice none 0 0, .int .i64 0, .int .i64 0, .int .i64 0, .int .i64 0, .int .i64 0] 28)
  have C0 := (h.alloc (.cells #[.int .i64 0, .int .i64 0] 25)).alloc (.cells #[.slice none 0 0, .int .i64 0, .int .i64 0, .int .i64 0, .int .i64 0, .int .i64 0] 28)
  have hs0 : ((w.alloc (.cells #[.int .i64 0, .int .i64 0] 25)).alloc (.cells #[.slice none 0 0, .int .i64 0, .int .i64 0, .int .i64 0, .int .i64 0, .int .i64 0] 28)).heap.size = w.heap.size + 2 := by rw [hsz, hsz]
  have HB := Lib.hid B0
  have HM := Lib.hid M0
  have HO := Lib.hid O0
  have HC := Lib.hid C0
  have HS := Lib.hid hs0
  have hc0 : w.heap.size ≠ c := by omega
  have hc1 : w.heap.size + 1 ≠ c := by omega
  clear B0 M0 O0 C0 hsz hs0
  go_enter Try.func32, Try.ntmps32
  go_wp2_with fail
  generalize (w.alloc _).alloc _ = y0 at HB HM HO HC HS ⊢
  refine (conf_any D c _ HC.out).mono ?_
  rintro e y1 ⟨v, l, q, mw, mr, ms, lm, rfl, hown, hl1, hl2, hC1, hO1⟩
  have HB1 := bx_only HB.out hO1 hc0
  have HM1 := bx_only HM.out hO1 hc1
  have HO1 := HO.out.trans hO1
  rw [HS.out] at hown
  obtain ⟨ad, cp, rfl⟩ := hown.slice
  have hb1 := (Below.refl y1.heap.size y1).alloc (Nat.le_refl _) (.cells #[.slice ad l.length cp, .int .i64 q, .int .i64 mw, .int .i64 mr, .int .i64 ms, .int .i64 lm] 28)
  obtain ⟨n4, hn4⟩ : ∃ n, y1.heap.size = n := ⟨_, rfl⟩
  have hn : w.heap.size + 1 < n4 := hn4 ▸ HM1.lt
  have hD4 : D ≤ n4 := by omega
  have X4 := Bx.new 28 #[.slice ad l.length cp, .int .i64 q, .int .i64 mw, .int .i64 mr, .int .i64 ms, .int .i64 lm] y1
  rw [hn4] at X4
  have L0 : Hid (StC D c w n4 (y1.alloc (.cells #[.slice ad l.length cp, .int .i64 q, .int .i64 mw, .int .i64 mr, .int .i64 ms, .int .i64 lm] 28))) := Lib.hid ⟨ad, cp, l, q, mw, mr, ms, lm, hl2, X4, hown.later hb1, HB1.later hb1, HM1.later hb1, hC1.alloc _, HO1.alloc _⟩
  clear HB1 HM1 HO1 hown hb1 X4 HB HM HO HC HS hl1 hl2 hC1 hO1
  have hc4 : n4 ≠ c := by omega
  go_upto_region 2 with fail
  generalize y1.alloc _ = y2 at L0 ⊢
  have HN4 := Lib.hid hn4
  clear hn4
  obtain ⟨ad, cp, l, q, mw, mr, ms, lm, hl, hx, ho, hb, hm, hC, hO⟩ := L0.out
  go_wp2_with fail
  refine (onceC D c 14 (by omega) (by omega) _ hC).mono ?_
  rintro e y3 ⟨x, rfl, hC3, hO3⟩
  have L3 : Hid (StC D c w n4 y3) := Lib.hid ⟨ad, cp, l, q, mw, mr, ms, lm, hl, bx_only hx hO3 hc4, own_only ho hO3 (by omega), bx_only hb hO3 hc0, bx_only hm hO3 hc1, hC3, hO.trans hO3⟩
  clear hx ho hb hm hC hO hC3 hO3 hl L0
  go_upto_if 9 with fail
  go_cut [] from 10 to 11 (fun wx => StC D c w n4 wx)
  case first =>
    cases x with
    | false =>
      go_wp2_with fail
      go_meet
      exact L3.out
    | true =>
      obtain ⟨ad, cp, l, q, mw, mr, ms, lm, hl, hx, ho, hb, hm, hC, hO⟩ := L3.out
      go_wp2_with fail
      refine (confAny_any D c _ hC).mono ?_
      rintro e y4 ⟨v, l', q', mw', mr', ms', lm', rfl, hown, hl1, hl2, hC4, hO4⟩
      obtain ⟨ad', cp', rfl⟩ := hown.slice
      have hlt := hx.lt
      have hlm := hm.lt
      have X4 := bx_only hx hO4 hc4
      have hb4 := bx_only hb hO4 hc0
      have hm4 := bx_only hm hO4 hc1
      have HO4 := Lib.hid (hO.trans hO4)
      obtain ⟨g0, g1, g2, g3, g4, g5⟩ := X4.cells6
      have z0 := X4.warm 0
      have z1 := X4.warm 1
      have z2 := X4.warm 2
      have z3 := X4.warm 3
      have z4 := X4.warm 4
      have z5 := X4.warm 5
      have hW : StC D c w n4 ((((((y4.setCell ⟨n4, 0, none⟩ (.slice ad' l'.length cp')).setCell ⟨n4, 1, none⟩ (.int .i64 q')).setCell ⟨n4, 2, none⟩ (.int .i64 mw')).setCell ⟨n4, 3, none⟩ (.int .i64 mr')).setCell ⟨n4, 4, none⟩ (.int .i64 ms')).setCell ⟨n4, 5, none⟩ (.int .i64 lm')) := by
        have hbs : Below n4 y4 ((((((y4.setCell ⟨n4, 0, none⟩ (.slice ad' l'.length cp')).setCell ⟨n4, 1, none⟩ (.int .i64 q')).setCell ⟨n4, 2, none⟩ (.int .i64 mw')).setCell ⟨n4, 3, none⟩ (.int .i64 mr')).setCell ⟨n4, 4, none⟩ (.int .i64 ms')).setCell ⟨n4, 5, none⟩ (.int .i64 lm')) := by
          iterate 6 refine Below.setCell ?_ (by exact Nat.le_refl _) _
          exact Below.refl _ _
        refine ⟨ad', cp', l', q', mw', mr', ms', lm', hl2, (((((X4.set 0 _).set 1 _).set 2 _).set 3 _).set 4 _).set 5 _, ?_, hb4.below hbs (by omega), hm4.below hbs (by omega), hC4.belowB hbs (by omega), HO4.out.transB (hbs.mono (by omega))⟩
        refine Own.mono (B := y3.heap.size) ?_ (by omega)
        iterate 6 refine Own.setBelow ?_ (by dsimp only; omega) _
        exact hown
      have HW := Lib.hid hW
      clear hW hx ho hb hm hC hO hown X4 hb4 hm4 hC4 hO4 L3
      go_wp2_with fail
      go_meet
      exact HW.out
  case rest =>
    obtain ⟨ad, cp, l, q, mw, mr, ms, lm, hl, hx, ho, hb, hm, hC, hO⟩ := hcut
    have hlt := hx.lt
    obtain ⟨g0, g1, g2, g3, g4, g5⟩ := hx.cells6
    have HX := Lib.hid hx
    have HW := Lib.hid ho
    have HB := Lib.hid hb
    have HM := Lib.hid hm
    have HC := Lib.hid hC
    have HO := Lib.hid hO
    clear hx ho hb hm hC hO
    go_upto_region 4 with fail
    go_cut [5] from 12 to 18 (fun s5 wx => ∃ b : Nat, ∃ a : Int, s5 = .pointer (some ⟨b, 0, none⟩) ∧ StC D c w n4 wx ∧ Bx 25 b #[.int .i64 a, .int .i64 0] wx ∧ n4 < b)
    case first =>
      have hbC : ∀ n : Int, 0 < n → n ≤ 4 → Calls Try.prog 54 #[.pointer (some ⟨c, 0, none⟩), .int .i64 n] wc (DrewD (fun x => 0 ≤ x ∧ x < n) D c wc) := fun n h1 h2 => belowC D c n h1 (by omega) _ HC.out
      have hl4 : ((l.length : Nat) : Int) ≤ 4 := by omega
      go_wp2_with (go_at_call 54; refine (hbC _ (by omega) (by omega)).mono ?_; rintro e y5 ⟨a, ha, rfl, hC5, hO5⟩)
      all_goals
        have hbs := (Below.refl y5.heap.size y5).alloc (Nat.le_refl _) (.cells #[.int .i64 a, .int .i64 0] 25)
        have X5 := bx_only HX.out hO5 hc4
        have hX5 := X5.lt
        have hS : StC D c w n4 (y5.alloc (.cells #[.int .i64 a, .int .i64 0] 25)) :=
          ⟨ad, cp, l, q, mw, mr, ms, lm, hl, X5.later hbs, (own_only HW.out hO5 (by omega)).later hbs, (bx_only HB.out hO5 hc0).later hbs, (bx_only HM.out hO5 hc1).later hbs, hC5.alloc _, (HO.out.trans hO5).alloc _⟩
        have HSS := Lib.hid hS
        have HNN := Lib.hid hX5
        have HBX := Lib.hid (Bx.new 25 #[.int .i64 a, .int .i64 0] y5)
        clear hS hbs X5 hX5 hC5 hO5 HX HW HB HM HC HO hbC
        go_wp2_with fail
        go_meet
        exact ⟨_, _, rfl, HSS.out, HBX.out, HNN.out⟩
    case rest =>
      obtain ⟨n5, a, rfl, hS, hX5, hn5⟩ := hcut
      clear HX HW HB HM HC HO g0 g1 g2 g3 g4 g5 hlt hl
      have hc5 : n5 ≠ c := by omega
      obtain ⟨ad, cp, l, q, mw, mr, ms, lm, hl, hx, ho, hb, hm, hC, hO⟩ := id hS
      obtain ⟨g0, g1, g2, g3, g4, g5⟩ := hx.cells6
      obtain ⟨x0, x1⟩ := Bx.cells2W hX5
      have HR := Lib.hid (own_conf (q := q) (mw := mw) (mr := mr) (ms := ms) (lm := lm) ho)
      have HL := Lib.hid (show (l.map tup).length ≤ 2000000 by rw [List.length_map]; omega)
      have HS := Lib.hid hS
      have HX := Lib.hid hX5
      clear hS hX5 hx ho hb hm hC hO hl
      obtain ⟨t, ht⟩ : ∃ t, turnW (l.map tup, q, mw, mr, ms, lm) a = t := ⟨_, rfl⟩
      have htb := turnW_bd (l.map tup, q, mw, mr, ms, lm) a
      rw [ht] at htb
      have HT := Lib.hid ht
      clear ht
      go_wp2_with fail
      refine (sTurnIs HT.out HL.out HR.out).mono ?_
      rintro e y6 ⟨rfl, hb6⟩
      have HS6 := Lib.hid (HS.out.later hb6)
      have HX6 := Lib.hid (HX.out.later hb6)
      clear HS HX HR HL HT hb6 g0 g1 g2 g3 g4 g5 x0 x1
      obtain ⟨ad, cp, l, q, mw, mr, ms, lm, hl, hx, ho, hb, hm, hC, hO⟩ := HS6.out
      go_wp2_with fail
      refine (belowC D c (t + 1) (by omega) (by omega) _ hC).mono ?_
      rintro e y7 ⟨k, hk, rfl, hC7, hO7⟩
      have hS7 := HS6.out.drawn hC7 hO7 hc4 hc0 hc1 (by omega)
      have hX7 := bx_only HX6.out hO7 hc5
      obtain ⟨x0, x1⟩ := Bx.cells2W hX7
      have z0 := hX7.warm 0
      have z1 := hX7.warm 1
      have HS8 := Lib.hid (hS7.set hX7 hn5 hD4 hn 1 (.int .i64 k))
      have HX8 := Lib.hid (show Bx 25 n5 #[.int .i64 a, .int .i64 k] _ from hX7.set 1 (.int .i64 k))
      clear hx ho hb hm hC hO hl HS6 HX6 hC7 hO7 hS7 hX7
      go_upto_region 6 with fail
      generalize y7.setCell _ _ = y8 at HS8 HX8 ⊢
      clear x0 x1 z0 z1
      obtain ⟨ad, cp, l, q, mw, mr, ms, lm, hl, hx, ho, hb, hm, hC, hO⟩ := HS8.out
      go_wp2_with fail
      refine (belowC D c 14 (by omega) (by omega) _ hC).mono ?_
      rintro e y9 ⟨x9, ⟨hx0, hx1⟩, rfl, hC9, hO9⟩
      have HS9 := Lib.hid (HS8.out.drawn hC9 hO9 hc4 hc0 hc1 (by omega))
      have HX9 := Lib.hid (bx_only HX8.out hO9 hc5)
      clear hx ho hb hm hC hO hl HS8 HX8 hO9
      by_cases hx9 : x9 = 0
      · subst hx9
        go_wp2_with fail
        refine (pickLit D c [-1, 4] 2 rfl (by omega) (by omega) _ hC9 _ rfl).mono ?_
        rintro e w4 ⟨u, -, rfl, hC4, hO4⟩
        have hS4 := HS9.out.drawn hC4 hO4 hc4 hc0 hc1 (by omega)
        have hX4 := bx_only HX9.out hO4 hc5
        obtain ⟨x0, x1⟩ := Bx.cells2W hX4
        have zz0 := hX4.warm 0
        have zz1 := hX4.warm 1
        have GS := Lib.hid (hS4.set hX4 hn5 hD4 hn 0 (.int .i64 u))
        have GX := Lib.hid (show Bx 25 n5 #[.int .i64 u, .int .i64 k] _ from hX4.set 0 (.int .i64 u))
        clear HS9 HX9 hC9 hC4 hO4 hS4 hX4
        go_wp2_with fail
        generalize w4.setCell _ _ = w5 at GS GX ⊢
        clear x0 x1 zz0 zz1
        obtain ⟨ad, cp, l, q, mw, mr, ms, lm, hl, hx, ho, hb, hm, hC, hO⟩ := GS.out
        obtain ⟨f0, f1⟩ := Bx.cells2W GX.out
        obtain ⟨g0, g1, g2, g3, g4, g5⟩ := hx.cells6
        obtain ⟨r0, r1⟩ := Bx.cells2W hb
        have yw0 := hb.warm 0
        have yw1 := hb.warm 1
        obtain ⟨s0, s1, s2, s3, s4, s5⟩ := hm.cells6
        have z0 := hm.warm 0
        have z1 := hm.warm 1
        have z2 := hm.warm 2
        have z3 := hm.warm 3
        have z4 := hm.warm 4
        have z5 := hm.warm 5
        have RB := Lib.hid (Bx.drew ((((((((hb.set 0 (.int .i64 u)).set 1 (.int .i64 k)).far (p := ⟨w.heap.size + 1, 0, none⟩) (by simp) (.slice ad l.length cp)).far (p := ⟨w.heap.size + 1, 1, none⟩) (by simp) (.int .i64 q)).far (p := ⟨w.heap.size + 1, 2, none⟩) (by simp) (.int .i64 mw)).far (p := ⟨w.heap.size + 1, 3, none⟩) (by simp) (.int .i64 mr)).far (p := ⟨w.heap.size + 1, 4, none⟩) (by simp) (.int .i64 ms)).far (p := ⟨w.heap.size + 1, 5, none⟩) (by simp) (.int .i64 lm)))
        have RM := Lib.hid (Bx.drew ((((((((hm.far (p := ⟨w.heap.size, 0, none⟩) (by simp) (.int .i64 u)).far (p := ⟨w.heap.size, 1, none⟩) (by simp) (.int .i64 k)).set 0 (.slice ad l.length cp)).set 1 (.int .i64 q)).set 2 (.int .i64 mw)).set 3 (.int .i64 mr)).set 4 (.int .i64 ms)).set 5 (.int .i64 lm)))
        have HOO := Lib.hid ho
        have HCC := Lib.hid hC
        have HON := Lib.hid hO
        clear hx ho hb hm hC hO GS GX
        go_region
        go_wp2_with fail
        obtain ⟨e0, e1⟩ := Bx.cells2W (show Bx 25 w.heap.size #[.int .i64 u, .int .i64 k] _ from RB.out)
        obtain ⟨d0, d1, d2, d3, d4, d5⟩ := Bx.cells6 (show Bx 28 (w.heap.size + 1) #[.slice ad l.length cp, .int .i64 q, .int .i64 mw, .int .i64 mr, .int .i64 ms, .int .i64 lm] _ from RM.out)
        refine bodyPost_ret (v := .tuple #[.agg #[.int .i64 u, .int .i64 k], .agg #[.slice ad l.length cp, .int .i64 q, .int .i64 mw, .int .i64 mr, .int .i64 ms, .int .i64 lm]]) (by simp [results, Try.results32, go_sem, e0, e1, d0, d1, d2, d3, d4, d5]) rfl ⟨ad, cp, l, q, mw, mr, ms, lm, u, k, rfl, hl, ?_, ?_, ?_⟩
        · refine Own.mono (B := w.heap.size + 2) (Own.later ?_ ((Below.refl _ _).drew)) (by omega)
          iterate 8 refine Own.setBelow ?_ (by dsimp only; omega) _
          exact HOO.out
        · refine HCC.out.belowB (B := w.heap.size) ?_ hD
          refine Below.drew ?_
          iterate 8 refine Below.setCell ?_ (by first | exact Nat.le_refl _ | (dsimp only; omega)) _
          exact Below.refl _ _
        · refine HON.out.transB ?_
          refine Below.drew ?_
          iterate 8 refine Below.setCell ?_ (by first | exact Nat.le_refl _ | (dsimp only; omega)) _
          exact Below.refl _ _
      · by_cases hy9 : x9 = 1
        · subst hy9
          go_wp2_with fail
          refine (pickLit D c [-1, 17] 2 rfl (by omega) (by omega) _ hC9 _ rfl).mono ?_
          rintro e w4 ⟨u, -, rfl, hC4, hO4⟩
          have hS4 := HS9.out.drawn hC4 hO4 hc4 hc0 hc1 (by omega)
          have hX4 := bx_only HX9.out hO4 hc5
          obtain ⟨x0, x1⟩ := Bx.cells2W hX4
          have zz0 := hX4.warm 0
          have zz1 := hX4.warm 1
          have GS := Lib.hid (hS4.set hX4 hn5 hD4 hn 1 (.int .i64 u))
          have GX := Lib.hid (show Bx 25 n5 #[.int .i64 a, .int .i64 u] _ from hX4.set 1 (.int .i64 u))
          clear HS9 HX9 hC9 hC4 hO4 hS4 hX4
          go_wp2_with fail
          generalize w4.setCell _ _ = w5 at GS GX ⊢
          clear x0 x1 zz0 zz1
          obtain ⟨ad, cp, l, q, mw, mr, ms, lm, hl, hx, ho, hb, hm, hC, hO⟩ := GS.out
          obtain ⟨f0, f1⟩ := Bx.cells2W GX.out
          obtain ⟨g0, g1, g2, g3, g4, g5⟩ := hx.cells6
          obtain ⟨r0, r1⟩ := Bx.cells2W hb
          have yw0 := hb.warm 0
          have yw1 := hb.warm 1
          obtain ⟨s0, s1, s2, s3, s4, s5⟩ := hm.cells6
          have z0 := hm.warm 0
          have z1 := hm.warm 1
          have z2 := hm.warm 2
          have z3 := hm.warm 3
          have z4 := hm.warm 4
          have z5 := hm.warm 5
          have RB := Lib.hid (Bx.drew ((((((((hb.set 0 (.int .i64 a)).set 1 (.int .i64 u)).far (p := ⟨w.heap.size + 1, 0, none⟩) (by simp) (.slice ad l.length cp)).far (p := ⟨w.heap.size + 1, 1, none⟩) (by simp) (.int .i64 q)).far (p := ⟨w.heap.size + 1, 2, none⟩) (by simp) (.int .i64 mw)).far (p := ⟨w.heap.size + 1, 3, none⟩) (by simp) (.int .i64 mr)).far (p := ⟨w.heap.size + 1, 4, none⟩) (by simp) (.int .i64 ms)).far (p := ⟨w.heap.size + 1, 5, none⟩) (by simp) (.int .i64 lm)))
          have RM := Lib.hid (Bx.drew ((((((((hm.far (p := ⟨w.heap.size, 0, none⟩) (by simp) (.int .i64 a)).far (p := ⟨w.heap.size, 1, none⟩) (by simp) (.int .i64 u)).set 0 (.slice ad l.length cp)).set 1 (.int .i64 q)).set 2 (.int .i64 mw)).set 3 (.int .i64 mr)).set 4 (.int .i64 ms)).set 5 (.int .i64 lm)))
          have HOO := Lib.hid ho
          have HCC := Lib.hid hC
          have HON := Lib.hid hO
          clear hx ho hb hm hC hO GS GX
          go_region
          go_wp2_with fail
          obtain ⟨e0, e1⟩ := Bx.cells2W (show Bx 25 w.heap.size #[.int .i64 a, .int .i64 u] _ from RB.out)
          obtain ⟨d0, d1, d2, d3, d4, d5⟩ := Bx.cells6 (show Bx 28 (w.heap.size + 1) #[.slice ad l.length cp, .int .i64 q, .int .i64 mw, .int .i64 mr, .int .i64 ms, .int .i64 lm] _ from RM.out)
          refine bodyPost_ret (v := .tuple #[.agg #[.int .i64 a, .int .i64 u], .agg #[.slice ad l.length cp, .int .i64 q, .int .i64 mw, .int .i64 mr, .int .i64 ms, .int .i64 lm]]) (by simp [results, Try.results32, go_sem, e0, e1, d0, d1, d2, d3, d4, d5]) rfl ⟨ad, cp, l, q, mw, mr, ms, lm, a, u, rfl, hl, ?_, ?_, ?_⟩
          · refine Own.mono (B := w.heap.size + 2) (Own.later ?_ ((Below.refl _ _).drew)) (by omega)
            iterate 8 refine Own.setBelow ?_ (by dsimp only; omega) _
            exact HOO.out
          · refine HCC.out.belowB (B := w.heap.size) ?_ hD
            refine Below.drew ?_
            iterate 8 refine Below.setCell ?_ (by first | exact Nat.le_refl _ | (dsimp only; omega)) _
            exact Below.refl _ _
          · refine HON.out.transB ?_
            refine Below.drew ?_
            iterate 8 refine Below.setCell ?_ (by first | exact Nat.le_refl _ | (dsimp only; omega)) _
            exact Below.refl _ _
        · have GS := HS9
          have GX := HX9
          clear HS9 HX9 hC9
          go_wp2_with fail
          obtain ⟨ad, cp, l, q, mw, mr, ms, lm, hl, hx, ho, hb, hm, hC, hO⟩ := GS.out
          obtain ⟨f0, f1⟩ := Bx.cells2W GX.out
          obtain ⟨g0, g1, g2, g3, g4, g5⟩ := hx.cells6
          obtain ⟨r0, r1⟩ := Bx.cells2W hb
          have yw0 := hb.warm 0
          have yw1 := hb.warm 1
          obtain ⟨s0, s1, s2, s3, s4, s5⟩ := hm.cells6
          have z0 := hm.warm 0
          have z1 := hm.warm 1
          have z2 := hm.warm 2
          have z3 := hm.warm 3
          have z4 := hm.warm 4
          have z5 := hm.warm 5
          have RB := Lib.hid (Bx.drew ((((((((hb.set 0 (.int .i64 a)).set 1 (.int .i64 k)).far (p := ⟨w.heap.size + 1, 0, none⟩) (by simp) (.slice ad l.length cp)).far (p := ⟨w.heap.size + 1, 1, none⟩) (by simp) (.int .i64 q)).far (p := ⟨w.heap.size + 1, 2, none⟩) (by simp) (.int .i64 mw)).far (p := ⟨w.heap.size + 1, 3, none⟩) (by simp) (.int .i64 mr)).far (p := ⟨w.heap.size + 1, 4, none⟩) (by simp) (.int .i64 ms)).far (p := ⟨w.heap.size + 1, 5, none⟩) (by simp) (.int .i64 lm)))
          have RM := Lib.hid (Bx.drew ((((((((hm.far (p := ⟨w.heap.size, 0, none⟩) (by simp) (.int .i64 a)).far (p := ⟨w.heap.size, 1, none⟩) (by simp) (.int .i64 k)).set 0 (.slice ad l.length cp)).set 1 (.int .i64 q)).set 2 (.int .i64 mw)).set 3 (.int .i64 mr)).set 4 (.int .i64 ms)).set 5 (.int .i64 lm)))
          have HOO := Lib.hid ho
          have HCC := Lib.hid hC
          have HON := Lib.hid hO
          clear hx ho hb hm hC hO GS GX
          go_region
          go_wp2_with fail
          obtain ⟨e0, e1⟩ := Bx.cells2W (show Bx 25 w.heap.size #[.int .i64 a, .int .i64 k] _ from RB.out)
          obtain ⟨d0, d1, d2, d3, d4, d5⟩ := Bx.cells6 (show Bx 28 (w.heap.size + 1) #[.slice ad l.length cp, .int .i64 q, .int .i64 mw, .int .i64 mr, .int .i64 ms, .int .i64 lm] _ from RM.out)
          refine bodyPost_ret (v := .tuple #[.agg #[.int .i64 a, .int .i64 k], .agg #[.slice ad l.length cp, .int .i64 q, .int .i64 mw, .int .i64 mr, .int .i64 ms, .int .i64 lm]]) (by simp [results, Try.results32, go_sem, e0, e1, d0, d1, d2, d3, d4, d5]) rfl ⟨ad, cp, l, q, mw, mr, ms, lm, a, k, rfl, hl, ?_, ?_, ?_⟩
          · refine Own.mono (B := w.heap.size + 2) (Own.later ?_ ((Below.refl _ _).drew)) (by omega)
            iterate 8 refine Own.setBelow ?_ (by dsimp only; omega) _
            exact HOO.out
          · refine HCC.out.belowB (B := w.heap.size) ?_ hD
            refine Below.drew ?_
            iterate 8 refine Below.setCell ?_ (by first | exact Nat.le_refl _ | (dsimp only; omega)) _
            exact Below.refl _ _
          · refine HON.out.transB ?_
            refine Below.drew ?_
            iterate 8 refine Below.setCell ?_ (by first | exact Nat.le_refl _ | (dsimp only; omega)) _
            exact Below.refl _ _
end Go.Proofs.Ytddbhokfjdgabaa.Cur
