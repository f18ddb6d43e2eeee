
/-
  What is drawn for WrrPick: spec.l11Wants, spec.DrawWrrPick.
-/
import Derived.Test.YtddbhokfjdgabaaDrawW
namespace Go.Proofs.Ytddbhokfjdgabaa.Cur
open Go.RowKit Bytes Num GR KD Rows3
set_option linter.unusedVariables false

theorem appO {ops : Array Oper} {rest : List Oper} {o : Oper} {a : Act} {Q : Exit → Act → World → Prop} (hgd : o.guard = none) (s x : Operand)
    (ho : o.op = .call { callee := .builtin .append, args := #[s, x], argTypes := #[29, 29] })
    (B : Nat) (v : Value) (l : List Bool) (w : World) (c : Bool) (hs : a.eval s = v) (hx : a.eval x = .slice (some ⟨w.heap.size, 0, none⟩) 1 1)
    (hown : OwnO B v l w) (hB : B ≤ w.heap.size) (hl : l.length + 1 ≤ 17592186044416)
    (h : ∀ v' w', OwnO B v' (l ++ [c]) w' → Below B w w' → wpList Try.prog ops Q rest (a.put o.dst v') w') :
    wpList Try.prog ops Q (o :: rest) a (w.alloc (.cells #[.bool c] 4)) := by
  obtain ⟨i, hi, hz, hsz, hby⟩ := info_parts info_bool
  refine wpList_append_own _ hgd s x 29 ho B 4 i (.bool false) 1 1 Try.underlying29 hi hz hsz hby rfl (by decide) v l.length (boolCells l) hs (hown.later ((Below.refl _ _).alloc (Nat.le_refl _) _)) ⟨w.heap.size, 0, none⟩ 1 1 [.bool c] hx rfl ?_ ?_ ?_ (by omega) (by simp; omega) ?_
  · exact cell_one_new w _ _
  · intro u hu; simp at hu; subst hu; rfl
  · unfold maxLen; omega
  · intro v' w' hown' hgr _
    refine h v' w' ?_ ?_
    · unfold OwnO; rw [boolCells_append, List.length_append]; exact hown'
    · exact (((Below.refl B w).alloc hB _)).grown hgr (by simp; omega) (fun k hk => (World.ownsRow.lt hown k hk).1)
theorem ownO_only {B c : Nat} {v : Value} {l : List Bool} {w w' : World} (h : OwnO B v l w) (hO : Only c w w') (hc : c < B) : OwnO B v l w' :=
  h.far (only_grown hO) (fun k hk e => by have := (World.ownsRow.lt h k hk).1; cases e; omega)
theorem OwnO.setLow {B : Nat} {v : Value} {l : List Bool} {w : World} (h : OwnO B v l w) {p : Addr} (hp : p.block < B) (u : Value) : OwnO B v l (w.setCell p u) :=
  h.far (grown_set w p u) (fun k hk e => by have := (World.ownsRow.lt h k hk).1; cases e; omega)
/-- a list of truth values drawn. -/
def DrewO (n D c : Nat) (w : World) (e : Ending) (w' : World) : Prop := ∃ v l, e = .returned v ∧ l.length = n ∧ OwnO w.heap.size v l w' ∧ CuD D c w' ∧ Only c w w'
set_option maxRecDepth 100000 in
theorem wants_any (n : Nat) (hn : n ≤ 10) (D c : Nat) (w : World) (h : CuD D c w) : Calls Try.prog 34 #[.pointer (some ⟨c, 0, none⟩), .int .i64 (n : Int)] w (DrewO n D c w) := by
  have hcl : c < w.heap.size := Nat.lt_of_lt_of_le h.lt h.le
  have hD := h.le
  have Hn := Lib.hid (OwnO.made w.heap.size w (Nat.le_refl _))
  have HC := Lib.hid (h.alloc (.cells #[] 4))
  have HO := Lib.hid ((Only.refl c w).alloc (.cells #[] 4))
  go_enter Try.func34, Try.ntmps34
  go_wp2_with fail
  go_loopw [5] (fun v wr => ∃ l : List Bool, l.length ≤ n ∧ OwnO w.heap.size v l wr ∧ CuD D c wr ∧ Only c w wr) (fun v _ => n - (match v with | .slice _ k _ => k | _ => 0))
  case atStart => exact ⟨[], by simp, Hn.out, HC.out, HO.out⟩
  case round =>
    obtain ⟨l, hl, hown, hC, hO⟩ := hrel
    obtain ⟨ad, cap, rfl⟩ := hown.slice
    have Hw := Lib.hid hown
    clear hown Hn HC HO
    by_cases hm : l.length < n
    · go_wp2_with fail
      refine (onceC D c 2 (by omega) (by omega) _ hC).mono ?_
      rintro e w2 ⟨y, rfl, hC2, hO2⟩
      have hO02 := hO.trans hO2
      have hs2 := hO02.size
      have Ho2 := Lib.hid (ownO_only Hw.out hO2 hcl)
      go_wp2_with (at_builtin; refine appO rfl _ _ rfl w.heap.size (.slice ad l.length cap) l w2 y rfl rfl Ho2.out hs2 (by omega) ?_; intro v' w3 hown3 hb3; have Ho3 := Lib.hid hown3; clear hown3)
      obtain ⟨ad', cap', rfl⟩ := Ho3.out.slice
      go_roundw
      case rel => exact ⟨l ++ [y], by simp; omega, Ho3.out, hC2.belowB hb3 hD, hO02.transD hb3⟩
      case measure => simp; omega
    · have e : l.length = n := by omega
      go_wp2
      go_ret
      exact ⟨_, l, rfl, e, Hw.out, hC, hO⟩
/-- what is drawn of a code. -/
def DrewPk (w : World) (e : Ending) (w' : World) : Prop :=
  ∃ ad cp l q mw mr ms lm a k bv bl, e = .returned (.tuple #[.agg #[.int .i64 a, .int .i64 k], .agg #[.slice ad l.length cp, .int .i64 q, .int .i64 mw, .int .i64 mr, .int .i64 ms, .int .i64 lm], bv]) ∧ l.length ≤ 4 ∧ bl.length ≤ 5 ∧ Own mcK 78 w.heap.size (.slice ad l.length cp) l w' ∧ OwnO w.heap.size bv bl w' ∧ Below w.heap.size w w'
set_option maxHeartbeats 8000000 in
set_option maxRecDepth 100000 in
theorem drawPick (ca : Option Addr) (len cap0 : Nat) (zz : List Int) (w : World) (h : CodeIn ca len zz w) : Calls Try.prog 10 #[.slice ca len cap0] w (DrewPk w) := by
  have hsz : ∀ (w : World) o, (w.alloc o).heap.size = w.heap.size + 1 := fun w o => by simp
  have B0 := (Bx.new 25 #[.int .i64 0, .int .i64 0] w).alloc (.cells #[.slice none 0 0, .int .i64 0, .int .i64 0, .int .i64 0, .int .i64 0, .int .i64 0] 28)
  have M0 := Bx.new 28 #[.slice none 0 0, .int .i64 0, .int .i64 0, .int .i64 0, .int .i64 0, .int .i64 0] (w.alloc (.cells #[.int .i64 0, .int .i64 0] 25))
  rw [hsz] at M0
  have O0 := ((Below.refl w.heap.size w).alloc (Nat.le_refl _) (.cells #[.int .i64 0, .int .i64 0] 25)).alloc (by simp) (.cells #[.slice none 0 0, .int .i64 0, .int .i64 0, .int .i64 0, .int .i64 0, .int .i64 0] 28)
  have hs0 : ((w.alloc (.cells #[.int .i64 0, .int .i64 0] 25)).alloc (.cells #[.slice none 0 0, .int .i64 0, .int .i64 0, .int .i64 0, .int .i64 0, .int .i64 0] 28)).heap.size = w.heap.size + 2 := by rw [hsz, hsz]
  have HB := Lib.hid B0
  have HM := Lib.hid M0
  have HO := Lib.hid O0
  have HS := Lib.hid hs0
  have HC := Lib.hid (h.below O0)
  clear B0 M0 O0 hsz h hs0
  go_enter Try.func10, Try.ntmps10
  go_wp2_with fail
  generalize (w.alloc _).alloc _ = y0 at HB HM HO HC HS ⊢
  refine (newC ca len cap0 zz _ HC.out).mono ?_
  rintro e y1 ⟨c, rfl, hc, hC1, hb1⟩
  have hsy := HS.out
  have hc0 : w.heap.size + 2 ≤ c := by omega
  have hc1 : w.heap.size ≠ c := by omega
  have hc2 : w.heap.size + 1 ≠ c := by omega
  have HB1 := Lib.hid (HB.out.later hb1)
  have HM1 := Lib.hid (HM.out.later hb1)
  have HO1 := Lib.hid (HO.out.trans (hb1.mono HO.out.size))
  have hD1 : c < y1.heap.size := hC1.lt
  have HC1 := Lib.hid hC1
  clear HB HM HO HC hc hb1 hC1 HS hsy
  go_wp2_with fail
  refine (wc_any _ c _ HC1.out).mono ?_
  rintro e y2 ⟨ad, cp, l, q, mw, mr, ms, lm, a, k, rfl, hl, hown, hC2, hO2⟩
  have HB2 := Lib.hid (bx_only HB1.out hO2 hc1)
  have HM2 := Lib.hid (bx_only HM1.out hO2 hc2)
  have HO2 := Lib.hid (Only.below HO1.out (by omega) hO2)
  have HOW := Lib.hid hown
  have HC2 := Lib.hid hC2
  clear HB1 HM1 HO1 HC1 hC2 hO2 hown
  obtain ⟨n6, hn6⟩ : ∃ n, y2.heap.size = n := ⟨_, rfl⟩
  have hn : w.heap.size + 1 < n6 := hn6 ▸ HM2.out.lt
  have hD6 : c < n6 := by have := HC2.out.le; have := HC2.out.lt; omega
  have hsz : ∀ (w : World) o, (w.alloc o).heap.size = w.heap.size + 1 := fun w o => by simp
  have B6 := (Bx.new 25 #[.int .i64 a, .int .i64 k] y2).alloc (.cells #[.slice ad l.length cp, .int .i64 q, .int .i64 mw, .int .i64 mr, .int .i64 ms, .int .i64 lm] 28)
  have M6 := Bx.new 28 #[.slice ad l.length cp, .int .i64 q, .int .i64 mw, .int .i64 mr, .int .i64 ms, .int .i64 lm] (y2.alloc (.cells #[.int .i64 a, .int .i64 k] 25))
  rw [hsz] at M6
  have O6 := ((Below.refl y2.heap.size y2).alloc (Nat.le_refl _) (.cells #[.int .i64 a, .int .i64 k] 25)).alloc (by simp) (.cells #[.slice ad l.length cp, .int .i64 q, .int .i64 mw, .int .i64 mr, .int .i64 ms, .int .i64 lm] 28)
  rw [hn6] at B6 M6
  have HB6 := Lib.hid B6
  have HM6 := Lib.hid M6
  have GB := Lib.hid (HB2.out.later O6)
  have GM := Lib.hid (HM2.out.later O6)
  have GO := Lib.hid (HO2.out.trans (O6.mono HO2.out.size))
  have GC := Lib.hid (HC2.out.below O6)
  have GW := Lib.hid (HOW.out.later O6)
  clear B6 M6 O6 HB2 HM2 HO2 HC2 HOW hsz
  go_upto_region 4 with fail
  generalize (y2.alloc _).alloc _ = y3 at HB6 HM6 GB GM GO GC GW ⊢
  go_wp2_with fail
  refine (onceC _ c 14 (by omega) (by omega) _ GC.out).mono ?_
  rintro e y4 ⟨x, rfl, hC4, hO4⟩
  have KB6 := Lib.hid (bx_only HB6.out hO4 (by omega))
  have KM6 := Lib.hid (bx_only HM6.out hO4 (by omega))
  have KB := Lib.hid (bx_only GB.out hO4 hc1)
  have KM := Lib.hid (bx_only GM.out hO4 hc2)
  have KO := Lib.hid (Only.below GO.out (by omega) hO4)
  have KC := Lib.hid hC4
  have KW := Lib.hid (own_only GW.out hO4 hD1)
  clear HB6 HM6 GB GM GO GC GW hC4 hO4
  go_upto_if 20 with fail
  go_cut [8] from 21 to 22 (fun s8 wx => ∃ n : Nat, s8 = .int .i64 (n : Int) ∧ n ≤ 5 ∧ wx = y4)
  case first =>
    cases x with
    | false =>
      go_wp2_with fail
      go_meet
      exact ⟨l.length, rfl, by omega, rfl⟩
    | true =>
      go_wp2_with fail
      go_meet
      exact ⟨l.length + 1, by congr 1, by omega, rfl⟩
  case rest =>
    obtain ⟨n, rfl, hn5, rfl⟩ := hcut
    have hn6c : n6 ≠ c := by omega
    have hn7c : n6 + 1 ≠ c := by omega
    have hwb : w.heap.size + 1 < wc.heap.size := KM.out.lt
    have hown1 := KO.out.size
    obtain ⟨f0, f1⟩ := Bx.cells2W KB6.out
    obtain ⟨g0, g1, g2, g3, g4, g5⟩ := KM6.out.cells6
    go_wp2_with fail
    go_region_with (first
      | (go_at_call 34; refine (wants_any n (by omega) _ c _ (by first | exact KC.out | exact KC.out.drew)).mono ?_; rintro e y5 ⟨bv, bl, rfl, hbl, hbo, hC5, hO5'⟩; have hO5 : Only c wc y5 := (by first | exact hO5' | exact ⟨hO5'.os, hO5'.tape, hO5'.output, hO5'.size, hO5'.block⟩); clear hO5'; have L6 := bx_only KB6.out hO5 hn6c; have LM6 := bx_only KM6.out hO5 hn7c; have LB := bx_only KB.out hO5 hc1; have LM := bx_only KM.out hO5 hc2; obtain ⟨u0, u1⟩ := Bx.cells2W L6; obtain ⟨v0, v1, v2, v3, v4, v5⟩ := LM6.cells6; obtain ⟨r0, r1⟩ := Bx.cells2W LB; obtain ⟨s0, s1, s2, s3, s4, s5⟩ := LM.cells6; have rw0 := LB.warm 0; have rw1 := LB.warm 1; have sw0 := LM.warm 0; have sw1 := LM.warm 1; have sw2 := LM.warm 2; have sw3 := LM.warm 3; have sw4 := LM.warm 4; have sw5 := LM.warm 5))
    all_goals go_wp2_with fail
    all_goals
      have RB := ((((((((LB.set 0 (.int .i64 a)).set 1 (.int .i64 k)).far (p := ⟨w.heap.size + 1, 0, none⟩) (by simp) (.slice ad l.length cp)).far (p := ⟨w.heap.size + 1, 1, none⟩) (by simp) (.int .i64 q)).far (p := ⟨w.heap.size + 1, 2, none⟩) (by simp) (.int .i64 mw)).far (p := ⟨w.heap.size + 1, 3, none⟩) (by simp) (.int .i64 mr)).far (p := ⟨w.heap.size + 1, 4, none⟩) (by simp) (.int .i64 ms)).far (p := ⟨w.heap.size + 1, 5, none⟩) (by simp) (.int .i64 lm))
      have RM := ((((((((LM.far (p := ⟨w.heap.size, 0, none⟩) (by simp) (.int .i64 a)).far (p := ⟨w.heap.size, 1, none⟩) (by simp) (.int .i64 k)).set 0 (.slice ad l.length cp)).set 1 (.int .i64 q)).set 2 (.int .i64 mw)).set 3 (.int .i64 mr)).set 4 (.int .i64 ms)).set 5 (.int .i64 lm))
      obtain ⟨e0, e1⟩ := Bx.cells2W (show Bx 25 w.heap.size #[.int .i64 a, .int .i64 k] _ from RB)
      obtain ⟨d0, d1, d2, d3, d4, d5⟩ := Bx.cells6 (show Bx 28 (w.heap.size + 1) #[.slice ad l.length cp, .int .i64 q, .int .i64 mw, .int .i64 mr, .int .i64 ms, .int .i64 lm] _ from RM)
      have hbo' : OwnO wc.heap.size bv bl y5 := hbo
      refine bodyPost_ret (v := .tuple #[.agg #[.int .i64 a, .int .i64 k], .agg #[.slice ad l.length cp, .int .i64 q, .int .i64 mw, .int .i64 mr, .int .i64 ms, .int .i64 lm], bv]) (by simp [results, Try.results10, go_sem, Act.put, e0, e1, d0, d1, d2, d3, d4, d5]) rfl ⟨ad, cp, l, q, mw, mr, ms, lm, a, k, bv, bl, rfl, hl, by omega, ?_, ?_, ?_⟩
      · refine Own.mono (B := y1.heap.size) ?_ (by omega)
        iterate 8 refine Own.setBelow ?_ (by dsimp only; omega) _
        exact own_only KW.out hO5 hD1
      · refine OwnO.mono (B := wc.heap.size) ?_ hown1
        iterate 8 refine OwnO.setLow ?_ (by dsimp only; omega) _
        exact hbo'
      · iterate 8 refine Below.setCell ?_ (by first | exact Nat.le_refl _ | (dsimp only; omega)) _
        exact Only.below KO.out (by omega) hO5
end Go.Proofs.Ytddbhokfjdgabaa.Cur
