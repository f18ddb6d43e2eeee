/-
  Several texts in one: OInts, OMConf, ORow, OMConfS, OConf.
-/
import Derived.Test.YtdhaelaoackfkaaKdI
import Derived.Lib.SmallJoins
import Derived.Deep.Slices
import Derived.Deep.Fields
import Derived.ChangeSame
import Derived.Test.YtdhaelaoackfkaaKMConf
import Derived.Test.YtdhaelaoackfkaaKRow
import Derived.Test.YtdhaelaoackfkaaKMConfS
import Derived.Test.YtdhaelaoackfkaaKConf
namespace Go.Proofs.Ytdhaelaoackfkaa.KD
open Go.RowKit Go.Joins Go.WideShapes Go.ChangeShapes Go.Deep Rows3

theorem trod_ints {H : Type} {enc : TypeId × Value → H} {w : World} {base : Nat} {sp : Nat → Bool} {held : Bool} {fuel : Nat} {v : Value} {x : DataW H × List MemPlace} (hsp : ∀ b, sp b = true)
    (h : DataW.trod enc Try.prog w base sp held fuel 33 [v] = some x) : ∃ l : List Int, ints.rd [v] l w := by
  rcases ChangeShapes.open_ints Try.underlying33 Try.underlying3 (by kernel_rfl) h with ⟨hcs, _⟩ | ⟨a, l, c, zs, hcs, _, hl, hm, hz, _, hcell, hwz⟩
  · obtain rfl : v = .slice none 0 0 := by simpa using hcs
    exact ⟨[], ints_rd ⟨none, 0, rfl, fun i hi => by simp at hi⟩ (fun _ _ _ e => by cases e; omega)⟩
  · obtain rfl : v = .slice (some a) l c := by simpa using hcs
    obtain ⟨m, h1, h2⟩ := rdIn (w := w) (a := some a) (len := l) (cap := c) (zs := zs) (.inr ⟨a, rfl, hl, hm, by rw [hz, if_pos (hsp _)], hcell, hwz⟩)
    exact ⟨m, ints_rd h2 (fun _ _ _ e => by cases e; exact ⟨hl, by unfold maxLen at hm; omega⟩)⟩
end Go.Proofs.Ytdhaelaoackfkaa.KD

namespace Go.Proofs.Ytdhaelaoackfkaa.KD
open Go.RowKit Go.Joins Go.WideShapes Go.ChangeShapes Go.Deep Rows3 GR
set_option linter.unusedVariables false

set_option maxRecDepth 100000 in
theorem trod_mConf {H : Type} {enc : TypeId × Value → H} {w : World} {base : Nat} {sp : Nat → Bool} {held : Bool} {fuel : Nat} {cs : List Value} {y : DataW H × List MemPlace} (hsp : ∀ b, sp b = true) (hln : cs.length = 4)
    (h : DataW.trod enc Try.prog w base sp held fuel 110 cs = some y) : ∃ x, mConfK.rd cs x w := by
  match cs, hln with
  | [c0, c1, c2, c3], _ =>
    obtain ⟨xs, n, _, _, _, hl, hx⟩ := DataW.trod_struct Try.underlying110 h
    have hs0 : Try.prog.cellsOf 3 = 1 := by kernel_rfl
    have hs1 : Try.prog.cellsOf 4 = 1 := by kernel_rfl
    have f0 := hx 0 _ rfl
    have f1 := hx 1 _ rfl
    have f2 := hx 2 _ rfl
    have f3 := hx 3 _ rfl
    simp [hs0, hs1] at f0 f1 f2 f3
    match xs, (show xs.length = 4 from hl) with
    | [y0, y1, y2, y3], _ =>
      simp at f0 f1 f2 f3
      obtain ⟨x0, g0, _, _⟩ := DataW.trod_int Try.underlying3 f0
      simp at g0
      subst g0
      obtain ⟨x1, g1, _⟩ := DataW.trod_bool Try.underlying4 f1
      simp at g1
      subst g1
      obtain ⟨x2, g2, _, _⟩ := DataW.trod_int Try.underlying3 f2
      simp at g2
      subst g2
      obtain ⟨x3, g3, _, _⟩ := DataW.trod_int Try.underlying3 f3
      simp at g3
      subst g3
      exact ⟨(x0, x1, x2, x3), ⟨[.int .i64 x0], _, rfl, rfl, ⟨[.bool x1], _, rfl, rfl, ⟨[.int .i64 x2], _, rfl, rfl, rfl⟩⟩⟩⟩
set_option maxRecDepth 100000 in
theorem open_mConf {H : Type} {enc : TypeId × Value → H} {w : World} {base : Nat} {held : Bool} {r : Reach} {b0 : Nat} {v : Value} {d : DataW H} {p : List MemPlace}
    (hv : Value.okWide Try.prog w r b0 110 v) (h : DataW.Trod enc Try.prog w base (fun _ => true) held 110 v d p) : ∃ (u : List Value) (x : Int × Bool × Int × Int), v = .agg u.toArray ∧ mConfK.rd u x w := by
  obtain ⟨cs, rfl, hsz⟩ := okWide_struct Try.underlying110 hv
  obtain ⟨fuel, hf⟩ := h
  obtain ⟨x, hx⟩ := trod_mConf (cs := cs.toList) (fun _ => rfl) (by rw [Array.length_toList]; exact hsz.trans (by kernel_rfl : Try.prog.cellsOf 110 = 4)) (by simpa [Value.cells] using hf)
  exact ⟨cs.toList, x, rfl, hx⟩
end Go.Proofs.Ytdhaelaoackfkaa.KD

namespace Go.Proofs.Ytdhaelaoackfkaa.KD
open Go.RowKit Go.Joins Go.WideShapes Go.ChangeShapes Go.Deep Rows3
set_option linter.unusedVariables false

theorem addr_of0 {w : World} {a : Addr} {v : Value} (h : w.cell? (a.add 0) = some v) : a = ⟨a.block, a.off, none⟩ := by
  obtain ⟨b, o, spot⟩ := a
  have hs := World.cell?_spot h
  simp [Addr.add] at hs
  subst hs; rfl
theorem addr_add0 (b o i : Nat) : (⟨b, o, none⟩ : Addr).add i = ⟨b, o + i, none⟩ := by unfold Addr.add; split <;> simp_all
theorem listed {α : Type} (n : Nat) (Q : Nat → α → Prop) (h : ∀ i, i < n → ∃ x, Q i x) : ∃ l : List α, l.length = n ∧ ∀ i x, l[i]? = some x → Q i x := by
  induction n with
  | zero => exact ⟨[], rfl, fun i x h => by simp at h⟩
  | succ n ih =>
    obtain ⟨l, hl, hq⟩ := ih (fun i hi => h i (by omega))
    obtain ⟨x, hx⟩ := h n (by omega)
    refine ⟨l ++ [x], by simp [hl], fun i y hy => ?_⟩
    by_cases hi : i < n
    · rw [List.getElem?_append_left (by omega)] at hy
      exact hq i y hy
    · rw [List.getElem?_append_right (by omega)] at hy
      have : i - l.length = 0 := by
        rcases Nat.eq_zero_or_pos (i - l.length) with h | h
        · exact h
        · rw [List.getElem?_eq_none (by simp; omega)] at hy; cases hy
      rw [this] at hy
      have e : i = n := by omega
      subst e
      simp at hy
      subst hy
      exact hx
theorem trod_row {α : Type} {K : Kn α} {hn : K.n ≤ 64} {H : Type} {enc : TypeId × Value → H} {w : World} {base : Nat} {sp : Nat → Bool} {held : Bool} {fuel : Nat} {v : Value} {y : DataW H × List MemPlace} {T e : TypeId} (hsp : ∀ b, sp b = true)
    (hT : Try.prog.underlying T = some (.slice e)) (hc : Try.prog.cellsOf e = K.n) (h0 : 0 < K.n)
    (hel : ∀ {n : Nat} {cs : List Value} {z : DataW H × List MemPlace}, cs.length = K.n → DataW.trod enc Try.prog w base sp held n e cs = some z → ∃ x, K.rd cs x w)
    (h : DataW.trod enc Try.prog w base sp held fuel T [v] = some y) : ∃ l, (row K hn).rd [v] l w := by
  rcases open_slice hT h with h1 | ⟨a, len, cap, m, n, D, Pl, hcs, hb, hl, hm, hmm, hx, hi⟩
  · obtain rfl : v = .slice none 0 0 := by simpa using h1.1
    exact ⟨[], (row K hn).cap_rd (row_nil (fun _ => False) w)⟩
  · obtain rfl : v = .slice (some a) len cap := by simpa using hcs
    obtain ⟨l, hlen, hq⟩ := listed len (fun i x => ∃ es, es.length = K.n ∧ (∀ t u, es[t]? = some u → w.cell? (a.add (i * K.n + t)) = some u) ∧ K.rd es x w) (fun i hil => by
      have him' : i < m := by rw [hmm, hsp]; simp; omega
      obtain ⟨cs', h2, ht'⟩ := hi i him'
      rw [hc] at h2
      obtain ⟨_, hcl, hat⟩ := World.cells?_some h2
      obtain ⟨x, hxr⟩ := hel hcl ht'
      exact ⟨x, cs', hcl, fun t u hu => by rw [← Go.Deep.add_add, hat t (by have := (List.getElem?_eq_some_iff.1 hu).1; omega), hu], hxr⟩)
    refine ⟨l, some a, cap, by rw [hlen], by rw [hlen]; exact ⟨hl, by unfold maxLen at hm; omega⟩, fun i x hix => ?_⟩
    obtain ⟨es, hes, hce, hxr⟩ := hq i x hix
    have hil := (List.getElem?_eq_some_iff.1 hix).1
    obtain ⟨x0, hx0⟩ : ∃ x0, l[0]? = some x0 := ⟨_, List.getElem?_eq_getElem (by omega)⟩
    obtain ⟨es0, hes0, hce0, _⟩ := hq 0 x0 hx0
    have hz := hce0 0 _ (List.getElem?_eq_getElem (by omega))
    rw [Nat.zero_mul, Nat.add_zero] at hz
    have ha := addr_of0 hz
    refine ⟨a.block, a.off, es, by rw [← ha], ?_, fun t u hu => ?_, hxr⟩
    · rw [ha, addr_add0] at hz
      exact World.block_lt_of_cell? _ ⟨a.block, a.off + 0, none⟩ hz
    · have h3 := hce t u hu
      rw [ha, addr_add0] at h3
      rw [Nat.add_assoc]; exact h3
end Go.Proofs.Ytdhaelaoackfkaa.KD

namespace Go.Proofs.Ytdhaelaoackfkaa.KD
open Go.RowKit Go.Joins Go.WideShapes Go.ChangeShapes Go.Deep Rows3 GR
set_option linter.unusedVariables false

theorem trod_mConfS {H : Type} {enc : TypeId × Value → H} {w : World} {base : Nat} {sp : Nat → Bool} {held : Bool} {fuel : Nat} {v : Value} {y : DataW H × List MemPlace} (hsp : ∀ b, sp b = true)
    (h : DataW.trod enc Try.prog w base sp held fuel 22 [v] = some y) : ∃ l, mConfS.rd [v] l w :=
  trod_row hsp Try.underlying22 (by kernel_rfl : Try.prog.cellsOf 110 = 4) (by decide) (fun hl hh => trod_mConf hsp hl hh) h
end Go.Proofs.Ytdhaelaoackfkaa.KD

namespace Go.Proofs.Ytdhaelaoackfkaa.KD
open Go.RowKit Go.Joins Go.WideShapes Go.ChangeShapes Go.Deep Rows3 GR
set_option linter.unusedVariables false

set_option maxRecDepth 100000 in
theorem trod_conf {H : Type} {enc : TypeId × Value → H} {w : World} {base : Nat} {sp : Nat → Bool} {held : Bool} {fuel : Nat} {cs : List Value} {y : DataW H × List MemPlace} (hsp : ∀ b, sp b = true) (hln : cs.length = 6)
    (h : DataW.trod enc Try.prog w base sp held fuel 24 cs = some y) : ∃ x, confK.rd cs x w := by
  match cs, hln with
  | [c0, c1, c2, c3, c4, c5], _ =>
    obtain ⟨xs, n, _, _, _, hl, hx⟩ := DataW.trod_struct Try.underlying24 h
    have hs0 : Try.prog.cellsOf 22 = 1 := by kernel_rfl
    have hs1 : Try.prog.cellsOf 3 = 1 := by kernel_rfl
    have f0 := hx 0 _ rfl
    have f1 := hx 1 _ rfl
    have f2 := hx 2 _ rfl
    have f3 := hx 3 _ rfl
    have f4 := hx 4 _ rfl
    have f5 := hx 5 _ rfl
    simp [hs0, hs1] at f0 f1 f2 f3 f4 f5
    match xs, (show xs.length = 6 from hl) with
    | [y0, y1, y2, y3, y4, y5], _ =>
      simp at f0 f1 f2 f3 f4 f5
      obtain ⟨x0, rx0⟩ := trod_mConfS hsp f0
      obtain ⟨x1, g1, _, _⟩ := DataW.trod_int Try.underlying3 f1
      simp at g1
      subst g1
      obtain ⟨x2, g2, _, _⟩ := DataW.trod_int Try.underlying3 f2
      simp at g2
      subst g2
      obtain ⟨x3, g3, _, _⟩ := DataW.trod_int Try.underlying3 f3
      simp at g3
      subst g3
      obtain ⟨x4, g4, _, _⟩ := DataW.trod_int Try.underlying3 f4
      simp at g4
      subst g4
      obtain ⟨x5, g5, _, _⟩ := DataW.trod_int Try.underlying3 f5
      simp at g5
      subst g5
      exact ⟨(x0, x1, x2, x3, x4, x5), ⟨[c0], _, rfl, rx0, ⟨[.int .i64 x1], _, rfl, rfl, ⟨[.int .i64 x2], _, rfl, rfl, ⟨[.int .i64 x3], _, rfl, rfl, ⟨[.int .i64 x4], _, rfl, rfl, rfl⟩⟩⟩⟩⟩⟩
set_option maxRecDepth 100000 in
theorem open_conf {H : Type} {enc : TypeId × Value → H} {w : World} {base : Nat} {held : Bool} {r : Reach} {b0 : Nat} {v : Value} {d : DataW H} {p : List MemPlace}
    (hv : Value.okWide Try.prog w r b0 24 v) (h : DataW.Trod enc Try.prog w base (fun _ => true) held 24 v d p) : ∃ (u : List Value) (x : List (Int × Bool × Int × Int) × Int × Int × Int × Int × Int), v = .agg u.toArray ∧ confK.rd u x w := by
  obtain ⟨cs, rfl, hsz⟩ := okWide_struct Try.underlying24 hv
  obtain ⟨fuel, hf⟩ := h
  obtain ⟨x, hx⟩ := trod_conf (cs := cs.toList) (fun _ => rfl) (by rw [Array.length_toList]; exact hsz.trans (by kernel_rfl : Try.prog.cellsOf 24 = 6)) (by simpa [Value.cells] using hf)
  exact ⟨cs.toList, x, rfl, hx⟩
end Go.Proofs.Ytdhaelaoackfkaa.KD
