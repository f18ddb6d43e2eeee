
/-
  A slice of structs that comes in, as data.
-/
import Derived.Test.YtijilhaoknpeeaaOInts
import Derived.Test.YtijilhaoknpeeaaKRow
namespace Go.Proofs.Ytijilhaoknpeeaa.KD
open Go.RowKit Go.Joins Go.WideShapes Go.ChangeShapes Go.Deep Rows3
set_option linter.unusedVariables false

theorem addr_of0 {w : World} {a : Addr} {v : Value} (h : w.cell? (a.add 0) = some v) : a = ⟨a.block, a.off, none⟩ := by
  obtain ⟨b, o, spot⟩ := a
  have hs := World.cell?_spot h
  simp [Addr.add] at hs
  subst hs; rfl
theorem addr_add0 (b o i : Nat) : (⟨b, o, none⟩ : Addr).add i = ⟨b, o + i, none⟩ := by unfold Addr.add; split <;> simp_all
theorem listed {α : Type} (n : Nat) (Q : Nat → α → Prop) (h : ∀ i, i < n → ∃ x, Q i x) : ∃ l : List α, l.length = n ∧ ∀ i x, l[i]? = some x → Q i x := by
  induction n with
  | zero => exact ⟨[], rfl, fun i x h => by simp at h⟩
  | succ n ih =>
    obtain ⟨l, hl, hq⟩ := ih (fun i hi => h i (by omega))
    obtain ⟨x, hx⟩ := h n (by omega)
    refine ⟨l ++ [x], by simp [hl], fun i y hy => ?_⟩
    by_cases hi : i < n
    · rw [List.getElem?_append_left (by omega)] at hy
      exact hq i y hy
    · rw [List.getElem?_append_right (by omega)] at hy
      have : i - l.length = 0 := by
        rcases Nat.eq_zero_or_pos (i - l.length) with h | h
        · exact h
        · rw [List.getElem?_eq_none (by simp; omega)] at hy; cases hy
      rw [this] at hy
      have e : i = n := by omega
      subst e
      simp at hy
      subst hy
      exact hx
theorem trod_row {α : Type} {K : Kn α} {hn : K.n ≤ 64} {H : Type} {enc : TypeId × Value → H} {w : World} {base : Nat} {sp : Nat → Bool} {held : Bool} {fuel : Nat} {v : Value} {y : DataW H × List MemPlace} {T e : TypeId} (hsp : ∀ b, sp b = true)
    (hT : Try.prog.underlying T = some (.slice e)) (hc : Try.prog.cellsOf e = K.n) (h0 : 0 < K.n)
    (hel : ∀ {n : Nat} {cs : List Value} {z : DataW H × List MemPlace}, cs.length = K.n → DataW.trod enc Try.prog w base sp held n e cs = some z → ∃ x, K.rd cs x w)
    (h : DataW.trod enc Try.prog w base sp held fuel T [v] = some y) : ∃ l, (row K hn).rd [v] l w := by
  rcases open_slice hT h with h1 | ⟨a, len, cap, m, n, D, Pl, hcs, hb, hl, hm, hmm, hx, hi⟩
  · obtain rfl : v = .slice none 0 0 := by simpa using h1.1
    exact ⟨[], (row K hn).cap_rd (row_nil (fun _ => False) w)⟩
  · obtain rfl : v = .slice (some a) len cap := by simpa using hcs
    obtain ⟨l, hlen, hq⟩ := listed len (fun i x => ∃ es, es.length = K.n ∧ (∀ t u, es[t]? = some u → w.cell? (a.add (i * K.n + t)) = some u) ∧ K.rd es x w) (fun i hil => by
      have him' : i < m := by rw [hmm, hsp]; simp; omega
      obtain ⟨cs', h2, ht'⟩ := hi i him'
      rw [hc] at h2
      obtain ⟨_, hcl, hat⟩ := World.cells?_some h2
      obtain ⟨x, hxr⟩ := hel hcl ht'
      exact ⟨x, cs', hcl, fun t u hu => by rw [← Go.Deep.add_add, hat t (by have := (List.getElem?_eq_some_iff.1 hu).1; omega), hu], hxr⟩)
    refine ⟨l, some a, cap, by rw [hlen], by rw [hlen]; exact ⟨hl, by unfold maxLen at hm; omega⟩, fun i x hix => ?_⟩
    obtain ⟨es, hes, hce, hxr⟩ := hq i x hix
    have hil := (List.getElem?_eq_some_iff.1 hix).1
    obtain ⟨x0, hx0⟩ : ∃ x0, l[0]? = some x0 := ⟨_, List.getElem?_eq_getElem (by omega)⟩
    obtain ⟨es0, hes0, hce0, _⟩ := hq 0 x0 hx0
    have hz := hce0 0 _ (List.getElem?_eq_getElem (by omega))
    rw [Nat.zero_mul, Nat.add_zero] at hz
    have ha := addr_of0 hz
    refine ⟨a.block, a.off, es, by rw [← ha], ?_, fun t u hu => ?_, hxr⟩
    · rw [ha, addr_add0] at hz
      exact World.block_lt_of_cell? _ ⟨a.block, a.off + 0, none⟩ hz
    · have h3 := hce t u hu
      rw [ha, addr_add0] at h3
      rw [Nat.add_assoc]; exact h3
end Go.Proofs.Ytijilhaoknpeeaa.KD
