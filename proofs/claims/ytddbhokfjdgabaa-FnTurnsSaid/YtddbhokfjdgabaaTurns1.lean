
/-
  The law on turns: its mathematics.
-/
import Derived.Test.YtddbhokfjdgabaaWrr4
namespace Go.Proofs.Ytddbhokfjdgabaa.KD
open Go.RowKit Rows3 GR Num
set_option linter.unusedVariables false

theorem first_is {a : Int} {wants : List Bool} : ∀ (n : Nat) (j i : Int), firstR a wants n j = some i → 0 < wants.length → (0 ≤ i ∧ i < wants.length) ∧ wants.getD i.toNat false = true := by
  intro n
  induction n with
  | zero => intro j i h; exact absurd h (by simp [firstR])
  | succ n ih =>
    intro j i h h0
    cases hg : wants.getD ((a + j) % wants.length).toNat false with
    | true =>
      rw [first_yes hg] at h
      obtain rfl : (a + j) % wants.length = i := by simpa using h
      exact ⟨⟨Int.emod_nonneg _ (by omega), Int.emod_lt_of_pos _ (by omega)⟩, hg⟩
    | false =>
      rw [first_no hg] at h
      exact ih _ _ h h0
theorem first_nil {a : Int} {wants : List Bool} : ∀ (n : Nat) (j : Int), firstR a wants n j = none → ∀ m : Nat, m < n → wants.getD ((a + (j + m)) % wants.length).toNat false = false := by
  intro n
  induction n with
  | zero => intro j _ m hm; omega
  | succ n ih =>
    intro j h m hm
    cases hg : wants.getD ((a + j) % wants.length).toNat false with
    | true => rw [first_yes hg] at h; exact absurd h (by simp)
    | false =>
      rw [first_no hg] at h
      cases m with
      | zero => simpa using hg
      | succ m =>
        have := ih (j + 1) h m (by omega)
        rwa [show j + 1 + (m : Int) = j + ((m + 1 : Nat) : Int) by omega] at this
theorem first_all {a : Int} {wants : List Bool} (h : firstR a wants wants.length 1 = none) (i : Nat) (hi : i < wants.length) : wants.getD i false = false := by
  have hm0 : 0 ≤ ((i : Int) - a - 1) % wants.length := Int.emod_nonneg _ (by omega)
  have hm1 : ((i : Int) - a - 1) % wants.length < wants.length := Int.emod_lt_of_pos _ (by omega)
  obtain ⟨m, hm⟩ : ∃ m : Nat, ((i : Int) - a - 1) % wants.length = m := ⟨(((i : Int) - a - 1) % wants.length).toNat, by omega⟩
  have h1 := first_nil wants.length 1 h m (by omega)
  have e : (a + (1 + (m : Int))) % wants.length = i := by
    rw [← hm, show a + (1 + ((i : Int) - a - 1) % wants.length) = (a + 1) + ((i : Int) - a - 1) % wants.length by omega, Int.add_emod_emod]
    rw [show a + 1 + ((i : Int) - a - 1) = (i : Int) by omega]
    exact Int.emod_eq_of_lt (by omega) (by omega)
  rw [e, Int.toNat_natCast] at h1
  exact h1
theorem any_true {l : List Bool} {i : Nat} (h : l.getD i false = true) : l.any id = true := by
  rw [List.any_eq_true]
  have hi : i < l.length := by
    rcases Nat.lt_or_ge i l.length with h1 | h1
    · exact h1
    · simp [List.getD, List.getElem?_eq_none h1] at h
  exact ⟨l[i], List.getElem_mem hi, by simpa [List.getD, hi] using h⟩
theorem any_false {l : List Bool} (h : ∀ i, i < l.length → l.getD i false = false) : l.any id = false := by
  rw [List.any_eq_false]
  intro x hx
  obtain ⟨i, hi, rfl⟩ := List.getElem_of_mem hx
  have := h i hi
  simpa [List.getD, hi] using this
theorem turnW_pos {c : ConfX} {i : Int} (h : okX c = true) (h0 : 0 ≤ i) (h1 : i < c.1.length) : 1 ≤ turnW c i := by
  obtain ⟨l, q, mw, mr, ms, lm⟩ := c
  obtain ⟨k, rfl⟩ : ∃ k : Nat, i = k := ⟨i.toNat, by omega⟩
  have h1' : k < l.length := by have : (k : Int) < (l.length : Int) := h1; omega
  have hx : l[k]? = some l[k] := List.getElem?_eq_getElem h1'
  rw [turnW_at h hx]
  obtain ⟨_, hq, hm⟩ := confX_facts h
  have hw := hm _ (List.getElem_mem h1')
  have := Int.mul_le_mul hw.1 hq.1 (by omega) (by omega)
  show 1 ≤ l[k].1 * q
  omega
theorem okWr_mk {a k : Int} {c : ConfX} (h : okX c = true) (h0 : 0 ≤ a ∧ a < c.1.length) (h1 : 0 ≤ k ∧ k ≤ turnW c a) : okWr a k c = true := by
  unfold okWr
  rw [h, inB_yes (x := a) (by omega) (by omega), inB_yes h1.1 h1.2]; rfl
theorem okWr_of {a k : Int} {c : ConfX} (h : okWr a k c = true) : okX c = true ∧ (0 ≤ a ∧ a < c.1.length) ∧ (0 ≤ k ∧ k ≤ turnW c a) := by
  obtain ⟨l, q, mw, mr, ms, lm⟩ := c; exact okWr_facts h
theorem back_at {a k : Int} {c : ConfX} (h : okWr a k c = true) (h1 : k + 1 ≤ turnW c a) : backR a k c a = (a, k + 1) := by
  unfold backR; rw [if_pos ⟨h, rfl⟩, if_neg (by omega)]
/-- what is picked. -/
theorem pick_cases {a k : Int} {c : ConfX} {bl : List Bool} (h : okWr a k c = true ∧ bl.length = c.1.length) : ∃ xa xk who, pickR a k c bl = ((xa, xk), who) ∧ okWr xa xk c = true ∧
    ((∃ n : Nat, who = n ∧ n < bl.length ∧ xa = n ∧ bl.getD n false = true ∧ backR xa xk c who = (xa, xk + 1) ∧ (0 ≤ xk ∧ xk ≤ 16) ∧ bl.any id = true) ∨ (who = -1 ∧ bl.any id = false)) ∧ (k = 0 ∨ bl.getD a.toNat false = false ∨ who = a) := by
  obtain ⟨hx, ha, hk⟩ := okWr_of h.1
  have hbd := turnW_bd c a
  by_cases hat : 0 < k ∧ bl.getD a.toNat false = true
  · refine ⟨a, k - 1, a, pick_at h hat.1 hat.2, okWr_mk hx ha (by omega), .inl ⟨a.toNat, by omega, by omega, by omega, hat.2, ?_, by omega, any_true hat.2⟩, .inr (.inr rfl)⟩
    exact back_at (okWr_mk hx ha (by omega)) (by omega)
  · have hlast : k = 0 ∨ bl.getD a.toNat false = false := by
      rcases Int.lt_or_le 0 k with h1 | h1
      · right
        cases hg : bl.getD a.toNat false with
        | false => rfl
        | true => exact absurd ⟨h1, hg⟩ hat
      · left; omega
    have hl' : ∀ who : Int, k = 0 ∨ bl.getD a.toNat false = false ∨ who = a := fun who => hlast.elim .inl (fun h => .inr (.inl h))
    cases hf : firstR a bl bl.length 1 with
    | some i =>
      obtain ⟨⟨h0, h1⟩, h2⟩ := first_is _ _ _ hf (by omega)
      have hp := turnW_pos hx h0 (by omega)
      have hb := turnW_bd c i
      have ho : okWr i (turnW c i - 1) c = true := okWr_mk hx ⟨h0, by omega⟩ (by omega)
      refine ⟨i, turnW c i - 1, i, pick_some h hat hf, ho, .inl ⟨i.toNat, by omega, by omega, by omega, h2, ?_, by omega, any_true h2⟩, hl' i⟩
      exact back_at ho (by omega)
    | none =>
      exact ⟨a, 0, -1, pick_none h hat hf, okWr_mk hx ha (by omega), .inr ⟨rfl, any_false (first_all hf)⟩, hl' _⟩
end Go.Proofs.Ytddbhokfjdgabaa.KD
