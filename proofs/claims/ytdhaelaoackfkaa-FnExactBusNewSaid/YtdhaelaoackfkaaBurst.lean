
/-
  What the functions of chapter 3 return, for the program and for its model, whatever the world.
-/
import Derived.Test.YtdhaelaoackfkaaSig
import Derived.Test.YtdhaelaoackfkaaIntRow
namespace Go.Proofs.Ytdhaelaoackfkaa.Num
open Go.RowKit Rows3

/-- how many beats a burst has. -/
def beatsW (b : Int) : Int := if b = 0 then 1 else if b = 1 then 4 else if b = 2 then 4 else if b = 3 then 8 else 0
theorem beatsW_no {b : Int} (h : b < 0 ∨ 3 < b) : beatsW b = 0 := by
  unfold beatsW; rw [if_neg (by omega), if_neg (by omega), if_neg (by omega), if_neg (by omega)]
theorem beatsW_bd (b : Int) : 0 ≤ beatsW b ∧ beatsW b ≤ 8 := by unfold beatsW; repeat' split <;> omega
/-- where the next beat goes. -/
def nextW (a k b : Int) : Int :=
  if alB a k = true ∧ a < 512 ∧ beatsW b ≠ 0 then (if b = 2 ∧ (a + bytesW k) % (4 * bytesW k) = 0 then a + bytesW k - 4 * bytesW k else a + bytesW k) else -1
theorem nextW_al {a k b : Int} (h : alB a k = false) : nextW a k b = -1 := by unfold nextW; rw [if_neg]; simp [h]
theorem nextW_far {a k b : Int} (h : 512 ≤ a) : nextW a k b = -1 := by unfold nextW; rw [if_neg]; rintro ⟨_, h2, _⟩; omega
theorem nextW_no {a k b : Int} (h : beatsW b = 0) : nextW a k b = -1 := by unfold nextW; rw [if_neg]; rintro ⟨_, _, h3⟩; exact h3 h
theorem bytesW_cases (k : Int) : bytesW k = 0 ∨ (k = 0 ∧ bytesW k = 1) ∨ (k = 1 ∧ bytesW k = 2) ∨ (k = 2 ∧ bytesW k = 4) := by
  by_cases h0 : k = 0
  · exact .inr (.inl ⟨h0, by rw [h0]; rfl⟩)
  · by_cases h1 : k = 1
    · exact .inr (.inr (.inl ⟨h1, by rw [h1]; rfl⟩))
    · by_cases h2 : k = 2
      · exact .inr (.inr (.inr ⟨h2, by rw [h2]; rfl⟩))
      · exact .inl (by unfold bytesW; rw [if_neg h0, if_neg h1, if_neg h2])
theorem alB_iff (a k : Int) : alB a k = true ↔ 0 < bytesW k ∧ 0 ≤ a ∧ a % bytesW k = 0 := by
  unfold alB; simp [Bool.and_eq_true, beq_iff_eq]
theorem nextW_bd (a k b : Int) : nextW a k b = -1 ∨ (0 ≤ nextW a k b ∧ nextW a k b ≤ 515) := by
  unfold nextW
  split
  · rename_i h
    obtain ⟨h1, h2, h3⟩ := h
    obtain ⟨h4, h5, h6⟩ := (alB_iff a k).1 h1
    rcases bytesW_cases k with e | ⟨_, e⟩ | ⟨_, e⟩ | ⟨_, e⟩
    · omega
    all_goals
      rw [e] at h6 ⊢
      right
      split <;> omega
  · exact .inl rfl
theorem nextW_neg {a k b : Int} (h : a < 0) : nextW a k b = -1 := nextW_al (alB_neg a k h)

end Go.Proofs.Ytdhaelaoackfkaa.Num
