
/-
  Chapter 4's small functions: limits, whether a memory is one, whether a number fits; for the program and for its model.
-/
import Derived.Test.YtdhaelaoackfkaaSig
import Derived.Test.YtdhaelaoackfkaaIntRow
import Derived.Test.YtdhaelaoackfkaaBurst
namespace Go.Proofs.Ytdhaelaoackfkaa.Num
open Go.RowKit Rows3

/-- how many numbers a size has. -/
def limW (k : Int) : Int := if k = 0 then 256 else if k = 1 then 65536 else if k = 2 then 4294967296 else 0
theorem limW_no {k : Int} (h : k < 0 ∨ 2 < k) : limW k = 0 := by unfold limW; rw [if_neg (by omega), if_neg (by omega), if_neg (by omega)]
theorem bytesW_no {k : Int} (h : k < 0 ∨ 2 < k) : bytesW k = 0 := by unfold bytesW; rw [if_neg (by omega), if_neg (by omega), if_neg (by omega)]
theorem limW_cases (k : Int) : (bytesW k = 0 ∧ limW k = 0) ∨ (k = 0 ∧ bytesW k = 1 ∧ limW k = 256) ∨ (k = 1 ∧ bytesW k = 2 ∧ limW k = 65536) ∨ (k = 2 ∧ bytesW k = 4 ∧ limW k = 4294967296) := by
  by_cases h : k < 0 ∨ 2 < k
  · exact .inl ⟨bytesW_no h, limW_no h⟩
  · have hk : k = 0 ∨ k = 1 ∨ k = 2 := by omega
    rcases hk with rfl | rfl | rfl
    · exact .inr (.inl ⟨rfl, rfl, rfl⟩)
    · exact .inr (.inr (.inl ⟨rfl, rfl, rfl⟩))
    · exact .inr (.inr (.inr ⟨rfl, rfl, rfl⟩))
theorem limW_bd (k : Int) : 0 ≤ limW k ∧ limW k ≤ 4294967296 := by rcases limW_cases k with ⟨_, h⟩ | ⟨_, _, h⟩ | ⟨_, _, h⟩ | ⟨_, _, h⟩ <;> omega
theorem bytesW_bd (k : Int) : 0 ≤ bytesW k ∧ bytesW k ≤ 4 := by rcases limW_cases k with ⟨h, _⟩ | ⟨_, h, _⟩ | ⟨_, h, _⟩ | ⟨_, h, _⟩ <;> omega

/-- is v a number of a size. -/
def inLB (v k : Int) : Bool := decide (0 ≤ v) && decide (v < limW k)
theorem inLB_iff (v k : Int) : inLB v k = true ↔ 0 ≤ v ∧ v < limW k := by unfold inLB; simp [Bool.and_eq_true]
theorem inLB_no (v k : Int) (h : ¬ (0 ≤ v ∧ v < limW k)) : inLB v k = false := by rw [← Bool.not_eq_true, inLB_iff]; exact h
/-- the model's own way: from 0 to one below the limit. -/
theorem specIn (v k m : Int) (hm : m = limW k - 1) (w : World) :
    Calls Try.prog 72 #[.int .i64 v, .int .i64 0, .int .i64 m] w fun e w' => e = .returned (.bool (inLB v k)) ∧ w = w' := by
  by_cases h : 0 ≤ v ∧ v < limW k
  · rw [(inLB_iff v k).2 h]
    exact sl1In_yes _ _ _ h.1 (by omega) _
  · rw [inLB_no v k h]
    exact sl1In_no _ _ _ (by omega) _

/-- is it a memory: at most 512 numbers, each one a byte's. -/
def okTo (l : List Int) (k : Nat) : Bool := (l.take k).all fun x => decide (0 ≤ x) && decide (x ≤ 255)
def memB (l : List Int) : Bool := decide (l.length ≤ 512) && okTo l l.length
theorem okTo_succ {l : List Int} {k : Nat} (h : k < l.length) : okTo l (k + 1) = (okTo l k && (decide (0 ≤ l.getD k 0) && decide (l.getD k 0 ≤ 255))) := by
  unfold okTo
  rw [List.take_succ_eq_append_getElem h, List.all_append, getD_lt h]
  simp only [List.all_cons, List.all_nil, Bool.and_true]
theorem okTo_iff (l : List Int) : okTo l l.length = true ↔ ∀ x ∈ l, 0 ≤ x ∧ x ≤ 255 := by
  unfold okTo; rw [List.take_length, List.all_eq_true]; simp
theorem memB_iff (l : List Int) : memB l = true ↔ l.length ≤ 512 ∧ ∀ x ∈ l, 0 ≤ x ∧ x ≤ 255 := by
  unfold memB; rw [Bool.and_eq_true, okTo_iff]; simp
theorem okTo_bad {l : List Int} {k : Nat} (h : k < l.length) (hx : l.getD k 0 < 0 ∨ 255 < l.getD k 0) : okTo l l.length = false := by
  rw [← Bool.not_eq_true, okTo_iff]
  intro ha
  have := ha (l.getD k 0) (by rw [getD_lt h]; exact List.getElem_mem h)
  omega
theorem memB_long {l : List Int} (h : 512 < l.length) : memB l = false := by
  have : ¬ l.length ≤ 512 := by omega
  simp [memB, this]
theorem memB_bad {l : List Int} {k : Nat} (h : k < l.length) (hx : l.getD k 0 < 0 ∨ 255 < l.getD k 0) : memB l = false := by simp [memB, okTo_bad h hx]

/-- does a number of a size fit at a place of a row of n. -/
def fitB (n : Nat) (a k : Int) : Bool := alB a k && decide (a ≤ n - bytesW k)
theorem fitB_iff (n : Nat) (a k : Int) : fitB n a k = true ↔ 0 < bytesW k ∧ 0 ≤ a ∧ a % bytesW k = 0 ∧ a + bytesW k ≤ n := by
  unfold fitB; rw [Bool.and_eq_true, alB_iff]; simp; omega
end Go.Proofs.Ytdhaelaoackfkaa.Num
