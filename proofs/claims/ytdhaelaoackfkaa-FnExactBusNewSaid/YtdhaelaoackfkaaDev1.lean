
/-
  The device: a new one, are two the same, is it one; for the program and for its model.
-/
import Derived.Test.YtdhaelaoackfkaaKDev
import Derived.Test.YtdhaelaoackfkaaEqAny
import Derived.Test.YtdhaelaoackfkaaLane
import Derived.Lib.QuietBelow
namespace Go.Proofs.Ytdhaelaoackfkaa.KD
open Go.RowKit Rows3 GR Num
set_option linter.unusedVariables false

theorem below_drewN' {B : Nat} {a w : World} (h : Below B a w) (n : Nat) : Below B a (w.drewN n) := ⟨h.os, h.tape, h.output, h.size, h.block⟩
/-- are all numbers words. -/
def wordB (x : Int) : Bool := inLB x 2
theorem wordB_iff (x : Int) : wordB x = true ↔ 0 ≤ x ∧ x < 4294967296 := by unfold wordB; rw [inLB_iff]; rfl
def wordsTo (l : List Int) (k : Nat) : Bool := (l.take k).all wordB
def wordsB (l : List Int) : Bool := l.all wordB
theorem wordsTo_all (l : List Int) : wordsTo l l.length = wordsB l := by unfold wordsTo wordsB; rw [List.take_length]
theorem wordsTo_succ {l : List Int} {k : Nat} (h : k < l.length) : wordsTo l (k + 1) = (wordsTo l k && wordB (l.getD k 0)) := by
  unfold wordsTo
  rw [List.take_succ_eq_append_getElem h, List.all_append, getD_lt h]
  simp only [List.all_cons, List.all_nil, Bool.and_true]
theorem wordsB_bad {l : List Int} {k : Nat} (h : k < l.length) (hx : wordB (l.getD k 0) = false) : wordsB l = false := by
  rw [← Bool.not_eq_true]
  intro ha
  unfold wordsB at ha
  rw [List.all_eq_true] at ha
  have := ha (l.getD k 0) (by rw [getD_lt h]; exact List.getElem_mem h)
  rw [hx] at this; cases this
theorem qWord (v : Int) (u : Bool) (h : wordB v = u) (w : World) : Calls Try.prog 72 #[.int .i64 v, .int .i64 0, .int .i64 4294967295] w fun e w' => e = .returned (.bool u) ∧ w' = w := by
  rw [← h]; exact (specIn v 2 4294967295 rfl w).mono fun e w' ⟨a, b⟩ => ⟨a, b.symm⟩

theorem word_is {v : Int} {u : Bool} (h : wordB v = u) (w : World) : Calls Try.prog 72 #[.int .i64 v, .int .i64 0, .int .i64 4294967295] w fun e w' => e = .returned (.bool u) ∧ Below w.heap.size w w' := by
  rw [← h]; exact (specIn v 2 4294967295 rfl w).mono fun e w' ⟨a, b⟩ => ⟨a, by rw [b]; exact Below.refl _ _⟩

/-- is it a device. -/
def okD (r : List Int) (t : Int) (f : List Int) : Bool := (r.length : Int) == 4 && (wordsB r && (wordB t && (decide ((f.length : Int) ≤ 4) && wordsB f)))
end Go.Proofs.Ytdhaelaoackfkaa.KD
