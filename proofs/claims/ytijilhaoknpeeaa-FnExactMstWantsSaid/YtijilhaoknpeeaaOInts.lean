
/-
  A list of numbers that comes in, as data.
-/
import Derived.Test.YtijilhaoknpeeaaKdI
import Derived.Lib.SmallJoins
import Derived.Deep.Slices
import Derived.Deep.Fields
import Derived.ChangeSame
namespace Go.Proofs.Ytijilhaoknpeeaa.KD
open Go.RowKit Go.Joins Go.WideShapes Go.ChangeShapes Go.Deep Rows3

theorem trod_ints {H : Type} {enc : TypeId × Value → H} {w : World} {base : Nat} {sp : Nat → Bool} {held : Bool} {fuel : Nat} {v : Value} {x : DataW H × List MemPlace} (hsp : ∀ b, sp b = true)
    (h : DataW.trod enc Try.prog w base sp held fuel 33 [v] = some x) : ∃ l : List Int, ints.rd [v] l w := by
  rcases ChangeShapes.open_ints Try.underlying33 Try.underlying3 (by kernel_rfl) h with ⟨hcs, _⟩ | ⟨a, l, c, zs, hcs, _, hl, hm, hz, _, hcell, hwz⟩
  · obtain rfl : v = .slice none 0 0 := by simpa using hcs
    exact ⟨[], ints_rd ⟨none, 0, rfl, fun i hi => by simp at hi⟩ (fun _ _ _ e => by cases e; omega)⟩
  · obtain rfl : v = .slice (some a) l c := by simpa using hcs
    obtain ⟨m, h1, h2⟩ := rdIn (w := w) (a := some a) (len := l) (cap := c) (zs := zs) (.inr ⟨a, rfl, hl, hm, by rw [hz, if_pos (hsp _)], hcell, hwz⟩)
    exact ⟨m, ints_rd h2 (fun _ _ _ e => by cases e; exact ⟨hl, by unfold maxLen at hm; omega⟩)⟩
end Go.Proofs.Ytijilhaoknpeeaa.KD
