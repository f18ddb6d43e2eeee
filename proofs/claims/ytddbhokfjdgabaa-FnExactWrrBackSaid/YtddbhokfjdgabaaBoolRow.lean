
/-
  A row of truth values that a call has made for itself: a number appended to it; what reads it, what marks it.
-/
import Derived.Test.YtddbhokfjdgabaaIntRow
import Derived.WalkKit
import Derived.WalkSpells
import Derived.WalkLawsBesides
import Derived.Lib.Hide
import Derived.OwnWalk
import Derived.Laws.AppendOwnNone
import Derived.Laws.OwnMore
import Derived.Deep.QuietTactic
import Derived.BigQuiet
namespace Go.Proofs.Ytddbhokfjdgabaa.Rows3
open Go.RowKit

def boolCells (l : List Bool) : List Value := l.map (Value.bool)
theorem boolCells_length (l : List Bool) : (boolCells l).length = l.length := by simp [boolCells]
theorem boolCells_append (l m : List Bool) : boolCells (l ++ m) = boolCells l ++ boolCells m := by simp [boolCells]

/-- v is a slice of truth values in a block of the call's own (from B on), holding l. -/
def OwnO (B : Nat) (v : Value) (l : List Bool) (w : World) : Prop := w.ownsRow B 4 1 v l.length (boolCells l)
theorem info_bool : (Try.prog.info? 4).map (fun i => (i.zero, i.size, i.bytes)) = some (some (.bool false), 1, 1) := by kernel_rfl

theorem OwnO.nil (B : Nat) (w : World) : OwnO B (.slice none 0 0) [] w := World.ownsRow_nil w B _ 1
theorem OwnO.made (B : Nat) (w : World) (hB : B ≤ w.heap.size) : OwnO B (.slice (some ⟨w.heap.size, 0, none⟩) 0 0) [] (w.alloc (.cells #[] 4)) :=
  World.ownsRow_made w #[] 0 hB (Nat.zero_le _) rfl
/-- a slice literal, or a made row, that is full. -/
theorem OwnO.full (B : Nat) (w : World) (hB : B ≤ w.heap.size) (l : List Bool) (n : Nat) (hn : l.length = n) (hm : n ≤ 100000) (xs : Array Value) (hx : xs.toList = boolCells l) :
    OwnO B (.slice (some ⟨w.heap.size, 0, none⟩) n n) l (w.alloc (.cells xs 4)) := by
  subst hn
  have hs : xs.size = l.length := by rw [← Array.length_toList, hx, boolCells_length]
  refine ⟨by simp [boolCells_length], .inr ⟨w.heap.size, l.length, xs, rfl, hB, heap_alloc_new w _, Nat.le_refl _, by unfold maxLen; omega, by omega, ?_⟩⟩
  rw [hx, List.take_of_length_le (by rw [boolCells_length]; omega)]
theorem OwnO.slice {B : Nat} {v : Value} {l : List Bool} {w : World} (h : OwnO B v l w) : ∃ ad cap, v = .slice ad l.length cap := by
  rcases h.2 with ⟨rfl, h0⟩ | ⟨g, cap, cur, rfl, _⟩
  · exact ⟨none, 0, by rw [h0]⟩
  · exact ⟨_, cap, rfl⟩
theorem OwnO.mono {B B' : Nat} {v : Value} {l : List Bool} {w : World} (h : OwnO B v l w) (hB : B' ≤ B) : OwnO B' v l w := by
  obtain ⟨h1, h2⟩ := h
  refine ⟨h1, ?_⟩
  rcases h2 with h2 | ⟨g, cp, cur, rfl, hb, rest⟩
  · exact .inl h2
  · exact .inr ⟨g, cp, cur, rfl, Nat.le_trans hB hb, rest⟩
/-- what happens above leaves the row as it is. -/
theorem OwnO.below {B C : Nat} {v : Value} {l : List Bool} {w w' : World} (h : OwnO B v l w) (hb : Below C w w') (hC : ∀ k, v.ownBlock = some k → k < C) : OwnO B v l w' := by
  obtain ⟨h1, h2⟩ := h
  refine ⟨h1, ?_⟩
  rcases h2 with h2 | ⟨g, cp, cur, rfl, hB, hg, rest⟩
  · exact .inl h2
  · exact .inr ⟨g, cp, cur, rfl, hB, by rw [hb.block g (hC g rfl)]; exact hg, rest⟩
theorem OwnO.later {B : Nat} {v : Value} {l : List Bool} {w w' : World} (h : OwnO B v l w) (hb : Below w.heap.size w w') : OwnO B v l w' :=
  h.below hb (fun k hk => (World.ownsRow.lt h k hk).2)

/-- what happens to another row leaves this one as it is. -/
theorem OwnO.far {B : Nat} {v : Value} {l : List Bool} {w w' : World} {r : Option Nat} (h : OwnO B v l w) (hg : w.grownBy w' r) (hr : ∀ k, v.ownBlock = some k → some k ≠ r) : OwnO B v l w' := by
  obtain ⟨h1, h2⟩ := h
  refine ⟨h1, ?_⟩
  rcases h2 with h2 | ⟨g, cp, cur, rfl, hB, hh, rest⟩
  · exact .inl h2
  · exact .inr ⟨g, cp, cur, rfl, hB, by rw [hg.block g (Array.getElem?_eq_some_iff.1 hh).1 (hr g rfl)]; exact hh, rest⟩
/-- a new row that holds l. -/
def NewO (l : List Bool) (w : World) (e : Ending) (w' : World) : Prop := ∃ v, e = .returned v ∧ OwnO w.heap.size v l w' ∧ Below w.heap.size w w'
/-- make([]bool, n). -/
theorem makeO (n : Nat) (hn : n ≤ 2000000) (w : World) : (Instr.makeSlice 29 (.int .i64 (n : Int)) (.int .i64 (n : Int))).run Try.prog w = .ok (.slice (some ⟨w.heap.size, 0, none⟩) n n) (w.alloc (.cells (madeCells #[.bool false] n) 4)) := by
  obtain ⟨i, hi, hz, hsz, hby⟩ := info_parts info_bool
  have h := run_make (P := Try.prog) w 29 4 i (.bool false) Try.underlying29 hi hz .i64 .i64 (n : Int) (n : Int) (by omega) (by omega) (by rw [hby]; omega) (by omega)
  rw [Int.toNat_natCast, hsz, Nat.mul_one] at h
  exact h
theorem OwnO.make0 (B : Nat) (w : World) (hB : B ≤ w.heap.size) (n : Nat) (hn : n ≤ 2000000) :
    OwnO B (.slice (some ⟨w.heap.size, 0, none⟩) n n) (List.replicate n false) (w.alloc (.cells (madeCells #[.bool false] n) 4)) := by
  refine ⟨by simp [boolCells], .inr ⟨w.heap.size, n, _, by simp, hB, heap_alloc_new w _, by simp, by unfold maxLen; omega, by simp [size_madeCells], ?_⟩⟩
  rw [toList_madeCells_one]
  simp [boolCells]

/-- a slice of truth values that can be read: v reads l. -/
def RdO (v : Value) (l : List Bool) (w : World) : Prop :=
  ∃ ad cap, v = .slice ad l.length cap ∧ ∀ i, i < l.length → ∃ b o, ad = some ⟨b, o, none⟩ ∧ b < w.heap.size ∧ w.cell? ⟨b, o + i, none⟩ = some (.bool (l.getD i false))
theorem RdO.below {v : Value} {l : List Bool} {w w' : World} (h : RdO v l w) (hb : Below w.heap.size w w') : RdO v l w' := by
  obtain ⟨ad, cap, rfl, h⟩ := h
  refine ⟨ad, cap, rfl, fun i hi => ?_⟩
  obtain ⟨b, o, e, h1, h2⟩ := h i hi
  exact ⟨b, o, e, Nat.lt_of_lt_of_le h1 hb.size, by rw [hb.cell (p := ⟨b, o + i, none⟩) h1]; exact h2⟩
theorem OwnO.rd {B : Nat} {v : Value} {l : List Bool} {w : World} (h : OwnO B v l w) : RdO v l w := by
  rcases h.2 with ⟨rfl, h0⟩ | ⟨g, cap, cur, rfl, hb, hg, hn, hm, hs, ht⟩
  · obtain rfl : l = [] := List.length_eq_zero_iff.1 h0
    exact ⟨none, 0, rfl, fun i hi => by simp at hi⟩
  · refine ⟨_, cap, rfl, fun i hi => ⟨g, 0, rfl, (Array.getElem?_eq_some_iff.1 hg).1, ?_⟩⟩
    have := World.ownsRow.cells h (g := g) rfl i (.bool (l.getD i false)) (by simp [boolCells, List.getD, hi])
    have hadd : (⟨g, 0, none⟩ : Addr).add i = ⟨g, i, none⟩ := by unfold Addr.add; split <;> simp_all
    rw [hadd] at this
    rw [Nat.zero_add]; exact this
theorem OwnO.cell {B g cap : Nat} {l : List Bool} {w : World} {n : Nat} (h : OwnO B (.slice (some ⟨g, 0, none⟩) n cap) l w) {i : Nat} (hi : i < l.length) : w.cell? ⟨g, i, none⟩ = some (.bool (l.getD i false)) := by
  have := World.ownsRow.cells h (g := g) rfl i (.bool (l.getD i false)) (by simp [boolCells, List.getD, hi])
  have hadd : (⟨g, 0, none⟩ : Addr).add i = ⟨g, i, none⟩ := by unfold Addr.add; split <;> simp_all
  rwa [hadd] at this
theorem getDO_lt {l : List Bool} {i : Nat} (h : i < l.length) : l.getD i false = l[i] := by simp [List.getD, h]

end Go.Proofs.Ytddbhokfjdgabaa.Rows3
