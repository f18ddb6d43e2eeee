/-
  Several texts in one: BoolRow, EqO, KdO.
-/
import Derived.Test.YtdhaelaoackfkaaGreatIntRow
import Derived.WalkKit
import Derived.WalkSpells
import Derived.WalkLawsBesides
import Derived.Lib.Hide
import Derived.OwnWalk
import Derived.Laws.AppendOwnNone
import Derived.Laws.OwnMore
import Derived.Deep.QuietTactic
import Derived.BigQuiet
import Derived.Test.YtdhaelaoackfkaaGreatGA13
import Derived.Test.YtdhaelaoackfkaaGreatKdI
namespace Go.Proofs.YtdhaelaoackfkaaGreat.Rows3
open Go.RowKit

def boolCells (l : List Bool) : List Value := l.map (Value.bool)
theorem boolCells_length (l : List Bool) : (boolCells l).length = l.length := by simp [boolCells]
theorem boolCells_append (l m : List Bool) : boolCells (l ++ m) = boolCells l ++ boolCells m := by simp [boolCells]

/-- v is a slice of truth values in a block of the call's own (from B on), holding l. -/
def OwnO (B : Nat) (v : Value) (l : List Bool) (w : World) : Prop := w.ownsRow B 4 1 v l.length (boolCells l)
theorem info_bool : (Tryz.prog.info? 4).map (fun i => (i.zero, i.size, i.bytes)) = some (some (.bool false), 1, 1) := by kernel_rfl

theorem OwnO.nil (B : Nat) (w : World) : OwnO B (.slice none 0 0) [] w := World.ownsRow_nil w B _ 1
theorem OwnO.made (B : Nat) (w : World) (hB : B ≤ w.heap.size) : OwnO B (.slice (some ⟨w.heap.size, 0, none⟩) 0 0) [] (w.alloc (.cells #[] 4)) :=
  World.ownsRow_made w #[] 0 hB (Nat.zero_le _) rfl
/-- a slice literal, or a made row, that is full. -/
theorem OwnO.full (B : Nat) (w : World) (hB : B ≤ w.heap.size) (l : List Bool) (n : Nat) (hn : l.length = n) (hm : n ≤ 100000) (xs : Array Value) (hx : xs.toList = boolCells l) :
    OwnO B (.slice (some ⟨w.heap.size, 0, none⟩) n n) l (w.alloc (.cells xs 4)) := by
  subst hn
  have hs : xs.size = l.length := by rw [← Array.length_toList, hx, boolCells_length]
  refine ⟨by simp [boolCells_length], .inr ⟨w.heap.size, l.length, xs, rfl, hB, heap_alloc_new w _, Nat.le_refl _, by unfold maxLen; omega, by omega, ?_⟩⟩
  rw [hx, List.take_of_length_le (by rw [boolCells_length]; omega)]
theorem OwnO.slice {B : Nat} {v : Value} {l : List Bool} {w : World} (h : OwnO B v l w) : ∃ ad cap, v = .slice ad l.length cap := by
  rcases h.2 with ⟨rfl, h0⟩ | ⟨g, cap, cur, rfl, _⟩
  · exact ⟨none, 0, by rw [h0]⟩
  · exact ⟨_, cap, rfl⟩
theorem OwnO.mono {B B' : Nat} {v : Value} {l : List Bool} {w : World} (h : OwnO B v l w) (hB : B' ≤ B) : OwnO B' v l w := by
  obtain ⟨h1, h2⟩ := h
  refine ⟨h1, ?_⟩
  rcases h2 with h2 | ⟨g, cp, cur, rfl, hb, rest⟩
  · exact .inl h2
  · exact .inr ⟨g, cp, cur, rfl, Nat.le_trans hB hb, rest⟩
/-- what happens above leaves the row as it is. -/
theorem OwnO.below {B C : Nat} {v : Value} {l : List Bool} {w w' : World} (h : OwnO B v l w) (hb : Below C w w') (hC : ∀ k, v.ownBlock = some k → k < C) : OwnO B v l w' := by
  obtain ⟨h1, h2⟩ := h
  refine ⟨h1, ?_⟩
  rcases h2 with h2 | ⟨g, cp, cur, rfl, hB, hg, rest⟩
  · exact .inl h2
  · exact .inr ⟨g, cp, cur, rfl, hB, by rw [hb.block g (hC g rfl)]; exact hg, rest⟩
theorem OwnO.later {B : Nat} {v : Value} {l : List Bool} {w w' : World} (h : OwnO B v l w) (hb : Below w.heap.size w w') : OwnO B v l w' :=
  h.below hb (fun k hk => (World.ownsRow.lt h k hk).2)

/-- what happens to another row leaves this one as it is. -/
theorem OwnO.far {B : Nat} {v : Value} {l : List Bool} {w w' : World} {r : Option Nat} (h : OwnO B v l w) (hg : w.grownBy w' r) (hr : ∀ k, v.ownBlock = some k → some k ≠ r) : OwnO B v l w' := by
  obtain ⟨h1, h2⟩ := h
  refine ⟨h1, ?_⟩
  rcases h2 with h2 | ⟨g, cp, cur, rfl, hB, hh, rest⟩
  · exact .inl h2
  · exact .inr ⟨g, cp, cur, rfl, hB, by rw [hg.block g (Array.getElem?_eq_some_iff.1 hh).1 (hr g rfl)]; exact hh, rest⟩
/-- a new row that holds l. -/
def NewO (l : List Bool) (w : World) (e : Ending) (w' : World) : Prop := ∃ v, e = .returned v ∧ OwnO w.heap.size v l w' ∧ Below w.heap.size w w'
theorem OwnO.make0 (B : Nat) (w : World) (hB : B ≤ w.heap.size) (n : Nat) (hn : n ≤ 2000000) :
    OwnO B (.slice (some ⟨w.heap.size, 0, none⟩) n n) (List.replicate n false) (w.alloc (.cells (madeCells #[.bool false] n) 4)) := by
  refine ⟨by simp [boolCells], .inr ⟨w.heap.size, n, _, by simp, hB, heap_alloc_new w _, by simp, by unfold maxLen; omega, by simp [size_madeCells], ?_⟩⟩
  rw [toList_madeCells_one]
  simp [boolCells]

/-- a slice of truth values that can be read: v reads l. -/
def RdO (v : Value) (l : List Bool) (w : World) : Prop :=
  ∃ ad cap, v = .slice ad l.length cap ∧ ∀ i, i < l.length → ∃ b o, ad = some ⟨b, o, none⟩ ∧ b < w.heap.size ∧ w.cell? ⟨b, o + i, none⟩ = some (.bool (l.getD i false))
theorem RdO.below {v : Value} {l : List Bool} {w w' : World} (h : RdO v l w) (hb : Below w.heap.size w w') : RdO v l w' := by
  obtain ⟨ad, cap, rfl, h⟩ := h
  refine ⟨ad, cap, rfl, fun i hi => ?_⟩
  obtain ⟨b, o, e, h1, h2⟩ := h i hi
  exact ⟨b, o, e, Nat.lt_of_lt_of_le h1 hb.size, by rw [hb.cell (p := ⟨b, o + i, none⟩) h1]; exact h2⟩
theorem OwnO.rd {B : Nat} {v : Value} {l : List Bool} {w : World} (h : OwnO B v l w) : RdO v l w := by
  rcases h.2 with ⟨rfl, h0⟩ | ⟨g, cap, cur, rfl, hb, hg, hn, hm, hs, ht⟩
  · obtain rfl : l = [] := List.length_eq_zero_iff.1 h0
    exact ⟨none, 0, rfl, fun i hi => by simp at hi⟩
  · refine ⟨_, cap, rfl, fun i hi => ⟨g, 0, rfl, (Array.getElem?_eq_some_iff.1 hg).1, ?_⟩⟩
    have := World.ownsRow.cells h (g := g) rfl i (.bool (l.getD i false)) (by simp [boolCells, List.getD, hi])
    have hadd : (⟨g, 0, none⟩ : Addr).add i = ⟨g, i, none⟩ := by unfold Addr.add; split <;> simp_all
    rw [hadd] at this
    rw [Nat.zero_add]; exact this
theorem OwnO.cell {B g cap : Nat} {l : List Bool} {w : World} {n : Nat} (h : OwnO B (.slice (some ⟨g, 0, none⟩) n cap) l w) {i : Nat} (hi : i < l.length) : w.cell? ⟨g, i, none⟩ = some (.bool (l.getD i false)) := by
  have := World.ownsRow.cells h (g := g) rfl i (.bool (l.getD i false)) (by simp [boolCells, List.getD, hi])
  have hadd : (⟨g, 0, none⟩ : Addr).add i = ⟨g, i, none⟩ := by unfold Addr.add; split <;> simp_all
  rwa [hadd] at this
theorem getDO_lt {l : List Bool} {i : Nat} (h : i < l.length) : l.getD i false = l[i] := by simp [List.getD, h]

end Go.Proofs.YtdhaelaoackfkaaGreat.Rows3

namespace Go.Proofs.YtdhaelaoackfkaaGreat.Rows3
open Go.RowKit

/-- the marksO that markBoolS writes from k on. -/
def marksO (k : Int) (n : Nat) : List Bool := (List.range n).map fun i : Nat => ((k + (i : Int)) % 3 == 0)
theorem marksO_succ (k : Int) (n : Nat) : marksO k (n + 1) = marksO k n ++ [((k + (n : Int)) % 3 == 0)] := by simp [marksO, List.range_succ]
theorem marksO_length (k : Int) (n : Nat) : (marksO k n).length = n := by simp [marksO]

theorem dropO_eq {l : List Bool} {j : Nat} (h : j < l.length) : l.drop j = l[j] :: l.drop (j + 1) := List.drop_eq_getElem_cons h
theorem marksO_set (l : List Bool) (k : Int) (j : Nat) (h : j < l.length) : (marksO k j ++ l.drop j).set j ((k + (j : Int)) % 3 == 0) = marksO k (j + 1) ++ l.drop (j + 1) := by
  rw [dropO_eq h, marksO_succ, List.append_assoc]
  have := List.set_append_right (s := marksO k j) (t := l[j] :: l.drop (j + 1)) j ((k + (j : Int)) % 3 == 0) (by rw [marksO_length]; omega)
  rw [this, marksO_length, Nat.sub_self]; rfl
theorem midO_length (l : List Bool) (k : Int) (j : Nat) (h : j ≤ l.length) : (marksO k j ++ l.drop j).length = l.length := by simp [marksO_length]; omega

/-- a store into an own row. -/
theorem OwnO.set {B g n cap : Nat} {l : List Bool} {w : World} (h : OwnO B (.slice (some ⟨g, 0, none⟩) n cap) l w) (i : Nat) (x : Bool) :
    OwnO B (.slice (some ⟨g, 0, none⟩) n cap) (l.set i x) (w.setCell ⟨g, i, none⟩ (.bool x)) := by
  obtain ⟨h1, h2⟩ := h
  rcases h2 with ⟨h2, _⟩ | ⟨g', cp, cur, e, hb, hg, hn, hm, hs, ht⟩
  · cases h2
  · cases e
    refine ⟨by simp [boolCells], .inr ⟨g, cap, cur.set! i (.bool x), by simp, hb, ?_, by simpa using hn, hm, by simpa using hs, ?_⟩⟩
    · have hlt := (Array.getElem?_eq_some_iff.1 hg).1
      simp [World.setCell, Array.getElem?_modify, hg]
    · simp only [List.length_set, Nat.mul_one] at ht ⊢
      rw [Array.set!_eq_setIfInBounds, Array.toList_setIfInBounds, List.take_set, ht]
      simp [boolCells, List.map_set]
theorem OwnO.frozen {B g n cap : Nat} {l : List Bool} {w : World} (h : OwnO B (.slice (some ⟨g, 0, none⟩) n cap) l w) (i : Nat) : w.frozen? ⟨g, i, none⟩ = false := by
  obtain ⟨h1, h2⟩ := h
  rcases h2 with ⟨h2, _⟩ | ⟨g', cp, cur, e, hb, hg, hn, hm, hs, ht⟩
  · cases h2
  · cases e
    simp [World.frozen?, hg]
end Go.Proofs.YtdhaelaoackfkaaGreat.Rows3

namespace Go.Proofs.YtdhaelaoackfkaaGreat.KD
open Go.RowKit Rows3
set_option linter.unusedVariables false

def bools : Kn (List Bool) := row bool (by decide)
theorem sz_bools (l : List Bool) : szL bool l = l.length := by
  induction l with
  | nil => rfl
  | cons x l ih => simp only [szL, ih, List.length_cons]; show 1 + 0 + l.length = _; omega
theorem getD_someO {l : List Bool} {i : Nat} {x : Bool} (h : l[i]? = some x) : l.getD i false = x := by simp [List.getD, h]
theorem some_getDO {l : List Bool} {i : Nat} (h : i < l.length) : l[i]? = some (l.getD i false) := by simp [List.getD, h]
theorem own_bdO {B : Nat} {v : Value} {l : List Bool} {w : World} (h : OwnO B v l w) : ∀ ad n cp, v = .slice ad n cp → n ≤ cp ∧ cp ≤ 9223372036854775807 := by
  intro ad n cp e
  rcases h.2 with ⟨rfl, h0⟩ | ⟨g, cap, cur, rfl, _, _, hn, hm, _⟩
  · cases e; omega
  · cases e; exact ⟨hn, by unfold maxLen at hm; omega⟩
theorem bools_rd {v : Value} {l : List Bool} {w : World} (h : RdO v l w) (hl : ∀ ad n cp, v = .slice ad n cp → n ≤ cp ∧ cp ≤ 9223372036854775807) : bools.rd [v] l w := by
  obtain ⟨ad, cp, rfl, h⟩ := h
  refine ⟨ad, cp, rfl, hl _ _ _ rfl, fun i x hi => ?_⟩
  obtain ⟨b, o, e, h1, h2⟩ := h i (List.getElem?_eq_some_iff.1 hi).1
  refine ⟨b, o, [.bool x], e, h1, fun j u hu => ?_, rfl⟩
  obtain ⟨rfl, rfl⟩ : j = 0 ∧ u = .bool x := by
    match j, hu with
    | 0, hu => exact ⟨rfl, by simpa using hu.symm⟩
  rw [getD_someO hi] at h2
  simpa [bool] using h2
theorem rd_bools {cs : List Value} {l : List Bool} {w : World} (h : bools.rd cs l w) : ∃ ad cp, cs = [.slice ad l.length cp] ∧ (l.length ≤ cp ∧ cp ≤ 9223372036854775807) ∧ RdO (.slice ad l.length cp) l w := by
  obtain ⟨ad, cp, rfl, hl, h⟩ := h
  refine ⟨ad, cp, rfl, hl, ad, cp, rfl, fun i hi => ?_⟩
  obtain ⟨b, o, es, e, h1, h2, h3⟩ := h i _ (some_getDO hi)
  obtain rfl : es = [.bool (l.getD i false)] := h3
  have := h2 0 _ rfl
  exact ⟨b, o, e, h1, by simpa [bool] using this⟩
def RawO (F : Foot) (g o cp : Nat) (l : List Bool) (w : World) : Prop := F g ∧ ∃ xs T, w.heap[g]? = some (.cells xs T) ∧ o + cp ≤ xs.size ∧ ∀ i x, l[i]? = some x → xs[o + i]? = some (.bool x)
theorem RawO.cap {F : Foot} {g o cp n : Nat} {l : List Bool} {w : World} (h : RawO F g o cp l w) (hn : l.length = n) (hl : n ≤ cp ∧ cp ≤ 9223372036854775807) : bools.cap F [.slice (some ⟨g, o, none⟩) n cp] l w := by
  subst hn
  obtain ⟨hF, xs, T, hg, hsz, hx⟩ := h
  refine ⟨_, cp, rfl, hl, .inr ⟨g, o, xs, T, rfl, hF, hg, by show o + cp * 1 ≤ _; omega, fun _ _ => False, fun _ _ h => h.elim, fun _ _ _ _ h => h.elim, fun i x hi => ⟨[.bool x], fun j u hu => ?_, rfl⟩⟩⟩
  obtain ⟨rfl, rfl⟩ : j = 0 ∧ u = .bool x := by
    match j, hu with
    | 0, hu => exact ⟨rfl, by simpa using hu.symm⟩
  simpa [bool] using hx i x hi
theorem cap_rawO {F : Foot} {cs : List Value} {l : List Bool} {w : World} (h : bools.cap F cs l w) : (l = [] ∧ cs = [.slice none 0 0]) ∨ ∃ g o cp, cs = [.slice (some ⟨g, o, none⟩) l.length cp] ∧ (l.length ≤ cp ∧ cp ≤ 9223372036854775807) ∧ RawO F g o cp l w := by
  obtain ⟨ad, cp, rfl, hl, h⟩ := h
  rcases h with ⟨rfl, rfl, rfl⟩ | ⟨g, o, xs, T, rfl, hF, hg, hsz, E, _, _, h⟩
  · exact .inl ⟨rfl, rfl⟩
  · refine .inr ⟨g, o, cp, rfl, hl, hF, xs, T, hg, (by have h0 : o + cp * 1 ≤ xs.size := hsz; omega), fun i x hi => ?_⟩
    obtain ⟨es, hc, rfl⟩ := h i x hi
    have := hc 0 _ rfl
    simpa [bool] using this
theorem cap_nilO (F : Foot) (w : World) : bools.cap F [.slice none 0 0] [] w := ⟨none, 0, rfl, ⟨Nat.zero_le _, Nat.zero_le _⟩, .inl ⟨rfl, rfl, rfl⟩⟩
theorem cap_ownO {B : Nat} {v : Value} {l : List Bool} {w : World} (h : OwnO B v l w) (hl : l.length ≤ 9223372036854775807) : bools.cap (fun k => B ≤ k) [v] l w := by
  have hbd := own_bdO h
  rcases h.2 with ⟨rfl, h0⟩ | ⟨g, cp, cur, rfl, hb, hg, _, _, hcs, _⟩
  · obtain rfl : l = [] := List.length_eq_zero_iff.1 h0
    exact cap_nilO _ _
  · refine RawO.cap (o := 0) ⟨hb, cur, _, hg, by omega, fun i x hi => ?_⟩ rfl (hbd _ _ _ rfl)
    have := h.cell (i := i) (List.getElem?_eq_some_iff.1 hi).1
    rw [getD_someO hi, cell_of_row w g i cur _ (0, 0) hg] at this
    rw [Nat.zero_add]; exact this
theorem RawO.cell {F : Foot} {g o cp : Nat} {l : List Bool} {w : World} (h : RawO F g o cp l w) {i : Nat} {x : Bool} (hi : l[i]? = some x) : w.cell? ⟨g, o + i, none⟩ = some (.bool x) := by
  obtain ⟨hF, xs, T, hg, hsz, hx⟩ := h
  rw [cell_of_row w g _ xs T (0, 0) hg]; exact hx i x hi
theorem take_setO {l : List Bool} {k : Nat} (h : k < l.length) (n : Nat) (hn : l.length = n) : (l.take k ++ List.replicate (n - k) false).set k (l.getD k false) = l.take (k + 1) ++ List.replicate (n - (k + 1)) false := by
  subst hn
  rw [List.set_append_right _ _ (by simp; omega)]
  rw [show k - (l.take k).length = 0 by simp; omega, show l.length - k = (l.length - (k + 1)) + 1 by omega, List.replicate_succ, List.set_cons_zero]
  rw [List.take_succ_eq_append_getElem h, List.append_assoc]
  simp [List.getD, h]
end Go.Proofs.YtdhaelaoackfkaaGreat.KD
