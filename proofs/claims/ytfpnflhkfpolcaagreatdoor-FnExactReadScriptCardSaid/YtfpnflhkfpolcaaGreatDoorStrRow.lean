
/-
  A row of strings that a call has made for itself: a string appended to it; what reads it.
-/
import Derived.Test.YtfpnflhkfpolcaaGreatDoorIntRow
import Derived.WalkKit
import Derived.WalkSpells
import Derived.WalkLawsBesides
import Derived.Lib.Hide
import Derived.OwnWalk
import Derived.Laws.AppendOwnNone
import Derived.Laws.OwnMore
import Derived.Deep.QuietTactic
import Derived.BigQuiet
namespace Go.Proofs.YtfpnflhkfpolcaaGreatDoor.Rows3
open Go.RowKit

def strCells (l : List ByteArray) : List Value := l.map (Value.string)
theorem strCells_length (l : List ByteArray) : (strCells l).length = l.length := by simp [strCells]
theorem strCells_append (l m : List ByteArray) : strCells (l ++ m) = strCells l ++ strCells m := by simp [strCells]

/-- v is a slice of strings in a block of the call's own (from B on), holding l. -/
def OwnS (B : Nat) (v : Value) (l : List ByteArray) (w : World) : Prop := w.ownsRow B 9 1 v l.length (strCells l)
theorem info_str : (Tryz.prog.info? 9).map (fun i => (i.zero, i.size, i.bytes)) = some (some (.string ByteArray.empty), 1, 16) := by kernel_rfl

theorem OwnS.nil (B : Nat) (w : World) : OwnS B (.slice none 0 0) [] w := World.ownsRow_nil w B _ 1
theorem OwnS.made (B : Nat) (w : World) (hB : B ≤ w.heap.size) : OwnS B (.slice (some ⟨w.heap.size, 0, none⟩) 0 0) [] (w.alloc (.cells #[] 9)) :=
  World.ownsRow_made w #[] 0 hB (Nat.zero_le _) rfl
/-- a slice literal, or a made row, that is full. -/
theorem OwnS.full (B : Nat) (w : World) (hB : B ≤ w.heap.size) (l : List ByteArray) (n : Nat) (hn : l.length = n) (hm : n ≤ 100000) (xs : Array Value) (hx : xs.toList = strCells l) :
    OwnS B (.slice (some ⟨w.heap.size, 0, none⟩) n n) l (w.alloc (.cells xs 9)) := by
  subst hn
  have hs : xs.size = l.length := by rw [← Array.length_toList, hx, strCells_length]
  refine ⟨by simp [strCells_length], .inr ⟨w.heap.size, l.length, xs, rfl, hB, heap_alloc_new w _, Nat.le_refl _, by unfold maxLen; omega, by omega, ?_⟩⟩
  rw [hx, List.take_of_length_le (by rw [strCells_length]; omega)]
theorem OwnS.slice {B : Nat} {v : Value} {l : List ByteArray} {w : World} (h : OwnS B v l w) : ∃ ad cap, v = .slice ad l.length cap := by
  rcases h.2 with ⟨rfl, h0⟩ | ⟨g, cap, cur, rfl, _⟩
  · exact ⟨none, 0, by rw [h0]⟩
  · exact ⟨_, cap, rfl⟩
theorem OwnS.mono {B B' : Nat} {v : Value} {l : List ByteArray} {w : World} (h : OwnS B v l w) (hB : B' ≤ B) : OwnS B' v l w := by
  obtain ⟨h1, h2⟩ := h
  refine ⟨h1, ?_⟩
  rcases h2 with h2 | ⟨g, cp, cur, rfl, hb, rest⟩
  · exact .inl h2
  · exact .inr ⟨g, cp, cur, rfl, Nat.le_trans hB hb, rest⟩
/-- what happens above leaves the row as it is. -/
theorem OwnS.below {B C : Nat} {v : Value} {l : List ByteArray} {w w' : World} (h : OwnS B v l w) (hb : Below C w w') (hC : ∀ k, v.ownBlock = some k → k < C) : OwnS B v l w' := by
  obtain ⟨h1, h2⟩ := h
  refine ⟨h1, ?_⟩
  rcases h2 with h2 | ⟨g, cp, cur, rfl, hB, hg, rest⟩
  · exact .inl h2
  · exact .inr ⟨g, cp, cur, rfl, hB, by rw [hb.block g (hC g rfl)]; exact hg, rest⟩
theorem OwnS.later {B : Nat} {v : Value} {l : List ByteArray} {w w' : World} (h : OwnS B v l w) (hb : Below w.heap.size w w') : OwnS B v l w' :=
  h.below hb (fun k hk => (World.ownsRow.lt h k hk).2)

/-- what happens to another row leaves this one as it is. -/
theorem OwnS.far {B : Nat} {v : Value} {l : List ByteArray} {w w' : World} {r : Option Nat} (h : OwnS B v l w) (hg : w.grownBy w' r) (hr : ∀ k, v.ownBlock = some k → some k ≠ r) : OwnS B v l w' := by
  obtain ⟨h1, h2⟩ := h
  refine ⟨h1, ?_⟩
  rcases h2 with h2 | ⟨g, cp, cur, rfl, hB, hh, rest⟩
  · exact .inl h2
  · exact .inr ⟨g, cp, cur, rfl, hB, by rw [hg.block g (Array.getElem?_eq_some_iff.1 hh).1 (hr g rfl)]; exact hh, rest⟩
/-- append(out, c): the row grows by this string; nothing below B changes. -/
theorem appS {ops : Array Oper} {rest : List Oper} {o : Oper} {a : Act} {Q : Exit → Act → World → Prop} (hgd : o.guard = none) (s x : Operand)
    (ho : o.op = .call { callee := .builtin .append, args := #[s, x], argTypes := #[31, 31] })
    (B : Nat) (v : Value) (l : List ByteArray) (w : World) (c : ByteArray) (hs : a.eval s = v) (hx : a.eval x = .slice (some ⟨w.heap.size, 0, none⟩) 1 1)
    (hown : OwnS B v l w) (hB : B ≤ w.heap.size) (hl : l.length + 1 ≤ 8000000000000)
    (h : ∀ v' w', OwnS B v' (l ++ [c]) w' → Below B w w' → wpList Tryz.prog ops Q rest (a.put o.dst v') w') :
    wpList Tryz.prog ops Q (o :: rest) a (w.alloc (.cells #[.string c] 9)) := by
  obtain ⟨i, hi, hz, hsz, hby⟩ := info_parts info_str
  refine wpList_append_own _ hgd s x 31 ho B 9 i (.string ByteArray.empty) 1 16 Tryz.underlying31 hi hz hsz hby rfl (by decide) v l.length (strCells l) hs (hown.alloc _) ⟨w.heap.size, 0, none⟩ 1 1 [.string c] hx rfl ?_ ?_ ?_ (by omega) (by simp; omega) ?_
  · exact cell_one_new w _ _
  · intro u hu; simp at hu; subst hu; rfl
  · unfold maxLen; omega
  · intro v' w' hown' hgr _
    refine h v' w' ?_ ?_
    · unfold OwnS; rw [strCells_append, List.length_append]; exact hown'
    · exact (((Below.refl B w).alloc hB _)).grown hgr (by simp; omega) (fun k hk => (World.ownsRow.lt hown k hk).1)

/-- append(out, src...): the source a row of the call's own too. -/
theorem appAllS {ops : Array Oper} {rest : List Oper} {o : Oper} {a : Act} {Q : Exit → Act → World → Prop} (hgd : o.guard = none) (s x : Operand)
    (ho : o.op = .call { callee := .builtin .append, args := #[s, x], argTypes := #[31, 31] })
    (B C : Nat) (v u : Value) (l m : List ByteArray) (w : World) (hs : a.eval s = v) (hx : a.eval x = u)
    (hown : OwnS B v l w) (hu : OwnS C u m w) (hB : B ≤ w.heap.size) (hl : l.length + m.length ≤ 8000000000000)
    (h : ∀ v' w', OwnS B v' (l ++ m) w' → Below B w w' → wpList Tryz.prog ops Q rest (a.put o.dst v') w') :
    wpList Tryz.prog ops Q (o :: rest) a w := by
  obtain ⟨i, hi, hz, hsz, hby⟩ := info_parts info_str
  rcases hu.2 with ⟨rfl, h0⟩ | ⟨g, cap, cur, rfl, hb, hg, hn, hm, hss, ht⟩
  · obtain rfl : m = [] := List.length_eq_zero_iff.1 h0
    refine wpList_append_own_none hgd s x 31 ho B 9 i 1 Tryz.underlying31 hi v l.length (strCells l) hs hown hx ?_
    exact h v w (by simpa using hown) (Below.refl _ _)
  · refine wpList_append_own _ hgd s x 31 ho B 9 i (.string ByteArray.empty) 1 16 Tryz.underlying31 hi hz hsz hby rfl (by decide) v l.length (strCells l) hs hown ⟨g, 0, none⟩ m.length cap (strCells m) hx ?_ ?_ ?_ ?_ (by omega) hB ?_
    · simp [strCells_length]
    · exact World.ownsRow.cells hu (g := g) rfl
    · intro z hz; simp [strCells] at hz; obtain ⟨y, _, rfl⟩ := hz; rfl
    · unfold maxLen; omega
    · intro v' w' hown' hgr _
      refine h v' w' ?_ ?_
      · unfold OwnS; rw [strCells_append, List.length_append]; exact hown'
      · exact (Below.refl B w).grown hgr hB (fun k hk => (World.ownsRow.lt hown k hk).1)

/-- a new row that holds l. -/
def NewS (l : List ByteArray) (w : World) (e : Ending) (w' : World) : Prop := ∃ v, e = .returned v ∧ OwnS w.heap.size v l w' ∧ Below w.heap.size w w'
/-- a slice of strings that can be read: v reads l. -/
def RdS (v : Value) (l : List ByteArray) (w : World) : Prop :=
  ∃ ad cap, v = .slice ad l.length cap ∧ ∀ i, i < l.length → ∃ b o, ad = some ⟨b, o, none⟩ ∧ b < w.heap.size ∧ w.cell? ⟨b, o + i, none⟩ = some (.string (l.getD i ByteArray.empty))
theorem RdS.below {v : Value} {l : List ByteArray} {w w' : World} (h : RdS v l w) (hb : Below w.heap.size w w') : RdS v l w' := by
  obtain ⟨ad, cap, rfl, h⟩ := h
  refine ⟨ad, cap, rfl, fun i hi => ?_⟩
  obtain ⟨b, o, e, h1, h2⟩ := h i hi
  exact ⟨b, o, e, Nat.lt_of_lt_of_le h1 hb.size, by rw [hb.cell (p := ⟨b, o + i, none⟩) h1]; exact h2⟩
theorem OwnS.rd {B : Nat} {v : Value} {l : List ByteArray} {w : World} (h : OwnS B v l w) : RdS v l w := by
  rcases h.2 with ⟨rfl, h0⟩ | ⟨g, cap, cur, rfl, hb, hg, hn, hm, hs, ht⟩
  · obtain rfl : l = [] := List.length_eq_zero_iff.1 h0
    exact ⟨none, 0, rfl, fun i hi => by simp at hi⟩
  · refine ⟨_, cap, rfl, fun i hi => ⟨g, 0, rfl, (Array.getElem?_eq_some_iff.1 hg).1, ?_⟩⟩
    have := World.ownsRow.cells h (g := g) rfl i (.string (l.getD i ByteArray.empty)) (by simp [strCells, List.getD, hi])
    have hadd : (⟨g, 0, none⟩ : Addr).add i = ⟨g, i, none⟩ := by unfold Addr.add; split <;> simp_all
    rw [hadd] at this
    rw [Nat.zero_add]; exact this
theorem OwnS.cell {B g cap : Nat} {l : List ByteArray} {w : World} {n : Nat} (h : OwnS B (.slice (some ⟨g, 0, none⟩) n cap) l w) {i : Nat} (hi : i < l.length) : w.cell? ⟨g, i, none⟩ = some (.string (l.getD i ByteArray.empty)) := by
  have := World.ownsRow.cells h (g := g) rfl i (.string (l.getD i ByteArray.empty)) (by simp [strCells, List.getD, hi])
  have hadd : (⟨g, 0, none⟩ : Addr).add i = ⟨g, i, none⟩ := by unfold Addr.add; split <;> simp_all
  rwa [hadd] at this
theorem getDS_lt {l : List ByteArray} {i : Nat} (h : i < l.length) : l.getD i ByteArray.empty = l[i] := by simp [List.getD, h]

end Go.Proofs.YtfpnflhkfpolcaaGreatDoor.Rows3
