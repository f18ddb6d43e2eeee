
/-
  A row of whole numbers that a call has made for itself: a number appended to it; what reads it, what marks it.
-/
import Derived.Test.YtdhaelaoackfkaaProg
import Derived.WalkKit
import Derived.WalkSpells
import Derived.WalkLawsBesides
import Derived.Lib.Hide
import Derived.OwnWalk
import Derived.Laws.AppendOwnNone
import Derived.Laws.OwnMore
import Derived.Deep.QuietTactic
import Derived.BigQuiet
namespace Go.Proofs.Ytdhaelaoackfkaa.Rows3
open Go.RowKit

def intCells (l : List Int) : List Value := l.map (Value.int .i64)
theorem intCells_length (l : List Int) : (intCells l).length = l.length := by simp [intCells]
theorem intCells_append (l m : List Int) : intCells (l ++ m) = intCells l ++ intCells m := by simp [intCells]

/-- v is a slice of numbers in a block of the call's own (from B on), holding l. -/
def OwnI (B : Nat) (v : Value) (l : List Int) (w : World) : Prop := w.ownsRow B 3 1 v l.length (intCells l)
theorem info_int : (Try.prog.info? 3).map (fun i => (i.zero, i.size, i.bytes)) = some (some (.int .i64 0), 1, 8) := by kernel_rfl

theorem OwnI.nil (B : Nat) (w : World) : OwnI B (.slice none 0 0) [] w := World.ownsRow_nil w B _ 1
theorem OwnI.made (B : Nat) (w : World) (hB : B ≤ w.heap.size) : OwnI B (.slice (some ⟨w.heap.size, 0, none⟩) 0 0) [] (w.alloc (.cells #[] 3)) :=
  World.ownsRow_made w #[] 0 hB (Nat.zero_le _) rfl
/-- a slice literal, or a made row, that is full. -/
theorem OwnI.full (B : Nat) (w : World) (hB : B ≤ w.heap.size) (l : List Int) (n : Nat) (hn : l.length = n) (hm : n ≤ 100000) (xs : Array Value) (hx : xs.toList = intCells l) :
    OwnI B (.slice (some ⟨w.heap.size, 0, none⟩) n n) l (w.alloc (.cells xs 3)) := by
  subst hn
  have hs : xs.size = l.length := by rw [← Array.length_toList, hx, intCells_length]
  refine ⟨by simp [intCells_length], .inr ⟨w.heap.size, l.length, xs, rfl, hB, heap_alloc_new w _, Nat.le_refl _, by unfold maxLen; omega, by omega, ?_⟩⟩
  rw [hx, List.take_of_length_le (by rw [intCells_length]; omega)]
theorem OwnI.slice {B : Nat} {v : Value} {l : List Int} {w : World} (h : OwnI B v l w) : ∃ ad cap, v = .slice ad l.length cap := by
  rcases h.2 with ⟨rfl, h0⟩ | ⟨g, cap, cur, rfl, _⟩
  · exact ⟨none, 0, by rw [h0]⟩
  · exact ⟨_, cap, rfl⟩
theorem OwnI.mono {B B' : Nat} {v : Value} {l : List Int} {w : World} (h : OwnI B v l w) (hB : B' ≤ B) : OwnI B' v l w := by
  obtain ⟨h1, h2⟩ := h
  refine ⟨h1, ?_⟩
  rcases h2 with h2 | ⟨g, cp, cur, rfl, hb, rest⟩
  · exact .inl h2
  · exact .inr ⟨g, cp, cur, rfl, Nat.le_trans hB hb, rest⟩
/-- what happens above leaves the row as it is. -/
theorem OwnI.below {B C : Nat} {v : Value} {l : List Int} {w w' : World} (h : OwnI B v l w) (hb : Below C w w') (hC : ∀ k, v.ownBlock = some k → k < C) : OwnI B v l w' := by
  obtain ⟨h1, h2⟩ := h
  refine ⟨h1, ?_⟩
  rcases h2 with h2 | ⟨g, cp, cur, rfl, hB, hg, rest⟩
  · exact .inl h2
  · exact .inr ⟨g, cp, cur, rfl, hB, by rw [hb.block g (hC g rfl)]; exact hg, rest⟩
theorem OwnI.later {B : Nat} {v : Value} {l : List Int} {w w' : World} (h : OwnI B v l w) (hb : Below w.heap.size w w') : OwnI B v l w' :=
  h.below hb (fun k hk => (World.ownsRow.lt h k hk).2)

/-- what happens to another row leaves this one as it is. -/
theorem OwnI.far {B : Nat} {v : Value} {l : List Int} {w w' : World} {r : Option Nat} (h : OwnI B v l w) (hg : w.grownBy w' r) (hr : ∀ k, v.ownBlock = some k → some k ≠ r) : OwnI B v l w' := by
  obtain ⟨h1, h2⟩ := h
  refine ⟨h1, ?_⟩
  rcases h2 with h2 | ⟨g, cp, cur, rfl, hB, hh, rest⟩
  · exact .inl h2
  · exact .inr ⟨g, cp, cur, rfl, hB, by rw [hg.block g (Array.getElem?_eq_some_iff.1 hh).1 (hr g rfl)]; exact hh, rest⟩
/-- append(out, c): the row grows by this number; nothing below B changes. -/
theorem appI {ops : Array Oper} {rest : List Oper} {o : Oper} {a : Act} {Q : Exit → Act → World → Prop} (hgd : o.guard = none) (s x : Operand)
    (ho : o.op = .call { callee := .builtin .append, args := #[s, x], argTypes := #[33, 33] })
    (B : Nat) (v : Value) (l : List Int) (w : World) (c : Int) (hs : a.eval s = v) (hx : a.eval x = .slice (some ⟨w.heap.size, 0, none⟩) 1 1)
    (hown : OwnI B v l w) (hB : B ≤ w.heap.size) (hl : l.length + 1 ≤ 17592186044416)
    (h : ∀ v' w', OwnI B v' (l ++ [c]) w' → Below B w w' → wpList Try.prog ops Q rest (a.put o.dst v') w') :
    wpList Try.prog ops Q (o :: rest) a (w.alloc (.cells #[.int .i64 c] 3)) := by
  obtain ⟨i, hi, hz, hsz, hby⟩ := info_parts info_int
  refine wpList_append_own _ hgd s x 33 ho B 3 i (.int .i64 0) 1 8 Try.underlying33 hi hz hsz hby rfl (by decide) v l.length (intCells l) hs (hown.alloc _) ⟨w.heap.size, 0, none⟩ 1 1 [.int .i64 c] hx rfl ?_ ?_ ?_ (by omega) (by simp; omega) ?_
  · exact cell_one_new w _ _
  · intro u hu; simp at hu; subst hu; rfl
  · unfold maxLen; omega
  · intro v' w' hown' hgr _
    refine h v' w' ?_ ?_
    · unfold OwnI; rw [intCells_append, List.length_append]; exact hown'
    · exact (((Below.refl B w).alloc hB _)).grown hgr (by simp; omega) (fun k hk => (World.ownsRow.lt hown k hk).1)

/-- append(out, src...): the source a row of the call's own too. -/
theorem appAllI {ops : Array Oper} {rest : List Oper} {o : Oper} {a : Act} {Q : Exit → Act → World → Prop} (hgd : o.guard = none) (s x : Operand)
    (ho : o.op = .call { callee := .builtin .append, args := #[s, x], argTypes := #[33, 33] })
    (B C : Nat) (v u : Value) (l m : List Int) (w : World) (hs : a.eval s = v) (hx : a.eval x = u)
    (hown : OwnI B v l w) (hu : OwnI C u m w) (hB : B ≤ w.heap.size) (hl : l.length + m.length ≤ 17592186044416)
    (h : ∀ v' w', OwnI B v' (l ++ m) w' → Below B w w' → wpList Try.prog ops Q rest (a.put o.dst v') w') :
    wpList Try.prog ops Q (o :: rest) a w := by
  obtain ⟨i, hi, hz, hsz, hby⟩ := info_parts info_int
  rcases hu.2 with ⟨rfl, h0⟩ | ⟨g, cap, cur, rfl, hb, hg, hn, hm, hss, ht⟩
  · obtain rfl : m = [] := List.length_eq_zero_iff.1 h0
    refine wpList_append_own_none hgd s x 33 ho B 3 i 1 Try.underlying33 hi v l.length (intCells l) hs hown hx ?_
    exact h v w (by simpa using hown) (Below.refl _ _)
  · refine wpList_append_own _ hgd s x 33 ho B 3 i (.int .i64 0) 1 8 Try.underlying33 hi hz hsz hby rfl (by decide) v l.length (intCells l) hs hown ⟨g, 0, none⟩ m.length cap (intCells m) hx ?_ ?_ ?_ ?_ (by omega) hB ?_
    · simp [intCells_length]
    · exact World.ownsRow.cells hu (g := g) rfl
    · intro z hz; simp [intCells] at hz; obtain ⟨y, _, rfl⟩ := hz; rfl
    · unfold maxLen; omega
    · intro v' w' hown' hgr _
      refine h v' w' ?_ ?_
      · unfold OwnI; rw [intCells_append, List.length_append]; exact hown'
      · exact (Below.refl B w).grown hgr hB (fun k hk => (World.ownsRow.lt hown k hk).1)

/-- a new row that holds l. -/
def NewI (l : List Int) (w : World) (e : Ending) (w' : World) : Prop := ∃ v, e = .returned v ∧ OwnI w.heap.size v l w' ∧ Below w.heap.size w w'
/-- make([]int, n). -/
theorem makeI (n : Nat) (hn : n ≤ 2000000) (w : World) : (Instr.makeSlice 33 (.int .i64 (n : Int)) (.int .i64 (n : Int))).run Try.prog w = .ok (.slice (some ⟨w.heap.size, 0, none⟩) n n) (w.alloc (.cells (madeCells #[.int .i64 0] n) 3)) := by
  obtain ⟨i, hi, hz, hsz, hby⟩ := info_parts info_int
  have h := run_make (P := Try.prog) w 33 3 i (.int .i64 0) Try.underlying33 hi hz .i64 .i64 (n : Int) (n : Int) (by omega) (by omega) (by rw [hby]; omega) (by omega)
  rw [Int.toNat_natCast, hsz, Nat.mul_one] at h
  exact h
theorem OwnI.make0 (B : Nat) (w : World) (hB : B ≤ w.heap.size) (n : Nat) (hn : n ≤ 2000000) :
    OwnI B (.slice (some ⟨w.heap.size, 0, none⟩) n n) (List.replicate n 0) (w.alloc (.cells (madeCells #[.int .i64 0] n) 3)) := by
  refine ⟨by simp [intCells], .inr ⟨w.heap.size, n, _, by simp, hB, heap_alloc_new w _, by simp, by unfold maxLen; omega, by simp [size_madeCells], ?_⟩⟩
  rw [toList_madeCells_one]
  simp [intCells]

/-- a slice of numbers that can be read: v reads l. -/
def RdI (v : Value) (l : List Int) (w : World) : Prop :=
  ∃ ad cap, v = .slice ad l.length cap ∧ ∀ i, i < l.length → ∃ b o, ad = some ⟨b, o, none⟩ ∧ b < w.heap.size ∧ w.cell? ⟨b, o + i, none⟩ = some (.int .i64 (l.getD i 0))
theorem RdI.below {v : Value} {l : List Int} {w w' : World} (h : RdI v l w) (hb : Below w.heap.size w w') : RdI v l w' := by
  obtain ⟨ad, cap, rfl, h⟩ := h
  refine ⟨ad, cap, rfl, fun i hi => ?_⟩
  obtain ⟨b, o, e, h1, h2⟩ := h i hi
  exact ⟨b, o, e, Nat.lt_of_lt_of_le h1 hb.size, by rw [hb.cell (p := ⟨b, o + i, none⟩) h1]; exact h2⟩
theorem OwnI.rd {B : Nat} {v : Value} {l : List Int} {w : World} (h : OwnI B v l w) : RdI v l w := by
  rcases h.2 with ⟨rfl, h0⟩ | ⟨g, cap, cur, rfl, hb, hg, hn, hm, hs, ht⟩
  · obtain rfl : l = [] := List.length_eq_zero_iff.1 h0
    exact ⟨none, 0, rfl, fun i hi => by simp at hi⟩
  · refine ⟨_, cap, rfl, fun i hi => ⟨g, 0, rfl, (Array.getElem?_eq_some_iff.1 hg).1, ?_⟩⟩
    have := World.ownsRow.cells h (g := g) rfl i (.int .i64 (l.getD i 0)) (by simp [intCells, List.getD, hi])
    have hadd : (⟨g, 0, none⟩ : Addr).add i = ⟨g, i, none⟩ := by unfold Addr.add; split <;> simp_all
    rw [hadd] at this
    rw [Nat.zero_add]; exact this
theorem OwnI.cell {B g cap : Nat} {l : List Int} {w : World} {n : Nat} (h : OwnI B (.slice (some ⟨g, 0, none⟩) n cap) l w) {i : Nat} (hi : i < l.length) : w.cell? ⟨g, i, none⟩ = some (.int .i64 (l.getD i 0)) := by
  have := World.ownsRow.cells h (g := g) rfl i (.int .i64 (l.getD i 0)) (by simp [intCells, List.getD, hi])
  have hadd : (⟨g, 0, none⟩ : Addr).add i = ⟨g, i, none⟩ := by unfold Addr.add; split <;> simp_all
  rwa [hadd] at this
/-- a list of numbers that comes in. -/
theorem rdIn {w : World} {a : Option Addr} {len cap : Nat} {zs : List Int} (h : (a = none ∧ len = 0 ∧ cap = 0 ∧ zs = []) ∨ ∃ x, a = some x ∧ len ≤ cap ∧ cap ≤ maxLen ∧ zs.length = cap ∧ (∀ i, i < zs.length → w.cell? (x.add i) = some (.int .i64 (zs.getD i 0))) ∧ ∀ n ∈ zs, (Lit.int .i64 n).wf = true) :
    ∃ l : List Int, l.length = len ∧ RdI (.slice a len cap) l w := by
  rcases h with ⟨rfl, rfl, rfl, rfl⟩ | ⟨x, rfl, h1, h2, h3, h4, h5⟩
  · exact ⟨[], rfl, none, 0, rfl, fun i hi => by simp at hi⟩
  · refine ⟨zs.take len, by rw [List.length_take]; omega, some x, cap, by rw [List.length_take]; congr 1; omega, fun i hi => ?_⟩
    have hi' : i < len := by rw [List.length_take] at hi; omega
    have hc := h4 i (by omega)
    obtain ⟨b, o, spot⟩ := x
    have hs : spot = none := by
      have h0 := h4 0 (by omega)
      simpa [Addr.add] using World.cell?_spot h0
    subst hs
    have e : (⟨b, o, none⟩ : Addr).add i = ⟨b, o + i, none⟩ := by unfold Addr.add; split <;> simp_all
    rw [e] at hc
    refine ⟨b, o, rfl, World.block_lt_of_cell? _ _ hc, ?_⟩
    rw [hc]
    simp [List.getD, hi']
theorem getD_lt {l : List Int} {i : Nat} (h : i < l.length) : l.getD i 0 = l[i] := by simp [List.getD, h]

/-- the first k are the same. -/
def sameTo (l m : List Int) (k : Nat) : Prop := ∀ i, i < k → l.getD i 0 = m.getD i 0
theorem eq_of_sameTo {l m : List Int} (hn : l.length = m.length) (h : sameTo l m l.length) : l = m := by
  refine List.ext_getElem hn fun i h1 h2 => ?_
  have := h i h1
  rwa [getD_lt h1, getD_lt h2] at this
/-- do two lists of numbers have the same elements: a Bool that the walk does not look into. -/
def eqLB (l m : List Int) : Bool := decide (l = m)
theorem eqLB_yes (l : List Int) : eqLB l l = true := by simp [eqLB]

end Go.Proofs.Ytdhaelaoackfkaa.Rows3
