
/-
  Rows of elements of several cells each (slices of structs), whatever the element: one that can be read; one of the call's own; a store; an append; a made row. And boxes: a block that is known whole.
-/
import Derived.Test.YtdhaelaoackfkaaProg
import Derived.WalkKit
import Derived.WalkSpells
import Derived.WalkLawsBesides
import Derived.Lib.Hide
import Derived.OwnWalk
import Derived.Laws.AppendOwnNone
import Derived.Laws.OwnMore
import Derived.Laws.MakeOwn
import Derived.Deep.QuietTactic
import Derived.BigQuiet
import Derived.Outline
namespace Go.Proofs.Ytdhaelaoackfkaa.GR
open Go.RowKit

/-- how an element lies in memory. -/
structure Kd (α : Type) where
  k : Nat
  enc : α → List Value
  len : ∀ a, (enc a).length = k

variable {α : Type}
def flatE (K : Kd α) (l : List α) : List Value := l.flatMap K.enc
theorem flatE_length (K : Kd α) (l : List α) : (flatE K l).length = l.length * K.k := by
  induction l with
  | nil => simp [flatE]
  | cons a l ih =>
    simp only [flatE, List.flatMap_cons, List.length_append, List.length_cons, K.len] at ih ⊢
    rw [ih, Nat.add_mul]; omega
theorem flatE_append (K : Kd α) (l m : List α) : flatE K (l ++ m) = flatE K l ++ flatE K m := by simp [flatE]
theorem flatE_at (K : Kd α) (l : List α) (i : Nat) (x : α) (hx : l[i]? = some x) (j : Nat) (u : Value) (hu : (K.enc x)[j]? = some u) : (flatE K l)[i * K.k + j]? = some u := by
  obtain ⟨h, rfl⟩ := List.getElem?_eq_some_iff.1 hx
  clear hx
  have hj : j < K.k := by have := (List.getElem?_eq_some_iff.1 hu).1; rwa [K.len] at this
  have e : l = l.take i ++ l[i] :: l.drop (i + 1) := by rw [← List.drop_eq_getElem_cons h, List.take_append_drop]
  generalize l[i] = x at hu e
  rw [e, flatE_append]
  have hl : (flatE K (l.take i)).length = i * K.k := by rw [flatE_length, List.length_take, Nat.min_eq_left (by omega)]
  rw [List.getElem?_append_right (by omega), hl, Nat.add_sub_cancel_left]
  show (K.enc x ++ flatE K (l.drop (i + 1)))[j]? = some u
  rw [List.getElem?_append_left (by rw [K.len]; exact hj)]
  exact hu

theorem get_of {l : List α} {i : Nat} (h : i < l.length) : ∃ x, l[i]? = some x := ⟨l[i], List.getElem?_eq_getElem h⟩
/-- a slice that can be read: v reads l. -/
def Rd (K : Kd α) (v : Value) (l : List α) (w : World) : Prop :=
  ∃ ad cap, v = .slice ad l.length cap ∧ ∀ i x, l[i]? = some x → ∃ b o, ad = some ⟨b, o, none⟩ ∧ b < w.heap.size ∧ ∀ j u, (K.enc x)[j]? = some u → w.cell? ⟨b, o + i * K.k + j, none⟩ = some u
theorem Rd.nil (K : Kd α) (w : World) : Rd K (.slice none 0 0) [] w := ⟨none, 0, rfl, fun i x h => by simp at h⟩
theorem Rd.below {K : Kd α} {v : Value} {l : List α} {w w' : World} (h : Rd K v l w) (hb : Below w.heap.size w w') : Rd K v l w' := by
  obtain ⟨ad, cap, rfl, h⟩ := h
  refine ⟨ad, cap, rfl, fun i x hi => ?_⟩
  obtain ⟨b, o, e, h1, h2⟩ := h i x hi
  exact ⟨b, o, e, Nat.lt_of_lt_of_le h1 hb.size, fun j u hu => by rw [hb.cell (p := ⟨b, _, none⟩) h1]; exact h2 j u hu⟩
theorem Rd.slice {K : Kd α} {v : Value} {l : List α} {w : World} (h : Rd K v l w) : ∃ ad cap, v = .slice ad l.length cap := by
  obtain ⟨ad, cap, h, _⟩ := h; exact ⟨ad, cap, h⟩
theorem Rd.alloc {K : Kd α} {v : Value} {l : List α} {w : World} (h : Rd K v l w) (o : Obj) : Rd K v l (w.alloc o) := h.below ((Below.refl _ _).alloc (Nat.le_refl _) o)
theorem Rd.drew {K : Kd α} {v : Value} {l : List α} {w : World} (h : Rd K v l w) : Rd K v l w.drew := h

/-- a row of the call's own, from block B on. -/
def Own (K : Kd α) (T : TypeId) (B : Nat) (v : Value) (l : List α) (w : World) : Prop := w.ownsRow B T K.k v l.length (flatE K l)
theorem Own.nil (K : Kd α) (T B : Nat) (w : World) : Own K T B (.slice none 0 0) [] w := World.ownsRow_nil w B _ _
theorem Own.made (K : Kd α) (T B : Nat) (w : World) (hB : B ≤ w.heap.size) : Own K T B (.slice (some ⟨w.heap.size, 0, none⟩) 0 0) [] (w.alloc (.cells #[] T)) :=
  World.ownsRow_made w #[] 0 hB (Nat.zero_le _) (by simp)
theorem Own.slice {K : Kd α} {T B : Nat} {v : Value} {l : List α} {w : World} (h : Own K T B v l w) : ∃ ad cap, v = .slice ad l.length cap := by
  rcases h.2 with ⟨rfl, h0⟩ | ⟨g, cap, cur, rfl, _⟩
  · exact ⟨none, 0, by rw [h0]⟩
  · exact ⟨_, cap, rfl⟩
theorem Own.mono {K : Kd α} {T B B' : Nat} {v : Value} {l : List α} {w : World} (h : Own K T B v l w) (hB : B' ≤ B) : Own K T B' v l w := by
  obtain ⟨h1, h2⟩ := h
  refine ⟨h1, ?_⟩
  rcases h2 with h2 | ⟨g, cp, cur, rfl, hb, rest⟩
  · exact .inl h2
  · exact .inr ⟨g, cp, cur, rfl, Nat.le_trans hB hb, rest⟩
theorem Own.below {K : Kd α} {T B C : Nat} {v : Value} {l : List α} {w w' : World} (h : Own K T B v l w) (hb : Below C w w') (hC : ∀ k, v.ownBlock = some k → k < C) : Own K T B v l w' := by
  obtain ⟨h1, h2⟩ := h
  refine ⟨h1, ?_⟩
  rcases h2 with h2 | ⟨g, cp, cur, rfl, hB, hg, rest⟩
  · exact .inl h2
  · exact .inr ⟨g, cp, cur, rfl, hB, by rw [hb.block g (hC g rfl)]; exact hg, rest⟩
theorem Own.later {K : Kd α} {T B : Nat} {v : Value} {l : List α} {w w' : World} (h : Own K T B v l w) (hb : Below w.heap.size w w') : Own K T B v l w' :=
  h.below hb (fun k hk => (World.ownsRow.lt h k hk).2)
theorem Own.far {K : Kd α} {T B : Nat} {v : Value} {l : List α} {w w' : World} {r : Option Nat} (h : Own K T B v l w) (hg : w.grownBy w' r) (hr : ∀ k, v.ownBlock = some k → some k ≠ r) : Own K T B v l w' := by
  obtain ⟨h1, h2⟩ := h
  refine ⟨h1, ?_⟩
  rcases h2 with h2 | ⟨g, cp, cur, rfl, hB, hh, rest⟩
  · exact .inl h2
  · exact .inr ⟨g, cp, cur, rfl, hB, by rw [hg.block g (Array.getElem?_eq_some_iff.1 hh).1 (hr g rfl)]; exact hh, rest⟩
theorem Own.at_ {K : Kd α} {T B g cap n : Nat} {l : List α} {w : World} (h : Own K T B (.slice (some ⟨g, 0, none⟩) n cap) l w) (i : Nat) (x : α) (hi : l[i]? = some x) (j : Nat) (u : Value) (hu : (K.enc x)[j]? = some u) :
    w.cell? ⟨g, i * K.k + j, none⟩ = some u := by
  have := World.ownsRow.cells h (g := g) rfl (i * K.k + j) u (flatE_at K l i x hi j u hu)
  have hadd : (⟨g, 0, none⟩ : Addr).add (i * K.k + j) = ⟨g, i * K.k + j, none⟩ := by unfold Addr.add; split <;> simp_all
  rwa [hadd] at this
theorem Own.frozen {K : Kd α} {T B g n cap : Nat} {l : List α} {w : World} (h : Own K T B (.slice (some ⟨g, 0, none⟩) n cap) l w) (i : Nat) : w.frozen? ⟨g, i, none⟩ = false := by
  rcases h.2 with ⟨h2, _⟩ | ⟨g', cp, cur, e, hb, hg, hn, hm, hs, ht⟩
  · cases h2
  · cases e
    simp [World.frozen?, hg]
theorem Own.rd {K : Kd α} {T B : Nat} {v : Value} {l : List α} {w : World} (h : Own K T B v l w) : Rd K v l w := by
  rcases h.2 with ⟨rfl, h0⟩ | ⟨g, cap, cur, rfl, hb, hg, hn, hm, hs, ht⟩
  · obtain rfl : l = [] := List.length_eq_zero_iff.1 h0
    exact Rd.nil _ _
  · refine ⟨_, cap, rfl, fun i x hi => ⟨g, 0, rfl, (Array.getElem?_eq_some_iff.1 hg).1, fun j u hu => ?_⟩⟩
    rw [Nat.zero_add]
    exact Own.at_ h i x hi j u hu

/-- stores, one behind the other. -/
def setsAt (xs : List Value) (p : Nat) : List Value → List Value
  | [] => xs
  | u :: us => setsAt (xs.set p u) (p + 1) us
def setsW (w : World) (g p : Nat) : List Value → World
  | [] => w
  | u :: us => setsW (w.setCell ⟨g, p, none⟩ u) g (p + 1) us
theorem setsAt_eq (us : List Value) : ∀ (xs : List Value) (p : Nat), p + us.length ≤ xs.length → setsAt xs p us = xs.take p ++ us ++ xs.drop (p + us.length) := by
  induction us with
  | nil => intro xs p _; simp [setsAt]
  | cons u us ih =>
    intro xs p h
    simp only [List.length_cons] at h
    rw [setsAt, ih _ _ (by rw [List.length_set]; omega)]
    rw [List.length_cons, List.take_set, List.drop_set_of_lt (by omega)]
    have e : (xs.take (p + 1)).set p u = xs.take p ++ [u] := by
      rw [List.take_succ_eq_append_getElem (by omega), List.set_append_right _ _ (by simp; omega)]
      have hm : min p xs.length = p := by omega
      simp [hm]
    rw [e, show p + 1 + us.length = p + (us.length + 1) by omega]
    simp
theorem flatE_set (K : Kd α) (l : List α) (i : Nat) (a : α) (h : i < l.length) : setsAt (flatE K l) (i * K.k) (K.enc a) = flatE K (l.set i a) := by
  have hl : (flatE K (l.take i)).length = i * K.k := by rw [flatE_length, List.length_take, Nat.min_eq_left (by omega)]
  have e : l = l.take i ++ l[i] :: l.drop (i + 1) := by rw [← List.drop_eq_getElem_cons h, List.take_append_drop]
  have e2 : l.set i a = l.take i ++ a :: l.drop (i + 1) := by rw [List.set_eq_take_append_cons_drop, if_pos h]
  have hm : (i + 1) * K.k ≤ l.length * K.k := Nat.mul_le_mul_right _ (by omega)
  rw [Nat.add_mul] at hm
  rw [setsAt_eq _ _ _ (by rw [K.len, flatE_length]; omega), K.len, e2, flatE_append]
  have h1 : (flatE K l).take (i * K.k) = flatE K (l.take i) := by
    conv => lhs; rw [e, flatE_append]
    rw [List.take_append_of_le_length (by omega), List.take_of_length_le (by omega)]
  have h2 : (flatE K l).drop (i * K.k + K.k) = flatE K (l.drop (i + 1)) := by
    conv => lhs; rw [e, flatE_append]
    rw [List.drop_append, List.drop_of_length_le (by omega), hl, Nat.add_sub_cancel_left]
    show [] ++ (K.enc l[i] ++ flatE K (l.drop (i + 1))).drop K.k = _
    rw [List.nil_append, List.drop_append, List.drop_of_length_le (by rw [K.len]; exact Nat.le_refl _), K.len, Nat.sub_self, List.drop_zero]
    rfl
  rw [h1, h2, List.append_assoc]
  rfl
theorem owns_sets {B T size g n cap : Nat} (us : List Value) : ∀ {w : World} {xs : List Value} (p : Nat), w.ownsRow B T size (.slice (some ⟨g, 0, none⟩) n cap) n xs →
    (setsW w g p us).ownsRow B T size (.slice (some ⟨g, 0, none⟩) n cap) n (setsAt xs p us) ∧ w.grownBy (setsW w g p us) (some g) := by
  induction us with
  | nil => intro w xs p h; exact ⟨h, ⟨rfl, rfl, rfl, Nat.le_refl _, fun _ _ _ => rfl⟩⟩
  | cons u us ih =>
    intro w xs p h
    obtain ⟨h1, h2⟩ := h.stored p u
    obtain ⟨h3, h4⟩ := ih (p + 1) h1
    exact ⟨h3, ⟨h4.os.trans h2.os, h4.tape.trans h2.tape, h4.output.trans h2.output, Nat.le_trans h2.size h4.size, fun k hk hne => (h4.block k (Nat.lt_of_lt_of_le hk h2.size) hne).trans (h2.block k hk hne)⟩⟩
/-- a store of a whole element into an own row. -/
theorem Own.set {K : Kd α} {T B g n cap : Nat} {l : List α} {w : World} (h : Own K T B (.slice (some ⟨g, 0, none⟩) n cap) l w) (i : Nat) (hi : i < l.length) (a : α) :
    Own K T B (.slice (some ⟨g, 0, none⟩) n cap) (l.set i a) (setsW w g (i * K.k) (K.enc a)) ∧ w.grownBy (setsW w g (i * K.k) (K.enc a)) (some g) := by
  obtain ⟨ad, cp, e⟩ := Own.slice h
  cases e
  obtain ⟨h1, h2⟩ := owns_sets (K.enc a) (i * K.k) h
  refine ⟨?_, h2⟩
  unfold Own
  rw [List.length_set, ← flatE_set K l i a hi]
  exact h1
theorem below_sets {B g : Nat} (us : List Value) (hg : B ≤ g) : ∀ {a w : World} (p : Nat), Below B a w → Below B a (setsW w g p us) := by
  induction us with
  | nil => intro a w p h; exact h
  | cons u us ih => intro a w p h; exact ih (p + 1) (h.setCell hg _)

/-- the zero element, made n times. -/
theorem flatE_replicate (K : Kd α) (n : Nat) (a : α) (z : Array Value) (hz : z.toList = K.enc a) : (madeCells z (n * K.k)).toList = flatE K (List.replicate n a) := by
  have hs : z.size = K.k := by rw [← Array.length_toList, hz, K.len]
  apply List.ext_getElem?
  intro p
  by_cases hp : p < n * K.k
  · have hk : 0 < K.k := by rcases Nat.eq_zero_or_pos K.k with h | h; · rw [h] at hp; omega
                            · exact h
    have hd : p / K.k < n := (Nat.div_lt_iff_lt_mul hk).2 hp
    have hm : p % K.k < K.k := Nat.mod_lt _ hk
    have hu : (K.enc a)[p % K.k]? = some ((K.enc a)[p % K.k]'(by rw [K.len]; exact hm)) := List.getElem?_eq_getElem (by rw [K.len]; exact hm)
    have h1 := flatE_at K (List.replicate n a) (p / K.k) a (by rw [List.getElem?_replicate, if_pos hd]) (p % K.k) _ hu
    rw [Nat.mul_comm, Nat.div_add_mod] at h1
    rw [h1]
    have h3 : z[p % K.k]! = (K.enc a)[p % K.k]'(by rw [K.len]; exact hm) := by
      rw [getElem!_pos z _ (by rw [hs]; exact hm)]
      simp only [← Array.getElem_toList, hz]
    simp only [madeCells, Array.toList_map, Array.toList_range, List.getElem?_map, List.getElem?_range hp, Option.map_some, hs, h3]
  · have e1 : (madeCells z (n * K.k)).toList.length ≤ p := by rw [Array.length_toList, size_madeCells]; omega
    have e2 : (flatE K (List.replicate n a)).length ≤ p := by rw [flatE_length, List.length_replicate]; omega
    rw [List.getElem?_eq_none e1, List.getElem?_eq_none e2]
theorem make_run {P : Program} (K : Kd α) (t T : TypeId) (i : TypeInfo) (z : Value) (ht : P.underlying t = some (.slice T)) (hi : P.info? T = some i) (hz : i.zero = some z) (hsz : i.size = K.k) (hby : i.bytes ≤ 1000)
    (n : Nat) (hn : n ≤ 2000000) (w : World) :
    (Instr.makeSlice t (.int .i64 (n : Int)) (.int .i64 (n : Int))).run P w = .ok (.slice (some ⟨w.heap.size, 0, none⟩) n n) (w.alloc (.cells (madeCells z.cells (n * K.k)) T)) := by
  have hb : i.bytes * n ≤ 281474976710656 := by
    have := Nat.mul_le_mul hby hn; omega
  have h := run_make (P := P) w t T i z ht hi hz .i64 .i64 (n : Int) (n : Int) (by omega) (by omega) (by have : ((i.bytes * n : Nat) : Int) ≤ 281474976710656 := by omega
                                                                                                         rwa [Int.natCast_mul] at this) (by omega)
  rw [Int.toNat_natCast, hsz] at h
  exact h
theorem Own.make0 {K : Kd α} {T : TypeId} (B : Nat) (w : World) (hB : B ≤ w.heap.size) (n : Nat) (hn : n ≤ 2000000) (a : α) (z : Value) (hz : z.cells.toList = K.enc a) :
    Own K T B (.slice (some ⟨w.heap.size, 0, none⟩) n n) (List.replicate n a) (w.alloc (.cells (madeCells z.cells (n * K.k)) T)) := by
  have h := World.ownsRow_lit (base := B) (e := T) (size := K.k) w (madeCells z.cells (n * K.k)) n hB (by unfold maxLen; omega) (size_madeCells _ _)
  unfold Own
  rw [← flatE_replicate K n a z.cells hz, List.length_replicate]
  exact h
theorem take_set {l : List α} {k n : Nat} {a0 x : α} (hx : l[k]? = some x) (hn : l.length = n) : (l.take k ++ List.replicate (n - k) a0).set k x = l.take (k + 1) ++ List.replicate (n - (k + 1)) a0 := by
  obtain ⟨h, rfl⟩ := List.getElem?_eq_some_iff.1 hx
  have e1 : (l.take k).length = k := by simp; omega
  rw [List.set_append_right (s := l.take k) (t := List.replicate (n - k) a0) k _ (by omega), e1, Nat.sub_self]
  rw [List.take_succ_eq_append_getElem h, List.append_assoc]
  obtain ⟨d, hd⟩ : ∃ d, n - k = d + 1 := ⟨n - k - 1, by omega⟩
  rw [hd, show n - (k + 1) = d by omega, List.replicate_succ]
  rfl

/-- append(out, x): a slice of one, literal, behind the row. -/
theorem app1 {P : Program} {ops : Array Oper} {rest : List Oper} {o : Oper} {a : Act} {Q : Exit → Act → World → Prop} (K : Kd α) (hk : 0 < K.k) (t T : TypeId) (i : TypeInfo) (z : Value) (hgd : o.guard = none) (s x : Operand)
    (ho : o.op = .call { callee := .builtin .append, args := #[s, x], argTypes := #[t, t] }) (ht : P.underlying t = some (.slice T)) (hi : P.info? T = some i) (hz : i.zero = some z) (hsz : i.size = K.k) (hzs : z.cells.size = K.k) (hby : i.bytes ≤ 1000)
    (B : Nat) (v : Value) (l : List α) (w : World) (c : α) (cs : Array Value) (hcs : cs.toList = K.enc c) (h1 : ∀ u ∈ K.enc c, u.oneCell' = true) (hs : a.eval s = v) (hx : a.eval x = .slice (some ⟨w.heap.size, 0, none⟩) 1 1)
    (hown : Own K T B v l w) (hB : B ≤ w.heap.size) (hl : l.length + 1 ≤ 100000000)
    (h : ∀ v' w', Own K T B v' (l ++ [c]) w' → Below B w w' → wpList P ops Q rest (a.put o.dst v') w') :
    wpList P ops Q (o :: rest) a (w.alloc (.cells cs T)) := by
  refine wpList_append_own _ hgd s x t ho B T i z K.k i.bytes ht hi hz hsz rfl hzs hk v l.length (flatE K l) hs (hown.alloc _) ⟨w.heap.size, 0, none⟩ 1 1 (K.enc c) hx (by rw [K.len, Nat.one_mul]) ?_ h1 ?_ ?_ (by simp; omega) ?_
  · intro j u hu
    have hadd : (⟨w.heap.size, 0, none⟩ : Addr).add j = ⟨w.heap.size, j, none⟩ := by unfold Addr.add; split <;> simp_all
    rw [hadd, cell_of_row _ w.heap.size j cs T (0, 0) (heap_alloc_new w _), ← Array.getElem?_toList, hcs, hu]
  · unfold maxLen; omega
  · have := Nat.mul_le_mul hl hby; omega
  · intro v' w' hown' hgr _
    refine h v' w' ?_ ?_
    · unfold Own; rw [flatE_append, List.length_append]; simpa [flatE] using hown'
    · exact (((Below.refl B w).alloc hB _)).grown hgr (by simp; omega) (fun k hk => (World.ownsRow.lt hown k hk).1)

/-- The same, and what of memory may have turned. -/
theorem app1g {P : Program} {ops : Array Oper} {rest : List Oper} {o : Oper} {a : Act} {Q : Exit → Act → World → Prop} (K : Kd α) (hk : 0 < K.k) (t T : TypeId) (i : TypeInfo) (z : Value) (hgd : o.guard = none) (s x : Operand)
    (ho : o.op = .call { callee := .builtin .append, args := #[s, x], argTypes := #[t, t] }) (ht : P.underlying t = some (.slice T)) (hi : P.info? T = some i) (hz : i.zero = some z) (hsz : i.size = K.k) (hzs : z.cells.size = K.k) (hby : i.bytes ≤ 1000)
    (B : Nat) (v : Value) (l : List α) (w : World) (c : α) (cs : Array Value) (hcs : cs.toList = K.enc c) (h1 : ∀ u ∈ K.enc c, u.oneCell' = true) (hs : a.eval s = v) (hx : a.eval x = .slice (some ⟨w.heap.size, 0, none⟩) 1 1)
    (hown : Own K T B v l w) (hB : B ≤ w.heap.size) (hl : l.length + 1 ≤ 100000000)
    (h : ∀ v' w', Own K T B v' (l ++ [c]) w' → w.grownBy w' v.ownBlock → wpList P ops Q rest (a.put o.dst v') w') :
    wpList P ops Q (o :: rest) a (w.alloc (.cells cs T)) := by
  refine wpList_append_own _ hgd s x t ho B T i z K.k i.bytes ht hi hz hsz rfl hzs hk v l.length (flatE K l) hs (hown.alloc _) ⟨w.heap.size, 0, none⟩ 1 1 (K.enc c) hx (by rw [K.len, Nat.one_mul]) ?_ h1 ?_ ?_ (by simp; omega) ?_
  · intro j u hu
    have hadd : (⟨w.heap.size, 0, none⟩ : Addr).add j = ⟨w.heap.size, j, none⟩ := by unfold Addr.add; split <;> simp_all
    rw [hadd, cell_of_row _ w.heap.size j cs T (0, 0) (heap_alloc_new w _), ← Array.getElem?_toList, hcs, hu]
  · unfold maxLen; omega
  · have := Nat.mul_le_mul hl hby; omega
  · intro v' w' hown' hgr _
    refine h v' w' ?_ ?_
    · unfold Own; rw [flatE_append, List.length_append]; simpa [flatE] using hown'
    · have hb := (Below.refl w.heap.size w).alloc (Nat.le_refl _) (.cells cs T)
      exact ⟨hgr.os.trans hb.os, hgr.tape.trans hb.tape, hgr.output.trans hb.output, Nat.le_trans hb.size hgr.size, fun k hk hne => (hgr.block k (Nat.lt_of_lt_of_le hk hb.size) hne).trans (hb.block k hk)⟩

/-- a block that is known whole. -/
def Bx (T : TypeId) (b : Nat) (cs : Array Value) (w : World) : Prop := w.heap[b]? = some (.cells cs T)
theorem Bx.new (T : TypeId) (cs : Array Value) (w : World) : Bx T w.heap.size cs (w.alloc (.cells cs T)) := heap_alloc_new w _
theorem Bx.lt {T : TypeId} {b : Nat} {cs : Array Value} {w : World} (h : Bx T b cs w) : b < w.heap.size := (Array.getElem?_eq_some_iff.1 h).1
theorem Bx.below {T : TypeId} {b B : Nat} {cs : Array Value} {w w' : World} (h : Bx T b cs w) (hb : Below B w w') (hB : b < B) : Bx T b cs w' := by
  unfold Bx at h ⊢; rw [hb.block b hB]; exact h
theorem Bx.later {T : TypeId} {b : Nat} {cs : Array Value} {w w' : World} (h : Bx T b cs w) (hb : Below w.heap.size w w') : Bx T b cs w' := h.below hb h.lt
theorem Bx.alloc {T : TypeId} {b : Nat} {cs : Array Value} {w : World} (h : Bx T b cs w) (o : Obj) : Bx T b cs (w.alloc o) := h.later ((Below.refl _ _).alloc (Nat.le_refl _) o)
theorem Bx.cell {T : TypeId} {b : Nat} {cs : Array Value} {w : World} (h : Bx T b cs w) (i : Nat) (u : Value) (hu : cs[i]? = some u) : w.cell? ⟨b, i, none⟩ = some u := by
  rw [cell_of_row w b i cs T (0, 0) h]; exact hu
theorem Bx.warm {T : TypeId} {b : Nat} {cs : Array Value} {w : World} (h : Bx T b cs w) (i : Nat) : w.frozen? ⟨b, i, none⟩ = false := by
  unfold Bx at h; simp [World.frozen?, h]
theorem Bx.set {T : TypeId} {b : Nat} {cs : Array Value} {w : World} (h : Bx T b cs w) (i : Nat) (u : Value) : Bx T b (cs.setIfInBounds i u) (w.setCell ⟨b, i, none⟩ u) := by
  unfold Bx at h ⊢
  simp [World.setCell, Array.getElem?_modify, h]
theorem Bx.far {T : TypeId} {b : Nat} {cs : Array Value} {w : World} (h : Bx T b cs w) {p : Addr} (hp : b ≠ p.block) (u : Value) : Bx T b cs (w.setCell p u) := (Below.heap_setCell w p u b hp).trans h
theorem Bx.drew {T : TypeId} {b : Nat} {cs : Array Value} {w : World} (h : Bx T b cs w) : Bx T b cs w.drew := h
/-- six cells, and five. -/
theorem Bx.cells6 {T : TypeId} {b : Nat} {c0 c1 c2 c3 c4 c5 : Value} {w : World} (h : Bx T b #[c0, c1, c2, c3, c4, c5] w) :
    w.cell? ⟨b, 0, none⟩ = some c0 ∧ w.cell? ⟨b, 1, none⟩ = some c1 ∧ w.cell? ⟨b, 2, none⟩ = some c2 ∧ w.cell? ⟨b, 3, none⟩ = some c3 ∧ w.cell? ⟨b, 4, none⟩ = some c4 ∧ w.cell? ⟨b, 5, none⟩ = some c5 :=
  ⟨h.cell 0 _ rfl, h.cell 1 _ rfl, h.cell 2 _ rfl, h.cell 3 _ rfl, h.cell 4 _ rfl, h.cell 5 _ rfl⟩
theorem Bx.cells4 {T : TypeId} {b : Nat} {c0 c1 c2 c3 : Value} {w : World} (h : Bx T b #[c0, c1, c2, c3] w) :
    w.cell? ⟨b, 0, none⟩ = some c0 ∧ w.cell? ⟨b, 1, none⟩ = some c1 ∧ w.cell? ⟨b, 2, none⟩ = some c2 ∧ w.cell? ⟨b, 3, none⟩ = some c3 :=
  ⟨h.cell 0 _ rfl, h.cell 1 _ rfl, h.cell 2 _ rfl, h.cell 3 _ rfl⟩
theorem below_alloc1 {B : Nat} {a w w' : World} {o : Obj} (h : Below B a w) (hB : B ≤ w.heap.size) (hb : Below (w.alloc o).heap.size (w.alloc o) w') : Below B a w' :=
  (h.alloc hB o).trans (hb.mono (by simp; omega))
theorem Own.setBelow {K : Kd α} {T B : Nat} {v : Value} {l : List α} {w : World} (h : Own K T B v l w) {a : Addr} (ha : a.block < B) (u : Value) : Own K T B v l (w.setCell a u) := ownsRow_setCell_below h ha u
end Go.Proofs.Ytdhaelaoackfkaa.GR
