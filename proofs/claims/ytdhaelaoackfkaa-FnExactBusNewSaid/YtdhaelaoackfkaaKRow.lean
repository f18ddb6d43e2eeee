
/-
  Rows of structs: one element of a row, changed in its place; stores of several cells side by side.
-/
import Derived.Test.YtdhaelaoackfkaaKdI
import Derived.Test.YtdhaelaoackfkaaGRow
namespace Go.Proofs.Ytdhaelaoackfkaa.KD
open Go.RowKit Rows3 GR
set_option linter.unusedVariables false

theorem bel_cells {B : Nat} {w w' : World} (h : Below B w w') {b : Nat} (hb : b < B) (i : Nat) : w'.cell? ⟨b, i, none⟩ = w.cell? ⟨b, i, none⟩ := h.cell (p := ⟨b, i, none⟩) hb
/-- block g holds es from off on. -/
def Seg (g off : Nat) (es : List Value) (w : World) : Prop := ∃ xs T, w.heap[g]? = some (.cells xs T) ∧ ∀ t u, es[t]? = some u → xs[off + t]? = some u
theorem Seg.set {g off : Nat} {es : List Value} {w : World} (h : Seg g off es w) (t : Nat) (u : Value) {n : Nat} (hn : off + t = n) : Seg g off (es.set t u) (w.setCell ⟨g, n, none⟩ u) := by
  subst hn
  obtain ⟨xs, T, hg, hx⟩ := h
  refine ⟨xs.setIfInBounds (off + t) u, T, by simp [World.setCell, Array.getElem?_modify, hg], fun s v hv => ?_⟩
  by_cases hst : t = s
  · subst hst
    have ht : t < es.length := by simpa using (List.getElem?_eq_some_iff.1 hv).1
    obtain rfl : u = v := by simpa [List.getElem?_set, ht] using hv
    have h1 := hx t _ (List.getElem?_eq_getElem ht)
    have h2 := (Array.getElem?_eq_some_iff.1 h1).1
    simp [h2]
  · rw [List.getElem?_set_ne hst] at hv
    rw [Array.getElem?_setIfInBounds_ne (by omega)]
    exact hx s v hv
theorem Seg.turn {g off : Nat} {es : List Value} {w w' : World} {G : Foot} (h : Seg g off es w) (ht : Turn G w w') (hG : ¬ G g) : Seg g off es w' := by
  obtain ⟨xs, T, hg, hx⟩ := h
  exact ⟨xs, T, by rw [ht.block g (Array.getElem?_eq_some_iff.1 hg).1 hG]; exact hg, hx⟩
theorem Seg.later {g off : Nat} {es : List Value} {w w' : World} (h : Seg g off es w) (hb : Below w.heap.size w w') : Seg g off es w' := by
  obtain ⟨xs, T, hg, hx⟩ := h
  have hlt := (Array.getElem?_eq_some_iff.1 hg).1
  exact ⟨xs, T, by rw [hb.block g hlt]; exact hg, hx⟩
theorem Seg.cell {g off : Nat} {es : List Value} {w : World} (h : Seg g off es w) (t : Nat) (u : Value) (hu : es[t]? = some u) {n : Nat} (hn : off + t = n) : w.cell? ⟨g, n, none⟩ = some u := by
  subst hn
  obtain ⟨xs, T, hg, hx⟩ := h
  rw [cell_of_row w g _ xs T (0, 0) hg]; exact hx t u hu
theorem Seg.warm {g off : Nat} {es : List Value} {w : World} (h : Seg g off es w) (n : Nat) : w.frozen? ⟨g, n, none⟩ = false := by
  obtain ⟨xs, T, hg, hx⟩ := h
  simp [World.frozen?, hg]
theorem Seg.lt {g off : Nat} {es : List Value} {w : World} (h : Seg g off es w) : g < w.heap.size := by
  obtain ⟨xs, T, hg, hx⟩ := h; exact (Array.getElem?_eq_some_iff.1 hg).1
/-- what has turned: in block g the cells from lo up to hi alone, and blocks of E. -/
structure Chg (g lo hi : Nat) (E : Foot) (w w' : World) : Prop where
  turn : Turn (fun k => k = g ∨ E k) w w'
  row : ∀ xs T, w.heap[g]? = some (.cells xs T) → ∃ xs', w'.heap[g]? = some (.cells xs' T) ∧ xs'.size = xs.size ∧ ∀ i, i < lo ∨ hi ≤ i → xs'[i]? = xs[i]?
theorem Chg.refl (g lo hi : Nat) (E : Foot) (w : World) : Chg g lo hi E w w := ⟨Turn.refl _ _, fun xs T h => ⟨xs, h, rfl, fun _ _ => rfl⟩⟩
theorem Chg.set {g lo hi : Nat} {E : Foot} {w w' : World} (h : Chg g lo hi E w w') {n : Nat} (h1 : lo ≤ n) (h2 : n < hi) (u : Value) : Chg g lo hi E w (w'.setCell ⟨g, n, none⟩ u) := by
  refine ⟨h.turn.set (.inl rfl) u, fun xs T hx => ?_⟩
  obtain ⟨xs', k1, k2, k3⟩ := h.row xs T hx
  exact ⟨xs'.setIfInBounds n u, by simp [World.setCell, Array.getElem?_modify, k1], by simpa using k2, fun i hi => by rw [Array.getElem?_setIfInBounds_ne (by omega)]; exact k3 i hi⟩
theorem Chg.then {g lo hi : Nat} {E : Foot} {w w' w'' : World} (h : Chg g lo hi E w w') (ht : Turn E w' w'') (hE : ¬ E g) : Chg g lo hi E w w'' := by
  refine ⟨h.turn.trans (ht.wide (fun k hk => .inr hk)), fun xs T hx => ?_⟩
  obtain ⟨xs', k1, k2, k3⟩ := h.row xs T hx
  exact ⟨xs', by rw [ht.block g (Array.getElem?_eq_some_iff.1 k1).1 hE]; exact k1, k2, k3⟩
theorem Chg.later {g lo hi : Nat} {E : Foot} {w w' w'' : World} (h : Chg g lo hi E w w') (hb : Below w'.heap.size w' w'') : Chg g lo hi E w w'' := by
  refine ⟨h.turn.trans (Turn.later hb), fun xs T hx => ?_⟩
  obtain ⟨xs', k1, k2, k3⟩ := h.row xs T hx
  exact ⟨xs', by rw [hb.block g (Array.getElem?_eq_some_iff.1 k1).1]; exact k1, k2, k3⟩
/-- one element of a row: what its cells hold, and what the row is when they have turned. -/
theorem row_at {α : Type} {K : Kn α} {hn : K.n ≤ 64} {F : Foot} {cs : List Value} {l : List α} {w : World} (h : (row K hn).cap F cs l w) {i : Nat} {x : α} (hi : l[i]? = some x) :
    ∃ g o cp es E, cs = [.slice (some ⟨g, o, none⟩) l.length cp] ∧ l.length ≤ cp ∧ cp ≤ 9223372036854775807 ∧ F g ∧ g < w.heap.size ∧ es.length = K.n ∧ Seg g (o + i * K.n) es w ∧ K.cap E es x w ∧ (∀ k, E k → F k ∧ k ≠ g ∧ k < w.heap.size) ∧
      ∀ w' es' x' E', Chg g (o + i * K.n) (o + i * K.n + K.n) E w w' → Seg g (o + i * K.n) es' w' → es'.length = K.n → K.cap E' es' x' w' → (∀ k, E' k → (E k ∨ w.heap.size ≤ k)) → (row K hn).cap (fun k => F k ∨ E' k) cs (l.set i x') w' := by
  obtain ⟨ad, cp, rfl, hl, h⟩ := h
  rcases h with ⟨rfl, rfl, rfl⟩ | ⟨g, o, xs, T, rfl, hF, hg, hsz, E, e1, e2, h⟩
  · simp at hi
  have hlt := (Array.getElem?_eq_some_iff.1 hg).1
  have hil := (List.getElem?_eq_some_iff.1 hi).1
  obtain ⟨es, hc, hr⟩ := h i x hi
  have hes := K.rd_len (K.cap_rd hr)
  have hroom : o + i * K.n + K.n ≤ xs.size := by
    have h1 : (i + 1) * K.n ≤ cp * K.n := Nat.mul_le_mul_right _ (by omega)
    rw [Nat.add_mul, Nat.one_mul] at h1
    omega
  refine ⟨g, o, cp, es, fun k => E i k ∧ k < w.heap.size, rfl, hl.1, hl.2, hF, hlt, hes, ⟨xs, T, hg, hc⟩, K.cap_top hr, fun k hk => ⟨(e1 i k hk.1).1, (e1 i k hk.1).2, hk.2⟩, ?_⟩
  intro w' es' x' E' hch hseg hel hc' hE'
  obtain ⟨xs', hg2, hx2, hx4⟩ := hch.row xs T hg
  obtain ⟨xs2, T2, hg3, hx3⟩ := hseg
  rw [hg2] at hg3
  obtain ⟨rfl, rfl⟩ : xs' = xs2 ∧ T = T2 := by cases hg3; exact ⟨rfl, rfl⟩
  have hT := hch.turn
  refine ⟨some ⟨g, o, none⟩, cp, by rw [List.length_set], by rw [List.length_set]; exact hl, .inr ⟨g, o, xs', T, rfl, .inl hF, hg2, by rw [hx2]; exact hsz, fun j k => if j = i then E' k else E j k ∧ k < w.heap.size, fun j k hk => ?_, fun j m k hjm hj hm => ?_, fun j y hj => ?_⟩⟩
  · by_cases hji : j = i
    · simp only [hji, if_true] at hk
      refine ⟨.inr hk, fun e => ?_⟩
      rcases hE' k hk with h1 | h1
      · exact (e1 i k h1.1).2 e
      · omega
    · simp only [hji, if_false] at hk
      exact ⟨.inl (e1 j k hk.1).1, (e1 j k hk.1).2⟩
  · by_cases hji : j = i
    · by_cases hmi : m = i
      · omega
      · simp only [hji, if_true] at hj
        simp only [hmi, if_false] at hm
        rcases hE' k hj with h1 | h1
        · exact e2 i m k (by omega) h1.1 hm.1
        · omega
    · simp only [hji, if_false] at hj
      by_cases hmi : m = i
      · simp only [hmi, if_true] at hm
        rcases hE' k hm with h1 | h1
        · exact e2 i j k (by omega) h1.1 hj.1
        · omega
      · simp only [hmi, if_false] at hm
        exact e2 j m k hjm hj.1 hm.1
  · by_cases hji : j = i
    · subst hji
      rw [List.getElem?_set_self (by omega)] at hj
      cases hj
      refine ⟨es', hx3, ?_⟩
      simp only [if_true]
      exact hc'
    · rw [List.getElem?_set_ne (by omega)] at hj
      obtain ⟨ez, hcz, hrz⟩ := h j y hj
      have hez := K.rd_len (K.cap_rd hrz)
      refine ⟨ez, fun t u hu => ?_, ?_⟩
      · have ht := (List.getElem?_eq_some_iff.1 hu).1
        rw [hx4 _ ?_]
        · exact hcz t u hu
        · rcases Nat.lt_or_gt_of_ne hji with h1 | h1
          · have : (j + 1) * K.n ≤ i * K.n := Nat.mul_le_mul_right _ h1
            rw [Nat.add_mul, Nat.one_mul] at this
            omega
          · have : (i + 1) * K.n ≤ j * K.n := Nat.mul_le_mul_right _ h1
            rw [Nat.add_mul, Nat.one_mul] at this
            omega
      · simp only [hji, if_false]
        refine K.cap_turn (K.cap_top hrz) hT (fun k hk hz hh => ?_)
        rcases hh with h1 | h1
        · exact (e1 j k hz.1).2 h1
        · exact e2 j i k hji hz.1 h1.1
/-- an element of a row that is read. -/
theorem row_rd {α : Type} {K : Kn α} {hn : K.n ≤ 64} {cs : List Value} {l : List α} {w : World} (h : (row K hn).rd cs l w) {i : Nat} {x : α} (hi : l[i]? = some x) :
    ∃ g o cp es, cs = [.slice (some ⟨g, o, none⟩) l.length cp] ∧ l.length ≤ cp ∧ cp ≤ 9223372036854775807 ∧ g < w.heap.size ∧ (∀ t u, es[t]? = some u → w.cell? ⟨g, o + i * K.n + t, none⟩ = some u) ∧ K.rd es x w := by
  obtain ⟨ad, cp, rfl, hl, h⟩ := h
  obtain ⟨g, o, es, rfl, h1, h2, h3⟩ := h i x hi
  exact ⟨g, o, cp, es, rfl, hl.1, hl.2, h1, h2, h3⟩
theorem row_form {α : Type} {K : Kn α} {hn : K.n ≤ 64} {cs : List Value} {l : List α} {w : World} (h : (row K hn).rd cs l w) : ∃ ad cp, cs = [.slice ad l.length cp] ∧ l.length ≤ cp ∧ cp ≤ 9223372036854775807 := by
  obtain ⟨ad, cp, rfl, hl, h⟩ := h; exact ⟨ad, cp, rfl, hl.1, hl.2⟩
/-- the first j elements' sizes. -/
def szT {α : Type} (K : Kn α) (l : List α) (j : Nat) : Nat := szL K (l.take j) - (l.take j).length
theorem szT_zero {α : Type} (K : Kn α) (l : List α) : szT K l 0 = 0 := by simp [szT, szL]
theorem szL_snoc {α : Type} (K : Kn α) (l : List α) (x : α) : szL K (l ++ [x]) = szL K l + (1 + K.sz x) := by rw [szL_append]; rfl
theorem take_snoc' {α : Type} {l : List α} {j : Nat} {x : α} (h : l[j]? = some x) : l.take (j + 1) = l.take j ++ [x] := by
  have hl := (List.getElem?_eq_some_iff.1 h).1
  rw [List.take_succ_eq_append_getElem hl]
  rw [List.getElem?_eq_getElem hl] at h
  cases h; rfl
theorem szT_step {α : Type} (K : Kn α) {l : List α} {j : Nat} {x : α} (h : l[j]? = some x) : szT K l (j + 1) = szT K l j + K.sz x := by
  unfold szT
  rw [take_snoc' h, szL_snoc, List.length_append, List.length_singleton]
  have := szL_len K (l.take j)
  omega
theorem szT_all {α : Type} (K : Kn α) (l : List α) : l.length + szT K l l.length = szL K l := by
  unfold szT
  rw [List.take_length]
  have := szL_len K l
  omega
theorem szL_take {α : Type} (K : Kn α) (l : List α) (j : Nat) : szL K (l.take j) ≤ szL K l := by
  have h := szL_append K (l.take j) (l.drop j)
  rw [List.take_append_drop] at h
  omega
theorem szT_le {α : Type} (K : Kn α) (l : List α) (j : Nat) : l.length + szT K l j ≤ szL K l := by
  unfold szT
  have h := szL_append K (l.take j) (l.drop j)
  rw [List.take_append_drop] at h
  have h1 := szL_len K (l.take j)
  have h2 := szL_len K (l.drop j)
  have h3 : (l.take j).length + (l.drop j).length = l.length := by rw [← List.length_append, List.take_append_drop]
  omega
/-- marks: the first j elements' count. -/
theorem cL_append {α : Type} (K : Kn α) (l m : List α) : cL K (l ++ m) = cL K l + cL K m := by
  induction l with
  | nil => simp [cL]
  | cons x l ih => simp only [List.cons_append, cL, ih]; omega
theorem cL_step {α : Type} (K : Kn α) {l : List α} {j : Nat} {x : α} (h : l[j]? = some x) : cL K (l.take (j + 1)) = cL K (l.take j) + K.cI x := by
  rw [take_snoc' h, cL_append]; rfl
theorem cL_take {α : Type} (K : Kn α) (l : List α) (j : Nat) : cL K (l.take j) ≤ cL K l := by
  have h := cL_append K (l.take j) (l.drop j)
  rw [List.take_append_drop] at h
  omega
theorem mL_append {α : Type} (K : Kn α) (l m : List α) : ∀ k, mL K (l ++ m) k = mL K l k ++ mL K m (k + (cL K l : Int)) := by
  induction l with
  | nil => intro k; simp [mL, cL]
  | cons x l ih =>
    intro k
    simp only [List.cons_append, mL, cL, ih]
    rw [show k + (K.cI x : Int) + (cL K l : Int) = k + ((K.cI x + cL K l : Nat) : Int) by omega]
theorem mL_at {α : Type} (K : Kn α) {l : List α} {j : Nat} {x : α} (h : l[j]? = some x) (k : Int) : (mL K l k)[j]? = some (K.mI x (k + (cL K (l.take j) : Int))) := by
  have hl := (List.getElem?_eq_some_iff.1 h).1
  have e : l = l.take j ++ l.drop j := (List.take_append_drop j l).symm
  have h2 : l.drop j = x :: l.drop (j + 1) := by
    rw [List.drop_eq_getElem_cons hl]
    rw [List.getElem?_eq_getElem hl] at h
    cases h; rfl
  conv => lhs; rw [e, mL_append]
  rw [List.getElem?_append_right (by rw [mL_len, List.length_take]; omega), mL_len, List.length_take, Nat.min_eq_left (by omega), Nat.sub_self, h2]
  rfl
/-- the first j elements marked. -/
def midM {α : Type} (K : Kn α) (l : List α) (k : Int) (j : Nat) : List α := mL K (l.take j) k ++ l.drop j
theorem midM_zero {α : Type} (K : Kn α) (l : List α) (k : Int) : midM K l k 0 = l := by simp [midM, mL]
theorem midM_all {α : Type} (K : Kn α) (l : List α) (k : Int) : midM K l k l.length = mL K l k := by simp [midM]
theorem midM_len {α : Type} (K : Kn α) (l : List α) (k : Int) (j : Nat) : (midM K l k j).length = l.length := by
  unfold midM; rw [List.length_append, mL_len, List.length_take, List.length_drop]; omega
theorem midM_at {α : Type} (K : Kn α) {l : List α} {j : Nat} {x : α} (h : l[j]? = some x) (k : Int) : (midM K l k j)[j]? = some x := by
  have hl := (List.getElem?_eq_some_iff.1 h).1
  unfold midM
  rw [List.getElem?_append_right (by rw [mL_len, List.length_take]; omega), mL_len, List.length_take, Nat.min_eq_left (by omega), Nat.sub_self, List.getElem?_drop, Nat.add_zero]
  exact h
theorem midM_step {α : Type} (K : Kn α) {l : List α} {j : Nat} {x : α} (h : l[j]? = some x) (k : Int) : (midM K l k j).set j (K.mI x (k + (cL K (l.take j) : Int))) = midM K l k (j + 1) := by
  have hl := (List.getElem?_eq_some_iff.1 h).1
  have h2 : l.drop j = x :: l.drop (j + 1) := by
    rw [List.drop_eq_getElem_cons hl]
    rw [List.getElem?_eq_getElem hl] at h
    cases h; rfl
  unfold midM
  rw [take_snoc' h, mL_append, h2]
  rw [List.set_append_right _ _ (by rw [mL_len, List.length_take]; omega), mL_len, List.length_take, Nat.min_eq_left (by omega), Nat.sub_self, List.set_cons_zero, List.append_assoc]
  rfl
theorem row_nil {α : Type} {K : Kn α} {hn : K.n ≤ 64} (F : Foot) (w : World) : (row K hn).cap F [.slice none 0 0] [] w := ⟨none, 0, rfl, ⟨Nat.zero_le _, Nat.zero_le _⟩, .inl ⟨rfl, rfl, rfl⟩⟩
theorem row_none {α : Type} {K : Kn α} {hn : K.n ≤ 64} {F : Foot} {cs : List Value} {l : List α} {w : World} (h : (row K hn).cap F cs l w) (hl : l.length = 0) : l = [] := List.length_eq_zero_iff.1 hl
/-- a made row: its cells. -/
theorem made_at (z : Array Value) (n i t : Nat) (hi : i < n) (u : Value) (hu : z[t]? = some u) : (madeCells z (n * z.size))[i * z.size + t]? = some u := by
  have ht := (Array.getElem?_eq_some_iff.1 hu).1
  have hp : i * z.size + t < n * z.size := by
    have h1 : (i + 1) * z.size ≤ n * z.size := Nat.mul_le_mul_right _ hi
    rw [Nat.add_mul, Nat.one_mul] at h1
    omega
  have hm : (i * z.size + t) % z.size = t := by rw [Nat.mul_comm, Nat.mul_add_mod, Nat.mod_eq_of_lt ht]
  rw [← Array.getElem?_toList]
  simp only [madeCells, Array.toList_map, Array.toList_range, List.getElem?_map, List.getElem?_range hp, Option.map_some, hm]
  rw [getElem!_pos z _ ht]
  rw [Array.getElem?_eq_getElem ht] at hu
  exact hu
theorem row_made {α : Type} {K : Kn α} {hn : K.n ≤ 64} (w : World) (n : Nat) (z : Array Value) (x0 : α) (T : TypeId) (hz : z.size = K.n) (hc : ∀ w, K.cap (fun _ => False) z.toList x0 w) (hl : n ≤ 2000000) :
    (row K hn).cap (fun k => w.heap.size ≤ k) [.slice (some ⟨w.heap.size, 0, none⟩) n n] (List.replicate n x0) (w.alloc (.cells (madeCells z (n * K.n)) T)) := by
  refine ⟨some ⟨w.heap.size, 0, none⟩, n, by rw [List.length_replicate], by rw [List.length_replicate]; exact ⟨Nat.le_refl _, by omega⟩, .inr ⟨w.heap.size, 0, _, T, rfl, Nat.le_refl _, heap_alloc_new w _, by rw [size_madeCells]; omega, fun _ _ => False, fun _ _ h => h.elim, fun _ _ _ _ h => h.elim, fun i x hi => ⟨z.toList, fun t u hu => ?_, ?_⟩⟩⟩
  · rw [List.getElem?_replicate] at hi
    split at hi
    · rename_i hin
      rw [Nat.zero_add, ← hz]
      exact made_at z n i t hin u (by rw [← Array.getElem?_toList]; exact hu)
    · cases hi
  · rw [List.getElem?_replicate] at hi
    split at hi
    · cases hi; exact hc _
    · cases hi
theorem make_runK {P : Program} (t T : TypeId) (i : TypeInfo) (z : Value) (ht : P.underlying t = some (.slice T)) (hi : P.info? T = some i) (hz : i.zero = some z) (m : Nat) (hsz : i.size = m) (hby : i.bytes ≤ 1000)
    (n : Nat) (hn : n ≤ 2000000) (w : World) :
    (Instr.makeSlice t (.int .i64 (n : Int)) (.int .i64 (n : Int))).run P w = .ok (.slice (some ⟨w.heap.size, 0, none⟩) n n) (w.alloc (.cells (madeCells z.cells (n * m)) T)) := by
  have hb : i.bytes * n ≤ 281474976710656 := by
    have := Nat.mul_le_mul hby hn; omega
  have h := run_make (P := P) w t T i z ht hi hz .i64 .i64 (n : Int) (n : Int) (by omega) (by omega) (by have : ((i.bytes * n : Nat) : Int) ≤ 281474976710656 := by omega
                                                                                                         rwa [Int.natCast_mul] at this) (by omega)
  rw [Int.toNat_natCast, hsz] at h
  exact h
theorem info_parts' {i : Option TypeInfo} {z : Value} {n : Nat} (h : i.map (fun i => (i.zero, i.size, decide (i.bytes ≤ 1000))) = some (some z, n, true)) : ∃ j, i = some j ∧ j.zero = some z ∧ j.size = n ∧ j.bytes ≤ 1000 := by
  cases i with
  | none => cases h
  | some j => simp at h; exact ⟨j, rfl, h.1, h.2.1, h.2.2⟩
/-- the first j elements done, the others as they were made. -/
def midT {α : Type} (l : List α) (z : α) (j : Nat) : List α := l.take j ++ List.replicate (l.length - j) z
theorem midT_zero {α : Type} (l : List α) (z : α) : midT l z 0 = List.replicate l.length z := by simp [midT]
theorem midT_all {α : Type} (l : List α) (z : α) : midT l z l.length = l := by simp [midT]
theorem midT_len {α : Type} {l : List α} {j : Nat} (z : α) (h : j ≤ l.length) : (midT l z j).length = l.length := by simp [midT]; omega
theorem midT_at {α : Type} {l : List α} {j : Nat} (z : α) (h : j < l.length) : (midT l z j)[j]? = some z := by
  unfold midT
  rw [List.getElem?_append_right (by rw [List.length_take]; omega), List.length_take, Nat.min_eq_left (by omega), Nat.sub_self, List.getElem?_replicate, if_pos (by omega)]
theorem midT_step {α : Type} {l : List α} {j : Nat} {x : α} (z : α) (h : l[j]? = some x) : (midT l z j).set j x = midT l z (j + 1) := take_set h rfl
end Go.Proofs.Ytdhaelaoackfkaa.KD
