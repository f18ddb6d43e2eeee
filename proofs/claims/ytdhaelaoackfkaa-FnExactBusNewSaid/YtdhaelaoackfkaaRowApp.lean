
/-
  append of one struct to a row of structs that is the call's own.
-/
import Derived.Test.YtdhaelaoackfkaaKRow
import Derived.ArgAppend
namespace Go.Proofs.Ytdhaelaoackfkaa.KD
open Go.RowKit Rows3 GR
set_option linter.unusedVariables false

theorem setCells_turn (g : Nat) : ∀ (vs : List Value) (o : Nat) (w w' : World), Turn (fun k => k = g) w w' → Turn (fun k => k = g) w (w'.setCells g o vs)
  | [], _, _, _, h => h
  | v :: vs, o, w, w', h => setCells_turn g vs (o + 1) w _ (h.set (p := ⟨g, o, none⟩) rfl v)
theorem setCells_row (g : Nat) : ∀ (vs : List Value) (o : Nat) (w : World) (xs : Array Value) (T : TypeId), w.heap[g]? = some (.cells xs T) → o + vs.length ≤ xs.size →
    ∃ xs', (w.setCells g o vs).heap[g]? = some (.cells xs' T) ∧ xs'.size = xs.size ∧ (∀ t u, vs[t]? = some u → xs'[o + t]? = some u) ∧ ∀ i, i < o ∨ o + vs.length ≤ i → xs'[i]? = xs[i]?
  | [], o, w, xs, T, h, _ => ⟨xs, h, rfl, fun t u hu => by simp at hu, fun _ _ => rfl⟩
  | v :: vs, o, w, xs, T, h, hl => by
    rw [List.length_cons] at hl
    have h1 : (w.setCell ⟨g, o, none⟩ v).heap[g]? = some (.cells (xs.setIfInBounds o v) T) := by simp [World.setCell, Array.getElem?_modify, h]
    obtain ⟨xs', k1, k2, k3, k4⟩ := setCells_row g vs (o + 1) _ _ T h1 (by simp; omega)
    refine ⟨xs', k1, by rw [k2]; simp, fun t u hu => ?_, fun i hi => ?_⟩
    · cases t with
      | zero =>
        rw [k4 _ (.inl (by omega)), Nat.add_zero]
        simp at hu
        subst hu
        rw [Array.getElem?_setIfInBounds_self_of_lt (by omega)]
      | succ t =>
        have := k3 t u (by simpa using hu)
        rw [show o + (t + 1) = o + 1 + t by omega]; exact this
    · rw [List.length_cons] at hi
      rw [k4 i (by omega), Array.getElem?_setIfInBounds_ne (by omega)]
theorem lin_lt {i l n t : Nat} (hi : i < l) (ht : t < n) : i * n + t < l * n := by
  have h1 : (i + 1) * n ≤ l * n := Nat.mul_le_mul_right _ hi
  rw [Nat.add_mul, Nat.one_mul] at h1
  omega
theorem addr_add' (b o i : Nat) : (⟨b, o, none⟩ : Addr).add i = ⟨b, o + i, none⟩ := by unfold Addr.add; split <;> simp_all
theorem row_mk {α : Type} {K : Kn α} {hn : K.n ≤ 64} {F E : Foot} {Es : Nat → Foot} {l : List α} {x : α} {es : List Value} {w w' : World} {g o cp : Nat} {xs : Array Value} {T : TypeId}
    (h1 : w'.heap[g]? = some (.cells xs T)) (hroom : o + cp * K.n ≤ xs.size) (hcp : l.length + 1 ≤ cp) (hcm : cp ≤ 9223372036854775807) (hg : F g ∨ w.heap.size ≤ g)
    (e1 : ∀ i k, Es i k → F k ∧ k ≠ g ∧ k < w.heap.size) (e2 : ∀ i j k, i ≠ j → Es i k → ¬ Es j k) (hE : ∀ k, k < w.heap.size → E k → ¬ F k)
    (hx : ∀ i y, l[i]? = some y → ∃ ez, (∀ t u, ez[t]? = some u → xs[o + i * K.n + t]? = some u) ∧ K.cap (Es i) ez y w')
    (hnw : ∀ t u, es[t]? = some u → xs[o + l.length * K.n + t]? = some u) (hc : K.cap (fun k => E k ∧ k < w.heap.size) es x w') :
    (row K hn).cap (fun k => F k ∨ E k ∨ w.heap.size ≤ k) [.slice (some ⟨g, o, none⟩) (l.length + 1) cp] (l ++ [x]) w' := by
  have hfg : F g ∨ E g ∨ w.heap.size ≤ g := by rcases hg with h | h; exact .inl h; exact .inr (.inr h)
  refine ⟨_, _, by rw [List.length_append, List.length_singleton], by rw [List.length_append, List.length_singleton]; exact ⟨hcp, hcm⟩, .inr ⟨g, o, xs, T, rfl, hfg, h1, hroom, fun j k => if j = l.length then E k ∧ k < w.heap.size else Es j k, fun j k hk => ?_, fun i j k hij h2 h3 => ?_, fun j y hj => ?_⟩⟩
  · by_cases hjl : j = l.length
    · simp only [hjl, if_true] at hk
      refine ⟨.inr (.inl hk.1), fun e => ?_⟩
      subst e
      rcases hg with h | h
      · exact hE k hk.2 hk.1 h
      · omega
    · simp only [hjl, if_false] at hk
      exact ⟨.inl (e1 j k hk).1, (e1 j k hk).2.1⟩
  · by_cases hil : i = l.length
    · by_cases hjl : j = l.length
      · omega
      · simp only [hil, if_true] at h2
        simp only [hjl, if_false] at h3
        exact hE k h2.2 h2.1 (e1 j k h3).1
    · simp only [hil, if_false] at h2
      by_cases hjl : j = l.length
      · simp only [hjl, if_true] at h3
        exact hE k h3.2 h3.1 (e1 i k h2).1
      · simp only [hjl, if_false] at h3
        exact e2 i j k hij h2 h3
  · by_cases hjl : j < l.length
    · rw [List.getElem?_append_left hjl] at hj
      obtain ⟨ez, h2, h3⟩ := hx j y hj
      refine ⟨ez, h2, ?_⟩
      have hne : ¬ j = l.length := by omega
      simp only [hne, if_false]
      exact h3
    · have hj2 := (List.getElem?_eq_some_iff.1 hj).1
      simp at hj2
      have h0 : j = l.length := by omega
      subst h0
      simp at hj
      subst hj
      refine ⟨es, hnw, ?_⟩
      simp only [if_true]
      exact hc
theorem run_append_row {α : Type} {K : Kn α} {hn : K.n ≤ 64} (t ty e : TypeId) (i : TypeInfo) (z : Value) (ht : Try.prog.underlying t = some (.slice e)) (hi : Try.prog.info? e = some i) (hz : i.zero = some z) (hsz : i.size = K.n) (hzs : z.cells.size = K.n) (hby : i.bytes ≤ 1000)
    (F E : Foot) (v : Value) (l : List α) (x : α) (es : List Value) (w : World) (h : (row K hn).cap F [v] l w) (hc : K.cap E es x w) (hE : ∀ k, k < w.heap.size → E k → ¬ F k) (ad : Addr) (cp : Nat)
    (hnew : ∀ j u, es[j]? = some u → w.cell? (ad.add j) = some u) (h1c : ∀ u ∈ es, u.oneCell' = true) (hl : l.length + 1 ≤ 4000000) :
    ∃ v' w', (Builtin.append_ #[t, t] ty #[v, .slice (some ad) 1 cp]).run Try.prog w = .ok v' w' ∧ (row K hn).cap (fun k => F k ∨ E k ∨ w.heap.size ≤ k) [v'] (l ++ [x]) w' ∧ Turn F w w' := by
  have hes := K.rd_len (K.cap_rd hc)
  have hnl : es.length = 1 * i.size := by rw [hes, hsz, Nat.one_mul]
  have hbt : (l.length + 1) * i.bytes ≤ 140737488355328 := by
    have := Nat.mul_le_mul hl hby; omega
  obtain ⟨av, cv, ev, hlc, h⟩ := h
  obtain rfl : v = .slice av l.length cv := by simpa using ev
  rcases h with ⟨rfl, rfl, rfl⟩ | ⟨g, o, xs, T, rfl, hF, hg, hroom, Es, e1, e2, hx⟩
  · -- nothing yet
    have hrun := run_append_nil (P := Try.prog) w t ty e i z ht hi hz ad 1 cp es hnl hnew (by omega) (by omega) (by omega)
    have hge := grownCap_ge w 1 0 e
    have hle := grownCap_le_maxLen w 1 0 e (by unfold maxLen; omega)
    have hlat : Below w.heap.size w (w.drew.alloc (.cells (es.toArray ++ Builtin.zeroCells z.cells (grownCap w 1 0 e - 1)) e)) := ⟨rfl, rfl, rfl, by simp, fun k hk => heap_alloc_old w.drew _ hk⟩
    refine ⟨_, _, hrun, ?_, Turn.later hlat⟩
    refine row_mk (l := []) (Es := fun _ _ => False) (o := 0) (heap_alloc_new w.drew _) ?_ (by simpa using hge) (by unfold maxLen at hle; omega) (.inr (Nat.le_refl _)) (fun _ _ h => h.elim) (fun _ _ _ _ h => h.elim) hE (fun j y hj => by simp at hj) (fun t u hu => ?_) (K.cap_later (K.cap_top hc) hlat)
    · simp [size_zeroCells, hes, hzs]
      have : grownCap w 1 0 e * K.n = K.n + (grownCap w 1 0 e - 1) * K.n := by
        obtain ⟨d, hd⟩ : ∃ d, grownCap w 1 0 e = d + 1 := ⟨grownCap w 1 0 e - 1, by omega⟩
        rw [hd, Nat.add_mul, Nat.one_mul]; simp; omega
      omega
    · have ht := (List.getElem?_eq_some_iff.1 hu).1
      simp only [List.length_nil, Nat.zero_mul, Nat.zero_add, Nat.add_zero]
      rw [Array.getElem?_append_left (by simpa using ht), List.getElem?_toArray]; exact hu
  · have hlt := (Array.getElem?_eq_some_iff.1 hg).1
    by_cases hr : l.length + 1 ≤ cv
    · -- room
      have hfit : o + l.length * K.n + K.n ≤ xs.size := by
        have h1 : (l.length + 1) * K.n ≤ cv * K.n := Nat.mul_le_mul_right _ hr
        rw [Nat.add_mul, Nat.one_mul] at h1
        omega
      have hrun := run_append_room_cells (P := Try.prog) w t ty e i ht hi g o l.length cv ad 1 cp es hnl hnew h1c hr
        (fun j hj => by
          rw [hsz, cell_of_row w g _ xs T (0, 0) hg]
          have : o + l.length * K.n + j < xs.size := by omega
          simp [this])
        (fun j hj => by simp [World.frozen?, hg])
      rw [hsz] at hrun
      obtain ⟨xs', k1, k2, k3, k4⟩ := setCells_row g es (o + l.length * K.n) w xs T hg (by omega)
      have hT := setCells_turn g es (o + l.length * K.n) w w (Turn.refl _ _)
      refine ⟨_, _, hrun, ?_, hT.wide (fun k hk => hk ▸ hF)⟩
      refine row_mk (Es := fun j k => Es j k ∧ k < w.heap.size) k1 (by rw [k2]; exact hroom) hr hlc.2 (.inl hF) (fun j k hk => ⟨(e1 j k hk.1).1, (e1 j k hk.1).2, hk.2⟩) (fun a b k hab h2 h3 => e2 a b k hab h2.1 h3.1) hE (fun j y hj => ?_) k3 (K.cap_turn (K.cap_top hc) hT (fun k hk h2 h3 => hE k hk h2.1 (h3 ▸ hF)))
      obtain ⟨ez, h2, h3⟩ := hx j y hj
      have hez := K.rd_len (K.cap_rd h3)
      refine ⟨ez, fun t u hu => ?_, K.cap_turn (K.cap_top h3) hT (fun k hk h4 h5 => (e1 j k h4.1).2 h5)⟩
      have ht := (List.getElem?_eq_some_iff.1 hu).1
      have hj2 := (List.getElem?_eq_some_iff.1 hj).1
      have := lin_lt (n := K.n) hj2 (show t < K.n by omega)
      rw [k4 _ (.inl (by omega))]
      exact h2 t u hu
    · -- a new block
      obtain ⟨olds, hol⟩ : ∃ olds, (xs.toList.drop o).take (l.length * K.n) = olds := ⟨_, rfl⟩
      have hfl : l.length * K.n ≤ cv * K.n := Nat.mul_le_mul_right _ hlc.1
      have hlo : olds.length = l.length * K.n := by
        rw [← hol, List.length_take, List.length_drop]
        have hxs : xs.toList.length = xs.size := by simp
        omega
      have hold : ∀ j, j < l.length * K.n → olds[j]? = xs[o + j]? := fun j hj => by
        rw [← hol, List.getElem?_take_of_lt hj, List.getElem?_drop, Array.getElem?_toList]
      have hrun := run_append_grow (P := Try.prog) w t ty e i z ht hi hz ⟨g, o, none⟩ l.length cv olds (by rw [hlo, hsz]) (fun j u hu => by
          have hj := (List.getElem?_eq_some_iff.1 hu).1
          rw [hold j (by omega)] at hu
          rw [addr_add', cell_of_row w g _ xs T (0, 0) hg]; exact hu) ad 1 cp es hnl hnew (by omega) (by omega) (growslice_fits (by omega) hbt)
      have hge := grownCap_ge w (l.length + 1) cv e
      have hle := grownCap_le_maxLen w (l.length + 1) cv e (by unfold maxLen; omega)
      have hlat : Below w.heap.size w (w.drew.alloc (.cells (olds.toArray ++ es.toArray ++ Builtin.zeroCells z.cells (grownCap w (l.length + 1) cv e - (l.length + 1))) e)) := ⟨rfl, rfl, rfl, by simp, fun k hk => heap_alloc_old w.drew _ hk⟩
      refine ⟨_, _, hrun, ?_, Turn.later hlat⟩
      refine row_mk (Es := fun j k => Es j k ∧ k < w.heap.size) (o := 0) (heap_alloc_new w.drew _) ?_ hge (by unfold maxLen at hle; omega) (.inr (Nat.le_refl _)) (fun j k hk => ⟨(e1 j k hk.1).1, by have := hk.2; show k ≠ w.heap.size; omega, hk.2⟩) (fun a b k hab h2 h3 => e2 a b k hab h2.1 h3.1) hE (fun j y hj => ?_) (fun t u hu => ?_) (K.cap_later (K.cap_top hc) hlat)
      · simp only [Array.size_append, List.size_toArray, size_zeroCells, hlo, hes, hzs]
        have : grownCap w (l.length + 1) cv e * K.n = l.length * K.n + K.n + (grownCap w (l.length + 1) cv e - (l.length + 1)) * K.n := by
          obtain ⟨d, hd⟩ : ∃ d, grownCap w (l.length + 1) cv e = d + (l.length + 1) := ⟨grownCap w (l.length + 1) cv e - (l.length + 1), by omega⟩
          rw [hd, Nat.add_sub_cancel, Nat.add_mul, Nat.add_mul, Nat.one_mul]; omega
        omega
      · obtain ⟨ez, h2, h3⟩ := hx j y hj
        have hez := K.rd_len (K.cap_rd h3)
        refine ⟨ez, fun t u hu => ?_, K.cap_later (K.cap_top h3) hlat⟩
        have ht := (List.getElem?_eq_some_iff.1 hu).1
        have hj2 := (List.getElem?_eq_some_iff.1 hj).1
        have hlin := lin_lt (n := K.n) hj2 (show t < K.n by omega)
        rw [Nat.zero_add, Array.getElem?_append_left (by rw [Array.size_append, List.size_toArray, List.size_toArray, hlo, hes]; omega), Array.getElem?_append_left (by rw [List.size_toArray, hlo]; exact hlin), List.getElem?_toArray, hold _ hlin]
        have := h2 t u hu
        rwa [Nat.add_assoc] at this
      · have ht := (List.getElem?_eq_some_iff.1 hu).1
        rw [Nat.zero_add, Array.getElem?_append_left (by rw [Array.size_append, List.size_toArray, List.size_toArray, hlo]; omega), Array.getElem?_append_right (by rw [List.size_toArray, hlo]; omega)]
        simp only [List.size_toArray, hlo, Nat.add_sub_cancel_left, List.getElem?_toArray]
        exact hu
/-- what is known of an element's type. -/
def ElT {α : Type} (K : Kn α) (e : TypeId) : Prop := ∃ i z, Try.prog.info? e = some i ∧ i.zero = some z ∧ i.size = K.n ∧ z.cells.size = K.n ∧ i.bytes ≤ 1000
/-- append(s, x), a literal of one struct. -/
theorem appRow {α : Type} {K : Kn α} {hn : K.n ≤ 64} {ops : Array Oper} {rest : List Oper} {o : Oper} {a : Act} {Q : Exit → Act → World → Prop} (t e : TypeId) (ht : Try.prog.underlying t = some (.slice e)) (hT : ElT K e) (hgd : o.guard = none) (s x : Operand)
    (ho : o.op = .call { callee := .builtin .append, args := #[s, x], argTypes := #[t, t] })
    (F E : Foot) (v : Value) (l : List α) (y : α) (es : Array Value) (w : World) (hs : a.eval s = v) (hx : a.eval x = .slice (some ⟨w.heap.size, 0, none⟩) 1 1)
    (hown : (row K hn).cap F [v] l w) (hc : K.cap E es.toList y w) (hE : ∀ k, k < w.heap.size → E k → ¬ F k) (h1c : ∀ u ∈ es.toList, u.oneCell' = true) (hl : l.length + 1 ≤ 4000000)
    (h : ∀ v' w', (row K hn).cap (fun k => F k ∨ E k ∨ w.heap.size ≤ k) [v'] (l ++ [y]) w' → Turn F w w' → wpList Try.prog ops Q rest (a.put o.dst v') w') :
    wpList Try.prog ops Q (o :: rest) a (w.alloc (.cells es e)) := by
  obtain ⟨i, z, hi, hz, hsz, hzs, hby⟩ := hT
  have hb := (Below.refl w.heap.size w).alloc (Nat.le_refl _) (.cells es e)
  have hbs := hb.size
  obtain ⟨v', w', hrun, h1, h2⟩ := run_append_row t o.type e i z ht hi hz hsz hzs hby (fun k => F k ∧ k < w.heap.size) (fun k => E k ∧ k < w.heap.size) v l y es.toList (w.alloc (.cells es e)) ((row K hn).cap_later ((row K hn).cap_top hown) hb) (K.cap_later (K.cap_top hc) hb) (fun k _ h3 h4 => hE k h3.2 h3.1 h4.1) ⟨w.heap.size, 0, none⟩ 1 (fun j u hu => by
      rw [addr_add', cell_of_row _ w.heap.size _ _ e (0, 0) (heap_alloc_new w _), Nat.zero_add, ← Array.getElem?_toList]; exact hu) h1c hl
  refine wpList_plain hgd fun K' hK => ?_
  unfold Oper.wp
  simp [execOp, ho, resolve, invoke, builtin, hs, hx, hrun, Result.andThen]
  refine hK _ _ (h v' w' ((row K hn).cap_wide h1 (fun k _ hf => ?_)) ((Turn.later hb).trans (h2.wide (fun k hk => hk.1))))
  rcases hf with h3 | h3 | h3
  · exact .inl h3.1
  · exact .inr (.inl h3.1)
  · exact .inr (.inr (Nat.le_trans hbs h3))
end Go.Proofs.Ytdhaelaoackfkaa.KD
