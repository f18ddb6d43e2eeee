
/-
  A row of structs that is being copied (slices.Clone, then each element in its place): the first elements' memory is the call's own, the others' still lies where it lay at the beginning.
-/
import Derived.Test.YtdhaelaoackfkaaRowApp
import Derived.Test.YtdhaelaoackfkaaEqAny
namespace Go.Proofs.Ytdhaelaoackfkaa.KD
open Go.RowKit Rows3 GR
set_option linter.unusedVariables false

/-- v: a row of the call's own; its elements up to j lie in blocks of F, the others are read in the world w0. -/
def midC {α : Type} (K : Kn α) (w0 : World) (F : Foot) (v : Value) (l : List α) (j : Nat) (w : World) : Prop :=
  ∃ ad cp, v = .slice ad l.length cp ∧ (l.length ≤ cp ∧ cp ≤ 9223372036854775807) ∧ ((ad = none ∧ l = [] ∧ cp = 0) ∨ ∃ g xs T, ad = some ⟨g, 0, none⟩ ∧ F g ∧ w.heap[g]? = some (.cells xs T) ∧ cp * K.n ≤ xs.size ∧ ∃ E : Nat → Foot, (∀ i k, E i k → i < j ∧ F k ∧ k ≠ g ∧ k < w.heap.size) ∧ (∀ i m k, i ≠ m → E i k → ¬ E m k) ∧
    ∀ i x, l[i]? = some x → ∃ es, es.length = K.n ∧ (∀ t u, es[t]? = some u → xs[i * K.n + t]? = some u) ∧ (i < j → K.cap (E i) es x w) ∧ (j ≤ i → K.rd es x w0))
variable {α : Type} {K : Kn α} {w0 : World}
theorem midC.form {F : Foot} {v : Value} {l : List α} {j : Nat} {w : World} (h : midC K w0 F v l j w) : ∃ ad cp, v = .slice ad l.length cp := by
  obtain ⟨ad, cp, e, _⟩ := h; exact ⟨ad, cp, e⟩
theorem midC.turn {F G : Foot} {v : Value} {l : List α} {j : Nat} {w w' : World} (h : midC K w0 F v l j w) (ht : Turn G w w') (hG : ∀ k, k < w.heap.size → F k → ¬ G k) : midC K w0 F v l j w' := by
  obtain ⟨ad, cp, e, hl, h⟩ := h
  refine ⟨ad, cp, e, hl, ?_⟩
  rcases h with h | ⟨g, xs, T, ea, hF, hg, hsz, E, e1, e2, h⟩
  · exact .inl h
  · have hlt := (Array.getElem?_eq_some_iff.1 hg).1
    refine .inr ⟨g, xs, T, ea, hF, by rw [ht.block g hlt (hG g hlt hF)]; exact hg, hsz, E, fun i k hk => ⟨(e1 i k hk).1, (e1 i k hk).2.1, (e1 i k hk).2.2.1, Nat.lt_of_lt_of_le (e1 i k hk).2.2.2 ht.size⟩, e2, fun i x hi => ?_⟩
    obtain ⟨es, hel, hc, hr, hr0⟩ := h i x hi
    exact ⟨es, hel, hc, fun hij => K.cap_turn (hr hij) ht (fun k hk hf => hG k hk (e1 i k hf).2.1), hr0⟩
theorem midC.later {F : Foot} {v : Value} {l : List α} {j : Nat} {w w' : World} (h : midC K w0 F v l j w) (hb : Below w.heap.size w w') : midC K w0 F v l j w' :=
  h.turn (Turn.of hb) (fun k hk _ => by omega)
theorem midC.wide {F G : Foot} {v : Value} {l : List α} {j : Nat} {w : World} (h : midC K w0 F v l j w) (hG : ∀ k, k < w.heap.size → F k → G k) : midC K w0 G v l j w := by
  obtain ⟨ad, cp, e, hl, h⟩ := h
  refine ⟨ad, cp, e, hl, ?_⟩
  rcases h with h | ⟨g, xs, T, ea, hF, hg, hsz, E, e1, e2, h⟩
  · exact .inl h
  · exact .inr ⟨g, xs, T, ea, hG g (Array.getElem?_eq_some_iff.1 hg).1 hF, hg, hsz, E, fun i k hk => ⟨(e1 i k hk).1, hG k (e1 i k hk).2.2.2 (e1 i k hk).2.1, (e1 i k hk).2.2⟩, e2, h⟩
theorem midC.top {F : Foot} {v : Value} {l : List α} {j : Nat} {w : World} (h : midC K w0 F v l j w) : midC K w0 (fun k => F k ∧ k < w.heap.size) v l j w := h.wide (fun _ hk hf => ⟨hf, hk⟩)
/-- all are copied. -/
theorem midC.all {hn : K.n ≤ 64} {F : Foot} {v : Value} {l : List α} {j : Nat} {w : World} (h : midC K w0 F v l j w) (hj : l.length ≤ j) : (row K hn).cap F [v] l w := by
  obtain ⟨ad, cp, rfl, hl, h⟩ := h
  refine ⟨ad, cp, rfl, hl, ?_⟩
  rcases h with h | ⟨g, xs, T, ea, hF, hg, hsz, E, e1, e2, h⟩
  · exact .inl h
  · refine .inr ⟨g, 0, xs, T, ea, hF, hg, by rw [Nat.zero_add]; exact hsz, E, fun i k hk => ⟨(e1 i k hk).2.1, (e1 i k hk).2.2.1⟩, e2, fun i x hi => ?_⟩
    obtain ⟨es, hel, hc, hr, _⟩ := h i x hi
    have hil := (List.getElem?_eq_some_iff.1 hi).1
    exact ⟨es, fun t u hu => by rw [Nat.zero_add]; exact hc t u hu, hr (by omega)⟩
/-- the next element: its cells; what the row is when they have turned. -/
theorem midC.step {F : Foot} {v : Value} {l : List α} {j : Nat} {w : World} {x : α} (h : midC K w0 F v l j w) (hi : l[j]? = some x) :
    ∃ g cp es, v = .slice (some ⟨g, 0, none⟩) l.length cp ∧ l.length ≤ cp ∧ F g ∧ g < w.heap.size ∧ es.length = K.n ∧ Seg g (j * K.n) es w ∧ K.rd es x w0 ∧
      ∀ w' es' E', Chg g (j * K.n) (j * K.n + K.n) (fun _ => False) w w' → Seg g (j * K.n) es' w' → es'.length = K.n → K.cap E' es' x w' → (∀ k, E' k → w.heap.size ≤ k ∧ k < w'.heap.size) → midC K w0 (fun k => F k ∨ E' k) v l (j + 1) w' := by
  obtain ⟨ad, cp, rfl, hl, h⟩ := h
  rcases h with ⟨rfl, rfl, rfl⟩ | ⟨g, xs, T, rfl, hF, hg, hsz, E, e1, e2, h⟩
  · simp at hi
  have hlt := (Array.getElem?_eq_some_iff.1 hg).1
  have hil := (List.getElem?_eq_some_iff.1 hi).1
  obtain ⟨es, hel, hc, _, hr0⟩ := h j x hi
  refine ⟨g, cp, es, rfl, hl.1, hF, hlt, hel, ⟨xs, T, hg, hc⟩, hr0 (Nat.le_refl _), ?_⟩
  intro w' es' E' hch hseg hel' hc' hE'
  obtain ⟨xs', hg2, hx2, hx4⟩ := hch.row xs T hg
  obtain ⟨xs2, T2, hg3, hx3⟩ := hseg
  rw [hg2] at hg3
  obtain ⟨rfl, rfl⟩ : xs' = xs2 ∧ T = T2 := by cases hg3; exact ⟨rfl, rfl⟩
  have hT := hch.turn
  have hss : w.heap.size ≤ w'.heap.size := hT.size
  refine ⟨some ⟨g, 0, none⟩, cp, rfl, hl, .inr ⟨g, xs', T, rfl, .inl hF, hg2, by rw [hx2]; exact hsz, fun i k => if i = j then E' k else E i k, fun i k hk => ?_, fun i m k him h1 h2 => ?_, fun i y hy => ?_⟩⟩
  · by_cases hij : i = j
    · simp only [hij, if_true] at hk
      obtain ⟨a, b⟩ := hE' k hk
      exact ⟨by omega, .inr hk, by omega, b⟩
    · simp only [hij, if_false] at hk
      obtain ⟨a, b, c, d⟩ := e1 i k hk
      exact ⟨by omega, .inl b, c, by omega⟩
  · by_cases hij : i = j
    · by_cases hmj : m = j
      · omega
      · simp only [hij, if_true] at h1
        simp only [hmj, if_false] at h2
        have := hE' k h1
        have := (e1 m k h2).2.2.2
        omega
    · simp only [hij, if_false] at h1
      by_cases hmj : m = j
      · simp only [hmj, if_true] at h2
        have := hE' k h2
        have := (e1 i k h1).2.2.2
        omega
      · simp only [hmj, if_false] at h2
        exact e2 i m k him h1 h2
  · by_cases hij : i = j
    · subst hij
      rw [hi] at hy
      cases hy
      refine ⟨es', hel', hx3, fun _ => ?_, fun h => by omega⟩
      simp only [if_true]
      exact hc'
    · obtain ⟨ez, hez, hcz, hrz, hrz0⟩ := h i y hy
      refine ⟨ez, hez, fun t u hu => ?_, fun hlt2 => ?_, fun hle => hrz0 (by omega)⟩
      · have ht := (List.getElem?_eq_some_iff.1 hu).1
        rw [hx4 _ ?_]
        · exact hcz t u hu
        · rcases Nat.lt_or_gt_of_ne hij with h1 | h1
          · have : (i + 1) * K.n ≤ j * K.n := Nat.mul_le_mul_right _ h1
            rw [Nat.add_mul, Nat.one_mul] at this
            omega
          · have : (j + 1) * K.n ≤ i * K.n := Nat.mul_le_mul_right _ h1
            rw [Nat.add_mul, Nat.one_mul] at this
            omega
      · simp only [hij, if_false]
        refine K.cap_turn (hrz (by omega)) hT (fun k hk hz hh => ?_)
        rcases hh with h1 | h1
        · exact (e1 i k hz).2.2.1 h1
        · exact h1.elim
/-- the cells of a row that is read, one behind the other. -/
theorem row_flat {ad : Addr} {cp n : Nat} {l : List α} {w : World} (h : ∀ i x, l[i]? = some x → ∃ b o es, some ad = some (⟨b, o, none⟩ : Addr) ∧ b < w.heap.size ∧ (∀ j u, es[j]? = some u → w.cell? ⟨b, o + i * K.n + j, none⟩ = some u) ∧ K.rd es x w) (hone : ∀ es x w, K.rd es x w → ∀ u ∈ es, u.oneCell' = true) :
    ∀ m, m ≤ l.length → ∃ news : List Value, news.length = m * K.n ∧ (∀ j u, news[j]? = some u → w.cell? (ad.add j) = some u) ∧ (∀ u ∈ news, u.oneCell' = true) ∧ (∀ i x, i < m → l[i]? = some x → ∃ es, es.length = K.n ∧ (∀ t u, es[t]? = some u → news[i * K.n + t]? = some u) ∧ K.rd es x w) := by
  intro m
  induction m with
  | zero => intro _; exact ⟨[], by simp, fun j u h => by simp at h, fun u h => by simp at h, fun i x h => by omega⟩
  | succ m ih =>
    intro hm
    obtain ⟨news, n1, n2, n3, n4⟩ := ih (by omega)
    obtain ⟨x, hx⟩ := get_of (l := l) (i := m) (by omega)
    obtain ⟨b, o, es, e, hb, hc, hr⟩ := h m x hx
    have hes := K.rd_len hr
    refine ⟨news ++ es, by rw [List.length_append, n1, hes, Nat.add_mul, Nat.one_mul], fun j u hu => ?_, fun u hu => ?_, fun i y hi hy => ?_⟩
    · by_cases hj : j < m * K.n
      · rw [List.getElem?_append_left (by omega)] at hu
        exact n2 j u hu
      · rw [List.getElem?_append_right (by omega), n1] at hu
        have hk := hc _ u hu
        obtain rfl : ad = ⟨b, o, none⟩ := by cases e; rfl
        have e2 : (⟨b, o, none⟩ : Addr).add j = ⟨b, o + j, none⟩ := by unfold Addr.add; split <;> simp_all
        rw [e2]
        rw [show o + m * K.n + (j - m * K.n) = o + j by omega] at hk
        exact hk
    · rcases List.mem_append.1 hu with h1 | h1
      · exact n3 u h1
      · exact hone es x w hr u h1
    · by_cases him : i < m
      · obtain ⟨ez, h1, h2, h3⟩ := n4 i y him hy
        refine ⟨ez, h1, fun t u hu => ?_, h3⟩
        have ht := (List.getElem?_eq_some_iff.1 hu).1
        have hlin : i * K.n + t < m * K.n := lin_lt him (by omega)
        rw [List.getElem?_append_left (by omega)]
        exact h2 t u hu
      · obtain rfl : i = m := by omega
        rw [hx] at hy
        cases hy
        refine ⟨es, hes, fun t u hu => ?_, hr⟩
        rw [List.getElem?_append_right (by omega), n1, Nat.add_sub_cancel_left]
        exact hu
theorem midC_own {B : Nat} {e : TypeId} {v : Value} {l : List α} {news : List Value} {w : World} (hown : w.ownsRow B e K.n v l.length news) (hr : ∀ i x, i < l.length → l[i]? = some x → ∃ es, es.length = K.n ∧ (∀ t u, es[t]? = some u → news[i * K.n + t]? = some u) ∧ K.rd es x w0) :
    midC K w0 (fun k => B ≤ k) v l 0 w := by
  obtain ⟨hlen, hown⟩ := hown
  rcases hown with ⟨rfl, h0⟩ | ⟨g, cap, cur, rfl, hb, hg, hn, hm, hs, ht⟩
  · obtain rfl : l = [] := List.length_eq_zero_iff.1 h0
    exact ⟨none, 0, rfl, ⟨Nat.zero_le _, Nat.zero_le _⟩, .inl ⟨rfl, rfl, rfl⟩⟩
  · refine ⟨_, cap, rfl, ⟨hn, by unfold maxLen at hm; omega⟩, .inr ⟨g, cur, e, rfl, hb, hg, by rw [hs]; exact Nat.le_refl _, fun _ _ => False, fun _ _ h => h.elim, fun _ _ _ _ h => h.elim, fun i x hi => ?_⟩⟩
    have hil := (List.getElem?_eq_some_iff.1 hi).1
    obtain ⟨es, h1, h2, h3⟩ := hr i x hil hi
    refine ⟨es, h1, fun t u hu => ?_, fun h => by omega, fun _ => h3⟩
    have h4 := h2 t u hu
    rw [← ht] at h4
    have h5 := List.getElem?_take_of_lt (l := cur.toList) (i := i * K.n + t) (j := l.length * K.n) (lin_lt hil (by have := (List.getElem?_eq_some_iff.1 hu).1; omega))
    rw [h5, Array.getElem?_toList] at h4
    exact h4
/-- append(made row of none, src...): the source a row that is read in an earlier world. -/
theorem appAllC {hn : K.n ≤ 64} {ops : Array Oper} {rest : List Oper} {o : Oper} {a : Act} {Q : Exit → Act → World → Prop} (hk : 0 < K.n) (hone : ∀ es x w, K.rd es x w → ∀ u ∈ es, u.oneCell' = true) (t e : TypeId) (ht : Try.prog.underlying t = some (.slice e)) (hT : ElT K e) (hgd : o.guard = none) (s x : Operand)
    (ho : o.op = .call { callee := .builtin .append, args := #[s, x], argTypes := #[t, t] })
    (ad : Addr) (n cp : Nat) (l : List α) (hln : l.length = n) (w : World) (hs : a.eval s = .slice (some ⟨w.heap.size, 0, none⟩) 0 0) (hx : a.eval x = .slice (some ad) n cp)
    (hr : (row K hn).rd [.slice (some ad) n cp] l w0) (hw0 : Below w0.heap.size w0 w) (hl : l.length ≤ 2000000)
    (h : ∀ v' w', midC K w0 (fun k => w.heap.size ≤ k) v' l 0 w' → Below w.heap.size w w' → wpList Try.prog ops Q rest (a.put o.dst v') w') :
    wpList Try.prog ops Q (o :: rest) a (w.alloc (.cells #[] e)) := by
  obtain ⟨i, z, hi, hz, hsz, hzs, hby⟩ := hT
  have hb := (Below.refl w.heap.size w).alloc (Nat.le_refl _) (.cells #[] e)
  have hb0 := hw0.trans (hb.mono hw0.size)
  have hown : (w.alloc (.cells #[] e)).ownsRow w.heap.size e K.n (.slice (some ⟨w.heap.size, 0, none⟩) 0 0) 0 [] := World.ownsRow_made w #[] 0 (Nat.le_refl _) (Nat.zero_le _) (by simp)
  obtain ⟨ad', cp', ee, hlc, hel⟩ := hr
  obtain ⟨rfl, rfl⟩ : some ad = ad' ∧ cp = cp' := by
    have e2 : Value.slice (some ad) n cp = .slice ad' l.length cp' := by simpa using ee
    injection e2 with e3 e4 e5; exact ⟨e3, e5⟩
  obtain ⟨news, n1, n2, n3, n4⟩ := row_flat (cp := cp) (n := n) hel hone l.length (Nat.le_refl _)
  refine wpList_append_own _ hgd s x t ho w.heap.size e i z K.n i.bytes ht hi hz hsz rfl hzs hk _ 0 [] hs hown ad n cp news hx (by rw [n1, hln]) ?_ n3 ?_ ?_ (by simp) ?_
  · intro j u hu
    have h1 := n2 j u hu
    have hlt : ad.block < w0.heap.size := by
      have hj := (List.getElem?_eq_some_iff.1 hu).1
      have hpos : 0 < l.length := by
        rcases Nat.eq_zero_or_pos l.length with h0 | h0
        · rw [n1, h0] at hj; omega
        · exact h0
      obtain ⟨y, hy⟩ := get_of (l := l) (i := 0) hpos
      obtain ⟨b, o', es, e3, hb3, _⟩ := hel 0 y hy
      cases e3
      exact hb3
    have hblk : (ad.add j).block = ad.block := by unfold Addr.add; split <;> rfl
    rw [hb0.cell (p := ad.add j) (by rw [hblk]; exact hlt)]
    exact h1
  · unfold maxLen; omega
  · have : (0 + n) * i.bytes ≤ 2000000 * 1000 := Nat.mul_le_mul (by omega) hby
    omega
  · intro v' w' hown' hgr _
    rw [Nat.zero_add, List.nil_append, ← hln] at hown'
    refine h v' w' (midC_own hown' n4) ?_
    exact hb.grown hgr (by simp) (fun k hk => (World.ownsRow.lt hown k hk).1)
end Go.Proofs.Ytdhaelaoackfkaa.KD
