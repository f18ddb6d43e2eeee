/-
  Several texts in one: MidC, MstI2, MstI3.
-/
import Derived.Test.YtijilhaoknpeeaaRowApp
import Derived.Test.YtijilhaoknpeeaaEqAny
import Derived.Test.YtijilhaoknpeeaaMst6
namespace Go.Proofs.Ytijilhaoknpeeaa.KD
open Go.RowKit Rows3 GR
set_option linter.unusedVariables false

/-- v: a row of the call's own; its elements up to j lie in blocks of F, the others are read in the world w0. -/
def midC {α : Type} (K : Kn α) (w0 : World) (F : Foot) (v : Value) (l : List α) (j : Nat) (w : World) : Prop :=
  ∃ ad cp, v = .slice ad l.length cp ∧ (l.length ≤ cp ∧ cp ≤ 9223372036854775807) ∧ ((ad = none ∧ l = [] ∧ cp = 0) ∨ ∃ g xs T, ad = some ⟨g, 0, none⟩ ∧ F g ∧ w.heap[g]? = some (.cells xs T) ∧ cp * K.n ≤ xs.size ∧ ∃ E : Nat → Foot, (∀ i k, E i k → i < j ∧ F k ∧ k ≠ g ∧ k < w.heap.size) ∧ (∀ i m k, i ≠ m → E i k → ¬ E m k) ∧
    ∀ i x, l[i]? = some x → ∃ es, es.length = K.n ∧ (∀ t u, es[t]? = some u → xs[i * K.n + t]? = some u) ∧ (i < j → K.cap (E i) es x w) ∧ (j ≤ i → K.rd es x w0))
variable {α : Type} {K : Kn α} {w0 : World}
theorem midC.form {F : Foot} {v : Value} {l : List α} {j : Nat} {w : World} (h : midC K w0 F v l j w) : ∃ ad cp, v = .slice ad l.length cp := by
  obtain ⟨ad, cp, e, _⟩ := h; exact ⟨ad, cp, e⟩
theorem midC.turn {F G : Foot} {v : Value} {l : List α} {j : Nat} {w w' : World} (h : midC K w0 F v l j w) (ht : Turn G w w') (hG : ∀ k, k < w.heap.size → F k → ¬ G k) : midC K w0 F v l j w' := by
  obtain ⟨ad, cp, e, hl, h⟩ := h
  refine ⟨ad, cp, e, hl, ?_⟩
  rcases h with h | ⟨g, xs, T, ea, hF, hg, hsz, E, e1, e2, h⟩
  · exact .inl h
  · have hlt := (Array.getElem?_eq_some_iff.1 hg).1
    refine .inr ⟨g, xs, T, ea, hF, by rw [ht.block g hlt (hG g hlt hF)]; exact hg, hsz, E, fun i k hk => ⟨(e1 i k hk).1, (e1 i k hk).2.1, (e1 i k hk).2.2.1, Nat.lt_of_lt_of_le (e1 i k hk).2.2.2 ht.size⟩, e2, fun i x hi => ?_⟩
    obtain ⟨es, hel, hc, hr, hr0⟩ := h i x hi
    exact ⟨es, hel, hc, fun hij => K.cap_turn (hr hij) ht (fun k hk hf => hG k hk (e1 i k hf).2.1), hr0⟩
theorem midC.later {F : Foot} {v : Value} {l : List α} {j : Nat} {w w' : World} (h : midC K w0 F v l j w) (hb : Below w.heap.size w w') : midC K w0 F v l j w' :=
  h.turn (Turn.of hb) (fun k hk _ => by omega)
theorem midC.wide {F G : Foot} {v : Value} {l : List α} {j : Nat} {w : World} (h : midC K w0 F v l j w) (hG : ∀ k, k < w.heap.size → F k → G k) : midC K w0 G v l j w := by
  obtain ⟨ad, cp, e, hl, h⟩ := h
  refine ⟨ad, cp, e, hl, ?_⟩
  rcases h with h | ⟨g, xs, T, ea, hF, hg, hsz, E, e1, e2, h⟩
  · exact .inl h
  · exact .inr ⟨g, xs, T, ea, hG g (Array.getElem?_eq_some_iff.1 hg).1 hF, hg, hsz, E, fun i k hk => ⟨(e1 i k hk).1, hG k (e1 i k hk).2.2.2 (e1 i k hk).2.1, (e1 i k hk).2.2⟩, e2, h⟩
theorem midC.top {F : Foot} {v : Value} {l : List α} {j : Nat} {w : World} (h : midC K w0 F v l j w) : midC K w0 (fun k => F k ∧ k < w.heap.size) v l j w := h.wide (fun _ hk hf => ⟨hf, hk⟩)
/-- all are copied. -/
theorem midC.all {hn : K.n ≤ 64} {F : Foot} {v : Value} {l : List α} {j : Nat} {w : World} (h : midC K w0 F v l j w) (hj : l.length ≤ j) : (row K hn).cap F [v] l w := by
  obtain ⟨ad, cp, rfl, hl, h⟩ := h
  refine ⟨ad, cp, rfl, hl, ?_⟩
  rcases h with h | ⟨g, xs, T, ea, hF, hg, hsz, E, e1, e2, h⟩
  · exact .inl h
  · refine .inr ⟨g, 0, xs, T, ea, hF, hg, by rw [Nat.zero_add]; exact hsz, E, fun i k hk => ⟨(e1 i k hk).2.1, (e1 i k hk).2.2.1⟩, e2, fun i x hi => ?_⟩
    obtain ⟨es, hel, hc, hr, _⟩ := h i x hi
    have hil := (List.getElem?_eq_some_iff.1 hi).1
    exact ⟨es, fun t u hu => by rw [Nat.zero_add]; exact hc t u hu, hr (by omega)⟩
/-- the next element: its cells; what the row is when they have turned. -/
theorem midC.step {F : Foot} {v : Value} {l : List α} {j : Nat} {w : World} {x : α} (h : midC K w0 F v l j w) (hi : l[j]? = some x) :
    ∃ g cp es, v = .slice (some ⟨g, 0, none⟩) l.length cp ∧ l.length ≤ cp ∧ F g ∧ g < w.heap.size ∧ es.length = K.n ∧ Seg g (j * K.n) es w ∧ K.rd es x w0 ∧
      ∀ w' es' E', Chg g (j * K.n) (j * K.n + K.n) (fun _ => False) w w' → Seg g (j * K.n) es' w' → es'.length = K.n → K.cap E' es' x w' → (∀ k, E' k → w.heap.size ≤ k ∧ k < w'.heap.size) → midC K w0 (fun k => F k ∨ E' k) v l (j + 1) w' := by
  obtain ⟨ad, cp, rfl, hl, h⟩ := h
  rcases h with ⟨rfl, rfl, rfl⟩ | ⟨g, xs, T, rfl, hF, hg, hsz, E, e1, e2, h⟩
  · simp at hi
  have hlt := (Array.getElem?_eq_some_iff.1 hg).1
  have hil := (List.getElem?_eq_some_iff.1 hi).1
  obtain ⟨es, hel, hc, _, hr0⟩ := h j x hi
  refine ⟨g, cp, es, rfl, hl.1, hF, hlt, hel, ⟨xs, T, hg, hc⟩, hr0 (Nat.le_refl _), ?_⟩
  intro w' es' E' hch hseg hel' hc' hE'
  obtain ⟨xs', hg2, hx2, hx4⟩ := hch.row xs T hg
  obtain ⟨xs2, T2, hg3, hx3⟩ := hseg
  rw [hg2] at hg3
  obtain ⟨rfl, rfl⟩ : xs' = xs2 ∧ T = T2 := by cases hg3; exact ⟨rfl, rfl⟩
  have hT := hch.turn
  have hss : w.heap.size ≤ w'.heap.size := hT.size
  refine ⟨some ⟨g, 0, none⟩, cp, rfl, hl, .inr ⟨g, xs', T, rfl, .inl hF, hg2, by rw [hx2]; exact hsz, fun i k => if i = j then E' k else E i k, fun i k hk => ?_, fun i m k him h1 h2 => ?_, fun i y hy => ?_⟩⟩
  · by_cases hij : i = j
    · simp only [hij, if_true] at hk
      obtain ⟨a, b⟩ := hE' k hk
      exact ⟨by omega, .inr hk, by omega, b⟩
    · simp only [hij, if_false] at hk
      obtain ⟨a, b, c, d⟩ := e1 i k hk
      exact ⟨by omega, .inl b, c, by omega⟩
  · by_cases hij : i = j
    · by_cases hmj : m = j
      · omega
      · simp only [hij, if_true] at h1
        simp only [hmj, if_false] at h2
        have := hE' k h1
        have := (e1 m k h2).2.2.2
        omega
    · simp only [hij, if_false] at h1
      by_cases hmj : m = j
      · simp only [hmj, if_true] at h2
        have := hE' k h2
        have := (e1 i k h1).2.2.2
        omega
      · simp only [hmj, if_false] at h2
        exact e2 i m k him h1 h2
  · by_cases hij : i = j
    · subst hij
      rw [hi] at hy
      cases hy
      refine ⟨es', hel', hx3, fun _ => ?_, fun h => by omega⟩
      simp only [if_true]
      exact hc'
    · obtain ⟨ez, hez, hcz, hrz, hrz0⟩ := h i y hy
      refine ⟨ez, hez, fun t u hu => ?_, fun hlt2 => ?_, fun hle => hrz0 (by omega)⟩
      · have ht := (List.getElem?_eq_some_iff.1 hu).1
        rw [hx4 _ ?_]
        · exact hcz t u hu
        · rcases Nat.lt_or_gt_of_ne hij with h1 | h1
          · have : (i + 1) * K.n ≤ j * K.n := Nat.mul_le_mul_right _ h1
            rw [Nat.add_mul, Nat.one_mul] at this
            omega
          · have : (j + 1) * K.n ≤ i * K.n := Nat.mul_le_mul_right _ h1
            rw [Nat.add_mul, Nat.one_mul] at this
            omega
      · simp only [hij, if_false]
        refine K.cap_turn (hrz (by omega)) hT (fun k hk hz hh => ?_)
        rcases hh with h1 | h1
        · exact (e1 i k hz).2.2.1 h1
        · exact h1.elim
/-- the cells of a row that is read, one behind the other. -/
theorem row_flat {ad : Addr} {cp n : Nat} {l : List α} {w : World} (h : ∀ i x, l[i]? = some x → ∃ b o es, some ad = some (⟨b, o, none⟩ : Addr) ∧ b < w.heap.size ∧ (∀ j u, es[j]? = some u → w.cell? ⟨b, o + i * K.n + j, none⟩ = some u) ∧ K.rd es x w) (hone : ∀ es x w, K.rd es x w → ∀ u ∈ es, u.oneCell' = true) :
    ∀ m, m ≤ l.length → ∃ news : List Value, news.length = m * K.n ∧ (∀ j u, news[j]? = some u → w.cell? (ad.add j) = some u) ∧ (∀ u ∈ news, u.oneCell' = true) ∧ (∀ i x, i < m → l[i]? = some x → ∃ es, es.length = K.n ∧ (∀ t u, es[t]? = some u → news[i * K.n + t]? = some u) ∧ K.rd es x w) := by
  intro m
  induction m with
  | zero => intro _; exact ⟨[], by simp, fun j u h => by simp at h, fun u h => by simp at h, fun i x h => by omega⟩
  | succ m ih =>
    intro hm
    obtain ⟨news, n1, n2, n3, n4⟩ := ih (by omega)
    obtain ⟨x, hx⟩ := get_of (l := l) (i := m) (by omega)
    obtain ⟨b, o, es, e, hb, hc, hr⟩ := h m x hx
    have hes := K.rd_len hr
    refine ⟨news ++ es, by rw [List.length_append, n1, hes, Nat.add_mul, Nat.one_mul], fun j u hu => ?_, fun u hu => ?_, fun i y hi hy => ?_⟩
    · by_cases hj : j < m * K.n
      · rw [List.getElem?_append_left (by omega)] at hu
        exact n2 j u hu
      · rw [List.getElem?_append_right (by omega), n1] at hu
        have hk := hc _ u hu
        obtain rfl : ad = ⟨b, o, none⟩ := by cases e; rfl
        have e2 : (⟨b, o, none⟩ : Addr).add j = ⟨b, o + j, none⟩ := by unfold Addr.add; split <;> simp_all
        rw [e2]
        rw [show o + m * K.n + (j - m * K.n) = o + j by omega] at hk
        exact hk
    · rcases List.mem_append.1 hu with h1 | h1
      · exact n3 u h1
      · exact hone es x w hr u h1
    · by_cases him : i < m
      · obtain ⟨ez, h1, h2, h3⟩ := n4 i y him hy
        refine ⟨ez, h1, fun t u hu => ?_, h3⟩
        have ht := (List.getElem?_eq_some_iff.1 hu).1
        have hlin : i * K.n + t < m * K.n := lin_lt him (by omega)
        rw [List.getElem?_append_left (by omega)]
        exact h2 t u hu
      · obtain rfl : i = m := by omega
        rw [hx] at hy
        cases hy
        refine ⟨es, hes, fun t u hu => ?_, hr⟩
        rw [List.getElem?_append_right (by omega), n1, Nat.add_sub_cancel_left]
        exact hu
theorem midC_own {B : Nat} {e : TypeId} {v : Value} {l : List α} {news : List Value} {w : World} (hown : w.ownsRow B e K.n v l.length news) (hr : ∀ i x, i < l.length → l[i]? = some x → ∃ es, es.length = K.n ∧ (∀ t u, es[t]? = some u → news[i * K.n + t]? = some u) ∧ K.rd es x w0) :
    midC K w0 (fun k => B ≤ k) v l 0 w := by
  obtain ⟨hlen, hown⟩ := hown
  rcases hown with ⟨rfl, h0⟩ | ⟨g, cap, cur, rfl, hb, hg, hn, hm, hs, ht⟩
  · obtain rfl : l = [] := List.length_eq_zero_iff.1 h0
    exact ⟨none, 0, rfl, ⟨Nat.zero_le _, Nat.zero_le _⟩, .inl ⟨rfl, rfl, rfl⟩⟩
  · refine ⟨_, cap, rfl, ⟨hn, by unfold maxLen at hm; omega⟩, .inr ⟨g, cur, e, rfl, hb, hg, by rw [hs]; exact Nat.le_refl _, fun _ _ => False, fun _ _ h => h.elim, fun _ _ _ _ h => h.elim, fun i x hi => ?_⟩⟩
    have hil := (List.getElem?_eq_some_iff.1 hi).1
    obtain ⟨es, h1, h2, h3⟩ := hr i x hil hi
    refine ⟨es, h1, fun t u hu => ?_, fun h => by omega, fun _ => h3⟩
    have h4 := h2 t u hu
    rw [← ht] at h4
    have h5 := List.getElem?_take_of_lt (l := cur.toList) (i := i * K.n + t) (j := l.length * K.n) (lin_lt hil (by have := (List.getElem?_eq_some_iff.1 hu).1; omega))
    rw [h5, Array.getElem?_toList] at h4
    exact h4
/-- append(made row of none, src...): the source a row that is read in an earlier world. -/
theorem appAllC {hn : K.n ≤ 64} {ops : Array Oper} {rest : List Oper} {o : Oper} {a : Act} {Q : Exit → Act → World → Prop} (hk : 0 < K.n) (hone : ∀ es x w, K.rd es x w → ∀ u ∈ es, u.oneCell' = true) (t e : TypeId) (ht : Try.prog.underlying t = some (.slice e)) (hT : ElT K e) (hgd : o.guard = none) (s x : Operand)
    (ho : o.op = .call { callee := .builtin .append, args := #[s, x], argTypes := #[t, t] })
    (ad : Addr) (n cp : Nat) (l : List α) (hln : l.length = n) (w : World) (hs : a.eval s = .slice (some ⟨w.heap.size, 0, none⟩) 0 0) (hx : a.eval x = .slice (some ad) n cp)
    (hr : (row K hn).rd [.slice (some ad) n cp] l w0) (hw0 : Below w0.heap.size w0 w) (hl : l.length ≤ 2000000)
    (h : ∀ v' w', midC K w0 (fun k => w.heap.size ≤ k) v' l 0 w' → Below w.heap.size w w' → wpList Try.prog ops Q rest (a.put o.dst v') w') :
    wpList Try.prog ops Q (o :: rest) a (w.alloc (.cells #[] e)) := by
  obtain ⟨i, z, hi, hz, hsz, hzs, hby⟩ := hT
  have hb := (Below.refl w.heap.size w).alloc (Nat.le_refl _) (.cells #[] e)
  have hb0 := hw0.trans (hb.mono hw0.size)
  have hown : (w.alloc (.cells #[] e)).ownsRow w.heap.size e K.n (.slice (some ⟨w.heap.size, 0, none⟩) 0 0) 0 [] := World.ownsRow_made w #[] 0 (Nat.le_refl _) (Nat.zero_le _) (by simp)
  obtain ⟨ad', cp', ee, hlc, hel⟩ := hr
  obtain ⟨rfl, rfl⟩ : some ad = ad' ∧ cp = cp' := by
    have e2 : Value.slice (some ad) n cp = .slice ad' l.length cp' := by simpa using ee
    injection e2 with e3 e4 e5; exact ⟨e3, e5⟩
  obtain ⟨news, n1, n2, n3, n4⟩ := row_flat (cp := cp) (n := n) hel hone l.length (Nat.le_refl _)
  refine wpList_append_own _ hgd s x t ho w.heap.size e i z K.n i.bytes ht hi hz hsz rfl hzs hk _ 0 [] hs hown ad n cp news hx (by rw [n1, hln]) ?_ n3 ?_ ?_ (by simp) ?_
  · intro j u hu
    have h1 := n2 j u hu
    have hlt : ad.block < w0.heap.size := by
      have hj := (List.getElem?_eq_some_iff.1 hu).1
      have hpos : 0 < l.length := by
        rcases Nat.eq_zero_or_pos l.length with h0 | h0
        · rw [n1, h0] at hj; omega
        · exact h0
      obtain ⟨y, hy⟩ := get_of (l := l) (i := 0) hpos
      obtain ⟨b, o', es, e3, hb3, _⟩ := hel 0 y hy
      cases e3
      exact hb3
    have hblk : (ad.add j).block = ad.block := by unfold Addr.add; split <;> rfl
    rw [hb0.cell (p := ad.add j) (by rw [hblk]; exact hlt)]
    exact h1
  · unfold maxLen; omega
  · have : (0 + n) * i.bytes ≤ 2000000 * 1000 := Nat.mul_le_mul (by omega) hby
    omega
  · intro v' w' hown' hgr _
    rw [Nat.zero_add, List.nil_append, ← hln] at hown'
    refine h v' w' (midC_own hown' n4) ?_
    exact hb.grown hgr (by simp) (fun k hk => (World.ownsRow.lt hown k hk).1)
end Go.Proofs.Ytijilhaoknpeeaa.KD

namespace Go.Proofs.Ytijilhaoknpeeaa.KD
open Go.RowKit Rows3 GR Num
set_option linter.unusedVariables false

theorem req_ones : ∀ es x w, reqK.rd es x w → ∀ u ∈ es, u.oneCell' = true := by
  intro es x w h u hu
  obtain ⟨x0, x1, x2, x3, x4, x5⟩ := x
  obtain ⟨a, p, rfl, _⟩ := rd_req h
  exact req_one x0 x1 x2 x3 x4 a x5.length p u hu
/-- slices.Clone of a row of requests that is read in an earlier world. -/
theorem cloneQ (v : Value) (q : List ReqX) (hs : reqS.sz q ≤ 2000000) (w0 w : World) (hv : reqS.rd [v] q w0) (hw0 : Below w0.heap.size w0 w) :
    Calls Try.prog 97 #[v] w fun e w' => ∃ v', e = .returned v' ∧ midC reqK w0 (fun k => w.heap.size ≤ k) v' q 0 w' ∧ Below w.heap.size w w' := by
  have hlen : q.length ≤ 2000000 := Nat.le_trans (szL_len reqK q) hs
  have HV := Lib.hid hv
  obtain ⟨ad, cp, e, hlc, hr⟩ := hv
  obtain rfl : v = .slice ad q.length cp := by simpa using e
  obtain ⟨n, hn⟩ : ∃ n, q.length = n := ⟨_, rfl⟩
  have HN := Lib.hid hn
  rw [hn] at HV ⊢
  have hnil : ∀ W, (binOp .eql 24 (.slice ad n cp) (.slice none 0 0)).run Try.prog W = .ok (.bool ad.isNone) W := fun W => Lib.run_eql_slice_nil (P := Try.prog) W 24 35 ad n cp 0 0 Try.underlying24
  cases ad with
  | none =>
    obtain rfl : q = [] := by
      cases q with
      | nil => rfl
      | cons x q => obtain ⟨b, o, es, e, _⟩ := hr 0 x rfl; cases e
    obtain rfl : n = 0 := hn.symm
    clear hr HV HN hn
    have hnil : ∀ W, (binOp .eql 24 (.slice none 0 cp) (.slice none 0 0)).run Try.prog W = .ok (.bool true) W := hnil
    go_enter Try.func97, Try.ntmps97
    go_wp2
    go_ret
    exact ⟨_, rfl, ⟨none, 0, rfl, ⟨Nat.zero_le _, Nat.zero_le _⟩, .inl ⟨rfl, rfl, rfl⟩⟩, Below.refl _ _⟩
  | some ad =>
    have hnil : ∀ W, (binOp .eql 24 (.slice (some ad) n cp) (.slice none 0 0)).run Try.prog W = .ok (.bool false) W := hnil
    have HL := Lib.hid hlen
    have HW0 := Lib.hid hw0
    clear hr hlc hn hlen hw0 hs e
    go_enter Try.func97, Try.ntmps97
    go_wp2_with (at_builtin; refine appAllC (K := reqK) (by decide) req_ones 24 35 Try.underlying24 elReq rfl _ _ rfl ad n cp q HN.out _ rfl rfl HV.out HW0.out HL.out ?_; intro v' w2 hm2 hb2; have Hm2 := Lib.hid hm2; have Hb2 := Lib.hid hb2; clear hm2 hb2)
    go_ret
    exact ⟨_, rfl, Hm2.out, Hb2.out⟩
set_option maxHeartbeats 4000000 in
set_option maxRecDepth 100000 in
theorem implCopyReqX (cs : List Value) (q : Bool) (x y z : Int) (k : Bool) (l : List Int) (hs : reqK.sz (q, x, y, z, k, l) ≤ 2000000) (w : World) (h : reqK.rd cs (q, x, y, z, k, l) w) :
    Calls Try.prog 68 #[agg cs] w fun e w' => ∃ us, e = .returned (agg us) ∧ reqK.cap (fun i => w.heap.size ≤ i) us (q, x, y, z, k, l) w' ∧ Below w.heap.size w w' := by
  obtain ⟨a, p, rfl, h0⟩ := rd_req h
  have hl := req_len hs
  have HL := Lib.hid hl
  obtain ⟨n, hn⟩ : ∃ n, l.length = n := ⟨_, rfl⟩
  have HN := Lib.hid hn
  rw [hn] at h0 ⊢
  have hsz : ∀ (w : World) o, (w.alloc o).heap.size = w.heap.size + 1 := fun w o => by simp
  have A0 := Lib.hid ((Bx.new 35 #[.bool q, .int .i64 x, .int .i64 y, .int .i64 z, .bool k, .slice a n p] w).alloc (Obj.cells #[.bool false, .int .i64 0, .int .i64 0, .int .i64 0, .bool false, .slice none 0 0] 35))
  have B0 := Bx.new 35 #[.bool false, .int .i64 0, .int .i64 0, .int .i64 0, .bool false, .slice none 0 0] (w.alloc (Obj.cells #[.bool q, .int .i64 x, .int .i64 y, .int .i64 z, .bool k, .slice a n p] 35))
  rw [hsz] at B0
  have X0 := Lib.hid B0
  have HB0 := Lib.hid (((Below.refl w.heap.size w).alloc (Nat.le_refl _) (Obj.cells #[.bool q, .int .i64 x, .int .i64 y, .int .i64 z, .bool k, .slice a n p] 35)).alloc (by simp) (Obj.cells #[.bool false, .int .i64 0, .int .i64 0, .int .i64 0, .bool false, .slice none 0 0] 35))
  have H0 := Lib.hid (h0.below HB0.out)
  clear h h0 hn hs hl hsz B0
  show Calls _ _ #[.agg #[.bool q, .int .i64 x, .int .i64 y, .int .i64 z, .bool k, .slice a n p]] w _
  go_enter Try.func68, Try.ntmps68
  go_wp2_with fail
  generalize (w.alloc (Obj.cells #[.bool q, .int .i64 x, .int .i64 y, .int .i64 z, .bool k, .slice a n p] 35)).alloc (Obj.cells #[.bool false, .int .i64 0, .int .i64 0, .int .i64 0, .bool false, .slice none 0 0] 35) = y0 at A0 X0 HB0 H0 ⊢
  refine (clone_any _ l HL.out _ H0.out).mono ?_
  rintro e y1 ⟨v, rfl, ho, hb⟩
  obtain ⟨a1, p1, rfl⟩ := ho.slice
  have hbs := hb.size
  have hxl : w.heap.size + 1 < y0.heap.size := X0.out.lt
  rw [HN.out] at ho
  rw [HN.out]
  have Ho := Lib.hid ho
  have A1 := Lib.hid (A0.out.later hb)
  have X1 := Lib.hid (X0.out.later hb)
  have HB1 := Lib.hid (HB0.out.trans (hb.mono HB0.out.size))
  clear ho hb H0 HB0
  obtain ⟨g0, g1, g2, g3, g4, g5⟩ := A1.out.cells6
  have ya := A1.out.warm 5
  obtain ⟨j0, j1, j2, j3, j4, j5⟩ := Bx.cells6 (show Bx 35 w.heap.size #[.bool q, .int .i64 x, .int .i64 y, .int .i64 z, .bool k, .slice a1 n p1] _ from A1.out.set 5 (.slice a1 n p1))
  have XX := X1.out.far (p := ⟨w.heap.size, 5, none⟩) (by dsimp only; omega) (.slice a1 n p1)
  obtain ⟨k0, k1, k2, k3, k4, k5⟩ := Bx.cells6 XX
  obtain ⟨z0, z1, z2, z3, z4, z5⟩ := warm6 XX
  obtain ⟨e0, e1, e2, e3, e4, e5⟩ := Bx.cells6 (show Bx 35 (w.heap.size + 1) #[.bool q, .int .i64 x, .int .i64 y, .int .i64 z, .bool k, .slice a1 n p1] _ from (((((XX.set 0 (.bool q)).set 1 (.int .i64 x)).set 2 (.int .i64 y)).set 3 (.int .i64 z)).set 4 (.bool k)).set 5 (.slice a1 n p1))
  clear XX
  go_wp2_with fail
  refine bodyPost_ret (v := .agg #[.bool q, .int .i64 x, .int .i64 y, .int .i64 z, .bool k, .slice a1 n p1]) (by simp [results, Try.results68, go_sem, e0, e1, e2, e3, e4, e5]) rfl ⟨_, rfl, ?_, ?_⟩
  · have ho := Ho.out
    rw [← HN.out] at ho ⊢
    refine req_cap (cap_own (B := w.heap.size) ?_ (by have := HL.out; omega)) (fun _ h => h)
    refine OwnI.mono (B := y0.heap.size) ?_ (by omega)
    iterate 7 refine setBelow ?_ (by dsimp only; omega) _
    exact ho
  · iterate 7 refine Below.setCell ?_ (by dsimp only; omega) _
    exact HB1.out
end Go.Proofs.Ytijilhaoknpeeaa.KD

namespace Go.Proofs.Ytijilhaoknpeeaa.KD
open Go.RowKit Rows3 GR Num
set_option linter.unusedVariables false

set_option maxHeartbeats 8000000 in
set_option maxRecDepth 100000 in
theorem implCopyMst (cs : List Value) (q : List ReqX) (be dn tr : Int) (pa br : Bool) (hs : mstK.sz (q, be, dn, tr, pa, br) ≤ 2000000) (w : World) (h : mstK.rd cs (q, be, dn, tr, pa, br) w) :
    Calls Try.prog 57 #[agg cs] w (NewMst (q, be, dn, tr, pa, br) w) := by
  obtain ⟨a0, p0, rfl, h0⟩ := mst_form h
  have hl := mst_len hs
  have HSZ := Lib.hid (mst_rows hs)
  obtain ⟨n, hn⟩ : ∃ n, q.length = n := ⟨_, rfl⟩
  have HN := Lib.hid hn
  rw [hn] at hl h0 ⊢
  have hsz : ∀ (w : World) o, (w.alloc o).heap.size = w.heap.size + 1 := fun w o => by simp
  have A0 := Lib.hid ((Bx.new 26 #[.slice a0 n p0, .int .i64 be, .int .i64 dn, .int .i64 tr, .bool pa, .bool br] w).alloc (Obj.cells #[.slice none 0 0, .int .i64 0, .int .i64 0, .int .i64 0, .bool false, .bool false] 26))
  have B0 := Bx.new 26 #[.slice none 0 0, .int .i64 0, .int .i64 0, .int .i64 0, .bool false, .bool false] (w.alloc (Obj.cells #[.slice a0 n p0, .int .i64 be, .int .i64 dn, .int .i64 tr, .bool pa, .bool br] 26))
  rw [hsz] at B0
  have X0 := Lib.hid B0
  have HB0 := Lib.hid (((Below.refl w.heap.size w).alloc (Nat.le_refl _) (Obj.cells #[.slice a0 n p0, .int .i64 be, .int .i64 dn, .int .i64 tr, .bool pa, .bool br] 26)).alloc (by simp) (Obj.cells #[.slice none 0 0, .int .i64 0, .int .i64 0, .int .i64 0, .bool false, .bool false] 26))
  have HY := Lib.hid (show ((w.alloc (Obj.cells #[.slice a0 n p0, .int .i64 be, .int .i64 dn, .int .i64 tr, .bool pa, .bool br] 26)).alloc (Obj.cells #[.slice none 0 0, .int .i64 0, .int .i64 0, .int .i64 0, .bool false, .bool false] 26)).heap.size = w.heap.size + 2 by simp)
  have H0 := Lib.hid h0
  clear h h0 hn hs B0 hsz
  show Calls _ _ #[.agg #[.slice a0 n p0, .int .i64 be, .int .i64 dn, .int .i64 tr, .bool pa, .bool br]] w _
  go_enter Try.func57, Try.ntmps57
  go_wp2_with fail
  generalize (w.alloc (Obj.cells #[.slice a0 n p0, .int .i64 be, .int .i64 dn, .int .i64 tr, .bool pa, .bool br] 26)).alloc (Obj.cells #[.slice none 0 0, .int .i64 0, .int .i64 0, .int .i64 0, .bool false, .bool false] 26) = y0 at A0 X0 HB0 HY ⊢
  refine (cloneQ _ q HSZ.out w _ H0.out HB0.out).mono ?_
  rintro e y1 ⟨v1, rfl, hm, hb⟩
  obtain ⟨a1, p1, rfl⟩ := hm.form
  rw [HN.out] at hm ⊢
  rw [HY.out] at hm
  have A1 := Lib.hid (A0.out.later hb)
  have X1 := Lib.hid (X0.out.later hb)
  have HB1 := Lib.hid (HB0.out.trans (hb.mono HB0.out.size))
  have hM0 : midC reqK w (fun k => w.heap.size + 2 ≤ k) (.slice a1 n p1) q 0 (y1.setCell ⟨w.heap.size, 0, none⟩ (.slice a1 n p1)) :=
    hm.turn (G := fun k => k = w.heap.size) (Turn.set (F := fun k => k = w.heap.size) (Turn.refl _ _) (p := ⟨w.heap.size, 0, none⟩) rfl _) (fun k _ h1 h2 => by omega)
  have HM0 := Lib.hid hM0
  obtain ⟨g0, g1, g2, g3, g4, g5⟩ := A1.out.cells6
  have ya := A1.out.warm 0
  have A2 := Lib.hid (show Bx 26 w.heap.size #[.slice a1 n p1, .int .i64 be, .int .i64 dn, .int .i64 tr, .bool pa, .bool br] _ from A1.out.set 0 (.slice a1 n p1))
  have X2 := Lib.hid (X1.out.far (p := ⟨w.heap.size, 0, none⟩) (by dsimp only; omega) (.slice a1 n p1))
  have HB2 := Lib.hid (show Below w.heap.size w (y1.setCell ⟨w.heap.size, 0, none⟩ (.slice a1 n p1)) from Below.setCell HB1.out (Nat.le_refl _) _)
  obtain ⟨j0, j1, j2, j3, j4, j5⟩ := A2.out.cells6
  clear hm hb hM0 A1 X1 HB1 A0 X0 HB0 HY
  go_wp2_with fail
  clear g0 g1 g2 g3 g4 g5 ya j0 j1 j2 j3 j4 j5
  generalize y1.setCell ⟨w.heap.size, 0, none⟩ (.slice a1 n p1) = y2 at A2 X2 HB2 HM0 ⊢
  go_loopw [12] (fun i wr => ∃ j : Nat, j ≤ n ∧ i = .int .i64 j ∧ Hid (midC reqK w (fun k => w.heap.size + 2 ≤ k) (.slice a1 n p1) q j wr) ∧ Hid (Bx 26 w.heap.size #[.slice a1 n p1, .int .i64 be, .int .i64 dn, .int .i64 tr, .bool pa, .bool br] wr) ∧ Hid (Bx 26 (w.heap.size + 1) #[.slice none 0 0, .int .i64 0, .int .i64 0, .int .i64 0, .bool false, .bool false] wr) ∧ Hid (Below w.heap.size w wr)) (fun i _ => n - (intOf i).toNat)
  case atStart => exact ⟨0, by omega, rfl, HM0, A2, X2, HB2⟩
  case round =>
    obtain ⟨j, hj, rfl, HM, A, X, HB⟩ := hrel
    obtain ⟨b0, b1, b2, b3, b4, b5⟩ := A.out.cells6
    have hs2 : w.heap.size + 2 ≤ wr.heap.size := by have := X.out.lt; omega
    by_cases hlt : j < n
    · obtain ⟨x, hx⟩ := get_of (l := q) (i := j) (by rw [HN.out]; exact hlt)
      have hsx : reqK.sz x ≤ 2000000 := Nat.le_trans (szL_mem reqK (List.mem_of_getElem? hx)) HSZ.out
      have HSX := Lib.hid hsx
      obtain ⟨x0, x1, x2, x3, x4, x5⟩ := x
      obtain ⟨g, cp, es, eg, _, hgF, hgl, hes, hseg, hrx, cont⟩ := HM.out.step hx
      rw [HN.out] at eg
      cases eg
      obtain ⟨ax, px, rfl, _⟩ := rd_req hrx
      have hoff : j * reqK.n = j * 6 := rfl
      rw [hoff] at hseg cont
      have f0 := hseg.cell 0 _ rfl (n := j * 6) rfl
      have f1 := hseg.cell 1 _ rfl (n := j * 6 + 1) rfl
      have f2 := hseg.cell 2 _ rfl (n := j * 6 + 2) rfl
      have f3 := hseg.cell 3 _ rfl (n := j * 6 + 3) rfl
      have f4 := hseg.cell 4 _ rfl (n := j * 6 + 4) rfl
      have f5 := hseg.cell 5 _ rfl (n := j * 6 + 5) rfl
      have Hseg := Lib.hid hseg
      have Cont := Lib.hid cont
      have Hx := Lib.hid (reqK.rd_later hrx HB.out)
      have hba := (Below.refl wr.heap.size wr).alloc (Nat.le_refl _) (Obj.cells #[.bool x0, .int .i64 x1, .int .i64 x2, .int .i64 x3, .bool x4, .slice ax x5.length px] 35)
      have A3 := Lib.hid (A.out.later hba)
      have X3 := Lib.hid (X.out.later hba)
      have N3 := Lib.hid (Bx.new 35 #[.bool x0, .int .i64 x1, .int .i64 x2, .int .i64 x3, .bool x4, .slice ax x5.length px] wr)
      have Hx3 := Lib.hid (reqK.rd_later Hx.out hba)
      have Hba := Lib.hid hba
      obtain ⟨bn, hbn⟩ : ∃ bn, wr.heap.size = bn := ⟨_, rfl⟩
      clear hx hsx hseg cont hrx hba hoff hes HM Hx
      go_wp2_with fail
      clear f0 f1 f2 f3 f4 f5 b0 b1 b2 b3 b4 b5
      generalize wr.alloc (Obj.cells #[.bool x0, .int .i64 x1, .int .i64 x2, .int .i64 x3, .bool x4, .slice ax x5.length px] 35) = y3 at A3 X3 N3 Hx3 Hba ⊢
      rw [hbn] at N3
      obtain ⟨m0, m1, m2, m3, m4, m5⟩ := A3.out.cells6
      obtain ⟨n0, n1, n2, n3, n4, n5⟩ := N3.out.cells6
      have hltA := A3.out.lt
      have hltN := N3.out.lt
      go_region_with (go_at_call 68; refine (implCopyReqX [.bool x0, .int .i64 x1, .int .i64 x2, .int .i64 x3, .bool x4, .slice ax x5.length px] x0 x1 x2 x3 x4 x5 HSX.out _ (reqK.rd_drew Hx3.out)).mono ?_; rintro e y4 ⟨us, he, hc, hb4⟩; obtain ⟨ay, py, rfl, _⟩ := rd_req (reqK.cap_rd hc); obtain rfl : e = .returned (.agg #[.bool x0, .int .i64 x1, .int .i64 x2, .int .i64 x3, .bool x4, .slice ay x5.length py]) := he; have hk : ∀ i, y4.cell? ⟨w.heap.size, i, none⟩ = y3.cell? ⟨w.heap.size, i, none⟩ := fun i => hb4.cell (p := ⟨w.heap.size, i, none⟩) hltA; have hk2 : ∀ i, y4.cell? ⟨bn, i, none⟩ = y3.cell? ⟨bn, i, none⟩ := fun i => hb4.cell (p := ⟨bn, i, none⟩) hltN; have HB34 := Hba.out.trans (((below_drew (w := y3)).trans hb4).mono Hba.out.size); have hs4 := Hseg.out.later HB34; have f0 := hs4.cell 0 _ rfl (n := j * 6) rfl; have f1 := hs4.cell 1 _ rfl (n := j * 6 + 1) rfl; have f2 := hs4.cell 2 _ rfl (n := j * 6 + 2) rfl; have f3 := hs4.cell 3 _ rfl (n := j * 6 + 3) rfl; have f4 := hs4.cell 4 _ rfl (n := j * 6 + 4) rfl; have f5 := hs4.cell 5 _ rfl (n := j * 6 + 5) rfl; have z0 := hs4.warm (j * 6); have z1 := hs4.warm (j * 6 + 1); have z2 := hs4.warm (j * 6 + 2); have z3 := hs4.warm (j * 6 + 3); have z4 := hs4.warm (j * 6 + 4); have z5 := hs4.warm (j * 6 + 5))
      all_goals
        have hs34 := HB34.size
        have hT := (((((((Turn.refl (fun k => k = g) y4).set (p := ⟨g, j * 6, none⟩) rfl (.bool x0)).set (p := ⟨g, j * 6 + 1, none⟩) rfl (.int .i64 x1)).set (p := ⟨g, j * 6 + 2, none⟩) rfl (.int .i64 x2)).set (p := ⟨g, j * 6 + 3, none⟩) rfl (.int .i64 x3)).set (p := ⟨g, j * 6 + 4, none⟩) rfl (.bool x4)).set (p := ⟨g, j * 6 + 5, none⟩) rfl (.slice ay x5.length py))
        have hch := ((((((((Chg.refl g (j * 6) (j * 6 + 6) (fun _ => False) wr).later HB34).set (n := j * 6) (by omega) (by omega) (.bool x0)).set (n := j * 6 + 1) (by omega) (by omega) (.int .i64 x1)).set (n := j * 6 + 2) (by omega) (by omega) (.int .i64 x2)).set (n := j * 6 + 3) (by omega) (by omega) (.int .i64 x3)).set (n := j * 6 + 4) (by omega) (by omega) (.bool x4)).set (n := j * 6 + 5) (by omega) (by omega) (.slice ay x5.length py))
        have hsg := ((((((hs4.set 0 (.bool x0) (n := j * 6) rfl).set 1 (.int .i64 x1) (n := j * 6 + 1) rfl).set 2 (.int .i64 x2) (n := j * 6 + 2) rfl).set 3 (.int .i64 x3) (n := j * 6 + 3) rfl).set 4 (.bool x4) (n := j * 6 + 4) rfl).set 5 (.slice ay x5.length py) (n := j * 6 + 5) rfl)
        have hcc := reqK.cap_turn (reqK.cap_top hc) hT (fun k _ hk1 hk3 => by have := hk1.1; have h9 : y3.drew.heap.size = y3.heap.size := rfl; have := Hba.out.size; omega)
        have hts := hT.size
        have hmid := Cont.out _ [.bool x0, .int .i64 x1, .int .i64 x2, .int .i64 x3, .bool x4, .slice ay x5.length py] _ hch hsg rfl hcc (fun k hk1 => ⟨by have := hk1.1; have h9 : y3.drew.heap.size = y3.heap.size := rfl; have := Hba.out.size; omega, Nat.lt_of_lt_of_le hk1.2 hts⟩)
        have HM4 := Lib.hid (hmid.wide (G := fun k => w.heap.size + 2 ≤ k) (fun k _ hk1 => by rcases hk1 with hk1 | hk1; exact hk1; have := hk1.1; have h9 : y3.drew.heap.size = y3.heap.size := rfl; have := Hba.out.size; omega))
        have A4 := Lib.hid (bx_turn (A.out.later HB34) hT (by omega))
        have X4 := Lib.hid (bx_turn (X.out.later HB34) hT (by omega))
        have HB4 := Lib.hid (HB.out.trans ((HB34.mono HB.out.size).trans (hT.below (B := w.heap.size) (by omega) (fun k hk1 => by omega))))
        clear hT hch hsg hcc hts hmid hs4 HB34 hk hk2 hb4 hc f0 f1 f2 f3 f4 f5 z0 z1 z2 z3 z4 z5 m0 m1 m2 m3 m4 m5 n0 n1 n2 n3 n4 n5 Cont Hseg A X HB A3 X3 N3 Hx3 Hba
        generalize World.setCell _ _ _ = y5 at HM4 A4 X4 HB4 ⊢
        go_wp2_with fail
        go_roundw
        case rel => exact ⟨j + 1, by omega, by go_num, HM4, A4, X4, HB4⟩
        case measure => simp [intOf]; omega
    · obtain rfl : j = n := by omega
      have HU := Lib.hid (HM.out.all (hn := by decide) (by rw [HN.out]; exact Nat.le_refl _))
      obtain ⟨k0, k1, k2, k3, k4, k5⟩ := X.out.cells6
      obtain ⟨z0, z1, z2, z3, z4, z5⟩ := warm6 X.out
      obtain ⟨e0, e1, e2, e3, e4, e5⟩ := Bx.cells6 (show Bx 26 (w.heap.size + 1) #[.slice a1 j p1, .int .i64 be, .int .i64 dn, .int .i64 tr, .bool pa, .bool br] _ from (((((X.out.set 0 (.slice a1 j p1)).set 1 (.int .i64 be)).set 2 (.int .i64 dn)).set 3 (.int .i64 tr)).set 4 (.bool pa)).set 5 (.bool br))
      go_wp2_with fail
      refine bodyPost_ret (v := .agg #[.slice a1 j p1, .int .i64 be, .int .i64 dn, .int .i64 tr, .bool pa, .bool br]) (by simp [results, Try.results57, go_sem, e0, e1, e2, e3, e4, e5]) rfl ⟨_, rfl, ?_, ?_⟩
      · have ht : ∀ w5, Turn (fun k => k = w.heap.size + 1) wr w5 → mstK.cap (fun k => w.heap.size ≤ k) [.slice a1 j p1, .int .i64 be, .int .i64 dn, .int .i64 tr, .bool pa, .bool br] (q, be, dn, tr, pa, br) w5 := fun w5 ht =>
          mst_cap (Fx0 := fun k => w.heap.size + 2 ≤ k) (reqS.cap_turn HU.out ht (fun k _ h1 h2 => by omega)) (fun k hk => by omega)
        refine ht _ ?_
        iterate 6 refine Turn.set (F := fun k => k = w.heap.size + 1) ?_ rfl _
        exact Turn.refl _ _
      · iterate 6 refine Below.setCell ?_ (by first | omega | (dsimp only; omega)) _
        exact HB.out
end Go.Proofs.Ytijilhaoknpeeaa.KD
