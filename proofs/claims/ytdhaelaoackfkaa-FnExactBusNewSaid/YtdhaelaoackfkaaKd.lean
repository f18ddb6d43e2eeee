
/-
  Data of any shape that lies in memory: how it reads, where its own memory is (its blocks, each part's apart from the others'), the marks that a law writes into it. Numbers, truth values, pairs of two data, rows.
-/
import Derived.Test.YtdhaelaoackfkaaIntRow
namespace Go.Proofs.Ytdhaelaoackfkaa.KD
open Go.RowKit

abbrev Foot := Nat → Prop
/-- nothing has turned but blocks in F. -/
structure Turn (F : Foot) (w w' : World) : Prop where
  os : w'.os = w.os
  tape : w'.tape = w.tape
  output : w'.output = w.output
  size : w.heap.size ≤ w'.heap.size
  block : ∀ k, k < w.heap.size → ¬ F k → w'.heap[k]? = w.heap[k]?
theorem Turn.refl (F : Foot) (w : World) : Turn F w w := ⟨rfl, rfl, rfl, Nat.le_refl _, fun _ _ _ => rfl⟩
theorem Turn.trans {F : Foot} {a b c : World} (h : Turn F a b) (k : Turn F b c) : Turn F a c :=
  ⟨k.os.trans h.os, k.tape.trans h.tape, k.output.trans h.output, Nat.le_trans h.size k.size, fun i hi hn => (k.block i (Nat.lt_of_lt_of_le hi h.size) hn).trans (h.block i hi hn)⟩
theorem Turn.wide {F G : Foot} {w w' : World} (h : Turn F w w') (hF : ∀ k, F k → G k) : Turn G w w' := ⟨h.os, h.tape, h.output, h.size, fun k hk hn => h.block k hk (fun hf => hn (hF k hf))⟩
theorem Turn.later {F : Foot} {w w' : World} (h : Below w.heap.size w w') : Turn F w w' := ⟨h.os, h.tape, h.output, h.size, fun k hk _ => h.block k hk⟩
theorem Turn.of {B : Nat} {w w' : World} (h : Below B w w') : Turn (fun k => B ≤ k) w w' := ⟨h.os, h.tape, h.output, h.size, fun k _ hn => h.block k (by simp only [Nat.not_le] at hn; exact hn)⟩
theorem Turn.below {F : Foot} {B : Nat} {w w' : World} (h : Turn F w w') (hB : B ≤ w.heap.size) (hF : ∀ k, F k → B ≤ k) : Below B w w' :=
  ⟨h.os, h.tape, h.output, h.size, fun k hk => h.block k (Nat.lt_of_lt_of_le hk hB) (fun hf => by have := hF k hf; omega)⟩
theorem Turn.set {F : Foot} {w w' : World} {p : Addr} (h : Turn F w w') (hp : F p.block) (u : Value) : Turn F w (w'.setCell p u) :=
  ⟨h.os, h.tape, h.output, by simpa [World.setCell] using h.size, fun k hk hn => by rw [Below.heap_setCell w' p u k (fun e => hn (e ▸ hp))]; exact h.block k hk hn⟩

/-- how data of a kind lies in memory: n cells; what they read; what they read, in blocks of F alone, each part's apart; the marks from k on (T: of a whole value, I: of an element of a row); how many. -/
structure Kn (α : Type) where
  n : Nat
  sz : α → Nat
  mT : α → Int → α
  mI : α → Int → α
  cT : α → Nat
  cI : α → Nat
  rd : List Value → α → World → Prop
  cap : Foot → List Value → α → World → Prop
  rd_len : ∀ {cs x w}, rd cs x w → cs.length = n
  rd_later : ∀ {cs x w w'}, rd cs x w → Below w.heap.size w w' → rd cs x w'
  cap_rd : ∀ {F cs x w}, cap F cs x w → rd cs x w
  cap_turn : ∀ {F G cs x w w'}, cap F cs x w → Turn G w w' → (∀ k, k < w.heap.size → F k → ¬ G k) → cap F cs x w'
  cap_wide : ∀ {F G cs x w}, cap F cs x w → (∀ k, k < w.heap.size → F k → G k) → cap G cs x w
  sz_mT : ∀ x k, sz (mT x k) = sz x
  sz_mI : ∀ x k, sz (mI x k) = sz x
  cT_le : ∀ x, cT x ≤ 64 * sz x
  cI_le : ∀ x, cI x ≤ n + 64 * sz x

variable {α β : Type}
theorem Kn.cap_later (K : Kn α) {F : Foot} {cs : List Value} {x : α} {w w' : World} (h : K.cap F cs x w) (hb : Below w.heap.size w w') : K.cap F cs x w' :=
  K.cap_turn h (Turn.of hb) (fun k hk _ => by omega)
theorem Kn.cap_top (K : Kn α) {F : Foot} {cs : List Value} {x : α} {w : World} (h : K.cap F cs x w) : K.cap (fun k => F k ∧ k < w.heap.size) cs x w :=
  K.cap_wide h (fun _ hk hf => ⟨hf, hk⟩)
theorem Kn.rd_alloc (K : Kn α) {cs : List Value} {x : α} {w : World} (h : K.rd cs x w) (o : Obj) : K.rd cs x (w.alloc o) := K.rd_later h ((Below.refl _ _).alloc (Nat.le_refl _) o)
theorem below_drew {w : World} : Below w.heap.size w w.drew := (Below.refl _ w).drew
theorem Kn.rd_drew (K : Kn α) {cs : List Value} {x : α} {w : World} (h : K.rd cs x w) : K.rd cs x w.drew := K.rd_later h below_drew
theorem Kn.cap_drew (K : Kn α) {F : Foot} {cs : List Value} {x : α} {w : World} (h : K.cap F cs x w) : K.cap F cs x w.drew := K.cap_later h below_drew
theorem Kn.cap_alloc (K : Kn α) {F : Foot} {cs : List Value} {x : α} {w : World} (h : K.cap F cs x w) (o : Obj) : K.cap F cs x (w.alloc o) := K.cap_later h ((Below.refl _ _).alloc (Nat.le_refl _) o)
theorem Kn.cap_below (K : Kn α) {F : Foot} {B : Nat} {cs : List Value} {x : α} {w w' : World} (h : K.cap F cs x w) (hb : Below B w w') (hF : ∀ k, F k → k < B) : K.cap F cs x w' :=
  K.cap_turn h (Turn.of hb) (fun k _ hf => by have := hF k hf; omega)
theorem Kn.cap_set (K : Kn α) {F : Foot} {cs : List Value} {x : α} {w : World} {p : Addr} (h : K.cap F cs x w) (hp : ¬ F p.block) (u : Value) : K.cap F cs x (w.setCell p u) :=
  K.cap_turn h ((Turn.refl (fun k => k = p.block) w).set rfl u) (fun _ _ hf e => hp (e ▸ hf))

/-- a whole number. -/
def int : Kn Int where
  n := 1
  sz _ := 0
  mT x _ := x
  mI _ k := k
  cT _ := 0
  cI _ := 1
  rd cs x _ := cs = [.int .i64 x]
  cap _ cs x _ := cs = [.int .i64 x]
  rd_len h := by rw [h]; rfl
  rd_later h _ := h
  cap_rd h := h
  cap_turn h _ _ := h
  cap_wide h _ := h
  sz_mT _ _ := rfl
  sz_mI _ _ := rfl
  cT_le _ := Nat.zero_le _
  cI_le _ := by omega
/-- a truth value. -/
def bool : Kn Bool where
  n := 1
  sz _ := 0
  mT x _ := x
  mI _ k := k % 3 == 0
  cT _ := 0
  cI _ := 1
  rd cs x _ := cs = [.bool x]
  cap _ cs x _ := cs = [.bool x]
  rd_len h := by rw [h]; rfl
  rd_later h _ := h
  cap_rd h := h
  cap_turn h _ _ := h
  cap_wide h _ := h
  sz_mT _ _ := rfl
  sz_mI _ _ := rfl
  cT_le _ := Nat.zero_le _
  cI_le _ := by omega
/-- two data, one behind the other. -/
def prod (K : Kn α) (L : Kn β) : Kn (α × β) where
  n := K.n + L.n
  sz x := K.sz x.1 + L.sz x.2
  mT x k := (K.mT x.1 k, L.mT x.2 (k + K.cT x.1))
  mI x k := (K.mI x.1 k, L.mI x.2 (k + K.cI x.1))
  cT x := K.cT x.1 + L.cT x.2
  cI x := K.cI x.1 + L.cI x.2
  rd cs x w := ∃ ps bs, cs = ps ++ bs ∧ K.rd ps x.1 w ∧ L.rd bs x.2 w
  cap F cs x w := ∃ ps bs F1 F2, cs = ps ++ bs ∧ (∀ k, F1 k → F k ∧ ¬ F2 k) ∧ (∀ k, F2 k → F k) ∧ K.cap F1 ps x.1 w ∧ L.cap F2 bs x.2 w
  rd_len h := by obtain ⟨ps, bs, rfl, h1, h2⟩ := h; rw [List.length_append, K.rd_len h1, L.rd_len h2]
  rd_later h hb := by obtain ⟨ps, bs, e, h1, h2⟩ := h; exact ⟨ps, bs, e, K.rd_later h1 hb, L.rd_later h2 hb⟩
  cap_rd h := by obtain ⟨ps, bs, _, _, e, _, _, h1, h2⟩ := h; exact ⟨ps, bs, e, K.cap_rd h1, L.cap_rd h2⟩
  cap_turn h ht hG := by
    obtain ⟨ps, bs, F1, F2, e, a1, a2, h1, h2⟩ := h
    exact ⟨ps, bs, F1, F2, e, a1, a2, K.cap_turn h1 ht (fun k hk hf => hG k hk (a1 k hf).1), L.cap_turn h2 ht (fun k hk hf => hG k hk (a2 k hf))⟩
  cap_wide {F G cs x w} h hG := by
    obtain ⟨ps, bs, F1, F2, e, a1, a2, h1, h2⟩ := h
    exact ⟨ps, bs, fun k => F1 k ∧ k < w.heap.size, fun k => F2 k ∧ k < w.heap.size, e, fun k hk => ⟨hG k hk.2 (a1 k hk.1).1, fun h => (a1 k hk.1).2 h.1⟩, fun k hk => hG k hk.2 (a2 k hk.1), K.cap_top h1, L.cap_top h2⟩
  sz_mT x k := by rw [K.sz_mT, L.sz_mT]
  sz_mI x k := by rw [K.sz_mI, L.sz_mI]
  cT_le x := by have := K.cT_le x.1; have := L.cT_le x.2; omega
  cI_le x := by have := K.cI_le x.1; have := L.cI_le x.2; omega

def szL (K : Kn α) : List α → Nat
  | [] => 0
  | x :: l => 1 + K.sz x + szL K l
def mL (K : Kn α) : List α → Int → List α
  | [], _ => []
  | x :: l, k => K.mI x k :: mL K l (k + K.cI x)
def cL (K : Kn α) : List α → Nat
  | [] => 0
  | x :: l => K.cI x + cL K l
theorem szL_len (K : Kn α) (l : List α) : l.length ≤ szL K l := by
  induction l with
  | nil => exact Nat.le_refl _
  | cons x l ih => simp only [List.length_cons, szL]; omega
theorem mL_len (K : Kn α) (l : List α) : ∀ k, (mL K l k).length = l.length := by
  induction l with
  | nil => intro k; rfl
  | cons x l ih => intro k; simp only [mL, List.length_cons, ih]
theorem szL_mL (K : Kn α) (l : List α) : ∀ k, szL K (mL K l k) = szL K l := by
  induction l with
  | nil => intro k; rfl
  | cons x l ih => intro k; simp only [mL, szL, ih, K.sz_mI]
theorem cL_le (K : Kn α) (hn : K.n ≤ 64) (l : List α) : cL K l ≤ 64 * szL K l := by
  induction l with
  | nil => exact Nat.le_refl _
  | cons x l ih => simp only [cL, szL]; have := K.cI_le x; omega
theorem szL_append (K : Kn α) (l m : List α) : szL K (l ++ m) = szL K l + szL K m := by
  induction l with
  | nil => simp [szL]
  | cons x l ih => simp only [List.cons_append, szL, ih]; omega
theorem szL_mem (K : Kn α) {l : List α} {x : α} (h : x ∈ l) : K.sz x ≤ szL K l := by
  induction l with
  | nil => cases h
  | cons y l ih =>
    simp only [szL]
    rcases List.mem_cons.1 h with rfl | h
    · omega
    · have := ih h; omega
/-- a row of data of a kind. -/
def row (K : Kn α) (hn : K.n ≤ 64) : Kn (List α) where
  n := 1
  sz := szL K
  mT := mL K
  mI := mL K
  cT := cL K
  cI := cL K
  rd cs l w := ∃ ad cp, cs = [.slice ad l.length cp] ∧ (l.length ≤ cp ∧ cp ≤ 9223372036854775807) ∧ ∀ i x, l[i]? = some x → ∃ b o es, ad = some ⟨b, o, none⟩ ∧ b < w.heap.size ∧ (∀ j u, es[j]? = some u → w.cell? ⟨b, o + i * K.n + j, none⟩ = some u) ∧ K.rd es x w
  cap F cs l w := ∃ ad cp, cs = [.slice ad l.length cp] ∧ (l.length ≤ cp ∧ cp ≤ 9223372036854775807) ∧ ((ad = none ∧ l = [] ∧ cp = 0) ∨ ∃ g o xs T, ad = some ⟨g, o, none⟩ ∧ F g ∧ w.heap[g]? = some (.cells xs T) ∧ o + cp * K.n ≤ xs.size ∧ ∃ E : Nat → Foot, (∀ i k, E i k → F k ∧ k ≠ g) ∧ (∀ i j k, i ≠ j → E i k → ¬ E j k) ∧
    ∀ i x, l[i]? = some x → ∃ es, (∀ j u, es[j]? = some u → xs[o + i * K.n + j]? = some u) ∧ K.cap (E i) es x w)
  rd_len h := by obtain ⟨ad, cp, rfl, _⟩ := h; rfl
  rd_later h hb := by
    obtain ⟨ad, cp, e, hl, h⟩ := h
    refine ⟨ad, cp, e, hl, fun i x hi => ?_⟩
    obtain ⟨b, o, es, ea, hlt, hc, hr⟩ := h i x hi
    exact ⟨b, o, es, ea, Nat.lt_of_lt_of_le hlt hb.size, fun j u hu => by rw [hb.cell (p := ⟨b, _, none⟩) hlt]; exact hc j u hu, K.rd_later hr hb⟩
  cap_rd {F cs l w} h := by
    obtain ⟨ad, cp, e, hl, h⟩ := h
    refine ⟨ad, cp, e, hl, fun i x hi => ?_⟩
    rcases h with ⟨_, rfl, _⟩ | ⟨g, o, xs, T, ea, _, hg, _, E, _, _, h⟩
    · simp at hi
    · obtain ⟨es, hc, hr⟩ := h i x hi
      exact ⟨g, o, es, ea, (Array.getElem?_eq_some_iff.1 hg).1, fun j u hu => by rw [cell_of_row w g _ xs T (0, 0) hg]; exact hc j u hu, K.cap_rd hr⟩
  cap_turn {F G cs l w w'} h ht hG := by
    obtain ⟨ad, cp, e, hl, h⟩ := h
    refine ⟨ad, cp, e, hl, ?_⟩
    rcases h with h | ⟨g, o, xs, T, ea, hF, hg, hsz, E, e1, e2, h⟩
    · exact .inl h
    · have hlt := (Array.getElem?_eq_some_iff.1 hg).1
      refine .inr ⟨g, o, xs, T, ea, hF, by rw [ht.block g hlt (hG g hlt hF)]; exact hg, hsz, E, e1, e2, fun i x hi => ?_⟩
      obtain ⟨es, hc, hr⟩ := h i x hi
      exact ⟨es, hc, K.cap_turn hr ht (fun k hk hf => hG k hk (e1 i k hf).1)⟩
  cap_wide {F G cs l w} h hG := by
    obtain ⟨ad, cp, e, hl, h⟩ := h
    refine ⟨ad, cp, e, hl, ?_⟩
    rcases h with h | ⟨g, o, xs, T, ea, hF, hg, hsz, E, e1, e2, h⟩
    · exact .inl h
    · refine .inr ⟨g, o, xs, T, ea, hG g (Array.getElem?_eq_some_iff.1 hg).1 hF, hg, hsz, fun i k => E i k ∧ k < w.heap.size, fun i k hk => ⟨hG k hk.2 (e1 i k hk.1).1, (e1 i k hk.1).2⟩, fun i j k hij hi hj => e2 i j k hij hi.1 hj.1, fun i x hi => ?_⟩
      obtain ⟨es, hc, hr⟩ := h i x hi
      exact ⟨es, hc, K.cap_top hr⟩
  sz_mT x k := szL_mL K x k
  sz_mI x k := szL_mL K x k
  cT_le x := cL_le K hn x
  cI_le x := by have := cL_le K hn x; omega

/-- what a size test leaves of L. -/
def szW (L : Int) (n : Nat) : Int := if (n : Int) ≤ L then L - (n : Int) else -1
theorem szW_yes {L : Int} {n : Nat} (h : (n : Int) ≤ L) : szW L n = L - (n : Int) := if_pos h
theorem szW_no {L : Int} {n : Nat} (h : L < (n : Int)) : szW L n = -1 := if_neg (by omega)
theorem szW_bd (L : Int) (n : Nat) (h : 0 ≤ L) : -1 ≤ szW L n ∧ szW L n ≤ L := by unfold szW; split <;> omega
theorem szW_neg {L : Int} {n m : Nat} (h : szW L n < 0) : szW L (n + m) = -1 := by
  unfold szW at h ⊢
  split at h
  · omega
  · rw [if_neg (by omega)]
theorem szW_pos {L M : Int} {n m : Nat} (h : szW L n = M) (hM : 0 ≤ M) : szW M m = szW L (n + m) := by
  unfold szW at h ⊢
  split at h
  · subst h; split <;> split <;> omega
  · omega
theorem szW_fit {L : Int} {n : Nat} (h : ¬ szW L n < 0) : (n : Int) ≤ L := by
  unfold szW at h; split at h <;> omega

/-- what the laws' own functions do, for data of a kind. V: the value that bears the cells. -/
def SzC (K : Kn α) (V : List Value → Value) (f : FuncId) : Prop := ∀ cs x L w, K.rd cs x w → 0 ≤ L → L ≤ 1048576 → Calls Try.prog f #[V cs, .int .i64 L] w fun e w' => e = .returned (.int .i64 (szW L (K.sz x))) ∧ Below w.heap.size w w'
def ToC (K : Kn α) (V : List Value → Value) (f : FuncId) : Prop := ∀ cs x w, K.sz x ≤ 2000000 → K.rd cs x w → Calls Try.prog f #[V cs] w fun e w' => ∃ us, e = .returned (V us) ∧ K.cap (fun k => w.heap.size ≤ k) us x w' ∧ Below w.heap.size w w'
def EqC (K : Kn α) (V : List Value → Value) (f : FuncId) : Prop := ∀ cs ds x w, K.sz x ≤ 2000000 → K.rd cs x w → K.rd ds x w → Calls Try.prog f #[V cs, V ds] w fun e w' => e = .returned (.bool true) ∧ Below w.heap.size w w'
def MarkC (K : Kn α) (V : List Value → Value) (f : FuncId) : Prop := ∀ F cs x k w, K.sz x ≤ 2000000 → 0 ≤ k → k + (K.cT x : Int) ≤ 4611686018427387904 → K.cap F cs x w → Calls Try.prog f #[V cs, .int .i64 k] w fun e w' => e = .returned (.int .i64 (k + (K.cT x : Int))) ∧ K.cap F cs (K.mT x k) w' ∧ Turn F w w'
def HeldC (K : Kn α) (V : List Value → Value) (f : FuncId) : Prop := ∀ cs x k w, K.sz x ≤ 2000000 → 0 ≤ k → k + (K.cT x : Int) ≤ 4611686018427387904 → K.rd cs (K.mT x k) w → Calls Try.prog f #[V cs, .int .i64 k] w fun e w' => e = .returned (.int .i64 (k + (K.cT x : Int))) ∧ Below w.heap.size w w'
theorem size_alloc3 (w : World) (a b c : Obj) : (((w.alloc a).alloc b).alloc c).heap.size = w.heap.size + 1 + 1 + 1 := by simp
/-- a slice is its one cell; a struct has its cells side by side. -/
def one (cs : List Value) : Value := cs.headD undef
def agg (cs : List Value) : Value := .agg cs.toArray
end Go.Proofs.Ytdhaelaoackfkaa.KD
