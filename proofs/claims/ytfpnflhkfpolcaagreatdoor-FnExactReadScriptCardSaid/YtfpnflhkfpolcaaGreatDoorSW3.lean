
/-
  ReadScript of the model.
-/
import Derived.Test.YtfpnflhkfpolcaaGreatDoorSW2
import Derived.Test.YtfpnflhkfpolcaaGreatDoorRead2
import Derived.Test.YtfpnflhkfpolcaaGreatDoorRowApp
import Derived.Test.YtfpnflhkfpolcaaGreatDoorInv4
import Derived.Test.YtfpnflhkfpolcaaGreatDoorFill
import Derived.Test.YtfpnflhkfpolcaaGreatDoorInv3
namespace Go.Proofs.YtfpnflhkfpolcaaGreatDoor.Num
open Go.RowKit Rows3 GR KD

/-- a row of texts that lies in block g. -/
def RowG (g cp : Nat) (l : List ByteArray) (w : World) : Prop := l.length ≤ cp ∧ g < w.heap.size ∧ ∀ i, i < l.length → w.cell? ⟨g, i, none⟩ = some (.string (l.getD i ByteArray.empty))
theorem rowG_of {B : Nat} {v : Value} {l : List ByteArray} {w : World} (h : OwnS B v l w) (hl : 1 ≤ l.length) : ∃ g cp, v = .slice (some ⟨g, 0, none⟩) l.length cp ∧ B ≤ g ∧ RowG g cp l w := by
  have h1 := h.2
  rcases h1 with ⟨rfl, h0⟩ | ⟨g, cap, cur, rfl, hb, hg, hn, hm, hs, ht⟩
  · omega
  · exact ⟨g, cap, rfl, hb, hn, (Array.getElem?_eq_some_iff.1 hg).1, fun i hi => h.cell hi⟩
theorem RowG.turn {g cp : Nat} {l : List ByteArray} {w w' : World} {G : Foot} (h : RowG g cp l w) (ht : Turn G w w') (hG : ¬ G g) : RowG g cp l w' :=
  ⟨h.1, Nat.lt_of_lt_of_le h.2.1 ht.size, fun i hi => (World.cell?_of_block (a := ⟨g, i, none⟩) (ht.block g h.2.1 hG)).trans (h.2.2 i hi)⟩
theorem RowG.later {g cp : Nat} {l : List ByteArray} {w w' : World} (h : RowG g cp l w) (hb : Below w.heap.size w w') : RowG g cp l w' := h.turn (Turn.of hb) (by have := h.2.1; omega)
/-- a part of it. -/
theorem RowG.part {g cp : Nat} {l m : List ByteArray} {w : World} (h : RowG g cp l w) (o p : Nat) (hm : ∀ i, i < m.length → o + i < l.length ∧ m.getD i ByteArray.empty = l.getD (o + i) ByteArray.empty) : RdS (.slice (some ⟨g, o, none⟩) m.length p) m w :=
  ⟨_, p, rfl, fun i hi => ⟨g, o, rfl, h.2.1, by rw [h.2.2 (o + i) (hm i hi).1, (hm i hi).2]⟩⟩
theorem rdS_nil (ad : Option Addr) (p : Nat) (w : World) : RdS (.slice ad 0 p) [] w := ⟨ad, p, rfl, fun i hi => by simp at hi⟩
theorem tail_getD (l : List ByteArray) (i : Nat) : l.tail.getD i ByteArray.empty = l.getD (1 + i) ByteArray.empty := by
  cases l with
  | nil => simp
  | cons x l => rw [Nat.add_comm]; simp [List.getD]
structure RSt (n0 m0 : Nat) (w2 wr : World) (ls : List ByteArray) (k : Nat) (z : ScX) (u0 u1 u2 : Value) : Prop where
  pl : PLs (ls.take k) ([], [], []) z
  xb : Bx 25 (n0 + 1) #[u0, u1, u2] wr
  rb : Bx 25 n0 #[.slice none 0 0, .slice none 0 0, .slice none 0 0] wr
  cap : scriptK.cap (fun j => m0 ≤ j) [u0, u1, u2] z wr
  l0 : z.1.length ≤ k
  l1 : z.2.1.length ≤ 1048577
  l2 : z.2.2.length ≤ 1048577
  turn : Turn (fun j => j = n0 + 1 ∨ m0 ≤ j) w2 wr
theorem bx3 {T : TypeId} {b : Nat} {c0 c1 c2 : Value} {w : World} (h : Bx T b #[c0, c1, c2] w) : w.cell? ⟨b, 0, none⟩ = some c0 ∧ w.cell? ⟨b, 1, none⟩ = some c1 ∧ w.cell? ⟨b, 2, none⟩ = some c2 := ⟨h.cell 0 _ rfl, h.cell 1 _ rfl, h.cell 2 _ rfl⟩
theorem ints_ns {B : Nat} {v : Value} {l : List Int} {w : World} (h : OwnI B v l w) (hl : l.length ≤ 2000000) : ints.cap (fun k => B ≤ k) [v] l w := cap_own h (by omega)
theorem RSt.waits {n0 m0 : Nat} {w2 w3 w4 : World} {ls : List ByteArray} {k : Nat} {z : ScX} {u0 u1 u2 v : Value} {ns : List Int} (h : RSt n0 m0 w2 w3 ls k z u0 u1 u2) (hn : n0 + 1 < m0) (hm : m0 ≤ w3.heap.size)
    (hb : Below w3.heap.size w3 w4) (ho : OwnI w3.heap.size v ns w4) (hl : ns.length ≤ 1048577) (hp : PLs (ls.take (k + 1)) ([], [], []) (z.1, ns, z.2.2)) :
    RSt n0 m0 w2 (w4.setCell ⟨n0 + 1, 1, none⟩ v) ls (k + 1) (z.1, ns, z.2.2) u0 v u2 := by
  obtain ⟨z0, z1, z2⟩ := z
  obtain ⟨a0, p0, a1, p1, a2, p2, F0, F1, F2, e, c0, c1, c2, s0, s1, s2, d01, d02, d12⟩ := cap_script (scriptK.cap_top h.cap)
  simp only [List.cons.injEq, and_true] at e
  obtain ⟨rfl, rfl, rfl⟩ := e
  refine ⟨hp, (h.xb.later hb).set 1 v, (h.rb.later hb).far (p := ⟨n0 + 1, 1, none⟩) (by dsimp only; omega) v, ?_, Nat.le_succ_of_le h.l0, hl, h.l2, (h.turn.trans (Turn.of hb |>.wide (fun j hj => .inr (Nat.le_trans hm hj)))).set (.inl rfl) v⟩
  refine script_cap (Fx0 := F0) (Fx1 := fun j => w3.heap.size ≤ j) (Fx2 := F2) (postS.cap_set (postS.cap_later c0 hb) (fun hf => by have := (s0 _ hf).1; dsimp only at this; omega) v) (ints.cap_set (ints_ns ho (by omega)) (by dsimp only; omega) v) (ints.cap_set (ints.cap_later c2 hb) (fun hf => by have := (s2 _ hf).1; dsimp only at this; omega) v) (fun j hj => (s0 j hj).1) (fun j hj => Nat.le_trans hm hj) (fun j hj => (s2 j hj).1) (fun j hj hj2 => by have := (s0 j hj).2; omega) d02 (fun j hj hj2 => by have := (s2 j hj2).2; omega)
theorem RSt.says {n0 m0 : Nat} {w2 w3 w4 : World} {ls : List ByteArray} {k : Nat} {z : ScX} {u0 u1 u2 v : Value} {ns : List Int} (h : RSt n0 m0 w2 w3 ls k z u0 u1 u2) (hn : n0 + 1 < m0) (hm : m0 ≤ w3.heap.size)
    (hb : Below w3.heap.size w3 w4) (ho : OwnI w3.heap.size v ns w4) (hl : ns.length ≤ 1048577) (hp : PLs (ls.take (k + 1)) ([], [], []) (z.1, z.2.1, ns)) :
    RSt n0 m0 w2 (w4.setCell ⟨n0 + 1, 2, none⟩ v) ls (k + 1) (z.1, z.2.1, ns) u0 u1 v := by
  obtain ⟨z0, z1, z2⟩ := z
  obtain ⟨a0, p0, a1, p1, a2, p2, F0, F1, F2, e, c0, c1, c2, s0, s1, s2, d01, d02, d12⟩ := cap_script (scriptK.cap_top h.cap)
  simp only [List.cons.injEq, and_true] at e
  obtain ⟨rfl, rfl, rfl⟩ := e
  refine ⟨hp, (h.xb.later hb).set 2 v, (h.rb.later hb).far (p := ⟨n0 + 1, 2, none⟩) (by dsimp only; omega) v, ?_, Nat.le_succ_of_le h.l0, h.l1, hl, (h.turn.trans (Turn.of hb |>.wide (fun j hj => .inr (Nat.le_trans hm hj)))).set (.inl rfl) v⟩
  refine script_cap (Fx0 := F0) (Fx1 := F1) (Fx2 := fun j => w3.heap.size ≤ j) (postS.cap_set (postS.cap_later c0 hb) (fun hf => by have := (s0 _ hf).1; dsimp only at this; omega) v) (ints.cap_set (ints.cap_later c1 hb) (fun hf => by have := (s1 _ hf).1; dsimp only at this; omega) v) (ints.cap_set (ints_ns ho (by omega)) (by dsimp only; omega) v) (fun j hj => (s0 j hj).1) (fun j hj => (s1 j hj).1) (fun j hj => Nat.le_trans hm hj) d01 (fun j hj hj2 => by have := (s0 j hj).2; omega) (fun j hj hj2 => by have := (s1 j hj).2; omega)
theorem ownI2 {B : Nat} {v : Value} {a b : Int} {w : World} (h : OwnI B v [a, b] w) : ∃ g cp, v = .slice (some ⟨g, 0, none⟩) 2 cp ∧ B ≤ g ∧ 2 ≤ cp ∧ g < w.heap.size ∧ w.cell? ⟨g, 0, none⟩ = some (.int .i64 a) ∧ w.cell? ⟨g, 1, none⟩ = some (.int .i64 b) := by
  have h1 := h.2
  rcases h1 with ⟨rfl, h0⟩ | ⟨g, cap, cur, rfl, hb, hg, hn, hm, hs, ht⟩
  · simp at h0
  · exact ⟨g, cap, rfl, hb, hn, (Array.getElem?_eq_some_iff.1 hg).1, h.cell (i := 0) (by simp), h.cell (i := 1) (by simp)⟩
theorem tail_rd {g cp m o : Nat} {ws : List ByteArray} {w : World} (h : RowG g cp ws w) (hm : ws.length = m) (h1 : 1 ≤ m) (ho : o = 1 ∨ m = 1) (p : Nat) : RdS (.slice (some ⟨g, o, none⟩) (m - 1) p) ws.tail w := by
  have ht : ws.tail.length = m - 1 := by rw [List.length_tail, hm]
  rw [← ht]
  rcases ho with rfl | rfl
  · exact h.part 1 p (fun i hi => ⟨by omega, tail_getD ws i⟩)
  · have : ws.tail = [] := List.length_eq_zero_iff.1 ht
    rw [this]; exact rdS_nil _ _ _
theorem wp_appRow {α : Type} {K : Kn α} {hn : K.n ≤ 64} {o : Oper} {a : Act} {K0 : Act → World → Prop} {Q : Exit → Act → World → Prop} (t e : TypeId) (ht : Tryz.prog.underlying t = some (.slice e)) (hT : ElT K e) (s x : Operand)
    (ho : o.op = .call { callee := .builtin .append, args := #[s, x], argTypes := #[t, t] })
    (F E : Foot) (v : Value) (l : List α) (y : α) (es : Array Value) (w : World) (hs : a.eval s = v) (hx : a.eval x = .slice (some ⟨w.heap.size, 0, none⟩) 1 1)
    (hown : (row K hn).cap F [v] l w) (hc : K.cap E es.toList y w) (hE : ∀ k, k < w.heap.size → E k → ¬ F k) (h1c : ∀ u ∈ es.toList, u.oneCell' = true) (hl : l.length + 1 ≤ 4000000)
    (h : ∀ v' w', (row K hn).cap (fun k => F k ∨ E k ∨ w.heap.size ≤ k) [v'] (l ++ [y]) w' → Turn F w w' → K0 (a.put o.dst v') w') :
    o.wp Tryz.prog a (w.alloc (.cells es e)) K0 Q := by
  obtain ⟨i, z, hi, hz, hsz, hzs, hby⟩ := hT
  have hb := (Below.refl w.heap.size w).alloc (Nat.le_refl _) (.cells es e)
  have hbs := hb.size
  obtain ⟨v', w', hrun, h1, h2⟩ := run_append_row t o.type e i z ht hi hz hsz hzs hby (fun k => F k ∧ k < w.heap.size) (fun k => E k ∧ k < w.heap.size) v l y es.toList (w.alloc (.cells es e)) ((row K hn).cap_later ((row K hn).cap_top hown) hb) (K.cap_later (K.cap_top hc) hb) (fun k _ h3 h4 => hE k h3.2 h3.1 h4.1) ⟨w.heap.size, 0, none⟩ 1 (fun j u hu => by
      rw [addr_add', cell_of_row _ w.heap.size _ _ e (0, 0) (heap_alloc_new w _), Nat.zero_add, ← Array.getElem?_toList]; exact hu) h1c hl
  unfold Oper.wp
  simp [execOp, ho, resolve, invoke, builtin, hs, hx, hrun, Result.andThen]
  refine (h v' w' ((row K hn).cap_wide h1 (fun k _ hf => ?_)) ((Turn.later hb).trans (h2.wide (fun k hk => hk.1))))
  rcases hf with h3 | h3 | h3
  · exact .inl h3.1
  · exact .inr (.inl h3.1)
  · exact .inr (.inr (Nat.le_trans hbs h3))
theorem elPost : ElT postK 39 := by
  obtain ⟨j, h1, h2, h3, h4⟩ := info_parts' info_iPost
  exact ⟨j, _, h1, h2, h3, rfl, h4⟩
theorem post_one (d0 d1 : Int) (q : Bool) (x y z : Int) (k : Bool) (ad : Option Addr) (n p : Nat) : ∀ u ∈ (#[Value.int .i64 d0, .int .i64 d1, .bool q, .int .i64 x, .int .i64 y, .int .i64 z, .bool k, .slice ad n p] : Array Value).toList, u.oneCell' = true := by
  intro u hu
  simp at hu
  rcases hu with rfl | rfl | rfl | rfl | rfl | rfl | rfl | rfl <;> rfl
theorem bx_turn {T b : Nat} {cs : Array Value} {w w' : World} {G : Foot} (h : Bx T b cs w) (ht : Turn G w w') (hG : ¬ G b) : Bx T b cs w' := (ht.block b h.lt hG).trans h
theorem rq_len8 {s : ByteArray} {q : Bool} {x y z : Int} {lk : Bool} {l : List Int} {b : Bool} (h : RQ s q x y z lk l b) : l.length ≤ 8 := RQ.len h
def ReqV (B : Nat) (E : ByteArray) (v : Value) (w : World) : Prop := ∃ q x y z lk u l b, v = .tuple #[.agg #[.bool q, .int .i64 x, .int .i64 y, .int .i64 z, .bool lk, u], .bool b] ∧ OwnI B u l w ∧ RQ E q x y z lk l b
def ReqA (B : Nat) (E : ByteArray) (v : Value) (w : World) : Prop := ∃ q x y z lk u l b, v = .agg #[.bool q, .int .i64 x, .int .i64 y, .int .i64 z, .bool lk, u] ∧ OwnI B u l w ∧ RQ E q x y z lk l b
/-- what each operation of the request's sentence leaves. -/
def R13 (gl n cpl k g m cp N1 N2 N M B : Nat) (L W0 W1 W2 E : ByteArray) : Nat → Value → World → Prop
  | 0, v, _ => v = .slice (some ⟨gl, 0, none⟩) n cpl
  | 1, v, _ => v = .int .i64 (k : Int)
  | 2, v, _ => v = .pointer (some ⟨gl, k, none⟩)
  | 3, v, _ => v = .string L
  | 4, v, _ => v = .slice (some ⟨gl, 0, none⟩) n cpl
  | 5, v, _ => v = .int .i64 (k : Int)
  | 6, v, _ => v = .pointer (some ⟨gl, k, none⟩)
  | 7, v, _ => v = .string L
  | 8, v, _ => v = .int .i64 (L.size : Int)
  | 9, v, _ => v = .slice (some ⟨g, 0, none⟩) m cp
  | 10, v, _ => v = .pointer (some ⟨g, 0, none⟩)
  | 11, v, _ => v = .string W0
  | 12, v, _ => v = .int .i64 (W0.size : Int)
  | 13, v, _ => v = .slice (some ⟨g, 0, none⟩) m cp
  | 14, v, _ => v = .pointer (some ⟨g, 1, none⟩)
  | 15, v, _ => v = .string W1
  | 16, v, _ => v = .int .i64 (W1.size : Int)
  | 17, v, _ => v = .int .i64 (N1 : Int)
  | 18, v, _ => v = .slice (some ⟨g, 0, none⟩) m cp
  | 19, v, _ => v = .pointer (some ⟨g, 2, none⟩)
  | 20, v, _ => v = .string W2
  | 21, v, _ => v = .int .i64 (W2.size : Int)
  | 22, v, _ => v = .int .i64 (N2 : Int)
  | 23, v, _ => v = .int .i64 (N : Int)
  | 24, v, _ => v = .int .i64 (M : Int)
  | 25, v, _ => v = .string E
  | 26, v, w => ReqV B E v w
  | 27, v, w => ReqV B E v w
  | 28, v, w => ReqA B E v w
  | 30, v, w => ∃ h c0 c1 c2 c3 c4 c5, v = .pointer (some ⟨h, 0, none⟩) ∧ B ≤ h ∧ Bx 35 h #[c0, c1, c2, c3, c4, c5] w
  | _, _, _ => True
theorem R13.later {gl n cpl k g m cp N1 N2 N M B : Nat} {L W0 W1 W2 E : ByteArray} (i : Nat) (v : Value) (w w' : World) (h : Below w.heap.size w w') (hv : R13 gl n cpl k g m cp N1 N2 N M B L W0 W1 W2 E i v w) : R13 gl n cpl k g m cp N1 N2 N M B L W0 W1 W2 E i v w' := by
  match i, hv with
  | 0, hv => exact hv
  | 1, hv => exact hv
  | 2, hv => exact hv
  | 3, hv => exact hv
  | 4, hv => exact hv
  | 5, hv => exact hv
  | 6, hv => exact hv
  | 7, hv => exact hv
  | 8, hv => exact hv
  | 9, hv => exact hv
  | 10, hv => exact hv
  | 11, hv => exact hv
  | 12, hv => exact hv
  | 13, hv => exact hv
  | 14, hv => exact hv
  | 15, hv => exact hv
  | 16, hv => exact hv
  | 17, hv => exact hv
  | 18, hv => exact hv
  | 19, hv => exact hv
  | 20, hv => exact hv
  | 21, hv => exact hv
  | 22, hv => exact hv
  | 23, hv => exact hv
  | 24, hv => exact hv
  | 25, hv => exact hv
  | 26, hv => obtain ⟨q, x, y, z, lk, u, l, b, h1, h2, h3⟩ := hv; exact ⟨q, x, y, z, lk, u, l, b, h1, h2.later h, h3⟩
  | 27, hv => obtain ⟨q, x, y, z, lk, u, l, b, h1, h2, h3⟩ := hv; exact ⟨q, x, y, z, lk, u, l, b, h1, h2.later h, h3⟩
  | 28, hv => obtain ⟨q, x, y, z, lk, u, l, b, h1, h2, h3⟩ := hv; exact ⟨q, x, y, z, lk, u, l, b, h1, h2.later h, h3⟩
  | 29, _ => trivial
  | 30, hv => obtain ⟨k, c0, c1, c2, c3, c4, c5, h1, h2, h3⟩ := hv; exact ⟨k, c0, c1, c2, c3, c4, c5, h1, h2, h3.later h⟩
  | n + 31, _ => trivial
theorem R13.none {gl n cpl k g m cp N1 N2 N M B : Nat} {L W0 W1 W2 E : ByteArray} (i : Nat) (v : Value) (w : World) (h : i = 31 ∨ 32 ≤ i) : R13 gl n cpl k g m cp N1 N2 N M B L W0 W1 W2 E i v w := by
  obtain ⟨n, rfl⟩ : ∃ n, i = n + 31 := ⟨i - 31, by omega⟩
  trivial
theorem none13 {ops : Array Oper} (hd : ((List.range 32).all fun i => decide (i = 31) || (Inv.dstOf ops i).isSome) = true) (i : Nat) (h : Inv.dstOf ops i = none) : i = 31 ∨ 32 ≤ i := by
  by_cases h1 : 32 ≤ i
  · exact .inr h1
  · have h2 := List.all_eq_true.1 hd i (List.mem_range.2 (by omega))
    rw [h] at h2
    simp at h2
    exact .inl h2
theorem ne79 {ops : Array Oper} {t : Tmp} (h : Inv.dstOf ops 29 = some 79) (ht : t ≠ 79) : Inv.dstOf ops 29 ≠ some t := by
  rw [h]; intro e; exact ht (Option.some.inj e).symm
theorem bx_fill {T b : Nat} {c0 c1 c2 c3 c4 c5 : Value} {w : World} (h : Bx T b #[c0, c1, c2, c3, c4, c5] w) (d0 d1 d2 d3 d4 d5 : Value) : Bx T b #[d0, d1, d2, d3, d4, d5] (fill w b d0 d1 d2 d3 d4 d5) :=
  (((((h.set 0 d0).set 1 d1).set 2 d2).set 3 d3).set 4 d4).set 5 d5
theorem bx_fill_ne {T b g : Nat} {cs : Array Value} {w : World} (h : Bx T b cs w) (hg : g ≠ b) (d0 d1 d2 d3 d4 d5 : Value) : Bx T b cs (fill w g d0 d1 d2 d3 d4 d5) := by
  have hg' : b ≠ g := fun e => hg e.symm
  exact (((((h.far (p := ⟨g, 0, none⟩) hg' d0).far (p := ⟨g, 1, none⟩) hg' d1).far (p := ⟨g, 2, none⟩) hg' d2).far (p := ⟨g, 3, none⟩) hg' d3).far (p := ⟨g, 4, none⟩) hg' d4).far (p := ⟨g, 5, none⟩) hg' d5
theorem own_fill {B h : Nat} {v : Value} {l : List Int} {w : World} {c0 c1 c2 c3 c4 c5 : Value} (ho : OwnI B v l w) (hb : Bx 35 h #[c0, c1, c2, c3, c4, c5] w) (d0 d1 d2 d3 d4 d5 : Value) : OwnI B v l (fill w h d0 d1 d2 d3 d4 d5) := by
  have hne := own_ne (T := 35) (by decide) ho (show Blk 35 h c0 c1 c2 c3 c4 c5 w from hb)
  exact own_set_ne (own_set_ne (own_set_ne (own_set_ne (own_set_ne (own_set_ne ho (a := ⟨h, 0, Option.none⟩) hne d0) (a := ⟨h, 1, Option.none⟩) hne d1) (a := ⟨h, 2, Option.none⟩) hne d2) (a := ⟨h, 3, Option.none⟩) hne d3) (a := ⟨h, 4, Option.none⟩) hne d4) (a := ⟨h, 5, Option.none⟩) hne d5
theorem R13.fill {gl n cpl k g m cp N1 N2 N M B : Nat} {L W0 W1 W2 E : ByteArray} {w : World} {h : Nat} {c0 c1 c2 c3 c4 c5 : Value} (hb : Bx 35 h #[c0, c1, c2, c3, c4, c5] w) (j : Nat) (u : Value) (hj : R13 gl n cpl k g m cp N1 N2 N M B L W0 W1 W2 E j u w) (d0 d1 d2 d3 d4 d5 : Value) : R13 gl n cpl k g m cp N1 N2 N M B L W0 W1 W2 E j u (Num.fill w h d0 d1 d2 d3 d4 d5) := by
  match j, hj with
  | 0, hj => have e : u = _ := hj; exact e
  | 1, hj => have e : u = _ := hj; exact e
  | 2, hj => have e : u = _ := hj; exact e
  | 3, hj => have e : u = _ := hj; exact e
  | 4, hj => have e : u = _ := hj; exact e
  | 5, hj => have e : u = _ := hj; exact e
  | 6, hj => have e : u = _ := hj; exact e
  | 7, hj => have e : u = _ := hj; exact e
  | 8, hj => have e : u = _ := hj; exact e
  | 9, hj => have e : u = _ := hj; exact e
  | 10, hj => have e : u = _ := hj; exact e
  | 11, hj => have e : u = _ := hj; exact e
  | 12, hj => have e : u = _ := hj; exact e
  | 13, hj => have e : u = _ := hj; exact e
  | 14, hj => have e : u = _ := hj; exact e
  | 15, hj => have e : u = _ := hj; exact e
  | 16, hj => have e : u = _ := hj; exact e
  | 17, hj => have e : u = _ := hj; exact e
  | 18, hj => have e : u = _ := hj; exact e
  | 19, hj => have e : u = _ := hj; exact e
  | 20, hj => have e : u = _ := hj; exact e
  | 21, hj => have e : u = _ := hj; exact e
  | 22, hj => have e : u = _ := hj; exact e
  | 23, hj => have e : u = _ := hj; exact e
  | 24, hj => have e : u = _ := hj; exact e
  | 25, hj => have e : u = _ := hj; exact e
  | 26, hj => obtain ⟨q, x, y, z, lk, u, l, b, h1, h2, h3⟩ := hj; exact ⟨q, x, y, z, lk, u, l, b, h1, own_fill h2 hb _ _ _ _ _ _, h3⟩
  | 27, hj => obtain ⟨q, x, y, z, lk, u, l, b, h1, h2, h3⟩ := hj; exact ⟨q, x, y, z, lk, u, l, b, h1, own_fill h2 hb _ _ _ _ _ _, h3⟩
  | 28, hj => obtain ⟨q, x, y, z, lk, u, l, b, h1, h2, h3⟩ := hj; exact ⟨q, x, y, z, lk, u, l, b, h1, own_fill h2 hb _ _ _ _ _ _, h3⟩
  | 29, _ => trivial
  | 30, hj =>
    obtain ⟨k, e0, e1, e2, e3, e4, e5, h1, h2, h3⟩ := hj
    by_cases hk : h = k
    · subst hk
      exact ⟨h, _, _, _, _, _, _, h1, h2, bx_fill h3 d0 d1 d2 d3 d4 d5⟩
    · exact ⟨k, _, _, _, _, _, _, h1, h2, bx_fill_ne h3 hk d0 d1 d2 d3 d4 d5⟩
  | n + 31, _ => trivial
def J13 (B : Nat) (f : Tmp → Value) (w : World) : Prop := ∃ h c0 c1 c2 c3 c4 c5, f 9 = .pointer (some ⟨h, 0, none⟩) ∧ f 78 = .agg #[c0, c1, c2, c3, c4, c5] ∧ B ≤ h ∧ Bx 35 h #[c0, c1, c2, c3, c4, c5] w
theorem J13.congr {B : Nat} {f f' : Tmp → Value} {w : World} (h : J13 B f w) (h1 : f 9 = f' 9) (h2 : f 78 = f' 78) : J13 B f' w := by
  obtain ⟨g, c0, c1, c2, c3, c4, c5, a, b, c, d⟩ := h
  exact ⟨g, c0, c1, c2, c3, c4, c5, h1 ▸ a, h2 ▸ b, c, d⟩
theorem fill_below {B h : Nat} {a w : World} (hb : Below B a w) (hB : B ≤ h) (d0 d1 d2 d3 d4 d5 : Value) : Below B a (fill w h d0 d1 d2 d3 d4 d5) := below_fill hb hB d0 d1 d2 d3 d4 d5
/-- what each operation of the append's sentence leaves. -/
def R14 (n0 gn cpn : Nat) (a0 : Option Addr) (p0 : Nat) (zp : List PoX) (a b : Int) (q : Bool) (x y zz : Int) (lk : Bool) (ad5 : Option Addr) (l5 : List Int) (cp5 B5 : Nat) (G : Foot) : Nat → Value → World → Prop
  | 0, v, _ => v = .pointer (some ⟨n0 + 1, 0, none⟩)
  | 1, v, _ => v = .slice a0 zp.length p0
  | 2, v, _ => v = .slice (some ⟨gn, 0, none⟩) 2 cpn
  | 3, v, _ => v = .pointer (some ⟨gn, 0, none⟩)
  | 4, v, _ => v = .int .i64 a
  | 5, v, _ => v = .slice (some ⟨gn, 0, none⟩) 2 cpn
  | 6, v, _ => v = .pointer (some ⟨gn, 1, none⟩)
  | 7, v, _ => v = .int .i64 b
  | 8, v, _ => v = .agg #[.bool q, .int .i64 x, .int .i64 y, .int .i64 zz, .bool lk, .slice ad5 l5.length cp5]
  | 9, v, _ => v = .agg #[.int .i64 a, .int .i64 b, .bool q, .int .i64 x, .int .i64 y, .int .i64 zz, .bool lk, .slice ad5 l5.length cp5]
  | 10, v, w => ∃ g, v = .slice (some ⟨g, 0, none⟩) 1 1 ∧ B5 ≤ g ∧ w.heap[g]? = some (.cells #[.int .i64 a, .int .i64 b, .bool q, .int .i64 x, .int .i64 y, .int .i64 zz, .bool lk, .slice ad5 l5.length cp5] 39)
  | 11, v, w => ∃ ad cp, v = .slice ad (zp.length + 1) cp ∧ postS.cap G [v] (zp ++ [(a, b, q, x, y, zz, lk, l5)]) w
  | 12, v, _ => v = .pointer (some ⟨n0 + 1, 0, none⟩)
  | _, _, _ => True
theorem R14.step {n0 gn cpn : Nat} {a0 : Option Addr} {p0 : Nat} {zp : List PoX} {a b : Int} {q : Bool} {x y zz : Int} {lk : Bool} {ad5 : Option Addr} {l5 : List Int} {cp5 B5 : Nat} {G : Foot} {w w' : World} {F : Foot} (ht : Turn F w w') (hF : ∀ k, F k → k < B5) (j : Nat) (u : Value) (hj11 : j ≠ 11) (hj : R14 n0 gn cpn a0 p0 zp a b q x y zz lk ad5 l5 cp5 B5 G j u w) : R14 n0 gn cpn a0 p0 zp a b q x y zz lk ad5 l5 cp5 B5 G j u w' := by
  match j, hj with
  | 0, hj => have e : u = _ := hj; exact e
  | 1, hj => have e : u = _ := hj; exact e
  | 2, hj => have e : u = _ := hj; exact e
  | 3, hj => have e : u = _ := hj; exact e
  | 4, hj => have e : u = _ := hj; exact e
  | 5, hj => have e : u = _ := hj; exact e
  | 6, hj => have e : u = _ := hj; exact e
  | 7, hj => have e : u = _ := hj; exact e
  | 8, hj => have e : u = _ := hj; exact e
  | 9, hj => have e : u = _ := hj; exact e
  | 10, hj => obtain ⟨g, h1, h2, h3⟩ := hj; exact ⟨g, h1, h2, (ht.block g (Array.getElem?_eq_some_iff.1 h3).1 (fun hf => by have := hF g hf; omega)).trans h3⟩
  | 11, hj => exact absurd rfl hj11
  | 12, hj => have e : u = _ := hj; exact e
  | n + 13, _ => trivial
theorem R14.later {n0 gn cpn : Nat} {a0 : Option Addr} {p0 : Nat} {zp : List PoX} {a b : Int} {q : Bool} {x y zz : Int} {lk : Bool} {ad5 : Option Addr} {l5 : List Int} {cp5 B5 : Nat} {G : Foot} {w w' : World} (hb : Below w.heap.size w w') (j : Nat) (u : Value) (hj : R14 n0 gn cpn a0 p0 zp a b q x y zz lk ad5 l5 cp5 B5 G j u w) : R14 n0 gn cpn a0 p0 zp a b q x y zz lk ad5 l5 cp5 B5 G j u w' := by
  by_cases h : j = 11
  · subst h
    obtain ⟨ad, cp, h1, h2⟩ := hj
    exact ⟨ad, cp, h1, postS.cap_later h2 hb⟩
  · exact R14.step (F := fun _ => False) (Turn.later hb) (fun _ h => h.elim) j u h hj
theorem R14.none {n0 gn cpn : Nat} {a0 : Option Addr} {p0 : Nat} {zp : List PoX} {a b : Int} {q : Bool} {x y zz : Int} {lk : Bool} {ad5 : Option Addr} {l5 : List Int} {cp5 B5 : Nat} {G : Foot} (i : Nat) (v : Value) (w : World) (h : 13 ≤ i) : R14 n0 gn cpn a0 p0 zp a b q x y zz lk ad5 l5 cp5 B5 G i v w := by
  obtain ⟨n, rfl⟩ : ∃ n, i = n + 13 := ⟨i - 13, by omega⟩
  trivial
def C14 (F : Foot) (w5 : World) (b : Bool) (w : World) : Prop := if b = true then Turn F w5 w else Below w5.heap.size w5 w
theorem C14.turn {F : Foot} {w5 w : World} {b : Bool} (h : C14 F w5 b w) : Turn F w5 w := by
  unfold C14 at h; split at h
  · exact h
  · exact Turn.later h
theorem C14.alloc {F : Foot} {w5 w : World} {b : Bool} (h : C14 F w5 b w) (o : Obj) : C14 F w5 b (w.alloc o) := by
  cases b with
  | true =>
    have h' : Turn F w5 w := h
    exact (show Turn F w5 (w.alloc o) from h'.trans (Turn.later ((Below.refl _ _).alloc (Nat.le_refl _) o)))
  | false =>
    have h' : Below w5.heap.size w5 w := h
    exact (show Below w5.heap.size w5 (w.alloc o) from h'.alloc h'.size o)
theorem turn_cell {F : Foot} {w w' : World} (h : Turn F w w') {b i : Nat} (hb : b < w.heap.size) (hF : ¬ F b) : w'.cell? ⟨b, i, Option.none⟩ = w.cell? ⟨b, i, Option.none⟩ := World.cell?_of_block (a := ⟨b, i, Option.none⟩) (h.block b hb hF)
theorem wp_appRow2 {α : Type} {K : Kn α} {hn : K.n ≤ 64} {o : Oper} {a : Act} {K0 : Act → World → Prop} {Q : Exit → Act → World → Prop} (t e : TypeId) (ht : Tryz.prog.underlying t = some (.slice e)) (hT : ElT K e) (s x : Operand)
    (ho : o.op = .call { callee := .builtin .append, args := #[s, x], argTypes := #[t, t] })
    (F E : Foot) (v : Value) (l : List α) (y : α) (es : Array Value) (g : Nat) (w : World) (hs : a.eval s = v) (hx : a.eval x = .slice (some ⟨g, 0, Option.none⟩) 1 1) (hg : w.heap[g]? = some (.cells es e))
    (hown : (row K hn).cap F [v] l w) (hc : K.cap E es.toList y w) (hE : ∀ k, k < w.heap.size → E k → ¬ F k) (h1c : ∀ u ∈ es.toList, u.oneCell' = true) (hl : l.length + 1 ≤ 4000000)
    (h : ∀ v' w', (row K hn).cap (fun k => F k ∨ E k ∨ w.heap.size ≤ k) [v'] (l ++ [y]) w' → Turn F w w' → K0 (a.put o.dst v') w') :
    o.wp Tryz.prog a w K0 Q := by
  obtain ⟨i, z, hi, hz, hsz, hzs, hby⟩ := hT
  obtain ⟨v', w', hrun, h1, h2⟩ := run_append_row t o.type e i z ht hi hz hsz hzs hby F E v l y es.toList w hown hc hE ⟨g, 0, Option.none⟩ 1 (fun j u hu => by
      rw [addr_add', cell_of_row _ g _ _ e (0, 0) hg, Nat.zero_add, ← Array.getElem?_toList]; exact hu) h1c hl
  unfold Oper.wp
  simp [execOp, ho, resolve, invoke, builtin, hs, hx, hrun, Result.andThen]
  exact h v' w' h1 h2
theorem none14 {ops : Array Oper} (hd : ((List.range 13).all fun i => (Inv.dstOf ops i).isSome) = true) (i : Nat) (h : Inv.dstOf ops i = none) : 13 ≤ i := by
  refine Nat.le_of_not_lt fun hi => ?_
  have := List.all_eq_true.1 hd i (List.mem_range.2 hi)
  rw [h] at this; cases this
theorem Inv.getD_both' {listed : Array Bool} {i : Nat} (h : listed.getD i true = false) : listed.getD i false = false := by rw [getD_both h]
theorem cut_sz {c : UInt8} {s : ByteArray} (hs : s.size ≤ 1048576) (j : Nat) : ((Cut.cutWs c s).getD j ByteArray.empty).size ≤ 1048576 := Nat.le_trans (Cut.cutWs_size c s j) hs
def ScP (s : ByteArray) (w : World) (e : Ending) (w' : World) : Prop :=
  ∃ us z b, e = .returned (.tuple #[agg us, .bool b]) ∧ scriptK.cap (fun k => w.heap.size ≤ k) us z w' ∧ Below w.heap.size w w' ∧ RS s.data.toList z b
theorem ScP.mk {s : ByteArray} {w w' : World} {e : Ending} {us : List Value} {z : ScX} {b : Bool} (h1 : e = .returned (.tuple #[agg us, .bool b])) (h2 : scriptK.cap (fun k => w.heap.size ≤ k) us z w') (h3 : Below w.heap.size w w') (h4 : RS s.data.toList z b) : ScP s w e w' := ⟨us, z, b, h1, h2, h3, h4⟩

set_option maxHeartbeats 8000000 in
set_option maxRecDepth 100000 in
theorem specReadScript (s : ByteArray) (hs : s.size ≤ 1048576) (w : World) : Calls Tryz.prog 4 #[.string s] w (ScP s w) := by
  have hsz : ∀ (w : World) o, (w.alloc o).heap.size = w.heap.size + 1 := fun w o => by simp
  have R0 := Lib.hid ((Bx.new 25 #[.slice none 0 0, .slice none 0 0, .slice none 0 0] w).alloc (Obj.cells #[.slice none 0 0, .slice none 0 0, .slice none 0 0] 25))
  have X := Bx.new 25 #[.slice none 0 0, .slice none 0 0, .slice none 0 0] (w.alloc (Obj.cells #[.slice none 0 0, .slice none 0 0, .slice none 0 0] 25))
  rw [hsz] at X
  have X0 := Lib.hid X
  have HB := Lib.hid (((Below.refl w.heap.size w).alloc (Nat.le_refl _) (Obj.cells #[.slice none 0 0, .slice none 0 0, .slice none 0 0] 25)).alloc (by simp) (Obj.cells #[.slice none 0 0, .slice none 0 0, .slice none 0 0] 25))
  have HS := Lib.hid hs
  clear X hsz hs
  go_enter Tryz.func4, Tryz.ntmps4
  go_wp2_with fail
  generalize (w.alloc _).alloc _ = y0 at R0 X0 HB ⊢
  refine (Cut.specCut 10 10 rfl s HS.out _).mono ?_
  rintro e w2 ⟨v, rfl, hown, hb⟩
  have hlen := Cut.cutWs_len 10 s
  obtain ⟨ls, hls⟩ : ∃ ls, Cut.cutWs 10 s = ls := ⟨_, rfl⟩
  have HLS := Lib.hid hls
  have hsz : ∀ j, (ls.getD j ByteArray.empty).size ≤ 1048576 := fun j => by rw [← hls]; exact cut_sz HS.out j
  have HSZ := Lib.hid hsz
  rw [hls] at hlen hown
  obtain ⟨gl, cpl, rfl, hgl, hrow⟩ := rowG_of hown hlen.1
  have HROW := Lib.hid hrow
  have R2 := Lib.hid (R0.out.later hb)
  have X2 := Lib.hid (X0.out.later hb)
  have HB2 := Lib.hid (HB.out.trans (hb.mono HB.out.size))
  obtain ⟨n, hn⟩ : ∃ n, ls.length = n := ⟨_, rfl⟩
  have HN := Lib.hid hn
  have hn1 : n ≤ 1048577 := by have := HS.out; omega
  have hgl2 := hrow.2.1
  have hx0 := X0.out.lt
  rw [hn]
  clear hls hsz hlen hown hrow hb R0 X0 HB hn
  go_wp2_with fail
  go_loopw [6] (fun i wr => ∃ (k : Nat) (z : ScX) (u0 u1 u2 : Value), k ≤ n ∧ i = .int .i64 k ∧ Hid (RSt w.heap.size w2.heap.size w2 wr ls k z u0 u1 u2)) (fun i _ => n - (intOf i).toNat)
  case atStart => exact ⟨0, ([], [], []), _, _, _, by omega, rfl, Lib.hid ⟨rfl, X2.out, R2.out, script_cap (Fx0 := fun _ => False) (Fx1 := fun _ => False) (Fx2 := fun _ => False) (row_nil _ _) (row_nil _ _) (row_nil _ _) (fun _ h => h.elim) (fun _ h => h.elim) (fun _ h => h.elim) (fun _ h => h.elim) (fun _ h => h.elim) (fun _ h => h.elim), by simp, by simp, by simp, Turn.refl _ _⟩⟩
  case round =>
    obtain ⟨k, z, u0, u1, u2, hk, rfl, H⟩ := hrel
    have HR := Lib.hid (HROW.out.turn H.out.turn (by omega))
    by_cases hlt : k < n
    · have c0 := HR.out.2.2 k (by rw [HN.out]; exact hlt)
      have hls := HSZ.out k
      obtain ⟨L, hL⟩ : ∃ L, ls.getD k ByteArray.empty = L := ⟨_, rfl⟩
      rw [hL] at c0 hls
      have HL := Lib.hid hL
      have HLS2 := Lib.hid hls
      clear hL hls
      go_wp2_with fail
      refine (Cut.specCut 32 32 rfl L HLS2.out _).mono ?_
      rintro e w3 ⟨v, rfl, hown, hb⟩
      have hlen := Cut.cutWs_len 32 L
      obtain ⟨ws, hws⟩ : ∃ ws, Cut.cutWs 32 L = ws := ⟨_, rfl⟩
      have HWS := Lib.hid hws
      have hsz : ∀ j, (ws.getD j ByteArray.empty).size ≤ 1048576 := fun j => by rw [← hws]; exact cut_sz HLS2.out j
      have HWZ := Lib.hid hsz
      rw [hws] at hlen hown
      obtain ⟨g, cp, rfl, hg, hrow⟩ := rowG_of hown hlen.1
      have HW := Lib.hid hrow
      obtain ⟨m, hm⟩ : ∃ m, ws.length = m := ⟨_, rfl⟩
      have HM := Lib.hid hm
      have hm2 : m ≤ 1048577 := by have := HLS2.out; omega
      have hm1 : 1 ≤ m := by omega
      have hcp := hrow.1
      have hg2 := hrow.2.1
      rw [hm] at hcp ⊢
      have HLN := Lib.hid (show ls.take (k + 1) = ls.take k ++ [L] from by rw [← HL.out]; exact List.take_succ_eq_append_getElem (by rw [HN.out]; exact hlt) |>.trans (by rw [getDS_lt (by rw [HN.out]; exact hlt)]))
      have w0 := hrow.2.2 0 (by omega)
      have H3 : Hid (RSt w.heap.size w2.heap.size w2 w3 ls k z u0 u1 u2) := Lib.hid (
        have h := H.out
        ⟨h.pl, h.xb.later hb, h.rb.later hb, scriptK.cap_later h.cap hb, h.l0, h.l1, h.l2, h.turn.trans (Turn.of hb |>.wide (fun j hj => .inr (Nat.le_trans h.turn.size hj)))⟩)
      have HR3 := Lib.hid (HR.out.later hb)
      have hs23 := H3.out.turn.size
      have hs33 : w2.heap.size ≤ wr.heap.size := H.out.turn.size
      obtain ⟨W0, hW0⟩ : ∃ W, ws.getD 0 ByteArray.empty = W := ⟨_, rfl⟩
      rw [hW0] at w0
      have HW0 := Lib.hid hW0
      clear hws hsz hlen hown hrow hb hm hW0 c0
      have hm0 : (0 : Int) < (m : Int) := by omega
      by_cases hwa : W0 = ⟨#[119, 97, 105, 116, 115]⟩
      · have q1 : (W0.toList == [119, 97, 105, 116, 115]) = true := by rw [hwa, ByteArray.toList_eq]; rfl
        have TL := Lib.hid (show ws.tail.length ≤ 2000000 by rw [List.length_tail, HM.out]; omega)
        have TS := Lib.hid (show ∀ j, (ws.tail.getD j ByteArray.empty).size ≤ 1048576 from fun j => by rw [tail_getD]; exact HWZ.out _)
        have hx3 := H3.out.xb.lt
        by_cases hc1 : cp = 1
        all_goals
          go_wp2_with fail
          refine (specNums _ ws.tail TL.out TS.out _ (tail_rd HW.out HM.out hm1 (by omega) _)).mono ?_
          rintro e w4 ⟨v', ns, rfl, hns, ho, hb⟩
          have hnl : ns.length ≤ 1048577 := by rw [hns.1, List.length_tail, HM.out]; omega
          have H5 := Lib.hid (H3.out.waits (by omega) hs23 hb ho hnl (by rw [HLN.out]; exact H3.out.pl.snoc (by rw [HWS.out]; exact .inl ⟨by rw [HW0.out]; exact hwa, ns, hns, rfl⟩)))
          have xw := (H3.out.xb.later hb).warm 1
          obtain ⟨xc0, xc1, xc2⟩ := bx3 (H3.out.xb.later hb)
          have hx4 := (H3.out.xb.later hb).lt
          obtain ⟨ad', cp', rfl⟩ := ho.slice
          clear hns ho hb hnl w0
          go_wp2_with fail
          go_roundw
          case rel => exact ⟨k + 1, _, _, _, _, by omega, by go_num, H5.out |> Lib.hid⟩
          case measure => simp [intOf]; omega
      · have q1 : (W0.toList == [119, 97, 105, 116, 115]) = false := by
          rw [beq_eq_false_iff_ne, ByteArray.toList_eq]; intro e; exact hwa (ba_inj e)
        by_cases hsa : W0 = ⟨#[115, 97, 121, 115]⟩
        · have q2 : (W0.toList == [115, 97, 121, 115]) = true := by rw [hsa, ByteArray.toList_eq]; rfl
          have TL := Lib.hid (show ws.tail.length ≤ 2000000 by rw [List.length_tail, HM.out]; omega)
          have TS := Lib.hid (show ∀ j, (ws.tail.getD j ByteArray.empty).size ≤ 1048576 from fun j => by rw [tail_getD]; exact HWZ.out _)
          have hx3 := H3.out.xb.lt
          by_cases hc1 : cp = 1
          all_goals
            go_wp2_with fail
            refine (specNums _ ws.tail TL.out TS.out _ (tail_rd HW.out HM.out hm1 (by omega) _)).mono ?_
            rintro e w4 ⟨v', ns, rfl, hns, ho, hb⟩
            have hnl : ns.length ≤ 1048577 := by rw [hns.1, List.length_tail, HM.out]; omega
            have H5 := Lib.hid (H3.out.says (by omega) hs23 hb ho hnl (by rw [HLN.out]; exact H3.out.pl.snoc (by rw [HWS.out]; exact .inr (.inl ⟨by rw [HW0.out]; exact hwa, by rw [HW0.out]; exact hsa, ns, hns, rfl⟩))))
            have xw := (H3.out.xb.later hb).warm 2
            obtain ⟨xc0, xc1, xc2⟩ := bx3 (H3.out.xb.later hb)
            have hx4 := (H3.out.xb.later hb).lt
            obtain ⟨ad', cp', rfl⟩ := ho.slice
            clear hns ho hb hnl w0
            go_wp2_with fail
            go_roundw
            case rel => exact ⟨k + 1, _, _, _, _, by omega, by go_num, H5.out |> Lib.hid⟩
            case measure => simp [intOf]; omega
        · have q2 : (W0.toList == [115, 97, 121, 115]) = false := by
            rw [beq_eq_false_iff_ne, ByteArray.toList_eq]; intro e; exact hsa (ba_inj e)
          by_cases h3 : 3 < m
          · have hm1' : (1 : Int) < (m : Int) := by omega
            have hm2' : (2 : Int) < (m : Int) := by omega
            have hc4 : 3 < cp := by omega
            obtain ⟨W1, hW1⟩ : ∃ W, ws.getD 1 ByteArray.empty = W := ⟨_, rfl⟩
            obtain ⟨W2, hW2⟩ : ∃ W, ws.getD 2 ByteArray.empty = W := ⟨_, rfl⟩
            have HRD := Lib.hid (HW.out.part 1 (cp - 1) (m := [W1, W2]) (fun i hi => ⟨by rw [HM.out]; simp at hi; omega, by
              match i, hi with
              | 0, _ => exact hW1.symm
              | 1, _ => exact hW2.symm
              | n + 2, hi => exact absurd hi (by simp)⟩))
            have HWS2 := Lib.hid (show ∀ j, ([W1, W2].getD j ByteArray.empty).size ≤ 1048576 from fun j => by
              match j with
              | 0 => show W1.size ≤ _; rw [← hW1]; exact HWZ.out 1
              | 1 => show W2.size ≤ _; rw [← hW2]; exact HWZ.out 2
              | n + 2 => simp [List.getD])
            have HW1 := Lib.hid hW1
            have HW2 := Lib.hid hW2
            clear hW1 hW2
            go_wp2_with fail
            refine (specNums _ [W1, W2] (by simp) HWS2.out _ HRD.out).mono ?_
            rintro e w4 ⟨v', ns, rfl, hns, ho, hb⟩
            obtain ⟨a, b, rfl⟩ : ∃ a b, ns = [a, b] := by
              obtain ⟨h1, -⟩ := hns
              match ns, h1 with
              | [a, b], _ => exact ⟨a, b, rfl⟩
            have HNA := Lib.hid (show N18 W1 a from hns.2 0 (by simp))
            have HNB := Lib.hid (show N18 W2 b from hns.2 1 (by simp))
            obtain ⟨gn, cpn, rfl, hgn, hin⟩ := ownI2 ho
            have HIN := Lib.hid hin
            have H4 : Hid (RSt w.heap.size w2.heap.size w2 w4 ls k z u0 u1 u2) := Lib.hid (
              have h := H3.out
              ⟨h.pl, h.xb.later hb, h.rb.later hb, scriptK.cap_later h.cap hb, h.l0, h.l1, h.l2, h.turn.trans (Turn.of hb |>.wide (fun j hj => .inr (Nat.le_trans h.turn.size hj)))⟩)
            have H34 := Lib.hid hb
            have HW4 := Lib.hid (HW.out.later hb)
            have HR4 := Lib.hid (HR3.out.later hb)
            have hs4 := hb.size
            clear hns ho hb hin w0
            have c1 := HR4.out.2.2 k (by rw [HN.out]; exact hlt)
            rw [HL.out] at c1
            have d0 := HW4.out.2.2 0 (by rw [HM.out]; omega)
            have d1 := HW4.out.2.2 1 (by rw [HM.out]; omega)
            have d2 := HW4.out.2.2 2 (by rw [HM.out]; omega)
            rw [HW0.out] at d0
            rw [HW1.out] at d1
            rw [HW2.out] at d2
            have z0 : W0.size ≤ 1048576 := by rw [← HW0.out]; exact HWZ.out 0
            have z1 : W1.size ≤ 1048576 := by rw [← HW1.out]; exact HWZ.out 1
            have z2 : W2.size ≤ 1048576 := by rw [← HW2.out]; exact HWZ.out 2
            have zL := HLS2.out
            obtain ⟨N1, hN1⟩ : ∃ N, W0.size + W1.size = N := ⟨_, rfl⟩
            obtain ⟨N2, hN2⟩ : ∃ N, N1 + W2.size = N := ⟨_, rfl⟩
            obtain ⟨N, hN⟩ : ∃ N, N2 + 3 = N := ⟨_, rfl⟩
            have HQZ : Hid ((restB L ws).size ≤ 1048576) := Lib.hid (by unfold restB; rw [ByteArray.size_extract]; omega)
            have HRB := Lib.hid (show restB L ws = L.extract (min L.size N) L.size by unfold restB; rw [HW0.out, HW1.out, HW2.out, ← hN, ← hN2, ← hN1])
            obtain ⟨E, hE⟩ : ∃ E, restB L ws = E := ⟨_, rfl⟩
            have HE := Lib.hid hE
            rw [hE] at HQZ HRB
            have wf1 : IntKind.i64.wrap ((W0.size : Int) + (W1.size : Int)) = (N1 : Int) := by rw [IntWalk.i64_in _ (by omega)]; omega
            have wf2 : IntKind.i64.wrap ((N1 : Int) + (W2.size : Int)) = (N2 : Int) := by rw [IntWalk.i64_in _ (by omega)]; omega
            have wf3 : IntKind.i64.wrap ((N2 : Int) + 3) = (N : Int) := by rw [IntWalk.i64_in _ (by omega)]; omega
            clear hE hN1 hN2 hN z0 z1 z2
            go_upto_region 13 with fail
            have hm0n : 0 < m := by omega
            have LT1 : gl < w4.heap.size := HR4.out.2.1
            have LT2 : g < w4.heap.size := HW4.out.2.1
            obtain ⟨M, hM⟩ : ∃ M, min L.size N = M := ⟨_, rfl⟩
            have HM3 := Lib.hid (show M ≤ L.size ∧ M ≤ N ∧ (M = L.size ∨ M = N) by omega)
            have HMM := Lib.hid (show min (L.size : Int) (N : Int) = (M : Int) by omega)
            have HEE := Lib.hid (show L.extract M L.size = E by rw [HRB.out, hM])
            have hML := HM3.out.1
            have hML1 : (M : Int) ≤ (L.size : Int) := by omega
            have hM0 : (0 : Int) ≤ (M : Int) := by omega
            have hkn : (k : Int) < (n : Int) := by omega
            clear hM
            refine Inv.region_tailP 32 31 29 (by decide) (by decide) (by decide) [51, 52, 53, 54, 55, 56, 57, 58, 59, 60, 61, 62, 63, 64, 65, 66, 67, 68, 69, 70, 71, 72, 73, 74, 75, 76, 77, 50, 78, 79, 9] (by kernel_rfl) (by kernel_rfl) (by kernel_rfl) (by kernel_rfl) (by kernel_rfl) (by kernel_rfl) (by kernel_rfl) (fun w' => Below w4.heap.size w4 w') (R13 gl n cpl k g m cp N1 N2 N M w4.heap.size L W0 W1 W2 E) (fun w' w'' => Below w'.heap.size w' w'') (J13 w4.heap.size) (fun i v w' w'' => R13.later i v w' w'') ?_ (Below.refl _ _).drew ?_ ?_ ?_ ?_ ?_
            · intro i v w' hi
              exact R13.none i v w' (none13 (by kernel_rfl) i hi)
            · intro f f' w' hf hj
              exact hj.congr (hf 9 (ne79 (by kernel_rfl) (by decide))) (hf 78 (ne79 (by kernel_rfl) (by decide)))
            · intro i o ho hi16 hip hil listed a w' s hl haft K hK
              match i, ho with
              | 0, ho =>
                simp only [List.getElem?_toArray, List.getElem?_cons_zero, Option.some.injEq] at ho
                subst ho
                have e5 : a.tmps.getD 5 undef = .slice (some ⟨gl, 0, none⟩) n cpl := s.other 5 (fun jj _ e => Inv.none_at (t := 5) (by kernel_rfl) e)
                unfold Oper.wp
                go_simp
                exact hK _ _ s.cls (Below.refl _ _) rfl
              | 1, ho =>
                simp only [List.getElem?_toArray, List.getElem?_cons_zero, List.getElem?_cons_succ, Option.some.injEq] at ho
                subst ho
                have e6 : a.tmps.getD 6 undef = .int .i64 (k : Int) := s.other 6 (fun jj _ e => Inv.none_at (t := 6) (by kernel_rfl) e)
                unfold Oper.wp
                go_simp
                exact hK _ _ s.cls (Below.refl _ _) rfl
              | 2, ho =>
                simp only [List.getElem?_toArray, List.getElem?_cons_zero, List.getElem?_cons_succ, Option.some.injEq] at ho
                subst ho
                have e51 : a.tmps.getD 51 undef = .slice (some ⟨gl, 0, none⟩) n cpl := s.val 0 (by decide) (haft ⟨0, .data⟩ (by simp) rfl)
                have e52 : a.tmps.getD 52 undef = .int .i64 (k : Int) := s.val 1 (by decide) (haft ⟨1, .data⟩ (by simp) rfl)
                unfold Oper.wp
                go_simp
                exact hK _ _ s.cls (Below.refl _ _) rfl
              | 3, ho =>
                simp only [List.getElem?_toArray, List.getElem?_cons_zero, List.getElem?_cons_succ, Option.some.injEq] at ho
                subst ho
                have e53 : a.tmps.getD 53 undef = .pointer (some ⟨gl, k, none⟩) := s.val 2 (by decide) (haft ⟨2, .data⟩ (by simp) rfl)
                have c := (s.cls.cell (p := ⟨gl, k, none⟩) LT1).trans c1
                unfold Oper.wp
                go_simp
                exact hK _ _ s.cls (Below.refl _ _) rfl
              | 4, ho =>
                simp only [List.getElem?_toArray, List.getElem?_cons_zero, List.getElem?_cons_succ, Option.some.injEq] at ho
                subst ho
                have e5 : a.tmps.getD 5 undef = .slice (some ⟨gl, 0, none⟩) n cpl := s.other 5 (fun jj _ e => Inv.none_at (t := 5) (by kernel_rfl) e)
                unfold Oper.wp
                go_simp
                exact hK _ _ s.cls (Below.refl _ _) rfl
              | 5, ho =>
                simp only [List.getElem?_toArray, List.getElem?_cons_zero, List.getElem?_cons_succ, Option.some.injEq] at ho
                subst ho
                have e6 : a.tmps.getD 6 undef = .int .i64 (k : Int) := s.other 6 (fun jj _ e => Inv.none_at (t := 6) (by kernel_rfl) e)
                unfold Oper.wp
                go_simp
                exact hK _ _ s.cls (Below.refl _ _) rfl
              | 6, ho =>
                simp only [List.getElem?_toArray, List.getElem?_cons_zero, List.getElem?_cons_succ, Option.some.injEq] at ho
                subst ho
                have e55 : a.tmps.getD 55 undef = .slice (some ⟨gl, 0, none⟩) n cpl := s.val 4 (by decide) (haft ⟨4, .data⟩ (by simp) rfl)
                have e56 : a.tmps.getD 56 undef = .int .i64 (k : Int) := s.val 5 (by decide) (haft ⟨5, .data⟩ (by simp) rfl)
                unfold Oper.wp
                go_simp
                exact hK _ _ s.cls (Below.refl _ _) rfl
              | 7, ho =>
                simp only [List.getElem?_toArray, List.getElem?_cons_zero, List.getElem?_cons_succ, Option.some.injEq] at ho
                subst ho
                have e57 : a.tmps.getD 57 undef = .pointer (some ⟨gl, k, none⟩) := s.val 6 (by decide) (haft ⟨6, .data⟩ (by simp) rfl)
                have c := (s.cls.cell (p := ⟨gl, k, none⟩) LT1).trans c1
                unfold Oper.wp
                go_simp
                exact hK _ _ s.cls (Below.refl _ _) rfl
              | 8, ho =>
                simp only [List.getElem?_toArray, List.getElem?_cons_zero, List.getElem?_cons_succ, Option.some.injEq] at ho
                subst ho
                have e58 : a.tmps.getD 58 undef = .string L := s.val 7 (by decide) (haft ⟨7, .data⟩ (by simp) rfl)
                unfold Oper.wp
                go_simp
                exact hK _ _ s.cls (Below.refl _ _) rfl
              | 9, ho =>
                simp only [List.getElem?_toArray, List.getElem?_cons_zero, List.getElem?_cons_succ, Option.some.injEq] at ho
                subst ho
                have e7 : a.tmps.getD 7 undef = .slice (some ⟨g, 0, none⟩) m cp := s.other 7 (fun jj _ e => Inv.none_at (t := 7) (by kernel_rfl) e)
                unfold Oper.wp
                go_simp
                exact hK _ _ s.cls (Below.refl _ _) rfl
              | 10, ho =>
                simp only [List.getElem?_toArray, List.getElem?_cons_zero, List.getElem?_cons_succ, Option.some.injEq] at ho
                subst ho
                have e60 : a.tmps.getD 60 undef = .slice (some ⟨g, 0, none⟩) m cp := s.val 9 (by decide) (haft ⟨9, .data⟩ (by simp) rfl)
                unfold Oper.wp
                go_simp
                exact hK _ _ s.cls (Below.refl _ _) rfl
              | 11, ho =>
                simp only [List.getElem?_toArray, List.getElem?_cons_zero, List.getElem?_cons_succ, Option.some.injEq] at ho
                subst ho
                have e61 : a.tmps.getD 61 undef = .pointer (some ⟨g, 0, none⟩) := s.val 10 (by decide) (haft ⟨10, .data⟩ (by simp) rfl)
                have c := (s.cls.cell (p := ⟨g, 0, none⟩) LT2).trans d0
                unfold Oper.wp
                go_simp
                exact hK _ _ s.cls (Below.refl _ _) rfl
              | 12, ho =>
                simp only [List.getElem?_toArray, List.getElem?_cons_zero, List.getElem?_cons_succ, Option.some.injEq] at ho
                subst ho
                have e62 : a.tmps.getD 62 undef = .string W0 := s.val 11 (by decide) (haft ⟨11, .data⟩ (by simp) rfl)
                unfold Oper.wp
                go_simp
                exact hK _ _ s.cls (Below.refl _ _) rfl
              | 13, ho =>
                simp only [List.getElem?_toArray, List.getElem?_cons_zero, List.getElem?_cons_succ, Option.some.injEq] at ho
                subst ho
                have e7 : a.tmps.getD 7 undef = .slice (some ⟨g, 0, none⟩) m cp := s.other 7 (fun jj _ e => Inv.none_at (t := 7) (by kernel_rfl) e)
                unfold Oper.wp
                go_simp
                exact hK _ _ s.cls (Below.refl _ _) rfl
              | 14, ho =>
                simp only [List.getElem?_toArray, List.getElem?_cons_zero, List.getElem?_cons_succ, Option.some.injEq] at ho
                subst ho
                have e64 : a.tmps.getD 64 undef = .slice (some ⟨g, 0, none⟩) m cp := s.val 13 (by decide) (haft ⟨13, .data⟩ (by simp) rfl)
                unfold Oper.wp
                go_simp
                exact hK _ _ s.cls (Below.refl _ _) rfl
              | 15, ho =>
                simp only [List.getElem?_toArray, List.getElem?_cons_zero, List.getElem?_cons_succ, Option.some.injEq] at ho
                subst ho
                have e65 : a.tmps.getD 65 undef = .pointer (some ⟨g, 1, none⟩) := s.val 14 (by decide) (haft ⟨14, .data⟩ (by simp) rfl)
                have c := (s.cls.cell (p := ⟨g, 1, none⟩) LT2).trans d1
                unfold Oper.wp
                go_simp
                exact hK _ _ s.cls (Below.refl _ _) rfl
              | 16, ho =>
                simp only [List.getElem?_toArray, List.getElem?_cons_zero, List.getElem?_cons_succ, Option.some.injEq] at ho
                subst ho
                have e66 : a.tmps.getD 66 undef = .string W1 := s.val 15 (by decide) (haft ⟨15, .data⟩ (by simp) rfl)
                unfold Oper.wp
                go_simp
                exact hK _ _ s.cls (Below.refl _ _) rfl
              | 17, ho =>
                simp only [List.getElem?_toArray, List.getElem?_cons_zero, List.getElem?_cons_succ, Option.some.injEq] at ho
                subst ho
                have e63 : a.tmps.getD 63 undef = .int .i64 (W0.size : Int) := s.val 12 (by decide) (haft ⟨12, .data⟩ (by simp) rfl)
                have e67 : a.tmps.getD 67 undef = .int .i64 (W1.size : Int) := s.val 16 (by decide) (haft ⟨16, .data⟩ (by simp) rfl)
                unfold Oper.wp
                go_simp
                exact hK _ _ s.cls (Below.refl _ _) rfl
              | 18, ho =>
                simp only [List.getElem?_toArray, List.getElem?_cons_zero, List.getElem?_cons_succ, Option.some.injEq] at ho
                subst ho
                have e7 : a.tmps.getD 7 undef = .slice (some ⟨g, 0, none⟩) m cp := s.other 7 (fun jj _ e => Inv.none_at (t := 7) (by kernel_rfl) e)
                unfold Oper.wp
                go_simp
                exact hK _ _ s.cls (Below.refl _ _) rfl
              | 19, ho =>
                simp only [List.getElem?_toArray, List.getElem?_cons_zero, List.getElem?_cons_succ, Option.some.injEq] at ho
                subst ho
                have e69 : a.tmps.getD 69 undef = .slice (some ⟨g, 0, none⟩) m cp := s.val 18 (by decide) (haft ⟨18, .data⟩ (by simp) rfl)
                unfold Oper.wp
                go_simp
                exact hK _ _ s.cls (Below.refl _ _) rfl
              | 20, ho =>
                simp only [List.getElem?_toArray, List.getElem?_cons_zero, List.getElem?_cons_succ, Option.some.injEq] at ho
                subst ho
                have e70 : a.tmps.getD 70 undef = .pointer (some ⟨g, 2, none⟩) := s.val 19 (by decide) (haft ⟨19, .data⟩ (by simp) rfl)
                have c := (s.cls.cell (p := ⟨g, 2, none⟩) LT2).trans d2
                unfold Oper.wp
                go_simp
                exact hK _ _ s.cls (Below.refl _ _) rfl
              | 21, ho =>
                simp only [List.getElem?_toArray, List.getElem?_cons_zero, List.getElem?_cons_succ, Option.some.injEq] at ho
                subst ho
                have e71 : a.tmps.getD 71 undef = .string W2 := s.val 20 (by decide) (haft ⟨20, .data⟩ (by simp) rfl)
                unfold Oper.wp
                go_simp
                exact hK _ _ s.cls (Below.refl _ _) rfl
              | 22, ho =>
                simp only [List.getElem?_toArray, List.getElem?_cons_zero, List.getElem?_cons_succ, Option.some.injEq] at ho
                subst ho
                have e68 : a.tmps.getD 68 undef = .int .i64 (N1 : Int) := s.val 17 (by decide) (haft ⟨17, .data⟩ (by simp) rfl)
                have e72 : a.tmps.getD 72 undef = .int .i64 (W2.size : Int) := s.val 21 (by decide) (haft ⟨21, .data⟩ (by simp) rfl)
                unfold Oper.wp
                go_simp
                exact hK _ _ s.cls (Below.refl _ _) rfl
              | 23, ho =>
                simp only [List.getElem?_toArray, List.getElem?_cons_zero, List.getElem?_cons_succ, Option.some.injEq] at ho
                subst ho
                have e73 : a.tmps.getD 73 undef = .int .i64 (N2 : Int) := s.val 22 (by decide) (haft ⟨22, .data⟩ (by simp) rfl)
                unfold Oper.wp
                go_simp
                exact hK _ _ s.cls (Below.refl _ _) rfl
              | 24, ho =>
                simp only [List.getElem?_toArray, List.getElem?_cons_zero, List.getElem?_cons_succ, Option.some.injEq] at ho
                subst ho
                have e59 : a.tmps.getD 59 undef = .int .i64 (L.size : Int) := s.val 8 (by decide) (haft ⟨8, .data⟩ (by simp) rfl)
                have e74 : a.tmps.getD 74 undef = .int .i64 (N : Int) := s.val 23 (by decide) (haft ⟨23, .data⟩ (by simp) rfl)
                unfold Oper.wp
                go_simp
                exact hK _ _ s.cls (Below.refl _ _) (congrArg (Value.int .i64) HMM.out)
              | 25, ho =>
                simp only [List.getElem?_toArray, List.getElem?_cons_zero, List.getElem?_cons_succ, Option.some.injEq] at ho
                subst ho
                have e54 : a.tmps.getD 54 undef = .string L := s.val 3 (by decide) (haft ⟨3, .data⟩ (by simp) rfl)
                have e75 : a.tmps.getD 75 undef = .int .i64 (M : Int) := s.val 24 (by decide) (haft ⟨24, .data⟩ (by simp) rfl)
                unfold Oper.wp
                go_simp
                exact hK _ _ s.cls (Below.refl _ _) (congrArg Value.string HEE.out)
              | 26, ho =>
                simp only [List.getElem?_toArray, List.getElem?_cons_zero, List.getElem?_cons_succ, Option.some.injEq] at ho
                subst ho
                have e76 : a.tmps.getD 76 undef = .string E := s.val 25 (by decide) (haft ⟨25, .data⟩ (by simp) rfl)
                unfold Oper.wp
                go_simp
                refine (specRead E HQZ.out _).mono ?_
                rintro e w5 ⟨q, x, y, zz, lk, v5, l5, b5, rfl, ho5, hb5, hr5⟩
                exact hK _ _ (s.cls.trans (hb5.mono s.cls.size)) hb5 ⟨q, x, y, zz, lk, v5, l5, b5, rfl, ho5.mono s.cls.size, hr5⟩
              | 27, ho =>
                simp only [List.getElem?_toArray, List.getElem?_cons_zero, List.getElem?_cons_succ, Option.some.injEq] at ho
                subst ho
                obtain ⟨u, e77⟩ : ∃ u, a.tmps.getD 77 undef = u := ⟨_, rfl⟩
                have hu : ReqV w4.heap.size E u w' := by
                  have h := s.val 26 (by decide) (haft ⟨26, .data⟩ (by simp) rfl)
                  rw [← e77]; exact h
                unfold Oper.wp
                go_simp
                exact hK _ _ s.cls (Below.refl _ _) hu
              | 28, ho =>
                simp only [List.getElem?_toArray, List.getElem?_cons_zero, List.getElem?_cons_succ, Option.some.injEq] at ho
                subst ho
                obtain ⟨u, e50⟩ : ∃ u, a.tmps.getD 50 undef = u := ⟨_, rfl⟩
                have hu : ReqV w4.heap.size E u w' := by
                  have h := s.val 27 (by decide) (haft ⟨27, .data⟩ (by simp) rfl)
                  rw [← e50]; exact h
                obtain ⟨q, x, y, zz, lk, v5, l5, b5, rfl, ho5, hr5⟩ := hu
                unfold Oper.wp
                go_simp
                exact hK _ _ s.cls (Below.refl _ _) ⟨q, x, y, zz, lk, v5, l5, b5, rfl, ho5, hr5⟩
              | 29, ho => exact absurd rfl hil
              | 30, ho =>
                simp only [List.getElem?_toArray, List.getElem?_cons_zero, List.getElem?_cons_succ, Option.some.injEq] at ho
                subst ho
                unfold Oper.wp
                go_simp
                refine hK _ _ (s.cls.alloc s.cls.size _) ((Below.refl _ _).alloc (Nat.le_refl _) _) ⟨_, _, _, _, _, _, _, rfl, s.cls.size, Bx.new _ _ _⟩
              | 31, ho => exact absurd rfl hip
              | n + 32, ho => omega
            · intro o ho a w hC hv K hK
              simp only [List.getElem?_toArray, List.getElem?_cons_zero, List.getElem?_cons_succ, Option.some.injEq] at ho
              subst ho
              obtain ⟨h, c0, c1, c2, c3, c4, c5, e9, hBh, hbx⟩ : R13 gl n cpl k g m cp N1 N2 N M w4.heap.size L W0 W1 W2 E 30 (a.tmps.getD 9 undef) w := hv 30 (by decide) (by decide) (by decide)
              have hA : R13 gl n cpl k g m cp N1 N2 N M w4.heap.size L W0 W1 W2 E 28 (a.tmps.getD 78 undef) w := hv 28 (by decide) (by decide) (by decide)
              obtain ⟨q, x, y, zz, lk, v5, l5, b5, e78, ho5, hr5⟩ := hA
              obtain ⟨ad5, cp5, rfl⟩ := ho5.slice
              obtain ⟨f0, f1, f2, f3, f4, f5⟩ := hbx.cells6
              have y0 := hbx.warm 0
              have y1 := hbx.warm 1
              have y2 := hbx.warm 2
              have y3 := hbx.warm 3
              have y4 := hbx.warm 4
              have y5 := hbx.warm 5
              have hX := bx_fill hbx (.bool q) (.int .i64 x) (.int .i64 y) (.int .i64 zz) (.bool lk) (.slice ad5 l5.length cp5)
              unfold Oper.wp
              go_simp
              refine hK undef _ (fill_below hC hBh _ _ _ _ _ _) ⟨h, _, _, _, _, _, _, e9, e78, hBh, hX⟩ (fun j u hj => R13.fill hbx j u hj _ _ _ _ _ _)
            · intro o ho listed a w s haft K hK
              simp only [List.getElem?_toArray, List.getElem?_cons_zero, List.getElem?_cons_succ, Option.some.injEq] at ho
              subst ho
              obtain ⟨u, e50⟩ : ∃ u, a.tmps.getD 50 undef = u := ⟨_, rfl⟩
              have hu : ReqV w4.heap.size E u w := by
                have h := s.val 27 (by decide) (haft ⟨27, .data⟩ (by simp) rfl)
                rw [← e50]; exact h
              obtain ⟨q, x, y, zz, lk, v5, l5, b5, rfl, ho5, hr5⟩ := hu
              unfold Oper.wp
              go_simp
              exact hK _ trivial
            · intro f w5 o ho hC hv hJ
              obtain ⟨h, c0, c1, c2, c3, c4, c5, e9, e78, hBh, hbx⟩ := hJ
              have hA : R13 gl n cpl k g m cp N1 N2 N M w4.heap.size L W0 W1 W2 E 28 (f 78) w5 := hv 28 (by decide)
              obtain ⟨q, x, y, zz, lk, v5, l5, b5, e78b, ho5, hr5⟩ := hA
              rw [e78] at e78b
              simp only [Value.agg.injEq, Array.mk.injEq, List.cons.injEq, and_true] at e78b
              obtain ⟨rfl, rfl, rfl, rfl, rfl, rfl⟩ := e78b
              obtain ⟨ad5, cp5, rfl⟩ := ho5.slice
              simp only [Inv.setAll, List.setIfInBounds_toArray, List.set_cons_zero, List.set_cons_succ]
              rw [e9]
              simp only [List.getElem?_toArray, List.getElem?_cons_zero, List.getElem?_cons_succ, Option.some.injEq] at ho
              subst ho
              clear hv e9 e78
              have HBX := Lib.hid hbx
              have HO5 := Lib.hid ho5
              have HR5 := Lib.hid hr5
              have HC5 := Lib.hid hC
              clear hbx ho5 hr5 hC c1 d0 d1 d2
              unfold Oper.wp
              go_simp
              obtain ⟨zp, zw, zs⟩ := z
              obtain ⟨a0, p0, a1, p1, a2, p2, F0, F1, F2, eu, cc0, cc1, cc2, s0, s1, s2, d01, d02, d12⟩ := cap_script (scriptK.cap_top H3.out.cap)
              simp only [List.cons.injEq, and_true] at eu
              obtain ⟨rfl, rfl, rfl⟩ := eu
              have h35 : Below w3.heap.size w3 w5 := H34.out.trans (HC5.out.mono H34.out.size)
              have X5 := Lib.hid (H4.out.xb.later HC5.out)
              have RB5 := Lib.hid (H4.out.rb.later HC5.out)
              have CC0 := Lib.hid (postS.cap_later cc0 h35)
              have CC1 := Lib.hid (ints.cap_later cc1 h35)
              have CC2 := Lib.hid (ints.cap_later cc2 h35)
              have S0 : Hid (∀ k, F0 k → w2.heap.size ≤ k ∧ k < w4.heap.size) := Lib.hid (fun k hk => ⟨(s0 k hk).1, Nat.lt_of_lt_of_le (s0 k hk).2 H34.out.size⟩)
              have S03 := Lib.hid s0
              have S1 := Lib.hid s1
              have S2 := Lib.hid s2
              have D01 := Lib.hid d01
              have D02 := Lib.hid d02
              have D12 := Lib.hid d12
              have hl5 := rq_len8 HR5.out
              have HPC := Lib.hid (post_cap (x0 := a) (x1 := b) (x20 := q) (x21 := x) (x22 := y) (x23 := zz) (x24 := lk) (cap_own HO5.out (by omega)) (fun k hk => hk))
              have H1c := Lib.hid (post_one a b q x y zz lk ad5 l5.length cp5)
              have HL4 := Lib.hid (show zp.length + 1 ≤ 4000000 by have := H4.out.l0; dsimp only at this; omega)
              obtain ⟨xc0, xc1, xc2⟩ := bx3 X5.out
              obtain ⟨hq0, hq1, hq2, hq3, hq4, hq5⟩ := HBX.out.cells6
              have i0 := (HC5.out.cell (p := ⟨gn, 0, none⟩) HIN.out.2.1).trans HIN.out.2.2.1
              have i1 := (HC5.out.cell (p := ⟨gn, 1, none⟩) HIN.out.2.1).trans HIN.out.2.2.2
              have NX := Lib.hid (show ¬ F0 (w.heap.size + 1) from fun hf => by have := (S0.out _ hf).1; omega)
              have NR := Lib.hid (show ¬ F0 w.heap.size from fun hf => by have := (S0.out _ hf).1; omega)
              have LG := Lib.hid (show gn < w5.heap.size from Nat.lt_of_lt_of_le HIN.out.2.1 HC5.out.size)
              have NG := Lib.hid (show ¬ F0 gn from fun hf => by have := (S03.out _ hf).2; omega)
              have NH := Lib.hid (show ¬ F0 h from fun hf => by have := (S0.out _ hf).2; omega)
              have hf45 : Hid (w4.heap.size ≤ w5.heap.size) := Lib.hid HC5.out.size
              clear cc0 cc1 cc2 s0 s1 s2 d01 d02 d12 h35
              go_upto_region 14 with fail
              refine Inv.region_tailJ 13 11 (by decide) [80, 81, 82, 83, 84, 85, 86, 87, 88, 89, 90, 91, 92] (by kernel_rfl) (by kernel_rfl) (by kernel_rfl) (by kernel_rfl) (by kernel_rfl) (C14 F0 w5) (R14 w.heap.size gn cpn a0 p0 zp a b q x y zz lk ad5 l5 cp5 w5.heap.size (fun j => F0 j ∨ w4.heap.size ≤ j)) ?_ ((Below.refl _ _).drew) ?_ ?_
              · intro i v w' hi
                exact R14.none i v w' (none14 (by kernel_rfl) i hi)
              · intro i o ho hi16 listed ac w' s hcl hln hl haft K hK
                have hT := hcl.turn
                have h45 := hf45.out
                match i, ho with
                | 0, ho =>
                  simp only [List.getElem?_toArray, List.getElem?_cons_zero, Option.some.injEq] at ho
                  subst ho
                  have e4 : ac.tmps.getD 4 undef = .pointer (some ⟨w.heap.size + 1, 0, none⟩) := s.other 4 (fun jj _ e => Inv.none_at (t := 4) (by kernel_rfl) e)
                  unfold Oper.wp
                  go_simp
                  exact hK _ _ (by rw [if_neg (by decide)]; exact hcl) (fun _ _ _ hj => hj) rfl
                | 1, ho =>
                  simp only [List.getElem?_toArray, List.getElem?_cons_zero, List.getElem?_cons_succ, Option.some.injEq] at ho
                  subst ho
                  have e80 : ac.tmps.getD 80 undef = .pointer (some ⟨w.heap.size + 1, 0, none⟩) := s.val 0 (by decide) (haft ⟨0, .data⟩ (by simp) rfl)
                  have c := (turn_cell hT (i := 0) X5.out.lt NX.out).trans xc0
                  unfold Oper.wp
                  go_simp
                  exact hK _ _ (by rw [if_neg (by decide)]; exact hcl) (fun _ _ _ hj => hj) rfl
                | 2, ho =>
                  simp only [List.getElem?_toArray, List.getElem?_cons_zero, List.getElem?_cons_succ, Option.some.injEq] at ho
                  subst ho
                  have e8 : ac.tmps.getD 8 undef = .slice (some ⟨gn, 0, none⟩) 2 cpn := s.other 8 (fun jj _ e => Inv.none_at (t := 8) (by kernel_rfl) e)
                  unfold Oper.wp
                  go_simp
                  exact hK _ _ (by rw [if_neg (by decide)]; exact hcl) (fun _ _ _ hj => hj) rfl
                | 3, ho =>
                  simp only [List.getElem?_toArray, List.getElem?_cons_zero, List.getElem?_cons_succ, Option.some.injEq] at ho
                  subst ho
                  have e82 : ac.tmps.getD 82 undef = .slice (some ⟨gn, 0, none⟩) 2 cpn := s.val 2 (by decide) (haft ⟨2, .data⟩ (by simp) rfl)
                  unfold Oper.wp
                  go_simp
                  exact hK _ _ (by rw [if_neg (by decide)]; exact hcl) (fun _ _ _ hj => hj) rfl
                | 4, ho =>
                  simp only [List.getElem?_toArray, List.getElem?_cons_zero, List.getElem?_cons_succ, Option.some.injEq] at ho
                  subst ho
                  have e83 : ac.tmps.getD 83 undef = .pointer (some ⟨gn, 0, none⟩) := s.val 3 (by decide) (haft ⟨3, .data⟩ (by simp) rfl)
                  have c := (turn_cell hT (i := 0) LG.out NG.out).trans i0
                  unfold Oper.wp
                  go_simp
                  exact hK _ _ (by rw [if_neg (by decide)]; exact hcl) (fun _ _ _ hj => hj) rfl
                | 5, ho =>
                  simp only [List.getElem?_toArray, List.getElem?_cons_zero, List.getElem?_cons_succ, Option.some.injEq] at ho
                  subst ho
                  have e8 : ac.tmps.getD 8 undef = .slice (some ⟨gn, 0, none⟩) 2 cpn := s.other 8 (fun jj _ e => Inv.none_at (t := 8) (by kernel_rfl) e)
                  unfold Oper.wp
                  go_simp
                  exact hK _ _ (by rw [if_neg (by decide)]; exact hcl) (fun _ _ _ hj => hj) rfl
                | 6, ho =>
                  simp only [List.getElem?_toArray, List.getElem?_cons_zero, List.getElem?_cons_succ, Option.some.injEq] at ho
                  subst ho
                  have e85 : ac.tmps.getD 85 undef = .slice (some ⟨gn, 0, none⟩) 2 cpn := s.val 5 (by decide) (haft ⟨5, .data⟩ (by simp) rfl)
                  unfold Oper.wp
                  go_simp
                  exact hK _ _ (by rw [if_neg (by decide)]; exact hcl) (fun _ _ _ hj => hj) rfl
                | 7, ho =>
                  simp only [List.getElem?_toArray, List.getElem?_cons_zero, List.getElem?_cons_succ, Option.some.injEq] at ho
                  subst ho
                  have e86 : ac.tmps.getD 86 undef = .pointer (some ⟨gn, 1, none⟩) := s.val 6 (by decide) (haft ⟨6, .data⟩ (by simp) rfl)
                  have c := (turn_cell hT (i := 1) LG.out NG.out).trans i1
                  unfold Oper.wp
                  go_simp
                  exact hK _ _ (by rw [if_neg (by decide)]; exact hcl) (fun _ _ _ hj => hj) rfl
                | 8, ho =>
                  simp only [List.getElem?_toArray, List.getElem?_cons_zero, List.getElem?_cons_succ, Option.some.injEq] at ho
                  subst ho
                  have e9 : ac.tmps.getD 9 undef = .pointer (some ⟨h, 0, none⟩) := s.other 9 (fun jj _ e => Inv.none_at (t := 9) (by kernel_rfl) e)
                  have c0 := (turn_cell hT (i := 0) HBX.out.lt NH.out).trans hq0
                  have c1 := (turn_cell hT (i := 1) HBX.out.lt NH.out).trans hq1
                  have c2 := (turn_cell hT (i := 2) HBX.out.lt NH.out).trans hq2
                  have c3 := (turn_cell hT (i := 3) HBX.out.lt NH.out).trans hq3
                  have c4 := (turn_cell hT (i := 4) HBX.out.lt NH.out).trans hq4
                  have c5 := (turn_cell hT (i := 5) HBX.out.lt NH.out).trans hq5
                  unfold Oper.wp
                  go_simp
                  exact hK _ _ (by rw [if_neg (by decide)]; exact hcl) (fun _ _ _ hj => hj) rfl
                | 9, ho =>
                  simp only [List.getElem?_toArray, List.getElem?_cons_zero, List.getElem?_cons_succ, Option.some.injEq] at ho
                  subst ho
                  have e84 : ac.tmps.getD 84 undef = .int .i64 a := s.val 4 (by decide) (haft ⟨4, .data⟩ (by simp) rfl)
                  have e87 : ac.tmps.getD 87 undef = .int .i64 b := s.val 7 (by decide) (haft ⟨7, .data⟩ (by simp) rfl)
                  have e88 : ac.tmps.getD 88 undef = .agg #[.bool q, .int .i64 x, .int .i64 y, .int .i64 zz, .bool lk, .slice ad5 l5.length cp5] := s.val 8 (by decide) (haft ⟨8, .data⟩ (by simp) rfl)
                  rw [Array.getD_eq_getD_getElem?] at e84 e87 e88
                  unfold Oper.wp
                  go_simp
                  exact hK _ _ (by rw [if_neg (by decide)]; exact hcl) (fun _ _ _ hj => hj) rfl
                | 10, ho =>
                  simp only [List.getElem?_toArray, List.getElem?_cons_zero, List.getElem?_cons_succ, Option.some.injEq] at ho
                  subst ho
                  have e89 : ac.tmps.getD 89 undef = .agg #[.int .i64 a, .int .i64 b, .bool q, .int .i64 x, .int .i64 y, .int .i64 zz, .bool lk, .slice ad5 l5.length cp5] := s.val 9 (by decide) (haft ⟨9, .data⟩ (by simp) rfl)
                  rw [Array.getD_eq_getD_getElem?] at e89
                  unfold Oper.wp
                  go_simp
                  exact hK _ _ (by rw [if_neg (by decide)]; exact C14.alloc hcl _) (fun j u _ hj => R14.later ((Below.refl _ _).alloc (Nat.le_refl _) _) j u hj) ⟨_, rfl, hT.size, heap_alloc_new _ _⟩
                | 11, ho =>
                  simp only [List.getElem?_toArray, List.getElem?_cons_zero, List.getElem?_cons_succ, Option.some.injEq] at ho
                  subst ho
                  have e81 : ac.tmps.getD 81 undef = .slice a0 zp.length p0 := s.val 1 (by decide) (haft ⟨1, .data⟩ (by simp) rfl)
                  have hn11 : listed.getD 11 false = false := by
                    have := hl; cases hc : listed.getD 11 false with
                    | false => rfl
                    | true => rw [Inv.getD_both' this] at hc; cases hc
                  have hbl : Below w5.heap.size w5 w' := by rw [hn11] at hcl; exact hcl
                  obtain ⟨g9, e90, hg9, hgc⟩ : R14 w.heap.size gn cpn a0 p0 zp a b q x y zz lk ad5 l5 cp5 w5.heap.size (fun j => F0 j ∨ w4.heap.size ≤ j) 10 (ac.tmps.getD 90 undef) w' := s.val 10 (by decide) (haft ⟨10, .data⟩ (by simp) rfl)
                  refine wp_appRow2 22 39 Tryz.underlying22 elPost (.tmp 81) (.tmp 90) rfl F0 (fun k => w4.heap.size ≤ k ∧ k < w5.heap.size) (.slice a0 zp.length p0) zp (a, b, q, x, y, zz, lk, l5) #[.int .i64 a, .int .i64 b, .bool q, .int .i64 x, .int .i64 y, .int .i64 zz, .bool lk, .slice ad5 l5.length cp5] g9 w' e81 e90 hgc (postS.cap_later CC0.out hbl) (postK.cap_later (postK.cap_top HPC.out) hbl) (fun k _ h1 h2 => by have := (S0.out k h2).2; have := h1.1; omega) H1c.out HL4.out (fun v7 w7 hcap7 ht7 => ?_)
                  obtain ⟨a7, p7, ev7, _, _⟩ := row_form (postS.cap_rd hcap7)
                  rw [List.length_append, List.length_singleton] at ev7
                  have ev8 : v7 = .slice a7 (zp.length + 1) p7 := by simpa using ev7
                  refine hK _ _ ?_ (fun j u hj hjj => R14.step ht7 (fun k hk => by have := (S0.out k hk).2; omega) j u hj hjj) ⟨a7, p7, ev8, postS.cap_wide hcap7 (fun k _ hk => ?_)⟩
                  · rw [if_pos rfl]
                    exact (Turn.later hbl).trans ht7
                  · rcases hk with hk | hk | hk
                    · exact .inl hk
                    · exact .inr hk.1
                    · exact .inr (Nat.le_trans HC5.out.size (Nat.le_trans hbl.size hk))
                | 12, ho =>
                  simp only [List.getElem?_toArray, List.getElem?_cons_zero, List.getElem?_cons_succ, Option.some.injEq] at ho
                  subst ho
                  have e4 : ac.tmps.getD 4 undef = .pointer (some ⟨w.heap.size + 1, 0, none⟩) := s.other 4 (fun jj _ e => Inv.none_at (t := 4) (by kernel_rfl) e)
                  unfold Oper.wp
                  go_simp
                  exact hK _ _ (by rw [if_neg (by decide)]; exact hcl) (fun _ _ _ hj => hj) rfl
                | n + 13, ho => omega
              · intro f w6 o ho hC hv
                have hT : Turn F0 w5 w6 := hC.turn
                obtain ⟨a7, p7, e91, hcap7⟩ : R14 w.heap.size gn cpn a0 p0 zp a b q x y zz lk ad5 l5 cp5 w5.heap.size (fun j => F0 j ∨ w4.heap.size ≤ j) 11 (f 91) w6 := hv 11 (by decide)
                have e92 : f 92 = .pointer (some ⟨w.heap.size + 1, 0, none⟩) := hv 12 (by decide)
                simp only [Inv.setAll, List.setIfInBounds_toArray, List.set_cons_zero, List.set_cons_succ]
                rw [e91] at hcap7
                rw [e91, e92]
                simp only [List.getElem?_toArray, List.getElem?_cons_zero, List.getElem?_cons_succ, Option.some.injEq] at ho
                subst ho
                have X6 := bx_turn X5.out hT NX.out
                have RB6 := bx_turn RB5.out hT NR.out
                have xw := X6.warm 0
                obtain ⟨y0, y1, y2⟩ := bx3 X6
                have hne : w.heap.size + 1 < w2.heap.size := by omega
                have H9 : Hid (RSt w.heap.size w2.heap.size w2 (w6.setCell ⟨w.heap.size + 1, 0, none⟩ (.slice a7 (zp.length + 1) p7)) ls (k + 1) (zp ++ [(a, b, q, x, y, zz, lk, l5)], zw, zs) (.slice a7 (zp.length + 1) p7) (.slice a1 zw.length p1) (.slice a2 zs.length p2)) := by
                  have h := H3.out
                  have hh4 := H34.out.size
                  refine Lib.hid ⟨?_, X6.set 0 _, RB6.far (p := ⟨w.heap.size + 1, 0, none⟩) (by dsimp only; omega) _, ?_, ?_, h.l1, h.l2, ?_⟩
                  · rw [HLN.out]
                    exact h.pl.snoc (by rw [HWS.out]; exact .inr (.inr (.inl ⟨by rw [HW0.out]; exact hwa, by rw [HW0.out]; exact hsa, by rw [HM.out]; exact h3, a, b, (q, x, y, zz, lk, l5), b5, by rw [HW1.out]; exact HNA.out, by rw [HW2.out]; exact HNB.out, by rw [HE.out]; exact HR5.out, rfl⟩)))
                  · refine script_cap (Fx0 := fun j => F0 j ∨ w4.heap.size ≤ j) (Fx1 := F1) (Fx2 := F2) (postS.cap_set hcap7 (fun hf => hf.elim NX.out (fun h => by dsimp only at h; omega)) _) (ints.cap_set (ints.cap_turn CC1.out hT (fun j _ h1 h2 => D01.out j h2 h1)) (fun hf => by have := (S1.out _ hf).1; dsimp only at this; omega) _) (ints.cap_set (ints.cap_turn CC2.out hT (fun j _ h1 h2 => D02.out j h2 h1)) (fun hf => by have := (S2.out _ hf).1; dsimp only at this; omega) _) (fun j hj => ?_) (fun j hj => (S1.out j hj).1) (fun j hj => (S2.out j hj).1) (fun j hj hj2 => ?_) (fun j hj hj2 => ?_) D12.out
                    · rcases hj with hj | hj
                      · exact (S0.out j hj).1
                      · omega
                    · rcases hj with hj | hj
                      · exact D01.out j hj hj2
                      · have := (S1.out j hj2).2; omega
                    · rcases hj with hj | hj
                      · exact D02.out j hj hj2
                      · have := (S2.out j hj2).2; omega
                  · have := h.l0
                    dsimp only at this ⊢
                    rw [List.length_append, List.length_singleton]; omega
                  · refine ((H4.out.turn.trans ((Turn.of HC5.out).wide (fun j hj => .inr (by omega)))).trans (hT.wide (fun j hj => .inr (S0.out j hj).1))).set (.inl rfl) _
                clear hv e91 e92 hcap7 hC X6 RB6 hT
                unfold Oper.wp
                go_simp
                generalize w6.setCell ⟨w.heap.size + 1, 0, none⟩ (.slice a7 (zp.length + 1) p7) = w8 at H9 ⊢
                go_wp2_with fail
                go_roundw
                case rel => exact ⟨k + 1, _, _, _, _, by omega, by go_num, H9⟩
                case measure => simp [intOf]; omega
          · go_wp2_with fail
            go_roundw
            case rel =>
              have h := H3.out
              exact ⟨k + 1, z, u0, u1, u2, by omega, by go_num, Lib.hid ⟨by rw [HLN.out]; exact h.pl.snoc (by rw [HWS.out]; exact .inr (.inr (.inr ⟨by rw [HW0.out]; exact hwa, by rw [HW0.out]; exact hsa, by rw [HM.out]; omega, rfl⟩))), h.xb, h.rb, h.cap, Nat.le_succ_of_le h.l0, h.l1, h.l2, h.turn⟩⟩
            case measure => simp [intOf]; omega
    · obtain rfl : k = n := by omega
      have hpl : PLs (Cut.cutWs 10 s) ([], [], []) z := by
        have := H.out.pl
        rwa [List.take_of_length_le (by rw [HN.out]; exact Nat.le_refl _), ← HLS.out] at this
      have HPL := Lib.hid hpl
      have HOK := Lib.hid (hpl.ok ok_nil)
      obtain ⟨z0, z1, z2⟩ := z
      obtain ⟨a0, p0, a1, p1, a2, p2, e, -, -, -⟩ := script_form (scriptK.cap_rd H.out.cap)
      simp only [List.cons.injEq, and_true] at e
      obtain ⟨rfl, rfl, rfl⟩ := e
      have g0 := H.out.xb.cell 0 _ rfl
      have g1 := H.out.xb.cell 1 _ rfl
      have g2 := H.out.xb.cell 2 _ rfl
      have HL0 := Lib.hid (show z0.length ≤ 2000000 from Nat.le_trans H.out.l0 (by omega))
      have HL1 := Lib.hid (show z1.length ≤ 2000000 from Nat.le_trans H.out.l1 (by omega))
      have HL2 := Lib.hid (show z2.length ≤ 2000000 from Nat.le_trans H.out.l2 (by omega))
      have HRD := Lib.hid (scriptK.cap_rd H.out.cap)
      clear hpl
      go_wp2_with fail
      refine (specScriptText _ (z0, z1, z2) HOK.out HL0.out HL1.out HL2.out _ HRD.out).mono ?_
      rintro e w5 ⟨rfl, hb⟩
      have RB := Lib.hid (H.out.rb.later hb)
      have XB := Lib.hid (H.out.xb.later hb)
      have HC := Lib.hid (scriptK.cap_later H.out.cap hb)
      have HB5 := Lib.hid ((HB2.out.trans (H.out.turn.below HB2.out.size (fun j hj => by omega))).trans (hb.mono (Nat.le_trans HB2.out.size H.out.turn.size)))
      clear g0 g1 g2 hb
      have g0 := XB.out.cell 0 _ rfl
      have g1 := XB.out.cell 1 _ rfl
      have g2 := XB.out.cell 2 _ rfl
      obtain ⟨b0, b1, b2⟩ := bx3 RB.out
      have f0 := RB.out.warm 0
      have f1 := RB.out.warm 1
      have f2 := RB.out.warm 2
      obtain ⟨T, hT⟩ : ∃ T, BA (sT (z0, z1, z2)) = T := ⟨_, rfl⟩
      have HT := Lib.hid hT
      rw [hT]
      clear hT
      by_cases hTs : T = s
      · have q1 : (T.toList != s.toList) = false := by rw [hTs]; simp
        have q2 : (T.toList == s.toList) = true := by rw [hTs]; simp
        have HR := Lib.hid (RS.yes HPL.out (show sT (z0, z1, z2) = s.data.toList by rw [← hTs, ← HT.out, BA_data]))
        clear hTs
        go_wp2_with fail
        obtain ⟨e0, e1, e2⟩ := bx3 (show Bx 25 w.heap.size #[.slice a0 z0.length p0, .slice a1 z1.length p1, .slice a2 z2.length p2] _ from ((RB.out.set 0 (.slice a0 z0.length p0)).set 1 (.slice a1 z1.length p1)).set 2 (.slice a2 z2.length p2))
        refine bodyPost_ret (v := .tuple #[.agg #[.slice a0 z0.length p0, .slice a1 z1.length p1, .slice a2 z2.length p2], .bool true]) (by simp [results, Tryz.results4, go_sem, e0, e1, e2]) rfl ?_
        refine ScP.mk (z := (z0, z1, z2)) (b := true) rfl ?_ ?_ HR.out
        · refine scriptK.cap_wide (F := fun j => w2.heap.size ≤ j) ?_ (fun j _ hj => Nat.le_trans HB2.out.size hj)
          iterate 3 refine scriptK.cap_set ?_ (by dsimp only; omega) _
          exact HC.out
        · iterate 3 refine Below.setCell ?_ (by exact Nat.le_refl _) _
          exact HB5.out
      · have q1 : (T.toList != s.toList) = true := by
          rw [bne_iff_ne]; intro e; apply hTs
          rw [ByteArray.toList_eq, ByteArray.toList_eq] at e
          exact ba_inj e
        have q2 : (T.toList == s.toList) = false := by
          rw [beq_eq_false_iff_ne]; intro e; apply hTs
          rw [ByteArray.toList_eq, ByteArray.toList_eq] at e
          exact ba_inj e
        have HR := Lib.hid (RS.no HPL.out (show sT (z0, z1, z2) ≠ s.data.toList by intro e; apply hTs; rw [← HT.out]; exact ba_inj (by rw [BA_data]; exact e)))
        clear hTs
        go_wp2_with fail
        obtain ⟨e0, e1, e2⟩ := bx3 (show Bx 25 w.heap.size #[.slice none 0 0, .slice none 0 0, .slice none 0 0] _ from ((RB.out.set 0 (.slice none 0 0)).set 1 (.slice none 0 0)).set 2 (.slice none 0 0))
        refine bodyPost_ret (v := .tuple #[.agg #[.slice none 0 0, .slice none 0 0, .slice none 0 0], .bool false]) (by simp [results, Tryz.results4, go_sem, e0, e1, e2]) rfl ?_
        refine ScP.mk (z := ([], [], [])) (b := false) rfl ?_ ?_ HR.out
        · exact script_cap (Fx0 := fun _ => False) (Fx1 := fun _ => False) (Fx2 := fun _ => False) (row_nil _ _) (row_nil _ _) (row_nil _ _) (fun _ h => h.elim) (fun _ h => h.elim) (fun _ h => h.elim) (fun _ h => h.elim) (fun _ h => h.elim) (fun _ h => h.elim)
        · iterate 3 refine Below.setCell ?_ (by exact Nat.le_refl _) _
          exact HB5.out
end Go.Proofs.YtfpnflhkfpolcaaGreatDoor.Num
