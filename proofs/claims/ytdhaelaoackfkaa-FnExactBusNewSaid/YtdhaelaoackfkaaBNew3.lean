
/-
  BusNew of the program. (Made by wip/gbnew.py.)
-/
import Derived.Test.YtdhaelaoackfkaaBNew2
import Derived.Test.YtdhaelaoackfkaaAppJ
import Derived.Test.YtdhaelaoackfkaaGInv13
import Derived.Laws.Rows
import Derived.Laws.Tables
import Derived.Deep.Cut
namespace Go.Proofs.Ytdhaelaoackfkaa.KD
open Go.RowKit Rows3 GR Num
set_option linter.unusedVariables false
theorem info_iMstN : (Try.prog.info? 70).map (fun i => (i.zero, i.size, decide (i.bytes ≤ 1000))) = some (some (.agg #[.slice none 0 0, .int .i64 0, .int .i64 0, .int .i64 0, .bool false, .bool false]), 6, true) := by kernel_rfl
/-- a block that operation i of the statement has made. -/
def TG (B : Nat) (tag : Nat → Nat) (i : Nat) : Foot := fun k => B ≤ k ∧ tag k = i
/-- what each operation of the statement that builds the new bus leaves. -/
def NB (B bC n : Nat) (a0 : Option Addr) (p0 : Nat) (l : List (Int × Bool × Int × Int)) (q mw mr ms lm : Int) (tag : Nat → Nat) : Nat → Value → World → Prop
  | 0, v, _ => v = .agg #[.slice a0 n p0, .int .i64 q, .int .i64 mw, .int .i64 mr, .int .i64 ms, .int .i64 lm]
  | 1, v, w => ∃ a1 p1, v = .agg #[.slice a1 n p1, .int .i64 q, .int .i64 mw, .int .i64 mr, .int .i64 ms, .int .i64 lm] ∧ mConfS.cap (TG B tag 1) [.slice a1 n p1] l w
  | 2, v, _ => v = .pointer (some ⟨bC, 0, none⟩)
  | 3, v, _ => v = .slice a0 n p0
  | 4, v, _ => v = .int .i64 (n : Int)
  | 5, v, w => ∃ am, v = .slice am n n ∧ mstS.cap (TG B tag 5) [.slice am n n] (List.replicate n mst0) w
  | 6, v, _ => v = .pointer (some ⟨bC, 0, none⟩)
  | 7, v, _ => v = .slice a0 n p0
  | 8, v, _ => v = .int .i64 (n : Int)
  | 9, v, w => ∃ am, v = .slice am n n ∧ ints.cap (TG B tag 9) [.slice am n n] (List.replicate n 0) w
  | 10, v, w => ∃ b0 q0 b1 q1 b2 q2, v = .agg #[.slice b0 192 q0, .slice b1 4 q1, .int .i64 0, .slice b2 0 q2] ∧ modelK.cap (TG B tag 10) [.slice b0 192 q0, .slice b1 4 q1, .int .i64 0, .slice b2 0 q2] (List.replicate 192 0, ([0, 0, 0, 0], 0, [])) w
  | 11, v, w => ∃ a1 p1 am az b0 q0 b1 q1 b2 q2, v = .agg (busA (.slice a1 n p1) q mw mr ms lm (.slice am n n) (.slice none 0 0) (.slice az n n) (-1) (-1) (.slice b0 192 q0) (.slice b1 4 q1) (.slice b2 0 q2)) ∧ mConfS.cap (TG B tag 1) [.slice a1 n p1] l w ∧ mstS.cap (TG B tag 5) [.slice am n n] (List.replicate n mst0) w ∧ ints.cap (TG B tag 9) [.slice az n n] (List.replicate n 0) w ∧ modelK.cap (TG B tag 10) [.slice b0 192 q0, .slice b1 4 q1, .int .i64 0, .slice b2 0 q2] (List.replicate 192 0, ([0, 0, 0, 0], 0, [])) w
  | 12, v, w => ∃ g, v = .pointer (some ⟨g, 0, none⟩) ∧ B ≤ g ∧ tag g = 12 ∧ Bx 42 g (busA (.slice none 0 0) 0 0 0 0 0 (.slice none 0 0) (.slice none 0 0) (.slice none 0 0) 0 0 (.slice none 0 0) (.slice none 0 0) (.slice none 0 0)) w
  | _, _, _ => True
theorem TG.on {α : Type} {K : Kn α} {B i : Nat} {tag tag' : Nat → Nat} {cs : List Value} {x : α} {w w' : World} (h : K.cap (TG B tag i) cs x w) (hb : Below w.heap.size w w') (ht : ∀ k, k < w.heap.size → tag' k = tag k) : K.cap (TG B tag' i) cs x w' :=
  K.cap_later (K.cap_wide h (fun k hk hf => ⟨hf.1, (ht k hk).trans hf.2⟩)) hb
theorem TG.mk {α : Type} {K : Kn α} {B i : Nat} {tag : Nat → Nat} {cs : List Value} {x : α} {w w' : World} (h : K.cap (fun k => w.heap.size ≤ k) cs x w') (hB : B ≤ w.heap.size) : K.cap (TG B (Inv.tagOn tag w i) i) cs x w' :=
  K.cap_wide h (fun k _ hf => ⟨Nat.le_trans hB hf, Inv.tagOn_new hf⟩)
theorem NB.later {B bC n : Nat} {a0 : Option Addr} {p0 : Nat} {l : List (Int × Bool × Int × Int)} {q mw mr ms lm : Int} (tag tag' : Nat → Nat) (i : Nat) (v : Value) (w w' : World) (hb : Below w.heap.size w w') (ht : ∀ k, k < w.heap.size → tag' k = tag k) (h : NB B bC n a0 p0 l q mw mr ms lm tag i v w) : NB B bC n a0 p0 l q mw mr ms lm tag' i v w' := by
  match i, h with
  | 0, h => exact h
  | 1, h => obtain ⟨a1, p1, e, c⟩ := h; exact ⟨a1, p1, e, TG.on c hb ht⟩
  | 2, h => exact h
  | 3, h => exact h
  | 4, h => exact h
  | 5, h => obtain ⟨am, e, c⟩ := h; exact ⟨am, e, TG.on c hb ht⟩
  | 6, h => exact h
  | 7, h => exact h
  | 8, h => exact h
  | 9, h => obtain ⟨am, e, c⟩ := h; exact ⟨am, e, TG.on c hb ht⟩
  | 10, h => obtain ⟨b0, q0, b1, q1, b2, q2, e, c⟩ := h; exact ⟨b0, q0, b1, q1, b2, q2, e, TG.on c hb ht⟩
  | 11, h => obtain ⟨a1, p1, am, az, b0, q0, b1, q1, b2, q2, e, c1, c2, c3, c4⟩ := h; exact ⟨a1, p1, am, az, b0, q0, b1, q1, b2, q2, e, TG.on c1 hb ht, TG.on c2 hb ht, TG.on c3 hb ht, TG.on c4 hb ht⟩
  | 12, h => obtain ⟨g, e, hB, hg, hx⟩ := h; exact ⟨g, e, hB, (ht g hx.lt).trans hg, hx.later hb⟩
  | n + 13, _ => exact trivial
theorem NB.none {B bC n : Nat} {a0 : Option Addr} {p0 : Nat} {l : List (Int × Bool × Int × Int)} {q mw mr ms lm : Int} (tag : Nat → Nat) (i : Nat) (v : Value) (w : World) (h : 13 ≤ i) : NB B bC n a0 p0 l q mw mr ms lm tag i v w := by
  obtain ⟨n, rfl⟩ : ∃ n, i = n + 13 := ⟨i - 13, by omega⟩
  exact trivial
theorem bus_built {n : Nat} (a1 am az b0 b1 b2 : Option Addr) (p1 q0 q1 q2 : Nat) (q mw mr ms lm : Int) : Try.prog.built 42 [(0, .agg #[.slice a1 n p1, .int .i64 q, .int .i64 mw, .int .i64 mr, .int .i64 ms, .int .i64 lm]), (2, .slice am n n), (5, .slice az n n), (6, .int .i64 (-1)), (8, .int .i64 (-1)), (11, .agg #[.slice b0 192 q0, .slice b1 4 q1, .int .i64 0, .slice b2 0 q2])] = some (busA (.slice a1 n p1) q mw mr ms lm (.slice am n n) (.slice none 0 0) (.slice az n n) (-1) (-1) (.slice b0 192 q0) (.slice b1 4 q1) (.slice b2 0 q2)) := by kernel_rfl
theorem model_four {F : Foot} {us : List Value} {w : World} (h : modelK.cap F us (List.replicate 192 0, ([0, 0, 0, 0], 0, [])) w) : ∃ b0 q0 b1 q1 b2 q2, us = [.slice b0 192 q0, .slice b1 4 q1, .int .i64 0, .slice b2 0 q2] := by
  obtain ⟨b0, q0, b1, q1, b2, q2, G1, G2, G3, e, _⟩ := cap_model h
  exact ⟨b0, q0, b1, q1, b2, q2, by rw [e, List.length_replicate]; rfl⟩
theorem elBucket : ElT bucketK 72 := by
  obtain ⟨i, hi, hz, hsz, hby⟩ := info_parts' (i := Try.prog.info? 72) (z := .agg #[.int .i64 0, .int .i64 0]) (n := 2) (by kernel_rfl)
  exact ⟨i, _, hi, hz, hsz, rfl, hby⟩
/-- what each kind of operation leaves in the statement that appends a bucket. -/
def BP (gB : Nat) (au : Option Addr) (j pu : Nat) (x0 : Int) (x1 : Bool) (x2 x3 : Int) (bs : List (Int × Int)) (B : Nat) (G : Foot) (bC n b o p : Nat) : Nat → Value → World → Prop
  | 0, v, _ => v = .pointer (some ⟨gB, 10, none⟩)
  | 1, v, _ => v = .slice au j pu
  | 2, v, _ => v = .agg #[.int .i64 x0, .bool x1, .int .i64 x2, .int .i64 x3]
  | 3, v, _ => v = .agg #[.int .i64 (newB x1 x3), .int .i64 0]
  | 4, v, w => ∃ g, v = .slice (some ⟨g, 0, none⟩) 1 1 ∧ B ≤ g ∧ w.heap[g]? = some (.cells #[.int .i64 (newB x1 x3), .int .i64 0] 72)
  | 5, v, w => ∃ ad cp, v = .slice ad (j + 1) cp ∧ bucketS.cap G [v] (bs ++ [(newB x1 x3, 0)]) w
  | 6, v, _ => v = .pointer (some ⟨gB, 10, none⟩)
  | 7, v, _ => v = .pointer (some ⟨bC, 0, none⟩)
  | 8, v, _ => v = .slice (some ⟨b, o, none⟩) n p
  | 9, v, _ => v = .int .i64 (j : Int)
  | 10, v, _ => v = .pointer (some ⟨b, o + j * 4, none⟩)
  | _, _, _ => True
theorem BP.step {gB : Nat} {au : Option Addr} {j pu : Nat} {x0 : Int} {x1 : Bool} {x2 x3 : Int} {bs : List (Int × Int)} {B : Nat} {G : Foot} {bC n b o p : Nat} {w w' : World} {F : Foot} (ht : Turn F w w') (hF : ∀ k, F k → k < B) (i : Nat) (u : Value) (h5 : i ≠ 5) (h : BP gB au j pu x0 x1 x2 x3 bs B G bC n b o p i u w) : BP gB au j pu x0 x1 x2 x3 bs B G bC n b o p i u w' := by
  match i, h with
  | 0, h => exact h
  | 1, h => exact h
  | 2, h => exact h
  | 3, h => exact h
  | 4, h => obtain ⟨g, e, hB, hg⟩ := h; exact ⟨g, e, hB, (ht.block g (Array.getElem?_eq_some_iff.1 hg).1 (fun hf => by have := hF g hf; omega)).trans hg⟩
  | 5, h => exact absurd rfl h5
  | 6, h => exact h
  | 7, h => exact h
  | 8, h => exact h
  | 9, h => exact h
  | 10, h => exact h
  | n + 11, _ => exact trivial
theorem BP.later {gB : Nat} {au : Option Addr} {j pu : Nat} {x0 : Int} {x1 : Bool} {x2 x3 : Int} {bs : List (Int × Int)} {B : Nat} {G : Foot} {bC n b o p : Nat} {w w' : World} (hb : Below w.heap.size w w') (i : Nat) (u : Value) (h : BP gB au j pu x0 x1 x2 x3 bs B G bC n b o p i u w) : BP gB au j pu x0 x1 x2 x3 bs B G bC n b o p i u w' := by
  by_cases h5 : i = 5
  · subst h5
    obtain ⟨ad, cp, e, hc⟩ := h
    exact ⟨ad, cp, e, bucketS.cap_later hc hb⟩
  · exact BP.step (F := fun _ => False) (Turn.later hb) (fun _ h => h.elim) i u h5 h
def kI (i : Nat) : Nat := [0, 1, 2, 3, 4, 5, 6].getD i 11
theorem kI_none {i : Nat} (h : 7 ≤ i) : kI i = 11 := by
  obtain ⟨n, rfl⟩ : ∃ n, i = n + 7 := ⟨i - 7, by omega⟩
  rfl
theorem kI_five : ∀ {i : Nat}, kI i = 5 → i = 5
  | 0, h | 1, h | 2, h | 3, h | 4, h | 6, h => by cases h
  | 5, _ => rfl
  | n + 7, h => absurd (show (11 : Nat) = 5 from h) (by decide)
def kM (i : Nat) : Nat := [0, 1, 7, 8, 9, 10, 2, 3, 4, 5, 6].getD i 11
theorem kM_none {i : Nat} (h : 11 ≤ i) : kM i = 11 := by
  obtain ⟨n, rfl⟩ : ∃ n, i = n + 11 := ⟨i - 11, by omega⟩
  rfl
theorem kM_five : ∀ {i : Nat}, kM i = 5 → i = 9
  | 0, h | 1, h | 2, h | 3, h | 4, h | 5, h | 6, h | 7, h | 8, h | 10, h => by cases h
  | 9, _ => rfl
  | n + 11, h => absurd (show (11 : Nat) = 5 from h) (by decide)
theorem take_bkt {l : List (Int × Bool × Int × Int)} {j : Nat} {x : Int × Bool × Int × Int} (h : l[j]? = some x) : (l.take (j + 1)).map bkt = (l.take j).map bkt ++ [bkt x] := by
  obtain ⟨h1, rfl⟩ := List.getElem?_eq_some_iff.1 h
  rw [List.take_succ_eq_append_getElem h1, List.map_append]
  rfl
theorem unlistedU {ops : Array Oper} {a0 a : Act} {C : World → Prop} {Φ : Nat → Value → World → Prop} {listed : Array Bool} {w : World} (s : Inv.St .any ops a0 C Φ listed a w) {i j : Nat} {oj : Oper} (ho : ops[j]? = some oj) (he : ∃ e ∈ oj.after, Region.binds .any e = true ∧ e.on = i) (h : listed.getD i false = false) : listed.getD j false = false := by
  obtain ⟨e, h1, h2, rfl⟩ := he
  cases hj : listed.getD j false with
  | false => rfl
  | true => rw [s.closed j oj ho hj e h1 h2] at h; cases h
set_option maxHeartbeats 8000000 in
set_option maxRecDepth 100000 in
theorem implBusNew (cs : List Value) (l : List (Int × Bool × Int × Int)) (q mw mr ms lm : Int) (hl : l.length ≤ 2000000) (w : World) (h : confK.rd cs (l, q, mw, mr, ms, lm) w) :
    Calls Try.prog 8 #[agg cs] w fun e w' => ∃ us : Array Value, e = .returned (.tuple #[.agg us, .bool (newBus (l, q, mw, mr, ms, lm)).2]) ∧ busK.cap (fun k => w.heap.size ≤ k) us.toList (newBus (l, q, mw, mr, ms, lm)).1 w' ∧ Below w.heap.size w w' := by
  obtain ⟨a, p, rfl, h0⟩ := conf_form h
  have HL := Lib.hid hl
  have hsx : Hid (okX (l, q, mw, mr, ms, lm) = true → 1 ≤ l.length ∧ l.length ≤ 4) := Lib.hid okX_len
  obtain ⟨n, hn⟩ : ∃ n, l.length = n := ⟨_, rfl⟩
  have HN := Lib.hid hn
  obtain ⟨D, hD⟩ : ∃ D, newBus (l, q, mw, mr, ms, lm) = D := ⟨_, rfl⟩
  have HD := Lib.hid hD
  rw [hD]
  rw [hn] at h0 ⊢
  have hsz : ∀ (w : World) o, (w.alloc o).heap.size = w.heap.size + 1 := fun w o => by simp
  have A0 := Lib.hid ((Bx.new 28 #[.slice a n p, .int .i64 q, .int .i64 mw, .int .i64 mr, .int .i64 ms, .int .i64 lm] w).alloc (Obj.cells #[.slice none 0 0, .int .i64 0, .int .i64 0, .int .i64 0, .int .i64 0, .int .i64 0, .int .i64 0, .slice none 0 0, .int .i64 0, .int .i64 0, .slice none 0 0, .slice none 0 0, .int .i64 0, .int .i64 0, .int .i64 0, .bool false, .int .i64 0, .int .i64 0, .bool false, .int .i64 0, .int .i64 0, .int .i64 0, .bool false, .bool false, .int .i64 0, .int .i64 0, .bool false, .int .i64 0, .int .i64 0, .int .i64 0, .bool false, .slice none 0 0, .slice none 0 0, .int .i64 0, .slice none 0 0, .int .i64 0, .slice none 0 0] 42))
  have B0 := Bx.new 42 #[.slice none 0 0, .int .i64 0, .int .i64 0, .int .i64 0, .int .i64 0, .int .i64 0, .int .i64 0, .slice none 0 0, .int .i64 0, .int .i64 0, .slice none 0 0, .slice none 0 0, .int .i64 0, .int .i64 0, .int .i64 0, .bool false, .int .i64 0, .int .i64 0, .bool false, .int .i64 0, .int .i64 0, .int .i64 0, .bool false, .bool false, .int .i64 0, .int .i64 0, .bool false, .int .i64 0, .int .i64 0, .int .i64 0, .bool false, .slice none 0 0, .slice none 0 0, .int .i64 0, .slice none 0 0, .int .i64 0, .slice none 0 0] (w.alloc (Obj.cells #[.slice a n p, .int .i64 q, .int .i64 mw, .int .i64 mr, .int .i64 ms, .int .i64 lm] 28))
  rw [hsz] at B0
  have X0 : Hid (Bx 42 (w.heap.size + 1) (busA (.slice none 0 0) 0 0 0 0 0 (.slice none 0 0) (.slice none 0 0) (.slice none 0 0) 0 0 (.slice none 0 0) (.slice none 0 0) (.slice none 0 0)) _) := Lib.hid B0
  have HB0 := Lib.hid (((Below.refl w.heap.size w).alloc (Nat.le_refl _) (Obj.cells #[.slice a n p, .int .i64 q, .int .i64 mw, .int .i64 mr, .int .i64 ms, .int .i64 lm] 28)).alloc (by simp) (Obj.cells #[.slice none 0 0, .int .i64 0, .int .i64 0, .int .i64 0, .int .i64 0, .int .i64 0, .int .i64 0, .slice none 0 0, .int .i64 0, .int .i64 0, .slice none 0 0, .slice none 0 0, .int .i64 0, .int .i64 0, .int .i64 0, .bool false, .int .i64 0, .int .i64 0, .bool false, .int .i64 0, .int .i64 0, .int .i64 0, .bool false, .bool false, .int .i64 0, .int .i64 0, .bool false, .int .i64 0, .int .i64 0, .int .i64 0, .bool false, .slice none 0 0, .slice none 0 0, .int .i64 0, .slice none 0 0, .int .i64 0, .slice none 0 0] 42))
  have H0 := Lib.hid (mConfS.rd_later h0 (((Below.refl w.heap.size w).alloc (Nat.le_refl _) (Obj.cells #[.slice a n p, .int .i64 q, .int .i64 mw, .int .i64 mr, .int .i64 ms, .int .i64 lm] 28)).alloc (by simp) (Obj.cells #[.slice none 0 0, .int .i64 0, .int .i64 0, .int .i64 0, .int .i64 0, .int .i64 0, .int .i64 0, .slice none 0 0, .int .i64 0, .int .i64 0, .slice none 0 0, .slice none 0 0, .int .i64 0, .int .i64 0, .int .i64 0, .bool false, .int .i64 0, .int .i64 0, .bool false, .int .i64 0, .int .i64 0, .int .i64 0, .bool false, .bool false, .int .i64 0, .int .i64 0, .bool false, .int .i64 0, .int .i64 0, .int .i64 0, .bool false, .slice none 0 0, .slice none 0 0, .int .i64 0, .slice none 0 0, .int .i64 0, .slice none 0 0] 42)))
  clear h h0 hn hl hsz B0 hD
  show Calls _ _ #[.agg #[.slice a n p, .int .i64 q, .int .i64 mw, .int .i64 mr, .int .i64 ms, .int .i64 lm]] w _
  go_enter Try.func8, Try.ntmps8
  go_upto_region 1 with fail
  generalize (w.alloc (Obj.cells #[.slice a n p, .int .i64 q, .int .i64 mw, .int .i64 mr, .int .i64 ms, .int .i64 lm] 28)).alloc (Obj.cells #[.slice none 0 0, .int .i64 0, .int .i64 0, .int .i64 0, .int .i64 0, .int .i64 0, .int .i64 0, .slice none 0 0, .int .i64 0, .int .i64 0, .slice none 0 0, .slice none 0 0, .int .i64 0, .int .i64 0, .int .i64 0, .bool false, .int .i64 0, .int .i64 0, .bool false, .int .i64 0, .int .i64 0, .int .i64 0, .bool false, .bool false, .int .i64 0, .int .i64 0, .bool false, .int .i64 0, .int .i64 0, .int .i64 0, .bool false, .slice none 0 0, .slice none 0 0, .int .i64 0, .slice none 0 0, .int .i64 0, .slice none 0 0] 42) = y0 at A0 X0 HB0 H0 ⊢
  obtain ⟨g0, g1, g2, g3, g4, g5⟩ := A0.out.cells6
  go_wp2_with fail
  obtain ⟨R, hR⟩ : ∃ R, okX (l, q, mw, mr, ms, lm) = R := ⟨_, rfl⟩
  have HR := Lib.hid hR
  have HQ := implConfX _ l q mw mr ms lm HL.out _ (conf_rd (x1 := q) (x2 := mw) (x3 := mr) (x4 := ms) (x5 := lm) H0.out)
  rw [hR] at HQ
  clear hR
  refine HQ.mono ?_
  clear HQ
  rintro e y1 ⟨rfl, hb⟩
  have A1 := Lib.hid (A0.out.later hb)
  have X1 := Lib.hid (X0.out.later hb)
  have HB1 := Lib.hid (HB0.out.trans (hb.mono HB0.out.size))
  have H1 := Lib.hid (mConfS.rd_later H0.out hb)
  clear hb A0 X0 HB0 H0 g0 g1 g2 g3 g4 g5
  dsimp only
  cases R
  · obtain rfl : D = (busW [] 0 0 0 0 0 [] [] [] 0 0 [] [] [], false) := by rw [← HD.out]; exact newBus_no HR.out
    repeat (first | (refine wp_build_on 42 _ rfl (busA (.slice none 0 0) 0 0 0 0 0 (.slice none 0 0) (.slice none 0 0) (.slice none 0 0) 0 0 (.slice none 0 0) (.slice none 0 0) (.slice none 0 0)) bus_built0 ?_) | (refine wp_store_row 42 _ _ rfl (w.heap.size + 1) (busA (.slice none 0 0) 0 0 0 0 0 (.slice none 0 0) (.slice none 0 0) (.slice none 0 0) 0 0 (.slice none 0 0) (.slice none 0 0) (.slice none 0 0)) rfl rfl 42 (busA (.slice none 0 0) 0 0 0 0 0 (.slice none 0 0) (.slice none 0 0) (.slice none 0 0) 0 0 (.slice none 0 0) (.slice none 0 0) (.slice none 0 0)) X1.out (busA_info ..) rfl (busA_ones rfl rfl rfl rfl rfl rfl rfl) ?_) | go_values | go_skip | go_guarded | go_step | go_upon | go_back)
    have X2 := bx_row (brr := busA (.slice none 0 0) 0 0 0 0 0 (.slice none 0 0) (.slice none 0 0) (.slice none 0 0) 0 0 (.slice none 0 0) (.slice none 0 0) (.slice none 0 0)) X1.out
    have hrun := run_loadVar_row (P := Try.prog) _ (w.heap.size + 1) 42 42 (busA (.slice none 0 0) 0 0 0 0 0 (.slice none 0 0) (.slice none 0 0) (.slice none 0 0) 0 0 (.slice none 0 0) (.slice none 0 0) (.slice none 0 0)) (0, 0) _ X2 Try.underlying42 rfl (busA_info ..)
    refine bodyPost_ret (v := .tuple #[.agg (busA (.slice none 0 0) 0 0 0 0 0 (.slice none 0 0) (.slice none 0 0) (.slice none 0 0) 0 0 (.slice none 0 0) (.slice none 0 0) (.slice none 0 0)), .bool false]) (results_cell2 Try.results8 _ _ (w.heap.size + 1) _ _ rfl rfl hrun) rfl ⟨_, rfl, busZ_cap _ _, ?_⟩
    exact below_setRow HB1.out (by omega) _
  · obtain ⟨hn1, hn4⟩ := hsx.out HR.out
    rw [HN.out] at hn1 hn4
    have hn2 : n ≤ 2000000 := by omega
    obtain rfl : D = (busW l q mw mr ms lm (List.replicate n mst0) (l.map bkt) (List.replicate n 0) (-1) (-1) (List.replicate 192 0) [0, 0, 0, 0] [], true) := by rw [← HD.out, newBus_yes HR.out, HN.out]
    clear HD HR hsx
    go_upto_region 3 with fail
    have hlt0 : w.heap.size + 1 < y1.heap.size := X1.out.lt
    obtain ⟨g0, g1, g2, g3, g4, g5⟩ := A1.out.cells6
    refine Inv.region_tag 13 [11, 12, 13, 14, 15, 16, 17, 18, 19, 20, 21, 22, 4] (by kernel_rfl) (by kernel_rfl) (by kernel_rfl) (by kernel_rfl) (by kernel_rfl) (fun wx => Below y1.heap.size y1 wx) (fun tag => NB y1.heap.size w.heap.size n a p l q mw mr ms lm tag) (fun w1 w2 => Below w1.heap.size w1 w2) (fun w1 => Below.refl _ w1) NB.later ?_ (Below.refl _ _).drew ?_ ?_
    · intro tag i v w' hi
      exact NB.none tag i v w' (none_at 13 (by kernel_rfl) i hi)
    · intro i o ho hi13 tag listed ac w' s hln hl haft K hK
      have hcl : Below y1.heap.size y1 w' := s.cls
      match i, ho with
      | 0, ho =>
        simp only [List.getElem?_toArray, List.getElem?_cons_zero, Option.some.injEq] at ho
        subst ho
        have e1 : ac.tmps.getD 1 undef = .pointer (some ⟨w.heap.size, 0, none⟩) := s.other 1 (fun jj _ e => Inv.none_at (t := 1) (by kernel_rfl) e)
        have c0 := (hcl.cell (p := ⟨w.heap.size, 0, none⟩) (by dsimp only; omega)).trans g0
        have c1 := (hcl.cell (p := ⟨w.heap.size, 1, none⟩) (by dsimp only; omega)).trans g1
        have c2 := (hcl.cell (p := ⟨w.heap.size, 2, none⟩) (by dsimp only; omega)).trans g2
        have c3 := (hcl.cell (p := ⟨w.heap.size, 3, none⟩) (by dsimp only; omega)).trans g3
        have c4 := (hcl.cell (p := ⟨w.heap.size, 4, none⟩) (by dsimp only; omega)).trans g4
        have c5 := (hcl.cell (p := ⟨w.heap.size, 5, none⟩) (by dsimp only; omega)).trans g5
        unfold Oper.wp
        go_simp
        exact hK _ _ hcl (Below.refl _ _) rfl
      | 1, ho =>
        simp only [List.getElem?_toArray, List.getElem?_cons_zero, List.getElem?_cons_succ, Option.some.injEq] at ho
        subst ho
        have e11 : ac.tmps.getD 11 undef = .agg #[.slice a n p, .int .i64 q, .int .i64 mw, .int .i64 mr, .int .i64 ms, .int .i64 lm] := s.val 0 (by decide) (haft ⟨0, .data⟩ (by simp) rfl)
        unfold Oper.wp
        go_simp
        have HQ := implCopyConf _ l q mw mr ms lm HL.out w' (conf_rd (x1 := q) (x2 := mw) (x3 := mr) (x4 := ms) (x5 := lm) (mConfS.rd_later H1.out hcl))
        refine HQ.mono ?_
        rintro e w7 ⟨v, rfl, hc, hb⟩
        obtain ⟨a1, p1, ev, _⟩ := row_form (K := mConfK) (mConfS.cap_rd hc)
        rw [HN.out] at ev
        obtain rfl : v = .slice a1 n p1 := by simpa using ev
        exact hK _ _ (hcl.trans (hb.mono hcl.size)) hb ⟨a1, p1, rfl, TG.mk hc hcl.size⟩
      | 2, ho =>
        simp only [List.getElem?_toArray, List.getElem?_cons_zero, List.getElem?_cons_succ, Option.some.injEq] at ho
        subst ho
        have e1 : ac.tmps.getD 1 undef = .pointer (some ⟨w.heap.size, 0, none⟩) := s.other 1 (fun jj _ e => Inv.none_at (t := 1) (by kernel_rfl) e)
        unfold Oper.wp
        go_simp
        exact hK _ _ hcl (Below.refl _ _) rfl
      | 6, ho =>
        simp only [List.getElem?_toArray, List.getElem?_cons_zero, List.getElem?_cons_succ, Option.some.injEq] at ho
        subst ho
        have e1 : ac.tmps.getD 1 undef = .pointer (some ⟨w.heap.size, 0, none⟩) := s.other 1 (fun jj _ e => Inv.none_at (t := 1) (by kernel_rfl) e)
        unfold Oper.wp
        go_simp
        exact hK _ _ hcl (Below.refl _ _) rfl
      | 3, ho =>
        simp only [List.getElem?_toArray, List.getElem?_cons_zero, List.getElem?_cons_succ, Option.some.injEq] at ho
        subst ho
        have e13 : ac.tmps.getD 13 undef = .pointer (some ⟨w.heap.size, 0, none⟩) := s.val 2 (by decide) (haft ⟨2, .data⟩ (by simp) rfl)
        have c0 := (hcl.cell (p := ⟨w.heap.size, 0, none⟩) (by dsimp only; omega)).trans g0
        unfold Oper.wp
        go_simp
        exact hK _ _ hcl (Below.refl _ _) rfl
      | 4, ho =>
        simp only [List.getElem?_toArray, List.getElem?_cons_zero, List.getElem?_cons_succ, Option.some.injEq] at ho
        subst ho
        have e14 : ac.tmps.getD 14 undef = .slice a n p := s.val 3 (by decide) (haft ⟨3, .data⟩ (by simp) rfl)
        unfold Oper.wp
        go_simp
        exact hK _ _ hcl (Below.refl _ _) rfl
      | 5, ho =>
        simp only [List.getElem?_toArray, List.getElem?_cons_zero, List.getElem?_cons_succ, Option.some.injEq] at ho
        subst ho
        have e15 : ac.tmps.getD 15 undef = .int .i64 (n : Int) := s.val 4 (by decide) (haft ⟨4, .data⟩ (by simp) rfl)
        obtain ⟨i0, hi, hz0, hz1, hz2⟩ := info_parts' info_iMstN
        have hmk := make_runK (P := Try.prog) 29 70 i0 _ Try.underlying29 hi hz0 6 hz1 hz2 n hn2 w'
        have ho := row_made (K := mstK) (hn := by decide) w' n #[.slice none 0 0, .int .i64 0, .int .i64 0, .int .i64 0, .bool false, .bool false] mst0 70 rfl (fun w => mst_cap (row_nil (fun _ => False) w) (fun _ h => h)) hn2
        unfold Oper.wp
        go_simp
        exact hK _ _ (hcl.trans ((Below.refl _ _).alloc hcl.size _)) ((Below.refl _ _).alloc (Nat.le_refl _) _) ⟨_, rfl, TG.mk ho hcl.size⟩
      | 7, ho =>
        simp only [List.getElem?_toArray, List.getElem?_cons_zero, List.getElem?_cons_succ, Option.some.injEq] at ho
        subst ho
        have e17 : ac.tmps.getD 17 undef = .pointer (some ⟨w.heap.size, 0, none⟩) := s.val 6 (by decide) (haft ⟨6, .data⟩ (by simp) rfl)
        have c0 := (hcl.cell (p := ⟨w.heap.size, 0, none⟩) (by dsimp only; omega)).trans g0
        unfold Oper.wp
        go_simp
        exact hK _ _ hcl (Below.refl _ _) rfl
      | 8, ho =>
        simp only [List.getElem?_toArray, List.getElem?_cons_zero, List.getElem?_cons_succ, Option.some.injEq] at ho
        subst ho
        have e18 : ac.tmps.getD 18 undef = .slice a n p := s.val 7 (by decide) (haft ⟨7, .data⟩ (by simp) rfl)
        unfold Oper.wp
        go_simp
        exact hK _ _ hcl (Below.refl _ _) rfl
      | 9, ho =>
        simp only [List.getElem?_toArray, List.getElem?_cons_zero, List.getElem?_cons_succ, Option.some.injEq] at ho
        subst ho
        have e19 : ac.tmps.getD 19 undef = .int .i64 (n : Int) := s.val 8 (by decide) (haft ⟨8, .data⟩ (by simp) rfl)
        have hmk := makeI n hn2 w'
        have ho := cap_own (OwnI.make0 w'.heap.size w' (Nat.le_refl _) n hn2) (by simp; omega)
        unfold Oper.wp
        go_simp
        exact hK _ _ (hcl.trans ((Below.refl _ _).alloc hcl.size _)) ((Below.refl _ _).alloc (Nat.le_refl _) _) ⟨_, rfl, TG.mk ho hcl.size⟩
      | 10, ho =>
        simp only [List.getElem?_toArray, List.getElem?_cons_zero, List.getElem?_cons_succ, Option.some.injEq] at ho
        subst ho
        unfold Oper.wp
        go_simp
        refine (implModelNew w').mono ?_
        rintro e w7 ⟨us, rfl, hc, hb⟩
        obtain ⟨b0, q0, b1, q1, b2, q2, rfl⟩ := model_four hc
        exact hK _ _ (hcl.trans (hb.mono hcl.size)) hb ⟨b0, q0, b1, q1, b2, q2, rfl, TG.mk hc hcl.size⟩
      | 11, ho =>
        simp only [List.getElem?_toArray, List.getElem?_cons_zero, List.getElem?_cons_succ, Option.some.injEq] at ho
        subst ho
        obtain ⟨a1, p1, e12, c1⟩ := s.val 1 (by decide) (haft ⟨1, .data⟩ (by simp) rfl)
        obtain ⟨am, e16, c5⟩ := s.val 5 (by decide) (haft ⟨5, .data⟩ (by simp) rfl)
        obtain ⟨az, e20, c9⟩ := s.val 9 (by decide) (haft ⟨9, .data⟩ (by simp) rfl)
        obtain ⟨b0, q0, b1, q1, b2, q2, e21, c10⟩ := s.val 10 (by decide) (haft ⟨10, .data⟩ (by simp) rfl)
        refine wp_build_on 42 _ rfl _ ?_ (hK _ _ hcl (Below.refl _ _) ⟨a1, p1, am, az, b0, q0, b1, q1, b2, q2, rfl, TG.on c1 (Below.refl _ _) (fun k hk => Inv.tagOn_old hk), TG.on c5 (Below.refl _ _) (fun k hk => Inv.tagOn_old hk), TG.on c9 (Below.refl _ _) (fun k hk => Inv.tagOn_old hk), TG.on c10 (Below.refl _ _) (fun k hk => Inv.tagOn_old hk)⟩)
        have d12 : ac.tmps.getD 12 undef = _ := e12
        have d16 : ac.tmps.getD 16 undef = _ := e16
        have d20 : ac.tmps.getD 20 undef = _ := e20
        have d21 : ac.tmps.getD 21 undef = _ := e21
        simp only [List.map_toArray, List.map_cons, List.map_nil]
        show Try.prog.built 42 [(0, ac.tmps.getD 12 undef), (2, ac.tmps.getD 16 undef), (5, ac.tmps.getD 20 undef), (6, .int .i64 (-1)), (8, .int .i64 (-1)), (11, ac.tmps.getD 21 undef)] = _
        rw [d12, d16, d20, d21]
        exact bus_built ..
      | 12, ho =>
        simp only [List.getElem?_toArray, List.getElem?_cons_zero, List.getElem?_cons_succ, Option.some.injEq] at ho
        subst ho
        unfold Oper.wp
        go_simp
        exact hK _ _ (hcl.trans ((Below.refl _ _).alloc hcl.size _)) ((Below.refl _ _).alloc (Nat.le_refl _) _) ⟨_, rfl, hcl.size, Inv.tagOn_new (Nat.le_refl _), Bx.new _ _ _⟩
      | n + 13, ho => omega
    · intro tag f w6 o ho hC hv
      obtain ⟨a1, p1, am, az, b0, q0, b1, q1, b2, q2, e22, c1, c5, c9, c10⟩ := hv 11 (by decide)
      obtain ⟨gB, e4, hgB, hgt, hgx⟩ := hv 12 (by decide)
      have d22 : f 22 = _ := e22
      have d4 : f 4 = _ := e4
      simp only [Inv.setAll, List.setIfInBounds_toArray, List.set_cons_zero, List.set_cons_succ]
      rw [d22, d4]
      simp only [List.getElem?_toArray, List.getElem?_cons_zero, List.getElem?_cons_succ, Option.some.injEq] at ho
      subst ho
      refine wp_store_row 42 _ _ rfl gB (busA (.slice a1 n p1) q mw mr ms lm (.slice am n n) (.slice none 0 0) (.slice az n n) (-1) (-1) (.slice b0 192 q0) (.slice b1 4 q1) (.slice b2 0 q2)) rfl rfl 42 (busA (.slice none 0 0) 0 0 0 0 0 (.slice none 0 0) (.slice none 0 0) (.slice none 0 0) 0 0 (.slice none 0 0) (.slice none 0 0) (.slice none 0 0)) hgx (busA_info ..) rfl (busA_ones rfl rfl rfl rfl rfl rfl rfl) ?_
      have hT2 : Turn (fun k => k = gB) w6 (w6.setRow gB (busA (.slice a1 n p1) q mw mr ms lm (.slice am n n) (.slice none 0 0) (.slice az n n) (-1) (-1) (.slice b0 192 q0) (.slice b1 4 q1) (.slice b2 0 q2))) := Turn.row (F := fun k => k = gB) (Turn.refl _ _) rfl _
      have hne : ∀ {i k : Nat}, i ≠ 12 → TG y1.heap.size tag i k → k ≠ gB := fun hi hk e => hi (by rw [← hk.2, e, hgt])
      have C0 := Lib.hid (mConfS.cap_top (mConfS.cap_turn c1 hT2 (fun k _ hk => hne (by decide) hk)))
      have C7 := Lib.hid (mstS.cap_top (mstS.cap_turn c5 hT2 (fun k _ hk => hne (by decide) hk)))
      have C11 := Lib.hid (ints.cap_top (ints.cap_turn c9 hT2 (fun k _ hk => hne (by decide) hk)))
      have CM := Lib.hid (modelK.cap_top (modelK.cap_turn c10 hT2 (fun k _ hk => hne (by decide) hk)))
      have HY := Lib.hid (below_setRow hC hgB (busA (.slice a1 n p1) q mw mr ms lm (.slice am n n) (.slice none 0 0) (.slice az n n) (-1) (-1) (.slice b0 192 q0) (.slice b1 4 q1) (.slice b2 0 q2)))
      have XB := Lib.hid (bx_row (brr := busA (.slice a1 n p1) q mw mr ms lm (.slice am n n) (.slice none 0 0) (.slice az n n) (-1) (-1) (.slice b0 192 q0) (.slice b1 4 q1) (.slice b2 0 q2)) hgx)
      have HGB := Lib.hid (show y1.heap.size ≤ gB ∧ tag gB = 12 from ⟨hgB, hgt⟩)
      clear hv e22 e4 d22 d4 hgx c1 c5 c9 c10 hT2 hne hgt hgB hC
      simp only [Act.put]
      generalize w6.setRow gB (busA (.slice a1 n p1) q mw mr ms lm (.slice am n n) (.slice none 0 0) (.slice az n n) (-1) (-1) (.slice b0 192 q0) (.slice b1 4 q1) (.slice b2 0 q2)) = y2 at C0 C7 C11 CM HY XB ⊢
      have A2 := Lib.hid (A1.out.later HY.out)
      obtain ⟨g0, g1, g2, g3, g4, g5⟩ := A2.out.cells6
      have hnn : (n : Int) ≤ 4 := by omega
      go_wp2_with fail
      clear g0 g1 g2 g3 g4 g5
      go_loopw [26] (fun i wr => ∃ j : Nat, j ≤ n ∧ i = .int .i64 j ∧ Hid (∃ au pu, Bx 42 gB (busA (.slice a1 n p1) q mw mr ms lm (.slice am n n) (.slice au j pu) (.slice az n n) (-1) (-1) (.slice b0 192 q0) (.slice b1 4 q1) (.slice b2 0 q2)) wr ∧ bucketS.cap (fun k => y2.heap.size ≤ k) [.slice au j pu] ((l.take j).map bkt) wr ∧ Turn (fun k => k = gB ∨ y2.heap.size ≤ k) y2 wr)) (fun i _ => n - (intOf i).toNat)
      case atStart => exact ⟨0, by omega, rfl, Lib.hid ⟨none, 0, XB.out, row_nil _ _, Turn.refl _ _⟩⟩
      case round =>
        obtain ⟨j, hj, rfl, hE⟩ := hrel
        obtain ⟨au, pu, hX, hc, ht⟩ := hE.out
        have hgb := HGB.out.1
        have hys := HY.out.size
        have XR := Lib.hid hX
        have CR := Lib.hid hc
        have TR := Lib.hid ht
        have AR := Lib.hid (bx_turned A2.out ht (fun h => by rcases h with h | h <;> omega))
        have HBR := Lib.hid (HY.out.trans (ht.below hys (fun k hk => by rcases hk with hk | hk <;> omega)))
        clear hX hc ht hE
        by_cases hlt : j < n
        · obtain ⟨x, hx⟩ := get_of (l := l) (i := j) (by rw [HN.out]; exact hlt)
          obtain ⟨b, o, _, es, e, _, _, lt, c, rx⟩ := row_rd H1.out hx
          simp at e
          obtain ⟨rfl, -, rfl⟩ := e
          obtain ⟨x0, x1, x2, x3⟩ := x
          obtain rfl := mConf_form rx
          have k0 : y1.cell? ⟨b, o + j * 4, none⟩ = some (.int .i64 x0) := c 0 _ rfl
          have k1 : y1.cell? ⟨b, o + j * 4 + 1, none⟩ = some (.bool x1) := c 1 _ rfl
          have k2 : y1.cell? ⟨b, o + j * 4 + 2, none⟩ = some (.int .i64 x2) := c 2 _ rfl
          have k3 : y1.cell? ⟨b, o + j * 4 + 3, none⟩ = some (.int .i64 x3) := c 3 _ rfl
          rw [← bel_cells HBR.out lt] at k0 k1 k2 k3
          have HXJ := Lib.hid hx
          clear c rx hx lt
          go_upto_region 7 with fail
          have hal := (Below.refl wr.heap.size wr).alloc (Nat.le_refl _) (Obj.cells #[.int .i64 x0, .bool x1, .int .i64 x2, .int .i64 x3] 75)
          have MX := Lib.hid (Bx.new 75 #[.int .i64 x0, .bool x1, .int .i64 x2, .int .i64 x3] wr)
          have hwr := TR.out.size
          have hxb := XB.out.lt
          have XR4 := Lib.hid (XR.out.later hal)
          have T4 := Lib.hid (TR.out.trans (Turn.later hal))
          obtain ⟨F0, hF0⟩ : ∃ F0 : Foot, F0 = (fun k => y2.heap.size ≤ k ∧ k < wr.heap.size) := ⟨_, rfl⟩
          obtain ⟨bs, hbs⟩ : ∃ bs, (l.take j).map bkt = bs := ⟨_, rfl⟩
          have CR4 : Hid (bucketS.cap F0 [.slice au j pu] bs _) := Lib.hid (by rw [hF0, ← hbs]; exact bucketS.cap_later (bucketS.cap_top CR.out) hal)
          have HBS : Hid (bs.length = j) := Lib.hid (by rw [← hbs, List.length_map, List.length_take]; have := HN.out; omega)
          have HBT : Hid (bs ++ [(newB x1 x3, 0)] = (l.take (j + 1)).map bkt) := Lib.hid (by rw [← hbs]; exact (take_bkt HXJ.out).symm)
          have S0 : Hid (∀ k, F0 k → k < (wr.alloc (Obj.cells #[.int .i64 x0, .bool x1, .int .i64 x2, .int .i64 x3] 75)).heap.size) := Lib.hid (fun k hk => by rw [hF0] at hk; exact Nat.lt_of_lt_of_le hk.2 hal.size)
          have NX : Hid (¬ F0 gB) := Lib.hid (by rw [hF0]; intro h; omega)
          have NM : Hid (¬ F0 wr.heap.size) := Lib.hid (by rw [hF0]; intro h; omega)
          have WD : Hid (∀ k, (F0 k ∨ (wr.alloc (Obj.cells #[.int .i64 x0, .bool x1, .int .i64 x2, .int .i64 x3] 75)).heap.size ≤ k) → y2.heap.size ≤ k) := Lib.hid (fun k hk => by rw [hF0] at hk; have := hal.size; rcases hk with hk | hk <;> omega)
          have HL4 : Hid (bs.length + 1 ≤ 4000000) := Lib.hid (by have := HBS.out; omega)
          clear hF0 hbs hal
          generalize wr.alloc (Obj.cells #[.int .i64 x0, .bool x1, .int .i64 x2, .int .i64 x3] 75) = w4 at MX XR4 T4 CR4 S0 WD ⊢
          have xc10 := XR4.out.cell 10 _ (busA_at10 ..)
          obtain ⟨m0, m1, m2, m3⟩ := MX.out.cells4
          refine Inv.region_tailJ 7 5 (by decide) [30, 31, 32, 33, 34, 35, 36] (by kernel_rfl) (by kernel_rfl) (by kernel_rfl) (by kernel_rfl) (by kernel_rfl) (CJ F0 w4) (fun i => BP gB au j pu x0 x1 x2 x3 bs w4.heap.size (fun k => F0 k ∨ w4.heap.size ≤ k) w.heap.size n b o p (kI i)) ?_ ((Below.refl _ _).drew) ?_ ?_
          · intro i v w' hi
            have h7 := none_at 7 (by kernel_rfl) i hi
            show BP gB au j pu x0 x1 x2 x3 bs w4.heap.size (fun k => F0 k ∨ w4.heap.size ≤ k) w.heap.size n b o p (kI i) v w'
            rw [kI_none h7]
            exact trivial
          · intro i o7 ho7 hi7 listed ac w' s hcl hln hl haft K hK
            have hT := hcl.turn
            match i, ho7 with
            | 0, ho =>
              simp only [List.getElem?_toArray, List.getElem?_cons_zero, Option.some.injEq] at ho
              subst ho
              have e4 : ac.tmps.getD 4 undef = .pointer (some ⟨gB, 0, none⟩) := s.other 4 (fun jj _ e => Inv.none_at (t := 4) (by kernel_rfl) e)
              unfold Oper.wp
              go_simp
              exact hK _ _ (by rw [if_neg (by decide)]; exact hcl) (fun _ _ _ hj => hj) rfl
            | 1, ho =>
              simp only [List.getElem?_toArray, List.getElem?_cons_zero, List.getElem?_cons_succ, Option.some.injEq] at ho
              subst ho
              have e0 : ac.tmps.getD 30 undef = .pointer (some ⟨gB, 10, none⟩) := s.val 0 (by decide) (haft ⟨0, .data⟩ (by simp) rfl)
              have c := (turnC hT (i := 10) XR4.out.lt NX.out).trans xc10
              unfold Oper.wp
              go_simp
              exact hK _ _ (by rw [if_neg (by decide)]; exact hcl) (fun _ _ _ hj => hj) rfl
            | 2, ho =>
              simp only [List.getElem?_toArray, List.getElem?_cons_zero, List.getElem?_cons_succ, Option.some.injEq] at ho
              subst ho
              have e6 : ac.tmps.getD 6 undef = .pointer (some ⟨wr.heap.size, 0, none⟩) := s.other 6 (fun jj _ e => Inv.none_at (t := 6) (by kernel_rfl) e)
              have c0 := (turnC hT (i := 0) MX.out.lt NM.out).trans m0
              have c1 := (turnC hT (i := 1) MX.out.lt NM.out).trans m1
              have c2 := (turnC hT (i := 2) MX.out.lt NM.out).trans m2
              have c3 := (turnC hT (i := 3) MX.out.lt NM.out).trans m3
              unfold Oper.wp
              go_simp
              exact hK _ _ (by rw [if_neg (by decide)]; exact hcl) (fun _ _ _ hj => hj) rfl
            | 3, ho =>
              simp only [List.getElem?_toArray, List.getElem?_cons_zero, List.getElem?_cons_succ, Option.some.injEq] at ho
              subst ho
              have e6 : ac.tmps.getD 32 undef = .agg #[.int .i64 x0, .bool x1, .int .i64 x2, .int .i64 x3] := s.val 2 (by decide) (haft ⟨2, .data⟩ (by simp) rfl)
              have hn4 := unlistedU s (i := 3) (j := 4) rfl ⟨⟨3, .data⟩, by simp, rfl, rfl⟩ (unlisted hl)
              have hn5 := unlistedU s (i := 4) (j := 5) rfl ⟨⟨4, .data⟩, by simp, rfl, rfl⟩ hn4
              have hbl : Below w4.heap.size w4 w' := by rw [hn5] at hcl; exact hcl
              unfold Oper.wp
              go_simp
              refine (implNew x0 x2 x3 x1 w').mono ?_
              rintro e w7 ⟨rfl, hb⟩
              exact hK _ _ (by rw [if_neg (by decide)]; exact hcl.later hb) (fun jj u _ hj => BP.later hb _ u hj) rfl
            | 4, ho =>
              simp only [List.getElem?_toArray, List.getElem?_cons_zero, List.getElem?_cons_succ, Option.some.injEq] at ho
              subst ho
              have e7 : ac.tmps.getD 33 undef = .agg #[.int .i64 (newB x1 x3), .int .i64 0] := s.val 3 (by decide) (haft ⟨3, .data⟩ (by simp) rfl)
              rw [Array.getD_eq_getD_getElem?] at e7
              unfold Oper.wp
              go_simp
              exact hK _ _ (by rw [if_neg (by decide)]; exact hcl.later ((Below.refl _ _).alloc (Nat.le_refl _) _)) (fun jj u _ hj => BP.later ((Below.refl _ _).alloc (Nat.le_refl _) _) _ u hj) ⟨_, rfl, hT.size, heap_alloc_new _ _⟩
            | 5, ho =>
              simp only [List.getElem?_toArray, List.getElem?_cons_zero, List.getElem?_cons_succ, Option.some.injEq] at ho
              subst ho
              have e1 : ac.tmps.getD 31 undef = .slice au j pu := s.val 1 (by decide) (haft ⟨1, .data⟩ (by simp) rfl)
              obtain ⟨g9, e8, hg9, hgc⟩ := s.val 4 (by decide) (haft ⟨4, .data⟩ (by simp) rfl)
              have e9 : ac.tmps.getD 34 undef = _ := e8
              have hn5 := unlisted hl
              have hbl : Below w4.heap.size w4 w' := by rw [hn5] at hcl; exact hcl
              refine appJ 32 72 Try.underlying32 elBucket (.tmp 31) (.tmp 34) rfl F0 (fun _ => False) (.slice au j pu) bs (newB x1 x3, 0) #[.int .i64 (newB x1 x3), .int .i64 0] g9 w' e1 e9 hgc (bucketS.cap_later CR4.out hbl) (bucket_capz _ _ _ _) (fun k _ h1 => h1.elim) (by intro u hu; simp at hu; rcases hu with rfl | rfl <;> rfl) HL4.out (fun v7 w7 hcap7 ht7 => ?_)
              obtain ⟨a7, p7, ev7, _, _⟩ := row_form (K := bucketK) (bucketS.cap_rd hcap7)
              rw [List.length_append, List.length_singleton, HBS.out] at ev7
              have ev8 : v7 = .slice a7 (j + 1) p7 := by simpa using ev7
              refine hK _ _ ?_ (fun jj u hj hjj => BP.step ht7 (fun k hk => S0.out k hk) _ u (fun h => hj (kI_five h)) hjj) ⟨a7, p7, ev8, bucketS.cap_wide hcap7 (fun k _ hk => ?_)⟩
              · rw [if_pos rfl]
                exact (show Turn F0 w4 w7 from (Turn.later hbl).trans ht7)
              · rcases hk with hk | hk | hk
                · exact .inl hk
                · exact hk.elim
                · exact .inr (Nat.le_trans hbl.size hk)
            | 6, ho =>
              simp only [List.getElem?_toArray, List.getElem?_cons_zero, List.getElem?_cons_succ, Option.some.injEq] at ho
              subst ho
              have e4 : ac.tmps.getD 4 undef = .pointer (some ⟨gB, 0, none⟩) := s.other 4 (fun jj _ e => Inv.none_at (t := 4) (by kernel_rfl) e)
              unfold Oper.wp
              go_simp
              exact hK _ _ (by rw [if_neg (by decide)]; exact hcl) (fun _ _ _ hj => hj) rfl
            | n + 7, ho => omega
          · intro f7 w6 o7 ho hC hv
            have hT : Turn F0 w4 w6 := hC.turn
            obtain ⟨a7, p7, e35, hcap7⟩ := hv 5 (by decide)
            have d35 : f7 35 = .slice a7 (j + 1) p7 := e35
            have d36 : f7 36 = .pointer (some ⟨gB, 10, none⟩) := hv 6 (by decide)
            have hcap8 : bucketS.cap _ [f7 35] _ w6 := hcap7
            simp only [Inv.setAll, List.setIfInBounds_toArray, List.set_cons_zero, List.set_cons_succ]
            rw [d35] at hcap8
            rw [d35, d36]
            simp only [List.getElem?_toArray, List.getElem?_cons_zero, List.getElem?_cons_succ, Option.some.injEq] at ho
            subst ho
            have X6 := bx_turned XR4.out hT NX.out
            have xw := X6.warm 10
            have x10 := X6.cell 10 _ (busA_at10 ..)
            have X7 := Lib.hid (X6.set 10 (.slice a7 (j + 1) p7))
            have hS : Turn (fun k => k = gB) w6 (w6.setCell ⟨gB, 10, none⟩ (.slice a7 (j + 1) p7)) := Turn.set (F := fun k => k = gB) (Turn.refl _ _) rfl _
            have CR7 := Lib.hid (bucketS.cap_turn hcap8 hS (fun k _ hk e => by rcases hk with hk | hk; exact NX.out (e ▸ hk); exact Nat.not_le_of_lt XR4.out.lt (e ▸ hk)))
            have TR7 := Lib.hid ((hT.wide (G := fun k => F0 k ∨ k = gB) (fun k hk => .inl hk)).trans (hS.wide (fun k hk => .inr hk)))
            rw [busA_set10] at X7
            rw [HBT.out] at CR7
            unfold Oper.wp
            go_simp
            clear hv e35 d35 d36 hcap7 hcap8 hC hT X6 xw x10 hS
            generalize w6.setCell ⟨gB, 10, none⟩ (.slice a7 (j + 1) p7) = w8 at X7 CR7 TR7 ⊢
            go_wp2_with fail
            go_roundw
            case rel => exact ⟨j + 1, by omega, by go_num, Lib.hid ⟨a7, p7, X7.out, bucketS.cap_wide CR7.out (fun k _ hk => WD.out k hk), T4.out.trans (TR7.out.wide (fun k hk => by rcases hk with hk | hk; exact .inr (WD.out k (.inl hk)); exact .inl hk))⟩⟩
            case measure => simp [intOf]; omega
        · skip
          obtain rfl : j = n := by omega
          have XE := Lib.hid (bx_turned (X1.out.later HY.out) TR.out (fun h => by rcases h with h | h <;> omega))
          repeat (first | (refine wp_load_row 42 _ rfl gB rfl 42 (busA (.slice a1 j p1) q mw mr ms lm (.slice am j j) (.slice au j pu) (.slice az j j) (-1) (-1) (.slice b0 192 q0) (.slice b1 4 q1) (.slice b2 0 q2)) (0, 0) _ XR.out Try.underlying42 rfl (busA_info ..) ?_) | (refine wp_store_row 42 _ _ rfl (w.heap.size + 1) (busA (.slice a1 j p1) q mw mr ms lm (.slice am j j) (.slice au j pu) (.slice az j j) (-1) (-1) (.slice b0 192 q0) (.slice b1 4 q1) (.slice b2 0 q2)) rfl rfl 42 (busA (.slice none 0 0) 0 0 0 0 0 (.slice none 0 0) (.slice none 0 0) (.slice none 0 0) 0 0 (.slice none 0 0) (.slice none 0 0) (.slice none 0 0)) XE.out (busA_info ..) rfl (busA_ones rfl rfl rfl rfl rfl rfl rfl) ?_) | go_values | go_skip | go_guarded | go_step | go_upon | go_back)
          have X2 := bx_row (brr := busA (.slice a1 j p1) q mw mr ms lm (.slice am j j) (.slice au j pu) (.slice az j j) (-1) (-1) (.slice b0 192 q0) (.slice b1 4 q1) (.slice b2 0 q2)) XE.out
          have hrun := run_loadVar_row (P := Try.prog) _ (w.heap.size + 1) 42 42 (busA (.slice a1 j p1) q mw mr ms lm (.slice am j j) (.slice au j pu) (.slice az j j) (-1) (-1) (.slice b0 192 q0) (.slice b1 4 q1) (.slice b2 0 q2)) (0, 0) _ X2 Try.underlying42 rfl (busA_info ..)
          have TE : Turn (fun k => k = gB ∨ y2.heap.size ≤ k ∨ k = w.heap.size + 1) y2 (wr.setRow (w.heap.size + 1) (busA (.slice a1 j p1) q mw mr ms lm (.slice am j j) (.slice au j pu) (.slice az j j) (-1) (-1) (.slice b0 192 q0) (.slice b1 4 q1) (.slice b2 0 q2))) := (TR.out.wide (fun k hk => by rcases hk with h | h; exact .inl h; exact .inr (.inl h))).trans (Turn.row (F := fun k => k = gB ∨ y2.heap.size ≤ k ∨ k = w.heap.size + 1) (Turn.refl _ _) (.inr (.inr rfl)) _)
          have TW : Turn (fun k => k = w.heap.size + 1) wr (wr.setRow (w.heap.size + 1) (busA (.slice a1 j p1) q mw mr ms lm (.slice am j j) (.slice au j pu) (.slice az j j) (-1) (-1) (.slice b0 192 q0) (.slice b1 4 q1) (.slice b2 0 q2))) := Turn.row (F := fun k => k = w.heap.size + 1) (Turn.refl _ _) rfl _
          have hfar : ∀ {i k : Nat}, i ≠ 12 → (TG y1.heap.size tag i k ∧ k < y2.heap.size) → ¬ (k = gB ∨ y2.heap.size ≤ k ∨ k = w.heap.size + 1) := fun hi hk h => by
            have h1 := hk.1.1
            rcases h with h | h | h
            · exact hi (by rw [← hk.1.2, h, HGB.out.2])
            · omega
            · omega
          have hbk : (l.take j).map bkt = l.map bkt := by rw [List.take_of_length_le (by rw [HN.out]; exact Nat.le_refl _)]
          refine bodyPost_ret (v := .tuple #[.agg (busA (.slice a1 j p1) q mw mr ms lm (.slice am j j) (.slice au j pu) (.slice az j j) (-1) (-1) (.slice b0 192 q0) (.slice b1 4 q1) (.slice b2 0 q2)), .bool true]) (results_cell2 Try.results8 _ _ (w.heap.size + 1) _ _ rfl rfl hrun) rfl ⟨_, rfl, busA_cap (mConfS.cap_turn C0.out TE (fun k _ hk => hfar (by decide) hk)) (mstS.cap_turn C7.out TE (fun k _ hk => hfar (by decide) hk)) (hbk ▸ bucketS.cap_turn CR.out TW (fun k _ hk e => by omega)) (ints.cap_turn C11.out TE (fun k _ hk => hfar (by decide) hk)) (modelK.cap_turn CM.out TE (fun k _ hk => hfar (by decide) hk)) ?_ ?_ ?_ ?_ ?_ ?_ ?_ ?_ ?_ ?_ ?_ ?_ ?_ ?_ ?_, ?_⟩
          all_goals try (intro k h1; have h2 := h1.1.1; omega)
          all_goals try (intro k h1; omega)
          all_goals try (intro k h1 h2; have h3 := h1.1.2; have h4 := h2.1.2; omega)
          all_goals try (intro k h1 h2; omega)
          exact below_setRow (HB1.out.trans (HBR.out.mono HB1.out.size)) (by omega) _
end Go.Proofs.Ytdhaelaoackfkaa.KD
