
/-
  The requests that FnReqs draws, of no account but for their form: spec.l5Req.
-/
import Derived.Test.YtijilhaoknpeeaaGDraw0
import Derived.Test.YtijilhaoknpeeaaBurst3
import Derived.Test.YtijilhaoknpeeaaLane
namespace Go.Proofs.Ytijilhaoknpeeaa.Cur
open Go.RowKit Bytes Num Rows3

theorem Only.grown5 {c : Nat} {w w' : World} (h : Only c w w') : w.grownBy w' (some c) := ⟨h.os, h.tape, h.output, h.size, fun k hk hne => h.block k hk (fun e => hne (by rw [e]))⟩
theorem ownI_only5 {B c : Nat} {v : Value} {l : List Int} {w w' : World} (h : OwnI B v l w) (hO : Only c w w') (hc : c < B) : OwnI B v l w' :=
  h.far hO.grown5 (fun k hk e => by have := (World.ownsRow.lt h k hk).1; cases e; omega)
theorem blk_only {T : TypeId} {b c : Nat} {c0 c1 c2 c3 c4 c5 : Value} {w w' : World} (h : Num.Blk T b c0 c1 c2 c3 c4 c5 w) (hO : Only c w w') (hc : b ≠ c) : Num.Blk T b c0 c1 c2 c3 c4 c5 w' := blk_same h (hO.block b h.lt hc)
theorem smallC (D c : Nat) (w : World) (h : CuD D c w) :
    Calls Try.prog 103 #[.pointer (some ⟨c, 0, none⟩)] w (DrewD (fun x => -1 ≤ x ∧ x ≤ 4) D c w) := by
  go_enter Try.func103, Try.ntmps103
  go_wp2_with fail
  refine (belowC D c 6 (by omega) (by omega) _ h).mono ?_
  rintro e w1 ⟨x, ⟨hx0, hx1⟩, rfl, hC, hO⟩
  go_wp2
  go_ret
  exact ⟨x - 1, ⟨by omega, by omega⟩, rfl, hC, hO⟩
/-- append of one number; what it leaves of all other blocks. -/
theorem appIs {ops : Array Oper} {rest : List Oper} {o : Oper} {a : Act} {Q : Exit → Act → World → Prop} (hgd : o.guard = none) (s x : Operand)
    (ho : o.op = .call { callee := .builtin .append, args := #[s, x], argTypes := #[33, 33] })
    (B : Nat) (v : Value) (l : List Int) (w : World) (c : Int) (hs : a.eval s = v) (hx : a.eval x = .slice (some ⟨w.heap.size, 0, none⟩) 1 1)
    (hown : OwnI B v l w) (hB : B ≤ w.heap.size) (hl : l.length + 1 ≤ 17592186044416)
    (h : ∀ v' w', OwnI B v' (l ++ [c]) w' → Below B w w' → (∀ k, k < w.heap.size → v.ownBlock ≠ some k → w'.heap[k]? = w.heap[k]?) → wpList Try.prog ops Q rest (a.put o.dst v') w') :
    wpList Try.prog ops Q (o :: rest) a (w.alloc (.cells #[.int .i64 c] 3)) := by
  obtain ⟨i, hi, hz, hsz, hby⟩ := info_parts info_int
  refine wpList_append_own _ hgd s x 33 ho B 3 i (.int .i64 0) 1 8 Try.underlying33 hi hz hsz hby rfl (by decide) v l.length (intCells l) hs (hown.alloc _) ⟨w.heap.size, 0, none⟩ 1 1 [.int .i64 c] hx rfl ?_ ?_ ?_ (by omega) (by simp; omega) ?_
  · exact cell_one_new w _ _
  · intro u hu; simp at hu; subst hu; rfl
  · unfold maxLen; omega
  · intro v' w' hown' hgr _
    refine h v' w' ?_ ?_ ?_
    · unfold OwnI; rw [intCells_append, List.length_append]; exact hown'
    · exact (((Below.refl B w).alloc hB _)).grown hgr (by simp; omega) (fun k hk => (World.ownsRow.lt hown k hk).1)
    · intro k hk hne
      rw [hgr.block k (by simp; omega) (fun e => hne e.symm)]
      exact Below.heap_alloc w _ k hk
/-- some request drawn, of at most m numbers. -/
def DrewQ (m D c : Nat) (w : World) (e : Ending) (w' : World) : Prop :=
  ∃ q x y z lk v l, e = .returned (.agg #[.bool q, .int .i64 x, .int .i64 y, .int .i64 z, .bool lk, v]) ∧ OwnI w.heap.size v l w' ∧ l.length ≤ m ∧ CuD D c w' ∧ Only c w w'
theorem Only.below2 {c : Nat} {w w1 w2 : World} (h : Only c w w1) (k : Below w1.heap.size w1 w2) : Only c w w2 := h.trans (Only.of_below k)
/-- of all that stood, the cursor and the row alone may have turned. -/
structure Two (c : Nat) (r : Option Nat) (w w' : World) : Prop where
  os : w'.os = w.os
  tape : w'.tape = w.tape
  output : w'.output = w.output
  size : w.heap.size ≤ w'.heap.size
  block : ∀ k, k < w.heap.size → k ≠ c → some k ≠ r → w'.heap[k]? = w.heap[k]?
theorem Two.refl (c : Nat) (r : Option Nat) (w : World) : Two c r w w := ⟨rfl, rfl, rfl, Nat.le_refl _, fun _ _ _ _ => rfl⟩
theorem Two.only {c : Nat} {r : Option Nat} {w w1 w2 : World} (h : Two c r w w1) (k : Only c w1 w2) : Two c r w w2 :=
  ⟨k.os.trans h.os, k.tape.trans h.tape, k.output.trans h.output, Nat.le_trans h.size k.size, fun j hj h1 h2 => (k.block j (Nat.lt_of_lt_of_le hj h.size) h1).trans (h.block j hj h1 h2)⟩
theorem Two.below {c : Nat} {r : Option Nat} {w w1 w2 : World} (h : Two c r w w1) (k : Below w1.heap.size w1 w2) : Two c r w w2 := h.only (Only.of_below k)
theorem Two.grown {c : Nat} {r : Option Nat} {w w1 w2 : World} (h : Two c r w w1) (k : w1.grownBy w2 r) : Two c r w w2 :=
  ⟨k.os.trans h.os, k.tape.trans h.tape, k.output.trans h.output, Nat.le_trans h.size k.size, fun j hj h1 h2 => (k.block j (Nat.lt_of_lt_of_le hj h.size) h2).trans (h.block j hj h1 h2)⟩
theorem Two.blk {T : TypeId} {b c : Nat} {r : Option Nat} {c0 c1 c2 c3 c4 c5 : Value} {w w' : World} (hO : Two c r w w') (h : Num.Blk T b c0 c1 c2 c3 c4 c5 w) (hc : b ≠ c) (hr : some b ≠ r) : Num.Blk T b c0 c1 c2 c3 c4 c5 w' := blk_same h (hO.block b h.lt hc hr)
/-- where the row is the call's own, no block that stood before the call turns but the cursor. -/
theorem Two.fresh {c : Nat} {r : Option Nat} {w0 w w' : World} (h0 : Only c w0 w) (h : Two c r w w') (hr : ∀ g, r = some g → w0.heap.size ≤ g) : Only c w0 w' :=
  ⟨h.os.trans h0.os, h.tape.trans h0.tape, h.output.trans h0.output, Nat.le_trans h0.size h.size, fun k hk hne => (h.block k (Nat.lt_of_lt_of_le hk h0.size) hne (fun e => by have := hr k e.symm; omega)).trans (h0.block k hk hne)⟩
theorem CuD.grown {D c : Nat} {r : Option Nat} {w w' : World} (h : CuD D c w) (hg : w.grownBy w' r) (hr : ∀ g, r = some g → D ≤ g) : CuD D c w' :=
  h.belowB (B := D) ((Below.refl D w).grown hg h.le hr) (Nat.le_refl _)
theorem DrewQ.fin {m D c B : Nat} {w w' : World} {q : Bool} {x y z : Int} {lk : Bool} {v : Value} {l : List Int} (hD : D ≤ w.heap.size) (hB : w.heap.size < B) (ho : OwnI B v l w') (hl : l.length ≤ m) (hC : CuD D c w') (hO : Only c w w') :
    DrewQ m D c w (.returned (.agg #[.bool q, .int .i64 x, .int .i64 y, .int .i64 z, .bool lk, v])) (fill w' w.heap.size (.bool q) (.int .i64 x) (.int .i64 y) (.int .i64 z) (.bool lk) v) :=
  ⟨q, x, y, z, lk, v, l, rfl, (fill_low ho hB _ _ _ _ _ _).mono (Nat.le_of_lt hB), hl, hC.belowB (below_fill (Below.refl _ _) (Nat.le_refl w.heap.size) _ _ _ _ _ _) hD, hO.transB (below_fill (Below.refl _ _) (Nat.le_refl _) _ _ _ _ _ _)⟩
/-- append of one number, where not all is known of what it leaves. -/
theorem fresh_appI {S : Value → World → Prop} {o : Oper} {a : Act} (s x : Operand) (ho : o.op = .call { callee := .builtin .append, args := #[s, x], argTypes := #[33, 33] })
    (B g : Nat) (v : Value) (l : List Int) (w : World) (c : Int) (hs : a.eval s = v) (hx : a.eval x = .slice (some ⟨g, 0, none⟩) 1 1) (hg : w.heap[g]? = some (.cells #[.int .i64 c] 3 (0, 0)))
    (hown : OwnI B v l w) (hB : B ≤ w.heap.size) (hl : l.length + 1 ≤ 100000000)
    (h : ∀ v' w', OwnI B v' (l ++ [c]) w' → w.grownBy w' v.ownBlock → S v' w') : Fresh.freshUpon Try.prog S ((execOp a.eval o).run Try.prog w) := by
  obtain ⟨i, hi, hz, hsz, hby⟩ := info_parts info_int
  obtain ⟨v', w', hrun, h2, h3, _⟩ := run_append_own (P := Try.prog) w B 33 o.type 3 i (.int .i64 0) 1 8 Try.underlying33 hi hz hsz hby rfl (by decide) v l.length (intCells l) hown ⟨g, 0, none⟩ 1 1 [.int .i64 c] rfl (fun j u hu => by
    have hadd : (⟨g, 0, none⟩ : Addr).add j = ⟨g, j, none⟩ := by unfold Addr.add; split <;> simp_all
    rw [hadd, cell_of_row _ g j #[.int .i64 c] 3 (0, 0) hg, ← Array.getElem?_toList]; exact hu) (fun u hu => by simp at hu; subst hu; rfl) (by unfold maxLen; omega) (by omega) hB
  unfold execOp
  simp only [ho, resolve, invoke, builtin, Sem.run_bind, Sem.run_pure, Result.andThen_ok, List.map_toArray, List.map_cons, List.map_nil, hs, hx, hrun]
  refine h v' w' ?_ h3
  unfold OwnI
  rw [intCells_append, List.length_append]
  exact h2
def frI (P : Int → Prop) : Fresh.Fr := ⟨fun v => ∃ x : Int, P x ∧ v = .int .i64 x, fun _ _ => True⟩
def frK (B : Nat) (M : Int) : Fresh.Fr := ⟨fun v => ∃ b, v = .slice (some ⟨b, 0, none⟩) 2 2, fun v w => ∃ (b : Nat) (k : Int), v = .slice (some ⟨b, 0, none⟩) 2 2 ∧ B ≤ b ∧ b < w.heap.size ∧ 0 < k ∧ k ≤ 4294967296 ∧ Ints b [k, M] w⟩
def frE (B : Nat) : Fresh.Fr := ⟨fun v => ∃ g, v = .slice (some ⟨g, 0, none⟩) 1 1, fun v w => ∃ (g : Nat) (a : Int), v = .slice (some ⟨g, 0, none⟩) 1 1 ∧ B ≤ g ∧ w.heap[g]? = some (.cells #[.int .i64 a] 3 (0, 0))⟩
def frX (B : Nat) (l : List Int) : Fresh.Fr := ⟨fun v => ∃ ad cap, v = .slice ad (l.length + 1) cap, fun v w => ∃ m : Int, OwnI B v (l ++ [m]) w⟩
def LoopQ (D c b B : Nat) (w0 : World) (q : Bool) (x y z : Int) (lk : Bool) (k : Nat) (wr : World) : Prop :=
  ∃ u l, l.length = k ∧ CuD D c wr ∧ Only c w0 wr ∧ Num.Blk 35 w0.heap.size (.bool false) (.int .i64 0) (.int .i64 0) (.int .i64 0) (.bool false) (.slice none 0 0) wr ∧ Num.Blk 35 b (.bool q) (.int .i64 x) (.int .i64 y) (.int .i64 z) (.bool lk) u wr ∧ OwnI B u l wr
theorem quo_bd (u n : Int) (h0 : 0 ≤ u) (h1 : u < 512) (hn0 : 1 ≤ n) (hn1 : n ≤ 4) : 0 ≤ u / n ∧ u / n < 512 ∧ 0 ≤ u / n * n ∧ u / n * n < 512 := by
  have h2 : n = 1 ∨ n = 2 ∨ n = 3 ∨ n = 4 := by omega
  rcases h2 with rfl | rfl | rfl | rfl <;> omega
set_option maxHeartbeats 8000000 in
set_option maxRecDepth 100000 in
theorem req_any (D c : Nat) (w : World) (h : CuD D c w) : Calls Try.prog 102 #[.pointer (some ⟨c, 0, none⟩)] w (DrewQ 8 D c w) := by
  have hD := h.le
  have hcD := h.lt
  have B0 := Blk.new 35 (.bool false) (.int .i64 0) (.int .i64 0) (.int .i64 0) (.bool false) (.slice none 0 0) w
  have hO0 := (Only.refl c w).alloc (.cells #[.bool false, .int .i64 0, .int .i64 0, .int .i64 0, .bool false, .slice none 0 0] 35)
  have hC0 := h.alloc (.cells #[.bool false, .int .i64 0, .int .i64 0, .int .i64 0, .bool false, .slice none 0 0] 35)
  go_enter Try.func102, Try.ntmps102
  go_wp2_with fail
  refine (onceC D c 2 (by omega) (by omega) _ hC0).mono ?_
  rintro e w1 ⟨q, rfl, hC1, hO1⟩
  go_wp2_with fail
  refine (pickLit D c [2, 2, 2, 0, 1] 5 rfl (by omega) (by omega) _ hC1 _ rfl).mono ?_
  rintro e w2 ⟨y, hy, rfl, hC2, hO2⟩
  go_wp2_with fail
  refine (pickLit D c [0, 0, 1, 2, 3] 5 rfl (by omega) (by omega) _ hC2 _ rfl).mono ?_
  rintro e w3 ⟨z, -, rfl, hC3, hO3⟩
  go_wp2_with fail
  refine (onceC D c 6 (by omega) (by omega) _ hC3).mono ?_
  rintro e w4 ⟨lk, rfl, hC4, hO4⟩
  have hOz := ((hO1.trans hO2).trans hO3).trans hO4
  have R5 := blk_only B0 hOz (by omega)
  have X5 := Blk.new 35 (.bool q) (.int .i64 0) (.int .i64 y) (.int .i64 z) (.bool lk) (.slice none 0 0) w4
  have bb := (Below.refl w4.heap.size w4).alloc (Nat.le_refl _) (.cells #[.bool q, .int .i64 0, .int .i64 y, .int .i64 z, .bool lk, .slice none 0 0] 35)
  have A5 := Blk.new 35 (.bool false) (.int .i64 0) (.int .i64 0) (.int .i64 0) (.bool false) (.slice none 0 0) w4
  obtain ⟨f0, f1, f2, f3, f4, f5⟩ := A5.warm
  have hC6 := hC4.below bb
  have hO6 := (hO0.trans hOz).below2 bb
  have R6 := R5.later bb
  have hs5 : w.heap.size + 1 ≤ w4.heap.size := by have := hOz.size; simpa using this
  have Hs5 := Lib.hid hs5
  have HC6 := Lib.hid hC6
  have HO6 := Lib.hid hO6
  have HR6 := Lib.hid R6
  have HX6 := Lib.hid X5
  have hy3 : y = 0 ∨ y = 1 ∨ y = 2 := by simp at hy; omega
  have hy0 : 0 ≤ y ∧ y ≤ 2 := by omega
  obtain ⟨n, hn⟩ : ∃ n, bytesW y = n := ⟨_, rfl⟩
  have hnb : 1 ≤ n ∧ n ≤ 4 := by rw [← hn]; unfold bytesW; repeat' split <;> omega
  obtain ⟨M, hM⟩ : ∃ M, limW y = M := ⟨_, rfl⟩
  have hMb : 256 ≤ M ∧ M ≤ 4294967296 := by rw [← hM]; unfold limW; repeat' split <;> omega
  have HN := Lib.hid hn
  have HM := Lib.hid hM
  obtain ⟨g0, g1, g2, g3, g4, g5⟩ := X5.cells
  clear hC6 hO6 R6 X5 R5 A5 hOz hO1 hO2 hO3 hO4 hC0 hC1 hC2 hC3 hC4 hO0 B0 bb h hy hy3 hn hM
  go_wp2_with fail
  clear f0 f1 f2 f3 f4 f5
  generalize w4.alloc (.cells #[.bool q, .int .i64 0, .int .i64 y, .int .i64 z, .bool lk, .slice none 0 0] 35) = w6 at HX6 HC6 HO6 HR6 g0 g1 g2 g3 g4 g5 ⊢
  refine (specBytes y _).mono ?_
  rintro e w7 ⟨rfl, rfl⟩
  rw [HN.out]
  clear g0 g1 g2 g3 g4 g5
  go_wp2_with fail
  refine (belowC D c 128 (by omega) (by omega) _ HC6.out).mono ?_
  rintro e u1 ⟨x1, ⟨a1, b1⟩, rfl, hC1, hO1⟩
  go_wp2_with fail
  refine (belowC D c 128 (by omega) (by omega) _ hC1).mono ?_
  rintro e u2 ⟨x2, ⟨a2, b2⟩, rfl, hC2, hO2⟩
  go_wp2_with fail
  refine (belowC D c 64 (by omega) (by omega) _ hC2).mono ?_
  rintro e u3 ⟨x3, ⟨a3, b3⟩, rfl, hC3, hO3⟩
  go_wp2_with fail
  refine (belowC D c 40 (by omega) (by omega) _ hC3).mono ?_
  rintro e u4 ⟨x4, ⟨a4, b4⟩, rfl, hC4, hO4⟩
  go_wp2_with fail
  refine (belowC D c 512 (by omega) (by omega) _ hC4).mono ?_
  rintro e u5 ⟨x5, ⟨a5, b5⟩, rfl, hC5, hO5⟩
  go_wp2_with fail
  refine (pickLit D c [x1, x2, 128 + x3, 192 + x4, x5] 5 rfl (by omega) (by omega) _ hC5 _ rfl).mono ?_
  rintro e u6 ⟨u, hu, rfl, hC8, hO8⟩
  have hub : 0 ≤ u ∧ u < 512 := by simp at hu; omega
  have hOz := ((((hO1.trans hO2).trans hO3).trans hO4).trans hO5).trans hO8
  have hqb := quo_bd u n hub.1 hub.2 hnb.1 hnb.2
  have hn0 : ¬ n = 0 := by omega
  have hn1 : ¬ n = -1 := by omega
  have HC8 := Lib.hid hC8
  have HO8 := Lib.hid (HO6.out.trans hOz)
  have HR8 := Lib.hid (blk_only HR6.out hOz (by omega))
  have x8 := blk_only HX6.out hOz (by omega)
  have HX8 := Lib.hid x8
  obtain ⟨g0, g1, g2, g3, g4, g5⟩ := x8.cells
  obtain ⟨f0, f1, f2, f3, f4, f5⟩ := x8.warm
  clear hu hOz x8 hC8 hO8 hO1 hO2 hO3 hO4 hO5 hC1 hC2 hC3 hC4 hC5 HX6 HR6 HO6 HC6
  go_wp2_with fail
  --TAIL
  obtain ⟨x, hx⟩ : ∃ x, u / n * n = x := ⟨_, rfl⟩
  rw [hx]
  have hb9 := (Below.refl (w.heap.size + 1) u6).setCell (p := ⟨w4.heap.size, 1, none⟩) Hs5.out (.int .i64 x)
  have HX9 := Lib.hid (show Num.Blk 35 w4.heap.size (.bool q) (.int .i64 x) (.int .i64 y) (.int .i64 z) (.bool lk) (.slice none 0 0) (u6.setCell ⟨w4.heap.size, 1, none⟩ (.int .i64 x)) from blk_set HX8.out 1 (.int .i64 x))
  have HR9 := Lib.hid (HR8.out.below hb9 (Nat.lt_succ_self _))
  have HC9 := Lib.hid (HC8.out.belowB hb9 (by omega))
  have HO9 := Lib.hid (HO8.out.transB (hb9.mono (Nat.le_succ _)))
  clear hb9 HX8 HR8 HC8 HO8 g0 g1 g2 g3 g4 g5 f0 f1 f2 f3 f4 f5 hqb hn0 hn1 hnb hx hub
  generalize u6.setCell ⟨w4.heap.size, 1, none⟩ (.int .i64 x) = u7 at HX9 HR9 HC9 HO9 ⊢
  obtain ⟨r, hr⟩ : ∃ r, okL (addrsW x y z) x = r := ⟨_, rfl⟩
  have Hr := Lib.hid hr
  clear hr
  refine (specOk x y z _).mono ?_
  rintro e u8 ⟨rfl, hb9⟩
  rw [Hr.out]
  have HXt := Lib.hid (HX9.out.later hb9)
  have HRt := Lib.hid (HR9.out.later hb9)
  have HCt := Lib.hid (HC9.out.below hb9)
  have HOt := Lib.hid (HO9.out.below2 hb9)
  clear hb9 HX9 HR9 HC9 HO9
  cases r with
  | false =>
    have hb9 := (Below.refl (w.heap.size + 1) u8).setCell (p := ⟨w4.heap.size, 3, none⟩) Hs5.out (.int .i64 0)
    have HX0 := Lib.hid (show Num.Blk 35 w4.heap.size (.bool q) (.int .i64 x) (.int .i64 y) (.int .i64 0) (.bool lk) (.slice none 0 0) (u8.setCell ⟨w4.heap.size, 3, none⟩ (.int .i64 0)) from blk_set HXt.out 3 (.int .i64 0))
    have HR0 := Lib.hid (HRt.out.below hb9 (Nat.lt_succ_self _))
    have HC0 := Lib.hid (HCt.out.belowB hb9 (by omega))
    have HO0 := Lib.hid (HOt.out.transB (hb9.mono (Nat.le_succ _)))
    obtain ⟨g0, g1, g2, g3, g4, g5⟩ := HXt.out.cells
    obtain ⟨f0, f1, f2, f3, f4, f5⟩ := HXt.out.warm
    clear hb9 HXt HRt HCt HOt
    go_wp2_with fail
    generalize u8.setCell ⟨w4.heap.size, 3, none⟩ (.int .i64 0) = u9 at HX0 HR0 HC0 HO0 ⊢
    clear g0 g1 g2 g3 g4 g5 f0 f1 f2 f3 f4 f5
    have HXt := HX0
    have HRt := HR0
    have HCt := HC0
    have HOt := HO0
    clear HX0 HR0 HC0 HO0
    obtain ⟨m, hm⟩ : ∃ m, beatsW 0 = m := ⟨_, rfl⟩
    have hmb := beatsW_bd 0
    rw [hm] at hmb
    have Hbm := Lib.hid hm
    have Hm := Lib.hid hmb
    clear hm
    go_loopw [5] (fun i wr => ∃ k : Nat, i = .int .i64 k ∧ (k : Int) ≤ m ∧ LoopQ D c w4.heap.size (w.heap.size + 1) w q x y 0 lk k wr) (fun i _ => 8 - (intOf i).toNat)
    case atStart => exact ⟨0, rfl, hmb.1, .slice none 0 0, [], rfl, HCt.out, HOt.out, HRt.out, HXt.out, OwnI.nil _ _⟩
    case round =>
      obtain ⟨n, rfl, hnm, v, l, hlk, hC, hO, hr2, hbx, how⟩ := hrel
      have HR2 := Lib.hid hr2
      have Hbx := Lib.hid hbx
      have How := Lib.hid how
      have HC := Lib.hid hC
      have HO := Lib.hid hO
      have hne := own_ne (T := 35) (by decide) how hbx
      have Hne := Lib.hid hne
      have hcb : c ≠ w4.heap.size := by have := Hs5.out; omega
      obtain ⟨ad, cp', hu⟩ := how.slice
      rw [hlk] at hu
      subst hu
      have Hlk := Lib.hid hlk
      obtain ⟨g0, g1, g2, g3, g4, g5⟩ := hbx.cells
      go_wp2_with fail
      refine (specBeats 0 _).mono ?_
      rintro e w10 ⟨rfl, hb10⟩
      rw [Hbm.out]
      clear hbx how hC hO hr2 hne hlk g0 g1 g2 g3 g4 g5
      replace HR2 := Lib.hid (HR2.out.later hb10)
      replace Hbx := Lib.hid (Hbx.out.later hb10)
      replace How := Lib.hid (How.out.later hb10)
      replace HC := Lib.hid (HC.out.below hb10)
      replace HO := Lib.hid (HO.out.below2 hb10)
      obtain ⟨g0, g1, g2, g3, g4, g5⟩ := Hbx.out.cells
      clear hb10
      by_cases hlt : (n : Int) < m
      · cases q with
        | false =>
          obtain ⟨t0, t1, t2, t3, t4, t5⟩ := Hbx.out.cells
          obtain ⟨r0, r1, r2, r3, r4, r5⟩ := HR2.out.cells
          obtain ⟨y0, y1, y2, y3, y4, y5⟩ := HR2.out.warm
          go_wp2_with fail
          refine bodyPost_ret (v := .agg #[.bool false, .int .i64 x, .int .i64 y, .int .i64 0, .bool lk, .slice ad n cp']) (by simp [results, Try.results102, go_sem, r0, r1, r2, r3, r4, r5]) rfl ?_
          exact DrewQ.fin hD (Nat.lt_succ_self _) How.out (by rw [Hlk.out]; have := Hm.out; omega) HC.out HO.out
        | true =>
          have hn8 : n < 8 := by omega
          obtain ⟨r', hr'⟩ : ∃ r, (.slice ad n cp' : Value).ownBlock = r := ⟨_, rfl⟩
          have hrlt : ∀ g', r' = some g' → w.heap.size + 1 ≤ g' ∧ g' < w10.heap.size := fun g' e => World.ownsRow.lt How.out g' (by rw [hr', e])
          have Hr' := Lib.hid hr'
          have Hrlt := Lib.hid hrlt
          have hin : Nonempty (Fresh.In (fun w' => Two c r' w10 w' ∧ CuD D c w')) := ⟨⟨w10, Two.refl _ _ _, HC.out⟩⟩
          have q0 : ∀ x : Fresh.In (fun w' => Two c r' w10 w' ∧ CuD D c w'), x.w.cell? ⟨w4.heap.size, 5, none⟩ = some (.slice ad n cp') := fun x => (x.h.1.blk Hbx.out (Ne.symm hcb) (fun e => Hne.out (by rw [hr', ← e]))).cells.2.2.2.2.2
          have q1 : ∀ x : Fresh.In (fun w' => Two c r' w10 w' ∧ CuD D c w'), x.w.cell? ⟨w4.heap.size, 2, none⟩ = some (.int .i64 y) := fun x => (x.h.1.blk Hbx.out (Ne.symm hcb) (fun e => Hne.out (by rw [hr', ← e]))).cells.2.2.1
          clear hr' hrlt
          go_wp2_with fail
          refine Fresh.wp_region_fresh_last (fun w' => ∃ x : Fresh.In (fun w' => Two c r' w10 w' ∧ CuD D c w'), w' = x.w) (fun i w' w'' => if i = 15 then w'.grownBy w'' r' else Only c w' w'') (fun i => if i = 6 then some (Fresh.frV (.int .i64 M)) else if i = 7 then some (frI (fun x => 0 < x ∧ x ≤ 4294967296)) else if i = 10 then some (Fresh.frV (.int .i64 M)) else if i = 11 then some (frK w10.heap.size M) else if i = 12 then some (frI (fun x => 0 < x ∧ x ≤ 4294967296)) else if i = 13 then some (frI (fun _ => True)) else if i = 14 then some (frE w10.heap.size) else if i = 15 then some (frX (w.heap.size + 1) l) else none) 15 (OwnI (w.heap.size + 1) (.slice ad n cp') l) (by simp) (by kernel_rfl) (by kernel_rfl) (by kernel_rfl) (by kernel_rfl) (by kernel_rfl) rfl ?_ ?_ ?_ ?_ ?_
          · intro i j fr hfr hij hd v w' w'' hR hp
            repeat' split at hfr
            · cases hfr; trivial
            · cases hfr; trivial
            · cases hfr; trivial
            · cases hfr
              obtain ⟨b, k, e, hB, hlb, hk0, hk1, hz⟩ := hp
              refine ⟨b, k, e, hB, ?_, hk0, hk1, ?_⟩
              · split at hR
                · exact Nat.lt_of_lt_of_le hlb hR.size
                · exact Nat.lt_of_lt_of_le hlb hR.size
              · split at hR
                · exact (hR.block b hlb (fun e' => by have := (Hrlt.out b e'.symm).2; omega)).trans hz
                · exact (hR.block b hlb (by have := HC.out.le; omega)).trans hz
            · cases hfr; trivial
            · cases hfr; trivial
            · cases hfr
              obtain ⟨g', a, e, hB, hh⟩ := hp
              refine ⟨g', a, e, hB, ?_⟩
              have hlt' := (Array.getElem?_eq_some_iff.1 hh).1
              split at hR
              · rw [hR.block g' hlt' (fun e' => by have := (Hrlt.out g' e'.symm).2; omega)]; exact hh
              · rw [hR.block g' hlt' (by have := HC.out.le; omega)]; exact hh
            · cases hfr
              obtain ⟨m, ho⟩ := hp
              rw [if_neg (by omega)] at hR
              exact ⟨m, ownI_only5 ho hR (by omega)⟩
            · cases hfr
          · intro i w' w'' hi hR ho
            rw [if_neg hi] at hR
            exact ownI_only5 ho hR (by omega)
          · exact Fresh.in_of ⟨(Two.refl c r' w10).below (Below.refl _ _).drew, HC.out.drew⟩
          · exact How.out
          · dsimp only [List.dropLast, List.getLast]
            iterate 6 (refine Fresh.step_plain rfl rfl rfl (fun K hK => ?_); go_big_quiet_op; refine hK _ ?_; clear hK K)
            refine Fresh.step_fresh _ rfl rfl ?_ ⟨_, rfl⟩ ?_
            · rintro w7 hC7 -
              obtain ⟨h7, c7⟩ := Fresh.of_in hC7
              go_simp
              refine Fresh.enter_of ((specLimit y _).mono ?_)
              rintro e w8 ⟨he, rfl⟩
              exact ⟨_, he, by rw [HM.out]; rfl, trivial, by exact Only.refl _ _, Fresh.in_of ⟨h7, c7⟩⟩
            rintro v rfl
            go_simp
            refine Fresh.step_fresh _ rfl rfl ?_ ⟨_, 1, ⟨by omega, by omega⟩, rfl⟩ ?_
            · rintro w7 hC7 -
              obtain ⟨h7, c7⟩ := Fresh.of_in hC7
              go_simp
              exact Fresh.value_of ⟨⟨_, ⟨by split <;> omega, by split <;> omega⟩, rfl⟩, trivial, by exact Only.refl _ _, Fresh.in_of ⟨h7, c7⟩⟩
            rintro v ⟨s7, ⟨hk0, hk1⟩, rfl⟩
            go_simp
            iterate 2 (refine Fresh.step_plain rfl rfl rfl (fun K hK => ?_); go_big_quiet_op; refine hK _ ?_; clear hK K)
            refine Fresh.step_fresh _ rfl rfl ?_ ⟨_, rfl⟩ ?_
            · rintro w7 hC7 -
              obtain ⟨h7, c7⟩ := Fresh.of_in hC7
              go_simp
              refine Fresh.enter_of ((specLimit y _).mono ?_)
              rintro e w8 ⟨he, rfl⟩
              exact ⟨_, he, by rw [HM.out]; rfl, trivial, by exact Only.refl _ _, Fresh.in_of ⟨h7, c7⟩⟩
            rintro v rfl
            go_simp
            refine Fresh.step_fresh _ rfl rfl ?_ ⟨_, 0, rfl⟩ ?_
            · rintro w7 hC7 -
              obtain ⟨h7, c7⟩ := Fresh.of_in hC7
              go_simp
              have hb7 := (Below.refl w7.heap.size w7).alloc (Nat.le_refl _) (Obj.cells #[.int .i64 s7, .int .i64 M] 3)
              exact Fresh.value_of ⟨⟨_, rfl⟩, ⟨_, s7, rfl, h7.size, by simp, hk0, hk1, Ints.new w7 [s7, M] _ rfl⟩, by exact Only.of_below hb7, Fresh.in_of ⟨h7.below hb7, c7.below hb7⟩⟩
            rintro v ⟨b1, rfl⟩
            go_simp
            refine Fresh.step_fresh _ rfl rfl ?_ ⟨_, 1, ⟨by omega, by omega⟩, rfl⟩ ?_
            · rintro w7 hC7 hF
              obtain ⟨h7, c7⟩ := Fresh.of_in hC7
              obtain ⟨b2, k2, e, hB, hlb, hk2, hk3, hz⟩ := Fresh.fact_of (hF 11 (by kernel_rfl))
              obtain rfl : b1 = b2 := by simpa using e
              clear hF e
              go_simp
              refine Fresh.enter_of ((pickC D c b1 [k2, M] 2 rfl (by omega) (by omega) (by have := HC.out.le; omega) _ hz c7).mono ?_)
              rintro e w8 ⟨x, hx, he, hC8, hO8⟩
              have hx2 : x = k2 ∨ x = M := by simpa using hx
              exact ⟨_, he, ⟨x, ⟨by omega, by omega⟩, rfl⟩, trivial, by exact hO8, Fresh.in_of ⟨h7.only hO8, hC8⟩⟩
            rintro v ⟨s12, ⟨hp0, hp1⟩, rfl⟩
            go_simp
            refine Fresh.step_fresh _ rfl rfl ?_ ⟨_, 0, trivial, rfl⟩ ?_
            · rintro w7 hC7 -
              obtain ⟨h7, c7⟩ := Fresh.of_in hC7
              go_simp
              refine Fresh.enter_of ((belowC D c s12 hp0 (by omega) _ c7).mono ?_)
              rintro e w8 ⟨x, -, he, hC8, hO8⟩
              exact ⟨_, he, ⟨x, trivial, rfl⟩, trivial, by exact hO8, Fresh.in_of ⟨h7.only hO8, hC8⟩⟩
            rintro v ⟨s13, -, rfl⟩
            go_simp
            refine Fresh.step_fresh _ rfl rfl ?_ ⟨_, 0, rfl⟩ ?_
            · rintro w7 hC7 -
              obtain ⟨h7, c7⟩ := Fresh.of_in hC7
              go_simp
              have hb7 := (Below.refl w7.heap.size w7).alloc (Nat.le_refl _) (Obj.cells #[.int .i64 s13] 3)
              exact Fresh.value_of ⟨⟨_, rfl⟩, ⟨_, s13, rfl, h7.size, heap_alloc_new w7 _⟩, by exact Only.of_below hb7, Fresh.in_of ⟨h7.below hb7, c7.below hb7⟩⟩
            rintro v ⟨g6, rfl⟩
            go_simp
            refine Fresh.step_once _ rfl rfl rfl ?_ ⟨_, none, 0, rfl⟩ ?_
            · rintro w7 hC7 ho hF
              obtain ⟨h7, c7⟩ := Fresh.of_in hC7
              obtain ⟨g7, a, e, hB, hh⟩ := Fresh.fact_of (hF 14 (by kernel_rfl))
              obtain rfl : g6 = g7 := by simpa using e
              clear hF e
              have hsz7 : w.heap.size + 1 ≤ w7.heap.size := Nat.le_trans (Nat.le_trans Hs5.out (Nat.le_of_lt Hbx.out.lt)) h7.size
              refine fresh_appI (.tmp 61) (.tmp 74) rfl (w.heap.size + 1) g6 (.slice ad n cp') l w7 a rfl rfl hh ho hsz7 (by rw [Hlk.out]; omega) (fun v' w' ho' hg' => ?_)
              rw [Hr'.out] at hg'
              obtain ⟨ad', cp'', e'⟩ := ho'.slice
              exact ⟨⟨ad', cp'', by rw [e']; simp⟩, ⟨_, ho'⟩, by exact hg', Fresh.in_of ⟨h7.grown hg', c7.grown hg' (fun g e => by have := (Hrlt.out g e).1; omega)⟩⟩
            rintro v ⟨ad', cp'', rfl⟩
            go_simp
            refine Fresh.step_plain rfl rfl rfl (fun K hK => ?_); go_big_quiet_op; refine hK _ ?_; clear hK K
            refine Fresh.step_end (fun w8 hC8 hF => ?_)
            obtain ⟨h8, c8⟩ := Fresh.of_in hC8
            obtain ⟨m', ho'⟩ := Fresh.fact_of (hF 15)
            have X8 := h8.blk Hbx.out (Ne.symm hcb) (fun e => Hne.out (by rw [Hr'.out, ← e]))
            have R8 := h8.blk HR2.out (by omega) (fun e => by have := (Hrlt.out _ e.symm).1; omega)
            have O8 := Two.fresh HO.out h8 (fun g e => by have := (Hrlt.out g e).1; omega)
            have hbs := (Below.refl (w.heap.size + 1) w8).setCell (p := ⟨w4.heap.size, 5, none⟩) Hs5.out (.slice ad' (l.length + 1) cp'')
            have Rs := Lib.hid (R8.below hbs (Nat.lt_succ_self _))
            have Xs := Lib.hid (show Num.Blk 35 w4.heap.size (.bool true) (.int .i64 x) (.int .i64 y) (.int .i64 0) (.bool lk) (.slice ad' (l.length + 1) cp'') (w8.setCell ⟨w4.heap.size, 5, none⟩ (.slice ad' (l.length + 1) cp'')) from blk_set X8 5 _)
            have Hos := Lib.hid (show OwnI (w.heap.size + 1) (.slice ad' (l.length + 1) cp'') (l ++ [m']) (w8.setCell ⟨w4.heap.size, 5, none⟩ (.slice ad' (l.length + 1) cp'')) from own_set_ne ho' (a := ⟨w4.heap.size, 5, none⟩) (own_ne (T := 35) (by decide) ho' X8) _)
            have Hcs := Lib.hid (c8.belowB hbs (by omega))
            have Hns := Lib.hid (O8.transB (hbs.mono (Nat.le_succ _)))
            have x0 := X8.cells.2.2.2.2.2
            have xw := X8.warm.2.2.2.2.2
            clear hC8 hF ho' X8 R8 q0 q1 hin O8 hbs h8 c8 g0 g1 g2 g3 g4 g5
            go_simp
            generalize w8.setCell ⟨w4.heap.size, 5, none⟩ (.slice ad' (l.length + 1) cp'') = w9 at Xs Hos Hcs Hns Rs ⊢
            clear x0 xw
            go_wp2_with fail
            go_roundw
            case rel => exact ⟨n + 1, by go_num, by omega, _, l ++ [m'], by simp [Hlk.out], Hcs.out, Hns.out, Rs.out, Xs.out, Hos.out⟩
            case measure => simp [intOf]; omega
      · skip
        obtain ⟨t0, t1, t2, t3, t4, t5⟩ := Hbx.out.cells
        obtain ⟨r0, r1, r2, r3, r4, r5⟩ := HR2.out.cells
        obtain ⟨y0, y1, y2, y3, y4, y5⟩ := HR2.out.warm
        go_wp2_with fail
        refine bodyPost_ret (v := .agg #[.bool q, .int .i64 x, .int .i64 y, .int .i64 0, .bool lk, .slice ad n cp']) (by simp [results, Try.results102, go_sem, r0, r1, r2, r3, r4, r5]) rfl ?_
        exact DrewQ.fin hD (Nat.lt_succ_self _) How.out (by rw [Hlk.out]; have := Hm.out; omega) HC.out HO.out
  | true =>
    go_wp2_with fail
    obtain ⟨m, hm⟩ : ∃ m, beatsW z = m := ⟨_, rfl⟩
    have hmb := beatsW_bd z
    rw [hm] at hmb
    have Hbm := Lib.hid hm
    have Hm := Lib.hid hmb
    clear hm
    go_loopw [5] (fun i wr => ∃ k : Nat, i = .int .i64 k ∧ (k : Int) ≤ m ∧ LoopQ D c w4.heap.size (w.heap.size + 1) w q x y z lk k wr) (fun i _ => 8 - (intOf i).toNat)
    case atStart => exact ⟨0, rfl, hmb.1, .slice none 0 0, [], rfl, HCt.out, HOt.out, HRt.out, HXt.out, OwnI.nil _ _⟩
    case round =>
      obtain ⟨n, rfl, hnm, v, l, hlk, hC, hO, hr2, hbx, how⟩ := hrel
      have HR2 := Lib.hid hr2
      have Hbx := Lib.hid hbx
      have How := Lib.hid how
      have HC := Lib.hid hC
      have HO := Lib.hid hO
      have hne := own_ne (T := 35) (by decide) how hbx
      have Hne := Lib.hid hne
      have hcb : c ≠ w4.heap.size := by have := Hs5.out; omega
      obtain ⟨ad, cp', hu⟩ := how.slice
      rw [hlk] at hu
      subst hu
      have Hlk := Lib.hid hlk
      obtain ⟨g0, g1, g2, g3, g4, g5⟩ := hbx.cells
      go_wp2_with fail
      refine (specBeats z _).mono ?_
      rintro e w10 ⟨rfl, hb10⟩
      rw [Hbm.out]
      clear hbx how hC hO hr2 hne hlk g0 g1 g2 g3 g4 g5
      replace HR2 := Lib.hid (HR2.out.later hb10)
      replace Hbx := Lib.hid (Hbx.out.later hb10)
      replace How := Lib.hid (How.out.later hb10)
      replace HC := Lib.hid (HC.out.below hb10)
      replace HO := Lib.hid (HO.out.below2 hb10)
      obtain ⟨g0, g1, g2, g3, g4, g5⟩ := Hbx.out.cells
      clear hb10
      by_cases hlt : (n : Int) < m
      · cases q with
        | false =>
          obtain ⟨t0, t1, t2, t3, t4, t5⟩ := Hbx.out.cells
          obtain ⟨r0, r1, r2, r3, r4, r5⟩ := HR2.out.cells
          obtain ⟨y0, y1, y2, y3, y4, y5⟩ := HR2.out.warm
          go_wp2_with fail
          refine bodyPost_ret (v := .agg #[.bool false, .int .i64 x, .int .i64 y, .int .i64 z, .bool lk, .slice ad n cp']) (by simp [results, Try.results102, go_sem, r0, r1, r2, r3, r4, r5]) rfl ?_
          exact DrewQ.fin hD (Nat.lt_succ_self _) How.out (by rw [Hlk.out]; have := Hm.out; omega) HC.out HO.out
        | true =>
          have hn8 : n < 8 := by omega
          obtain ⟨r', hr'⟩ : ∃ r, (.slice ad n cp' : Value).ownBlock = r := ⟨_, rfl⟩
          have hrlt : ∀ g', r' = some g' → w.heap.size + 1 ≤ g' ∧ g' < w10.heap.size := fun g' e => World.ownsRow.lt How.out g' (by rw [hr', e])
          have Hr' := Lib.hid hr'
          have Hrlt := Lib.hid hrlt
          have hin : Nonempty (Fresh.In (fun w' => Two c r' w10 w' ∧ CuD D c w')) := ⟨⟨w10, Two.refl _ _ _, HC.out⟩⟩
          have q0 : ∀ x : Fresh.In (fun w' => Two c r' w10 w' ∧ CuD D c w'), x.w.cell? ⟨w4.heap.size, 5, none⟩ = some (.slice ad n cp') := fun x => (x.h.1.blk Hbx.out (Ne.symm hcb) (fun e => Hne.out (by rw [hr', ← e]))).cells.2.2.2.2.2
          have q1 : ∀ x : Fresh.In (fun w' => Two c r' w10 w' ∧ CuD D c w'), x.w.cell? ⟨w4.heap.size, 2, none⟩ = some (.int .i64 y) := fun x => (x.h.1.blk Hbx.out (Ne.symm hcb) (fun e => Hne.out (by rw [hr', ← e]))).cells.2.2.1
          clear hr' hrlt
          go_wp2_with fail
          refine Fresh.wp_region_fresh_last (fun w' => ∃ x : Fresh.In (fun w' => Two c r' w10 w' ∧ CuD D c w'), w' = x.w) (fun i w' w'' => if i = 15 then w'.grownBy w'' r' else Only c w' w'') (fun i => if i = 6 then some (Fresh.frV (.int .i64 M)) else if i = 7 then some (frI (fun x => 0 < x ∧ x ≤ 4294967296)) else if i = 10 then some (Fresh.frV (.int .i64 M)) else if i = 11 then some (frK w10.heap.size M) else if i = 12 then some (frI (fun x => 0 < x ∧ x ≤ 4294967296)) else if i = 13 then some (frI (fun _ => True)) else if i = 14 then some (frE w10.heap.size) else if i = 15 then some (frX (w.heap.size + 1) l) else none) 15 (OwnI (w.heap.size + 1) (.slice ad n cp') l) (by simp) (by kernel_rfl) (by kernel_rfl) (by kernel_rfl) (by kernel_rfl) (by kernel_rfl) rfl ?_ ?_ ?_ ?_ ?_
          · intro i j fr hfr hij hd v w' w'' hR hp
            repeat' split at hfr
            · cases hfr; trivial
            · cases hfr; trivial
            · cases hfr; trivial
            · cases hfr
              obtain ⟨b, k, e, hB, hlb, hk0, hk1, hz⟩ := hp
              refine ⟨b, k, e, hB, ?_, hk0, hk1, ?_⟩
              · split at hR
                · exact Nat.lt_of_lt_of_le hlb hR.size
                · exact Nat.lt_of_lt_of_le hlb hR.size
              · split at hR
                · exact (hR.block b hlb (fun e' => by have := (Hrlt.out b e'.symm).2; omega)).trans hz
                · exact (hR.block b hlb (by have := HC.out.le; omega)).trans hz
            · cases hfr; trivial
            · cases hfr; trivial
            · cases hfr
              obtain ⟨g', a, e, hB, hh⟩ := hp
              refine ⟨g', a, e, hB, ?_⟩
              have hlt' := (Array.getElem?_eq_some_iff.1 hh).1
              split at hR
              · rw [hR.block g' hlt' (fun e' => by have := (Hrlt.out g' e'.symm).2; omega)]; exact hh
              · rw [hR.block g' hlt' (by have := HC.out.le; omega)]; exact hh
            · cases hfr
              obtain ⟨m, ho⟩ := hp
              rw [if_neg (by omega)] at hR
              exact ⟨m, ownI_only5 ho hR (by omega)⟩
            · cases hfr
          · intro i w' w'' hi hR ho
            rw [if_neg hi] at hR
            exact ownI_only5 ho hR (by omega)
          · exact Fresh.in_of ⟨(Two.refl c r' w10).below (Below.refl _ _).drew, HC.out.drew⟩
          · exact How.out
          · dsimp only [List.dropLast, List.getLast]
            iterate 6 (refine Fresh.step_plain rfl rfl rfl (fun K hK => ?_); go_big_quiet_op; refine hK _ ?_; clear hK K)
            refine Fresh.step_fresh _ rfl rfl ?_ ⟨_, rfl⟩ ?_
            · rintro w7 hC7 -
              obtain ⟨h7, c7⟩ := Fresh.of_in hC7
              go_simp
              refine Fresh.enter_of ((specLimit y _).mono ?_)
              rintro e w8 ⟨he, rfl⟩
              exact ⟨_, he, by rw [HM.out]; rfl, trivial, by exact Only.refl _ _, Fresh.in_of ⟨h7, c7⟩⟩
            rintro v rfl
            go_simp
            refine Fresh.step_fresh _ rfl rfl ?_ ⟨_, 1, ⟨by omega, by omega⟩, rfl⟩ ?_
            · rintro w7 hC7 -
              obtain ⟨h7, c7⟩ := Fresh.of_in hC7
              go_simp
              exact Fresh.value_of ⟨⟨_, ⟨by split <;> omega, by split <;> omega⟩, rfl⟩, trivial, by exact Only.refl _ _, Fresh.in_of ⟨h7, c7⟩⟩
            rintro v ⟨s7, ⟨hk0, hk1⟩, rfl⟩
            go_simp
            iterate 2 (refine Fresh.step_plain rfl rfl rfl (fun K hK => ?_); go_big_quiet_op; refine hK _ ?_; clear hK K)
            refine Fresh.step_fresh _ rfl rfl ?_ ⟨_, rfl⟩ ?_
            · rintro w7 hC7 -
              obtain ⟨h7, c7⟩ := Fresh.of_in hC7
              go_simp
              refine Fresh.enter_of ((specLimit y _).mono ?_)
              rintro e w8 ⟨he, rfl⟩
              exact ⟨_, he, by rw [HM.out]; rfl, trivial, by exact Only.refl _ _, Fresh.in_of ⟨h7, c7⟩⟩
            rintro v rfl
            go_simp
            refine Fresh.step_fresh _ rfl rfl ?_ ⟨_, 0, rfl⟩ ?_
            · rintro w7 hC7 -
              obtain ⟨h7, c7⟩ := Fresh.of_in hC7
              go_simp
              have hb7 := (Below.refl w7.heap.size w7).alloc (Nat.le_refl _) (Obj.cells #[.int .i64 s7, .int .i64 M] 3)
              exact Fresh.value_of ⟨⟨_, rfl⟩, ⟨_, s7, rfl, h7.size, by simp, hk0, hk1, Ints.new w7 [s7, M] _ rfl⟩, by exact Only.of_below hb7, Fresh.in_of ⟨h7.below hb7, c7.below hb7⟩⟩
            rintro v ⟨b1, rfl⟩
            go_simp
            refine Fresh.step_fresh _ rfl rfl ?_ ⟨_, 1, ⟨by omega, by omega⟩, rfl⟩ ?_
            · rintro w7 hC7 hF
              obtain ⟨h7, c7⟩ := Fresh.of_in hC7
              obtain ⟨b2, k2, e, hB, hlb, hk2, hk3, hz⟩ := Fresh.fact_of (hF 11 (by kernel_rfl))
              obtain rfl : b1 = b2 := by simpa using e
              clear hF e
              go_simp
              refine Fresh.enter_of ((pickC D c b1 [k2, M] 2 rfl (by omega) (by omega) (by have := HC.out.le; omega) _ hz c7).mono ?_)
              rintro e w8 ⟨x, hx, he, hC8, hO8⟩
              have hx2 : x = k2 ∨ x = M := by simpa using hx
              exact ⟨_, he, ⟨x, ⟨by omega, by omega⟩, rfl⟩, trivial, by exact hO8, Fresh.in_of ⟨h7.only hO8, hC8⟩⟩
            rintro v ⟨s12, ⟨hp0, hp1⟩, rfl⟩
            go_simp
            refine Fresh.step_fresh _ rfl rfl ?_ ⟨_, 0, trivial, rfl⟩ ?_
            · rintro w7 hC7 -
              obtain ⟨h7, c7⟩ := Fresh.of_in hC7
              go_simp
              refine Fresh.enter_of ((belowC D c s12 hp0 (by omega) _ c7).mono ?_)
              rintro e w8 ⟨x, -, he, hC8, hO8⟩
              exact ⟨_, he, ⟨x, trivial, rfl⟩, trivial, by exact hO8, Fresh.in_of ⟨h7.only hO8, hC8⟩⟩
            rintro v ⟨s13, -, rfl⟩
            go_simp
            refine Fresh.step_fresh _ rfl rfl ?_ ⟨_, 0, rfl⟩ ?_
            · rintro w7 hC7 -
              obtain ⟨h7, c7⟩ := Fresh.of_in hC7
              go_simp
              have hb7 := (Below.refl w7.heap.size w7).alloc (Nat.le_refl _) (Obj.cells #[.int .i64 s13] 3)
              exact Fresh.value_of ⟨⟨_, rfl⟩, ⟨_, s13, rfl, h7.size, heap_alloc_new w7 _⟩, by exact Only.of_below hb7, Fresh.in_of ⟨h7.below hb7, c7.below hb7⟩⟩
            rintro v ⟨g6, rfl⟩
            go_simp
            refine Fresh.step_once _ rfl rfl rfl ?_ ⟨_, none, 0, rfl⟩ ?_
            · rintro w7 hC7 ho hF
              obtain ⟨h7, c7⟩ := Fresh.of_in hC7
              obtain ⟨g7, a, e, hB, hh⟩ := Fresh.fact_of (hF 14 (by kernel_rfl))
              obtain rfl : g6 = g7 := by simpa using e
              clear hF e
              have hsz7 : w.heap.size + 1 ≤ w7.heap.size := Nat.le_trans (Nat.le_trans Hs5.out (Nat.le_of_lt Hbx.out.lt)) h7.size
              refine fresh_appI (.tmp 61) (.tmp 74) rfl (w.heap.size + 1) g6 (.slice ad n cp') l w7 a rfl rfl hh ho hsz7 (by rw [Hlk.out]; omega) (fun v' w' ho' hg' => ?_)
              rw [Hr'.out] at hg'
              obtain ⟨ad', cp'', e'⟩ := ho'.slice
              exact ⟨⟨ad', cp'', by rw [e']; simp⟩, ⟨_, ho'⟩, by exact hg', Fresh.in_of ⟨h7.grown hg', c7.grown hg' (fun g e => by have := (Hrlt.out g e).1; omega)⟩⟩
            rintro v ⟨ad', cp'', rfl⟩
            go_simp
            refine Fresh.step_plain rfl rfl rfl (fun K hK => ?_); go_big_quiet_op; refine hK _ ?_; clear hK K
            refine Fresh.step_end (fun w8 hC8 hF => ?_)
            obtain ⟨h8, c8⟩ := Fresh.of_in hC8
            obtain ⟨m', ho'⟩ := Fresh.fact_of (hF 15)
            have X8 := h8.blk Hbx.out (Ne.symm hcb) (fun e => Hne.out (by rw [Hr'.out, ← e]))
            have R8 := h8.blk HR2.out (by omega) (fun e => by have := (Hrlt.out _ e.symm).1; omega)
            have O8 := Two.fresh HO.out h8 (fun g e => by have := (Hrlt.out g e).1; omega)
            have hbs := (Below.refl (w.heap.size + 1) w8).setCell (p := ⟨w4.heap.size, 5, none⟩) Hs5.out (.slice ad' (l.length + 1) cp'')
            have Rs := Lib.hid (R8.below hbs (Nat.lt_succ_self _))
            have Xs := Lib.hid (show Num.Blk 35 w4.heap.size (.bool true) (.int .i64 x) (.int .i64 y) (.int .i64 z) (.bool lk) (.slice ad' (l.length + 1) cp'') (w8.setCell ⟨w4.heap.size, 5, none⟩ (.slice ad' (l.length + 1) cp'')) from blk_set X8 5 _)
            have Hos := Lib.hid (show OwnI (w.heap.size + 1) (.slice ad' (l.length + 1) cp'') (l ++ [m']) (w8.setCell ⟨w4.heap.size, 5, none⟩ (.slice ad' (l.length + 1) cp'')) from own_set_ne ho' (a := ⟨w4.heap.size, 5, none⟩) (own_ne (T := 35) (by decide) ho' X8) _)
            have Hcs := Lib.hid (c8.belowB hbs (by omega))
            have Hns := Lib.hid (O8.transB (hbs.mono (Nat.le_succ _)))
            have x0 := X8.cells.2.2.2.2.2
            have xw := X8.warm.2.2.2.2.2
            clear hC8 hF ho' X8 R8 q0 q1 hin O8 hbs h8 c8 g0 g1 g2 g3 g4 g5
            go_simp
            generalize w8.setCell ⟨w4.heap.size, 5, none⟩ (.slice ad' (l.length + 1) cp'') = w9 at Xs Hos Hcs Hns Rs ⊢
            clear x0 xw
            go_wp2_with fail
            go_roundw
            case rel => exact ⟨n + 1, by go_num, by omega, _, l ++ [m'], by simp [Hlk.out], Hcs.out, Hns.out, Rs.out, Xs.out, Hos.out⟩
            case measure => simp [intOf]; omega
      · skip
        obtain ⟨t0, t1, t2, t3, t4, t5⟩ := Hbx.out.cells
        obtain ⟨r0, r1, r2, r3, r4, r5⟩ := HR2.out.cells
        obtain ⟨y0, y1, y2, y3, y4, y5⟩ := HR2.out.warm
        go_wp2_with fail
        refine bodyPost_ret (v := .agg #[.bool q, .int .i64 x, .int .i64 y, .int .i64 z, .bool lk, .slice ad n cp']) (by simp [results, Try.results102, go_sem, r0, r1, r2, r3, r4, r5]) rfl ?_
        exact DrewQ.fin hD (Nat.lt_succ_self _) How.out (by rw [Hlk.out]; have := Hm.out; omega) HC.out HO.out
end Go.Proofs.Ytijilhaoknpeeaa.Cur
