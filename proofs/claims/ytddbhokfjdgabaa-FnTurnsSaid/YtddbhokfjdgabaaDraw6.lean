
/-
  The configurations that FnConfs draws, of no account but for their form: spec.l6Conf.
-/
import Derived.Test.YtddbhokfjdgabaaCurD
import Derived.Test.YtddbhokfjdgabaaFreshRow
import Derived.Test.YtddbhokfjdgabaaConf4
import Derived.OneCell
import Derived.Deep.RegionLaw
namespace Go.Proofs.Ytddbhokfjdgabaa.Cur
open Go.RowKit Bytes Num GR

theorem mc_oneC (m : MC) : ∀ u ∈ mcK.enc m, u.oneCell' = true := by
  intro u hu
  simp [mcK] at hu
  rcases hu with rfl | rfl | rfl | rfl <;> rfl
theorem own_ne_bxC {K : Kd MC} {T T' B b : Nat} {u : Value} {l : List MC} {cs : Array Value} {w : World} (ho : Own K T B u l w) (hb : Bx T' b cs w) (hT : T ≠ T') : u.ownBlock ≠ some b := by
  rcases ho.2 with ⟨rfl, _⟩ | ⟨g, cap, cur, rfl, _, hg, _⟩
  · intro e; cases e
  · intro e
    obtain rfl : g = b := by injection e
    unfold Bx at hb
    rw [hg] at hb
    injection hb with h1
    injection h1 with _ h2
    exact hT h2
theorem Only.below2 {c : Nat} {w w1 w2 : World} (h : Only c w w1) (k : Below w1.heap.size w1 w2) : Only c w w2 := h.trans (Only.of_below k)
theorem only_grown {c : Nat} {w w' : World} (h : Only c w w') : w.grownBy w' (some c) := ⟨h.os, h.tape, h.output, h.size, fun k hk hne => h.block k hk (fun e => hne (by rw [e]))⟩
theorem own_only {B c : Nat} {v : Value} {l : List MC} {w w' : World} (h : Own mcK 78 B v l w) (hO : Only c w w') (hc : c < B) : Own mcK 78 B v l w' :=
  h.far (only_grown hO) (fun k hk e => by have := (World.ownsRow.lt h k hk).1; cases e; omega)
theorem bx_only {T b c : Nat} {cs : Array Value} {w w' : World} (h : Bx T b cs w) (hO : Only c w w') (hc : b ≠ c) : Bx T b cs w' := (hO.block b h.lt hc).trans h
/-- of all that stood, the cursor and the row alone may have turned. -/
structure Two (c : Nat) (r : Option Nat) (w w' : World) : Prop where
  os : w'.os = w.os
  tape : w'.tape = w.tape
  output : w'.output = w.output
  size : w.heap.size ≤ w'.heap.size
  block : ∀ k, k < w.heap.size → k ≠ c → some k ≠ r → w'.heap[k]? = w.heap[k]?
theorem Two.refl (c : Nat) (r : Option Nat) (w : World) : Two c r w w := ⟨rfl, rfl, rfl, Nat.le_refl _, fun _ _ _ _ => rfl⟩
theorem Two.only {c : Nat} {r : Option Nat} {w w1 w2 : World} (h : Two c r w w1) (k : Only c w1 w2) : Two c r w w2 :=
  ⟨k.os.trans h.os, k.tape.trans h.tape, k.output.trans h.output, Nat.le_trans h.size k.size, fun j hj h1 h2 => (k.block j (Nat.lt_of_lt_of_le hj h.size) h1).trans (h.block j hj h1 h2)⟩
theorem Two.below {c : Nat} {r : Option Nat} {w w1 w2 : World} (h : Two c r w w1) (k : Below w1.heap.size w1 w2) : Two c r w w2 := h.only (Only.of_below k)
theorem Two.grown {c : Nat} {r : Option Nat} {w w1 w2 : World} (h : Two c r w w1) (k : w1.grownBy w2 r) : Two c r w w2 :=
  ⟨k.os.trans h.os, k.tape.trans h.tape, k.output.trans h.output, Nat.le_trans h.size k.size, fun j hj h1 h2 => (k.block j (Nat.lt_of_lt_of_le hj h.size) h2).trans (h.block j hj h1 h2)⟩
theorem Two.bx {T b c : Nat} {r : Option Nat} {cs : Array Value} {w w' : World} (hO : Two c r w w') (h : Bx T b cs w) (hc : b ≠ c) (hr : some b ≠ r) : Bx T b cs w' := (hO.block b h.lt hc hr).trans h
/-- where the row is the call's own, no block that stood before the call turns but the cursor. -/
theorem Two.fresh {c : Nat} {r : Option Nat} {w0 w w' : World} (h0 : Only c w0 w) (h : Two c r w w') (hr : ∀ g, r = some g → w0.heap.size ≤ g) : Only c w0 w' :=
  ⟨h.os.trans h0.os, h.tape.trans h0.tape, h.output.trans h0.output, Nat.le_trans h0.size h.size, fun k hk hne => (h.block k (Nat.lt_of_lt_of_le hk h0.size) hne (fun e => by have := hr k e.symm; omega)).trans (h0.block k hk hne)⟩
theorem CuD.grown {D c : Nat} {r : Option Nat} {w w' : World} (h : CuD D c w) (hg : w.grownBy w' r) (hr : ∀ g, r = some g → D ≤ g) : CuD D c w' :=
  h.belowB (B := D) ((Below.refl D w).grown hg h.le hr) (Nat.le_refl _)
/-- a store of one cell of an element of an own row. -/
theorem flat_set {α : Type} (K : Kd α) (l : List α) (i j : Nat) (m m' : α) (u : Value) (hi : l[i]? = some m) (hm : K.enc m' = (K.enc m).set j u) (hj : j < K.k) : (flatE K l).set (i * K.k + j) u = flatE K (l.set i m') := by
  obtain ⟨h, rfl⟩ := List.getElem?_eq_some_iff.1 hi
  clear hi
  have hl : (flatE K (l.take i)).length = i * K.k := by rw [flatE_length, List.length_take, Nat.min_eq_left (by omega)]
  have e : l = l.take i ++ l[i] :: l.drop (i + 1) := by rw [← List.drop_eq_getElem_cons h, List.take_append_drop]
  have e2 : l.set i m' = l.take i ++ m' :: l.drop (i + 1) := by rw [List.set_eq_take_append_cons_drop, if_pos h]
  rw [e2, flatE_append]
  have e3 : flatE K (m' :: l.drop (i + 1)) = (K.enc l[i]).set j u ++ flatE K (l.drop (i + 1)) := by rw [← hm]; rfl
  have e4 : flatE K l = flatE K (l.take i) ++ (K.enc l[i] ++ flatE K (l.drop (i + 1))) := by
    conv => lhs; rw [e, flatE_append]
    rfl
  rw [e3, e4, List.set_append_right _ _ (by omega), hl, Nat.add_sub_cancel_left, List.set_append_left _ _ (by rw [K.len]; exact hj)]
theorem own_cell {B g n cap : Nat} {l : List MC} {w : World} (h : Own mcK 78 B (.slice (some ⟨g, 0, none⟩) n cap) l w) (i j : Nat) (m m' : MC) (u : Value) (hi : l[i]? = some m) (hm : mcK.enc m' = (mcK.enc m).set j u) (hj : j < 4) :
    Own mcK 78 B (.slice (some ⟨g, 0, none⟩) n cap) (l.set i m') (w.setCell ⟨g, i * 4 + j, none⟩ u) := by
  obtain ⟨ad, cp, e⟩ := Own.slice h
  cases e
  have h1 := (World.ownsRow.stored h (i * mcK.k + j) u).1
  unfold Own
  rw [List.length_set]
  have h2 := flat_set mcK l i j m m' u hi hm hj
  rw [h2] at h1
  exact h1
/-- some configuration drawn. -/
def DrewC (a m D c : Nat) (w : World) (e : Ending) (w' : World) : Prop :=
  ∃ v l q mw mr ms lm, e = .returned (.agg #[v, .int .i64 q, .int .i64 mw, .int .i64 mr, .int .i64 ms, .int .i64 lm]) ∧ Own mcK 78 w.heap.size v l w' ∧ a ≤ l.length ∧ l.length ≤ m ∧ CuD D c w' ∧ Only c w w'
theorem set_at {α : Type} {l : List α} {i : Nat} {x y : α} (h : l[i]? = some x) : (l.set i y)[i]? = some y := by
  obtain ⟨h1, _⟩ := List.getElem?_eq_some_iff.1 h
  simp [h1]
theorem own_block {B : Nat} {v : Value} {l : List MC} {w : World} (h : Own mcK 78 B v l w) (hl : 0 < l.length) : ∃ g cap, v = .slice (some ⟨g, 0, none⟩) l.length cap ∧ B ≤ g ∧ g < w.heap.size := by
  rcases h.2 with ⟨rfl, h0⟩ | ⟨g, cap, cur, rfl, hb, hg, _⟩
  · omega
  · exact ⟨g, cap, rfl, hb, (Array.getElem?_eq_some_iff.1 hg).1⟩
def filled (w' : World) (b : Nat) (v : Value) (q mw mr ms lm : Int) : World :=
  (((((w'.setCell ⟨b, 0, none⟩ v).setCell ⟨b, 1, none⟩ (.int .i64 q)).setCell ⟨b, 2, none⟩ (.int .i64 mw)).setCell ⟨b, 3, none⟩ (.int .i64 mr)).setCell ⟨b, 4, none⟩ (.int .i64 ms)).setCell ⟨b, 5, none⟩ (.int .i64 lm)
theorem DrewC.fin {a m D c : Nat} {w w' : World} {v : Value} {l : List MC} {q mw mr ms lm : Int} (hD : D ≤ w.heap.size) (ho : Own mcK 78 (w.heap.size + 1) v l w') (h1 : a ≤ l.length) (h2 : l.length ≤ m) (hC : CuD D c w') (hO : Only c w w') :
    DrewC a m D c w (.returned (.agg #[v, .int .i64 q, .int .i64 mw, .int .i64 mr, .int .i64 ms, .int .i64 lm])) (filled w' w.heap.size v q mw mr ms lm) := by
  have hb : Below w.heap.size w' (filled w' w.heap.size v q mw mr ms lm) := by
    unfold filled
    iterate 6 refine Below.setCell ?_ (by exact Nat.le_refl _) _
    exact Below.refl _ _
  refine ⟨v, l, q, mw, mr, ms, lm, rfl, Own.mono (B := w.heap.size + 1) ?_ (Nat.le_succ _), h1, h2, hC.belowB hb hD, hO.transB hb⟩
  unfold filled
  iterate 6 refine Own.setBelow ?_ (by exact Nat.lt_succ_self _) _
  exact ho
def frI (P : Int → Prop) : Fresh.Fr := ⟨fun v => ∃ x : Int, P x ∧ v = .int .i64 x, fun _ _ => True⟩
def frW (B : Nat) : Fresh.Fr := ⟨fun v => ∃ g, v = .slice (some ⟨g, 0, none⟩) 1 1, fun v w => ∃ (g : Nat) (a : Int), v = .slice (some ⟨g, 0, none⟩) 1 1 ∧ B ≤ g ∧ w.heap[g]? = some (.cells #[.int .i64 a, .bool false, .int .i64 0, .int .i64 0] 78)⟩
def frX (B : Nat) (l : List MC) : Fresh.Fr := ⟨fun v => ∃ ad cap, v = .slice ad (l.length + 1) cap, fun v w => ∃ m : MC, Own mcK 78 B v (l ++ [m]) w⟩
/-- what holds in the loop: the cursor, the box, the row. -/
def LoopW (D c b B : Nat) (w0 : World) (q mw mr ms lm : Int) (k : Nat) (wr : World) : Prop :=
  ∃ u l, l.length = k ∧ CuD D c wr ∧ Only c w0 wr ∧ Bx 28 w0.heap.size #[.slice none 0 0, .int .i64 0, .int .i64 0, .int .i64 0, .int .i64 0, .int .i64 0] wr ∧ Bx 28 b #[u, .int .i64 q, .int .i64 mw, .int .i64 mr, .int .i64 ms, .int .i64 lm] wr ∧ Own mcK 78 B u l wr
set_option maxHeartbeats 8000000 in
set_option maxRecDepth 100000 in
theorem conf_any (D c : Nat) (w : World) (h : CuD D c w) : Calls Try.prog 52 #[.pointer (some ⟨c, 0, none⟩)] w (DrewC 1 4 D c w) := by
  have hD := h.le
  have hcD := h.lt
  have B0 := Bx.new 28 #[.slice none 0 0, .int .i64 0, .int .i64 0, .int .i64 0, .int .i64 0, .int .i64 0] w
  have hO0 := (Only.refl c w).alloc (.cells #[.slice none 0 0, .int .i64 0, .int .i64 0, .int .i64 0, .int .i64 0, .int .i64 0] 28)
  have hC0 := h.alloc (.cells #[.slice none 0 0, .int .i64 0, .int .i64 0, .int .i64 0, .int .i64 0, .int .i64 0] 28)
  go_enter Try.func52, Try.ntmps52
  go_wp2_with fail
  refine (belowC D c 3 (by omega) (by omega) _ hC0).mono ?_
  rintro e w1 ⟨x1, ⟨a1, b1⟩, rfl, hC1, hO1⟩
  go_wp2_with fail
  refine (belowC D c 3 (by omega) (by omega) _ hC1).mono ?_
  rintro e w2 ⟨x2, ⟨a2, b2⟩, rfl, hC2, hO2⟩
  go_wp2_with fail
  refine (belowC D c 3 (by omega) (by omega) _ hC2).mono ?_
  rintro e w3 ⟨x3, ⟨a3, b3⟩, rfl, hC3, hO3⟩
  go_wp2_with fail
  refine (belowC D c 6 (by omega) (by omega) _ hC3).mono ?_
  rintro e w4 ⟨x4, ⟨a4, b4⟩, rfl, hC4, hO4⟩
  go_wp2_with fail
  refine (belowC D c 12 (by omega) (by omega) _ hC4).mono ?_
  rintro e w5 ⟨x5, ⟨a5, b5⟩, rfl, hC5, hO5⟩
  have hOz := (((hO1.trans hO2).trans hO3).trans hO4).trans hO5
  have R5 := bx_only B0 hOz (by omega)
  have X5 := Bx.new 28 #[.slice none 0 0, .int .i64 (1 + x1), .int .i64 x2, .int .i64 x3, .int .i64 (1 + x4), .int .i64 (1 + x5)] w5
  have bb := (Below.refl w5.heap.size w5).alloc (Nat.le_refl _) (.cells #[.slice none 0 0, .int .i64 (1 + x1), .int .i64 x2, .int .i64 x3, .int .i64 (1 + x4), .int .i64 (1 + x5)] 28)
  have A5 := Bx.new 28 #[.slice none 0 0, .int .i64 0, .int .i64 0, .int .i64 0, .int .i64 0, .int .i64 0] w5
  have f0 := A5.warm 0
  have f1 := A5.warm 1
  have f2 := A5.warm 2
  have f3 := A5.warm 3
  have f4 := A5.warm 4
  have f5 := A5.warm 5
  have hC6 := hC5.below bb
  have hO6 := (hO0.trans hOz).below2 bb
  have R6 := R5.later bb
  obtain ⟨w6, hw6⟩ : ∃ w6, w5.alloc (.cells #[.slice none 0 0, .int .i64 (1 + x1), .int .i64 x2, .int .i64 x3, .int .i64 (1 + x4), .int .i64 (1 + x5)] 28) = w6 := ⟨_, rfl⟩
  have hs5 : w.heap.size + 1 ≤ w5.heap.size := by have := hOz.size; simpa using this
  rw [hw6] at X5 bb hC6 hO6 R6
  have Hs5 := Lib.hid hs5
  have HC6 := Lib.hid hC6
  have HO6 := Lib.hid hO6
  have HR6 := Lib.hid R6
  have HX6 := Lib.hid X5
  clear hC6 hO6 R6 X5 R5 A5 hOz hO1 hO2 hO3 hO4 hO5 hC0 hC1 hC2 hC3 hC4 hC5 hO0 B0 bb h
  go_wp2_with fail
  clear hw6 f0 f1 f2 f3 f4 f5
  refine (belowC D c 4 (by omega) (by omega) _ HC6.out).mono ?_
  rintro e w7 ⟨x6, ⟨a6, b6⟩, rfl, hC7, hO7⟩
  have HC7 := Lib.hid hC7
  have HO7 := Lib.hid (HO6.out.trans hO7)
  have HX7 := Lib.hid (bx_only HX6.out hO7 (by omega))
  have HR7 := Lib.hid (bx_only HR6.out hO7 (by omega))
  clear hC7 hO7 HX6 HR6 HO6 HC6 hs5
  go_wp2_with fail
  go_loopw [4] (fun i wr => ∃ k : Nat, k ≤ 4 ∧ i = .int .i64 k ∧ ∃ n : Nat, 1 ≤ n + k ∧ n + k ≤ 4 ∧ LoopW D c w5.heap.size (w.heap.size + 1) w (1 + x1) x2 x3 (1 + x4) (1 + x5) n wr) (fun i _ => (intOf i).toNat)
  case atStart => exact ⟨(1 + x6).toNat, by omega, by congr 1; omega, 0, by omega, by omega, .slice none 0 0, [], rfl, HC7.out, HO7.out, HR7.out, HX7.out, Own.nil _ _ _ _⟩
  case round =>
    obtain ⟨k, hk4, rfl, n, hn1, hn4, u, l, hlk, hC, hO, hr2, hbx, how⟩ := hrel
    have HR2 := Lib.hid hr2
    have Hbx := Lib.hid hbx
    have How := Lib.hid how
    have HC := Lib.hid hC
    have HO := Lib.hid hO
    have hne := own_ne_bxC how hbx (by decide)
    have Hne := Lib.hid hne
    have hcb : c ≠ w5.heap.size := by have := Hs5.out; omega
    obtain ⟨ad, cp', hu⟩ := how.slice
    rw [hlk] at hu
    subst hu
    have Hlk := Lib.hid hlk
    by_cases hk0 : 0 < k
    · obtain ⟨r, hr⟩ : ∃ r, (Value.slice ad n cp').ownBlock = r := ⟨_, rfl⟩
      have hrlt : ∀ g', r = some g' → w.heap.size + 1 ≤ g' ∧ g' < wr.heap.size := fun g' e => World.ownsRow.lt how g' (by rw [hr, e])
      have Hr := Lib.hid hr
      have Hrlt := Lib.hid hrlt
      have hin : Nonempty (Fresh.In (fun w' => Two c r wr w' ∧ CuD D c w')) := ⟨⟨wr, Two.refl _ _ _, hC⟩⟩
      have y0 : ∀ x : Fresh.In (fun w' => Two c r wr w' ∧ CuD D c w'), x.w.cell? ⟨w5.heap.size, 0, none⟩ = some (.slice ad n cp') := fun x => (x.h.1.bx Hbx.out (Ne.symm hcb) (fun e => Hne.out (by rw [hr, ← e]))).cell 0 _ rfl
      clear hbx how hC hO hr2 hne hlk hr hrlt
      go_wp2_with fail
      refine Fresh.wp_region_fresh_last (fun w' => ∃ x : Fresh.In (fun w' => Two c r wr w' ∧ CuD D c w'), w' = x.w) (fun i w' w'' => if i = 7 then w'.grownBy w'' r else Only c w' w'') (fun i => if i = 3 then some (frI (fun x => 0 ≤ x ∧ x < 3)) else if i = 6 then some (frW wr.heap.size) else if i = 7 then some (frX (w.heap.size + 1) l) else none) 7 (Own mcK 78 (w.heap.size + 1) (.slice ad n cp') l) (by simp) (by kernel_rfl) (by kernel_rfl) (by kernel_rfl) (by kernel_rfl) (by kernel_rfl) rfl ?_ ?_ ?_ ?_ ?_
      · intro i j fr hfr hij hd v w' w'' hR hp
        repeat' split at hfr
        · cases hfr; trivial
        · cases hfr
          obtain ⟨g', a, e, hB, hh⟩ := hp
          refine ⟨g', a, e, hB, ?_⟩
          have hlt' := (Array.getElem?_eq_some_iff.1 hh).1
          split at hR
          · rw [hR.block g' hlt' (fun e' => by have := (Hrlt.out g' e'.symm).2; omega)]; exact hh
          · rw [hR.block g' hlt' (by have := HC.out.le; omega)]; exact hh
        · cases hfr
          obtain ⟨m, ho⟩ := hp
          rw [if_neg (by omega)] at hR
          exact ⟨m, own_only ho hR (by omega)⟩
        · cases hfr
      · intro i w' w'' hi hR ho
        rw [if_neg hi] at hR
        exact own_only ho hR (by omega)
      · exact Fresh.in_of ⟨(Two.refl c r wr).below (Below.refl _ _).drew, HC.out.drew⟩
      · exact How.out
      · dsimp only [List.dropLast, List.getLast]
        iterate 3 (refine Fresh.step_plain rfl rfl rfl (fun K hK => ?_); go_big_quiet_op; refine hK _ ?_; clear hK K)
        refine Fresh.step_fresh _ rfl rfl ?_ ⟨_, 0, ⟨by omega, by omega⟩, rfl⟩ ?_
        · rintro w7 hC7 -
          obtain ⟨h7, c7⟩ := Fresh.of_in hC7
          go_simp
          refine Fresh.enter_of ((belowC D c 3 (by omega) (by omega) _ c7).mono ?_)
          rintro e w8 ⟨x, hx, he, hC8, hO8⟩
          exact ⟨_, he, ⟨x, hx, rfl⟩, trivial, by exact hO8, Fresh.in_of ⟨h7.only hO8, hC8⟩⟩
        rintro v ⟨x, ⟨hx0, hx1⟩, rfl⟩
        go_simp
        iterate 2 (refine Fresh.step_plain rfl rfl rfl (fun K hK => ?_); go_big_quiet_op; refine hK _ ?_; clear hK K)
        refine Fresh.step_fresh _ rfl rfl ?_ ⟨_, 0, rfl⟩ ?_
        · rintro w7 hC7 -
          obtain ⟨h7, c7⟩ := Fresh.of_in hC7
          go_simp
          have hb7 := (Below.refl w7.heap.size w7).alloc (Nat.le_refl _) (Obj.cells #[.int .i64 (1 + x), .bool false, .int .i64 0, .int .i64 0] 78)
          exact Fresh.value_of ⟨⟨_, rfl⟩, ⟨_, 1 + x, rfl, h7.size, heap_alloc_new w7 _⟩, by exact Only.of_below hb7, Fresh.in_of ⟨h7.below hb7, c7.below hb7⟩⟩
        rintro v ⟨g1, rfl⟩
        go_simp
        refine Fresh.step_once _ rfl rfl rfl ?_ ⟨_, none, 0, rfl⟩ ?_
        · rintro w7 hC7 ho hF
          obtain ⟨h7, c7⟩ := Fresh.of_in hC7
          obtain ⟨g2, a, e, hB, hh⟩ := Fresh.fact_of (hF 6 (by kernel_rfl))
          obtain rfl : g1 = g2 := by simpa using e
          clear hF e
          obtain ⟨i0, hi, hz0, hz1, hz2⟩ := info_parts info_mc
          have hsz7 : w.heap.size + 1 ≤ w7.heap.size := Nat.le_trans (Nat.le_trans Hs5.out (Nat.le_of_lt Hbx.out.lt)) h7.size
          refine fresh_app1 mcK (by decide) 26 78 i0 _ (.tmp 28) (.tmp 33) rfl Try.underlying26 hi hz0 hz1 rfl (by rw [hz2]; omega) (w.heap.size + 1) g1 (.slice ad n cp') l w7 ⟨a, false, 0, 0⟩ #[.int .i64 a, .bool false, .int .i64 0, .int .i64 0] rfl (mc_oneC _) rfl rfl hh ho hsz7 (by rw [Hlk.out]; omega) (fun v' w' ho' hg' => ?_)
          rw [Hr.out] at hg'
          obtain ⟨ad', cp'', e'⟩ := ho'.slice
          exact ⟨⟨ad', cp'', by rw [e']; simp⟩, ⟨_, ho'⟩, by exact hg', Fresh.in_of ⟨h7.grown hg', c7.grown hg' (fun g e => by have := (Hrlt.out g e).1; omega)⟩⟩
        rintro v ⟨ad', cp'', rfl⟩
        go_simp
        refine Fresh.step_plain rfl rfl rfl (fun K hK => ?_)
        go_big_quiet_op
        refine hK _ ?_
        clear hK K
        refine Fresh.step_end (fun w8 hC8 hF => ?_)
        obtain ⟨h8, c8⟩ := Fresh.of_in hC8
        obtain ⟨m, ho'⟩ := Fresh.fact_of (hF 7)
        have X8 := h8.bx Hbx.out (Ne.symm hcb) (fun e => Hne.out (by rw [Hr.out, ← e]))
        have R8 := h8.bx HR2.out (by omega) (fun e => by have := (Hrlt.out _ e.symm).1; omega)
        have Rs := Lib.hid (R8.far (p := ⟨w5.heap.size, 0, none⟩) (by show w.heap.size ≠ w5.heap.size; have := Hs5.out; omega) (.slice ad' (l.length + 1) cp''))
        have O8 := Two.fresh HO.out h8 (fun g e => by have := (Hrlt.out g e).1; omega)
        have x0 := X8.cell 0 _ rfl
        have xw := X8.warm 0
        have hbs := (Below.refl (w.heap.size + 1) w8).setCell (p := ⟨w5.heap.size, 0, none⟩) Hs5.out (.slice ad' (l.length + 1) cp'')
        have Xs := Lib.hid (X8.set 0 (.slice ad' (l.length + 1) cp''))
        have Hos := Lib.hid (show Own mcK 78 (w.heap.size + 1) (.slice ad' (l.length + 1) cp'') (l ++ [m]) (w8.setCell ⟨w5.heap.size, 0, none⟩ (.slice ad' (l.length + 1) cp'')) from ownsRow_setCell_other ho' (own_ne_bxC ho' X8 (by decide)) _)
        have Hcs := Lib.hid (c8.belowB hbs (by omega))
        have Hns := Lib.hid (O8.transB (hbs.mono (Nat.le_succ _)))
        clear hC8 hF ho' X8 R8 y0 hin O8 hbs h8 c8
        go_simp
        generalize w8.setCell ⟨w5.heap.size, 0, none⟩ (.slice ad' (l.length + 1) cp'') = w9 at Xs Hos Hcs Hns Rs ⊢
        clear x0 xw
        go_wp2_with fail
        go_roundw
        case rel => exact ⟨k - 1, by omega, by congr 1; omega, n + 1, by omega, by omega, _, l ++ [m], by simp [Hlk.out], Hcs.out, Hns.out, Rs.out, Xs.out, Hos.out⟩
        case measure => simp [intOf]; omega
    · obtain rfl : k = 0 := by omega
      have hn0 : 1 ≤ n := by omega
      clear hbx how hC hO hr2 hne hlk
      go_wp2_with fail
      refine (onceC D c 2 (by omega) (by omega) _ HC.out).mono ?_
      rintro e z1 ⟨t, rfl, hCz, hOz⟩
      have Xe := Lib.hid (bx_only Hbx.out hOz (Ne.symm hcb))
      have Re := Lib.hid (bx_only HR2.out hOz (by omega))
      have Oe := Lib.hid (own_only How.out hOz (by omega))
      have Ce := Lib.hid hCz
      have Nz := Lib.hid (HO.out.trans hOz)
      have hcb2 := hcb
      clear hCz hOz
      cases t with
      | false =>
        clear Hbx How HC HO HR2
        obtain ⟨t0, t1, t2, t3, t4, t5⟩ := Xe.out.cells6
        obtain ⟨r0, r1, r2, r3, r4, r5⟩ := Re.out.cells6
        have y0 := Re.out.warm 0
        have y1 := Re.out.warm 1
        have y2 := Re.out.warm 2
        have y3 := Re.out.warm 3
        have y4 := Re.out.warm 4
        have y5 := Re.out.warm 5
        go_wp2_with fail
        refine bodyPost_ret (v := .agg #[.slice ad n cp', .int .i64 (1 + x1), .int .i64 x2, .int .i64 x3, .int .i64 (1 + x4), .int .i64 (1 + x5)]) (by simp [results, Try.results52, go_sem, r0, r1, r2, r3, r4, r5]) rfl ?_
        exact DrewC.fin hD Oe.out (by rw [Hlk.out]; omega) (by rw [Hlk.out]; omega) Ce.out Nz.out
      | true =>
        obtain ⟨g, cap, e, hgB, hgz⟩ := own_block Oe.out (by rw [Hlk.out]; omega)
        rw [Hlk.out] at e
        obtain ⟨rfl, hcc⟩ : ad = some ⟨g, 0, none⟩ ∧ cp' = cap := by simpa using e
        subst hcc
        have hgb : w5.heap.size ≠ g := fun e => own_ne_bxC Oe.out Xe.out (by decide) (by rw [e]; rfl)
        obtain ⟨g0, g1, g2, g3, g4, g5⟩ := Xe.out.cells6
        clear e Hbx How HC HO HR2
        go_wp2_with fail
        refine (belowC D c n (by omega) (by omega) _ Ce.out).mono ?_
        rintro e z0 ⟨kq, ⟨hk0', hk1'⟩, rfl, hCz, hOz⟩
        obtain ⟨kk, rfl⟩ : ∃ kk : Nat, kq = kk := ⟨kq.toNat, by omega⟩
        have hkn : kk < n := by omega
        have o8 := own_only Oe.out hOz (by omega)
        have x8 := bx_only Xe.out hOz (Ne.symm hcb)
        have r8 := bx_only Re.out hOz (by omega)
        have n8 := Nz.out.trans hOz
        obtain ⟨m, hm⟩ := get_of (l := l) (i := kk) (by rw [Hlk.out]; exact hkn)
        obtain ⟨f0, f1, f2, f3⟩ := mc_at0 (o8.at_ kk _ hm)
        have z1' := o8.frozen (kk * 4 + 1)
        have hb8 := (Below.refl (w.heap.size + 1) z0).setCell (p := ⟨g, kk * 4 + 1, none⟩) hgB (.bool true)
        obtain ⟨L1, hL1⟩ : ∃ L, l.set kk (⟨m.wt, true, m.ev, m.cp⟩) = L := ⟨_, rfl⟩
        have O1 := Lib.hid (show Own mcK 78 (w.heap.size + 1) (.slice (some ⟨g, 0, none⟩) n cp') L1 (z0.setCell ⟨g, kk * 4 + 1, none⟩ (.bool true)) by rw [← hL1]; exact own_cell o8 kk 1 _ (⟨m.wt, true, m.ev, m.cp⟩) (.bool true) hm rfl (by omega))
        have H1 : Hid (L1[kk]? = some (⟨m.wt, true, m.ev, m.cp⟩ : MC)) := Lib.hid (by rw [← hL1]; exact set_at hm)
        have hL1n : L1.length = n := by rw [← hL1, List.length_set, Hlk.out]
        have HL1 := Lib.hid hL1n
        have X1 := Lib.hid (x8.far (p := ⟨g, kk * 4 + 1, none⟩) hgb (.bool true))
        have R1 := Lib.hid (r8.far (p := ⟨g, kk * 4 + 1, none⟩) (by show w.heap.size ≠ g; omega) (.bool true))
        have C1 := Lib.hid (hCz.belowB hb8 (by omega))
        have N1 := Lib.hid (n8.transB (hb8.mono (Nat.le_succ _)))
        clear g0 g1 g2 g3 g4 g5
        obtain ⟨g0, g1, g2, g3, g4, g5⟩ := x8.cells6
        clear hCz hOz o8 x8 r8 n8 hb8 hm hL1 hL1n Oe Xe Re Ce Nz
        go_wp2_with fail
        generalize z0.setCell ⟨g, kk * 4 + 1, none⟩ (.bool true) = z2 at O1 X1 R1 C1 N1 ⊢
        clear z1' f0 f1 f2 f3 g0 g1 g2 g3 g4 g5
        have hin : Nonempty (Fresh.In (fun w' => Only c z2 w' ∧ CuD D c w')) := ⟨⟨z2, Only.refl _ _, C1.out⟩⟩
        have q0 : ∀ x : Fresh.In (fun w' => Only c z2 w' ∧ CuD D c w'), x.w.cell? ⟨w5.heap.size, 0, none⟩ = some (.slice (some ⟨g, 0, none⟩) n cp') := fun x => (bx_only X1.out x.h.1 (Ne.symm hcb)).cell 0 _ rfl
        have q1 : ∀ x : Fresh.In (fun w' => Only c z2 w' ∧ CuD D c w'), x.w.cell? ⟨w5.heap.size, 1, none⟩ = some (.int .i64 (1 + x1)) := fun x => (bx_only X1.out x.h.1 (Ne.symm hcb)).cell 1 _ rfl
        have q2 : ∀ x : Fresh.In (fun w' => Only c z2 w' ∧ CuD D c w'), x.w.cell? ⟨w5.heap.size, 2, none⟩ = some (.int .i64 x2) := fun x => (bx_only X1.out x.h.1 (Ne.symm hcb)).cell 2 _ rfl
        have q3 : ∀ x : Fresh.In (fun w' => Only c z2 w' ∧ CuD D c w'), x.w.cell? ⟨w5.heap.size, 3, none⟩ = some (.int .i64 x3) := fun x => (bx_only X1.out x.h.1 (Ne.symm hcb)).cell 3 _ rfl
        have q4 : ∀ x : Fresh.In (fun w' => Only c z2 w' ∧ CuD D c w'), x.w.cell? ⟨w5.heap.size, 4, none⟩ = some (.int .i64 (1 + x4)) := fun x => (bx_only X1.out x.h.1 (Ne.symm hcb)).cell 4 _ rfl
        have q5 : ∀ x : Fresh.In (fun w' => Only c z2 w' ∧ CuD D c w'), x.w.cell? ⟨w5.heap.size, 5, none⟩ = some (.int .i64 (1 + x5)) := fun x => (bx_only X1.out x.h.1 (Ne.symm hcb)).cell 5 _ rfl
        go_wp2_with fail
        refine Fresh.wp_fresh_last (fun w' => ∃ x : Fresh.In (fun w' => Only c z2 w' ∧ CuD D c w'), w' = x.w) (fun _ w' w'' => Only c w' w'') (fun i => if i = 4 then some (frI (fun x => 0 ≤ x ∧ x ≤ 130)) else if i = 7 then some (frI (fun x => 0 ≤ x ∧ x < 30)) else none) (by simp) (by kernel_rfl) (by kernel_rfl) (by kernel_rfl) (by kernel_rfl) (by kernel_rfl) rfl ?_ (Fresh.in_of ⟨Only.of_below (Below.refl _ _).drew, C1.out.drew⟩) ?_
        · intro _ i fr hfr _ _
          repeat' split at hfr
          all_goals first
            | (cases hfr; exact fun _ _ _ _ _ => trivial)
            | cases hfr
        · dsimp only [List.dropLast, List.getLast]
          iterate 4 (refine Fresh.step_plain rfl rfl rfl (fun K hK => ?_); go_big_quiet_op; refine hK _ ?_; clear hK K)
          refine Fresh.step_fresh _ rfl rfl ?_ ⟨_, 0, ⟨by omega, by omega⟩, rfl⟩ ?_
          · rintro w7 hC7 -
            obtain ⟨h7, c7⟩ := Fresh.of_in hC7
            go_simp
            refine Fresh.enter_of ((specSlot _ _ _ _ _ _ _ _ _).mono ?_)
            rintro e w8 ⟨he, hb8⟩
            exact ⟨_, he, ⟨_, slotW_bd _ _ _, rfl⟩, trivial, by exact Only.of_below hb8, Fresh.in_of ⟨h7.below2 hb8, c7.below hb8⟩⟩
          rintro v ⟨s9_4, ⟨hs9_4, ht9_4⟩, rfl⟩
          go_simp
          iterate 2 (refine Fresh.step_plain rfl rfl rfl (fun K hK => ?_); go_big_quiet_op; refine hK _ ?_; clear hK K)
          refine Fresh.step_fresh _ rfl rfl ?_ ⟨_, 0, ⟨by omega, by omega⟩, rfl⟩ ?_
          · rintro w7 hC7 -
            obtain ⟨h7, c7⟩ := Fresh.of_in hC7
            go_simp
            refine Fresh.enter_of ((belowC D c 30 (by omega) (by omega) _ c7).mono ?_)
            rintro e w8 ⟨x, hx, he, hC8, hO8⟩
            exact ⟨_, he, ⟨x, hx, rfl⟩, trivial, by exact hO8, Fresh.in_of ⟨h7.trans hO8, hC8⟩⟩
          rintro v ⟨s9_7, ⟨hs9_7, ht9_7⟩, rfl⟩
          go_simp
          iterate 3 (refine Fresh.step_plain rfl rfl rfl (fun K hK => ?_); go_big_quiet_op; refine hK _ ?_; clear hK K)
          refine Fresh.step_end (fun w8 hC8 _ => ?_)
          obtain ⟨h8, c8⟩ := Fresh.of_in hC8
          have o8 := own_only O1.out h8 (by omega)
          have x8 := bx_only X1.out h8 (Ne.symm hcb)
          have r8 := bx_only R1.out h8 (by omega)
          have n8 := N1.out.trans h8
          obtain ⟨f0, f1, f2, f3⟩ := mc_at0 (o8.at_ kk _ H1.out)
          have g2' := o8.frozen (kk * 4 + 2)
          have hb8 := (Below.refl (w.heap.size + 1) w8).setCell (p := ⟨g, kk * 4 + 2, none⟩) hgB (.int .i64 (2 * s9_4 + s9_7))
          obtain ⟨L2, hL2⟩ : ∃ L, L1.set kk (⟨m.wt, true, 2 * s9_4 + s9_7, m.cp⟩) = L := ⟨_, rfl⟩
          have O2 := Lib.hid (show Own mcK 78 (w.heap.size + 1) (.slice (some ⟨g, 0, none⟩) n cp') L2 (w8.setCell ⟨g, kk * 4 + 2, none⟩ (.int .i64 (2 * s9_4 + s9_7))) by rw [← hL2]; exact own_cell o8 kk 2 _ (⟨m.wt, true, 2 * s9_4 + s9_7, m.cp⟩) (.int .i64 (2 * s9_4 + s9_7)) H1.out rfl (by omega))
          have H2 : Hid (L2[kk]? = some (⟨m.wt, true, 2 * s9_4 + s9_7, m.cp⟩ : MC)) := Lib.hid (by rw [← hL2]; exact set_at H1.out)
          have HL2 : Hid (L2.length = n) := Lib.hid (by rw [← hL2, List.length_set, HL1.out])
          have X2 := Lib.hid (x8.far (p := ⟨g, kk * 4 + 2, none⟩) hgb (.int .i64 (2 * s9_4 + s9_7)))
          have R2 := Lib.hid (r8.far (p := ⟨g, kk * 4 + 2, none⟩) (by show w.heap.size ≠ g; omega) (.int .i64 (2 * s9_4 + s9_7)))
          have C2 := Lib.hid (c8.belowB hb8 (by omega))
          have N2 := Lib.hid (n8.transB (hb8.mono (Nat.le_succ _)))
          clear hC8 o8 x8 r8 n8 hb8 h8 c8 hin q0 q1 q2 q3 q4 q5 hL2 O1 H1 HL1 X1 R1 C1 N1
          go_simp
          generalize w8.setCell ⟨g, kk * 4 + 2, none⟩ (.int .i64 (2 * s9_4 + s9_7)) = z3 at O2 X2 R2 C2 N2 ⊢
          clear f0 f1 f2 f3 g2'
          have hin : Nonempty (Fresh.In (fun w' => Only c z3 w' ∧ CuD D c w')) := ⟨⟨z3, Only.refl _ _, C2.out⟩⟩
          have q0 : ∀ x : Fresh.In (fun w' => Only c z3 w' ∧ CuD D c w'), x.w.cell? ⟨w5.heap.size, 0, none⟩ = some (.slice (some ⟨g, 0, none⟩) n cp') := fun x => (bx_only X2.out x.h.1 (Ne.symm hcb)).cell 0 _ rfl
          go_wp2_with fail
          refine Fresh.wp_fresh_last (fun w' => ∃ x : Fresh.In (fun w' => Only c z3 w' ∧ CuD D c w'), w' = x.w) (fun _ w' w'' => Only c w' w'') (fun i => if i = 4 then some (frI (fun x => 0 ≤ x ∧ x < 4)) else none) (by simp) (by kernel_rfl) (by kernel_rfl) (by kernel_rfl) (by kernel_rfl) (by kernel_rfl) rfl ?_ (Fresh.in_of ⟨Only.of_below (Below.refl _ _).drew, C2.out.drew⟩) ?_
          · intro _ i fr hfr _ _
            repeat' split at hfr
            all_goals first
              | (cases hfr; exact fun _ _ _ _ _ => trivial)
              | cases hfr
          · dsimp only [List.dropLast, List.getLast]
            iterate 4 (refine Fresh.step_plain rfl rfl rfl (fun K hK => ?_); go_big_quiet_op; refine hK _ ?_; clear hK K)
            refine Fresh.step_fresh _ rfl rfl ?_ ⟨_, 0, ⟨by omega, by omega⟩, rfl⟩ ?_
            · rintro w7 hC7 -
              obtain ⟨h7, c7⟩ := Fresh.of_in hC7
              go_simp
              refine Fresh.enter_of ((belowC D c 4 (by omega) (by omega) _ c7).mono ?_)
              rintro e w8 ⟨x, hx, he, hC8, hO8⟩
              exact ⟨_, he, ⟨x, hx, rfl⟩, trivial, by exact hO8, Fresh.in_of ⟨h7.trans hO8, hC8⟩⟩
            rintro v ⟨s10_4, ⟨hs10_4, ht10_4⟩, rfl⟩
            go_simp
            iterate 3 (refine Fresh.step_plain rfl rfl rfl (fun K hK => ?_); go_big_quiet_op; refine hK _ ?_; clear hK K)
            refine Fresh.step_end (fun w8 hC8 _ => ?_)
            obtain ⟨h8, c8⟩ := Fresh.of_in hC8
            have o8 := own_only O2.out h8 (by omega)
            have x8 := bx_only X2.out h8 (Ne.symm hcb)
            have r8 := bx_only R2.out h8 (by omega)
            have n8 := N2.out.trans h8
            obtain ⟨f0, f1, f2, f3⟩ := mc_at0 (o8.at_ kk _ H2.out)
            have g3' := o8.frozen (kk * 4 + 3)
            have hb8 := (Below.refl (w.heap.size + 1) w8).setCell (p := ⟨g, kk * 4 + 3, none⟩) hgB (.int .i64 (1 + s10_4))
            obtain ⟨L3, hL3⟩ : ∃ L, L2.set kk (⟨m.wt, true, 2 * s9_4 + s9_7, 1 + s10_4⟩) = L := ⟨_, rfl⟩
            have O3 := Lib.hid (show Own mcK 78 (w.heap.size + 1) (.slice (some ⟨g, 0, none⟩) n cp') L3 (w8.setCell ⟨g, kk * 4 + 3, none⟩ (.int .i64 (1 + s10_4))) by rw [← hL3]; exact own_cell o8 kk 3 _ (⟨m.wt, true, 2 * s9_4 + s9_7, 1 + s10_4⟩) (.int .i64 (1 + s10_4)) H2.out rfl (by omega))
            have H3 : Hid (L3[kk]? = some (⟨m.wt, true, 2 * s9_4 + s9_7, 1 + s10_4⟩ : MC)) := Lib.hid (by rw [← hL3]; exact set_at H2.out)
            have HL3 : Hid (L3.length = n) := Lib.hid (by rw [← hL3, List.length_set, HL2.out])
            have X3 := Lib.hid (x8.far (p := ⟨g, kk * 4 + 3, none⟩) hgb (.int .i64 (1 + s10_4)))
            have R3 := Lib.hid (r8.far (p := ⟨g, kk * 4 + 3, none⟩) (by show w.heap.size ≠ g; omega) (.int .i64 (1 + s10_4)))
            have C3 := Lib.hid (c8.belowB hb8 (by omega))
            have N3 := Lib.hid (n8.transB (hb8.mono (Nat.le_succ _)))
            clear hC8 o8 x8 r8 n8 hb8 h8 c8 hin q0 hL3 O2 H2 HL2 X2 R2 C2 N2
            go_simp
            generalize w8.setCell ⟨g, kk * 4 + 3, none⟩ (.int .i64 (1 + s10_4)) = z4 at O3 X3 R3 C3 N3 ⊢
            clear f0 f1 f2 f3 g3'
            obtain ⟨t0, t1, t2, t3, t4, t5⟩ := X3.out.cells6
            obtain ⟨r0, r1, r2, r3, r4, r5⟩ := R3.out.cells6
            have y0 := R3.out.warm 0
            have y1 := R3.out.warm 1
            have y2 := R3.out.warm 2
            have y3 := R3.out.warm 3
            have y4 := R3.out.warm 4
            have y5 := R3.out.warm 5
            go_wp2_with fail
            refine bodyPost_ret (v := .agg #[.slice (some ⟨g, 0, none⟩) n cp', .int .i64 (1 + x1), .int .i64 x2, .int .i64 x3, .int .i64 (1 + x4), .int .i64 (1 + x5)]) (by simp [results, Try.results52, go_sem, r0, r1, r2, r3, r4, r5]) rfl ?_
            exact DrewC.fin hD O3.out (by rw [HL3.out]; omega) (by rw [HL3.out]; omega) C3.out N3.out
end Go.Proofs.Ytddbhokfjdgabaa.Cur
