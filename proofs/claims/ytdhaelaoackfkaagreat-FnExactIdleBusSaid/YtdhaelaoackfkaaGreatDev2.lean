
/-
  The device: is it one (the program's way), are two the same, a new one, copies of one; for the program and for its model.
-/
import Derived.Test.YtdhaelaoackfkaaGreatDev1
import Derived.Test.YtdhaelaoackfkaaGreatFresh
namespace Go.Proofs.YtdhaelaoackfkaaGreat.KD
open Go.RowKit Rows3 GR Num
set_option linter.unusedVariables false

theorem rd_dev {cs : List Value} {r : List Int} {t : Int} {f : List Int} {w : World} (h : devK.rd cs (r, t, f) w) :
    ∃ a0 p0 a2 p2, cs = [.slice a0 r.length p0, .int .i64 t, .slice a2 f.length p2] ∧ RdI (.slice a0 r.length p0) r w ∧ RdI (.slice a2 f.length p2) f w ∧ r.length ≤ 9223372036854775807 ∧ f.length ≤ 9223372036854775807 := by
  obtain ⟨a0, p0, a2, p2, rfl, h0, h2⟩ := dev_form h
  obtain ⟨_, _, e0, l0, R0⟩ := rd_ints h0
  obtain ⟨_, _, e2, l2, R2⟩ := rd_ints h2
  cases e0
  cases e2
  exact ⟨_, _, _, _, rfl, R0, R2, Nat.le_trans l0.1 l0.2, Nat.le_trans l2.1 l2.2⟩
set_option maxHeartbeats 4000000 in
set_option maxRecDepth 100000 in
theorem implDevOk (cs : List Value) (r : List Int) (t : Int) (f : List Int) (hr : r.length ≤ 2000000) (hf : f.length ≤ 2000000) (w : World) (h : devK.rd cs (r, t, f) w) :
    Calls Tryz.prog 100 #[agg cs] w fun e w' => e = .returned (.bool (okD r t f)) ∧ Below w.heap.size w w' := by
  obtain ⟨a0, p0, a2, p2, rfl, R0, R2, _, _⟩ := rd_dev h
  have H0 := Lib.hid (R0.below ((Below.refl w.heap.size w).alloc (Nat.le_refl _) (Obj.cells #[.slice a0 r.length p0, .int .i64 t, .slice a2 f.length p2] 48)))
  have H2 := Lib.hid (R2.below ((Below.refl w.heap.size w).alloc (Nat.le_refl _) (Obj.cells #[.slice a0 r.length p0, .int .i64 t, .slice a2 f.length p2] 48)))
  clear h R0 R2
  obtain ⟨n, hn⟩ : ∃ n, r.length = n := ⟨_, rfl⟩
  obtain ⟨m, hm⟩ : ∃ m, f.length = m := ⟨_, rfl⟩
  obtain ⟨b2, hb2⟩ : ∃ b, wordsB r = b := ⟨_, rfl⟩
  obtain ⟨b3, hb3⟩ : ∃ b, wordB t = b := ⟨_, rfl⟩
  obtain ⟨b5, hb5⟩ : ∃ b, wordsB f = b := ⟨_, rfl⟩
  obtain ⟨b1, hb1⟩ : ∃ b, ((n : Int) == 4) = b := ⟨_, rfl⟩
  obtain ⟨b4, hb4⟩ : ∃ b, decide ((m : Int) ≤ 4) = b := ⟨_, rfl⟩
  have He := Lib.hid (show okD r t f = (b1 && (b2 && (b3 && (b4 && b5)))) by unfold okD; rw [hn, hm, hb2, hb3, hb5, hb1, hb4])
  rw [hn] at H0 H2 ⊢
  rw [hm] at H0 H2 ⊢
  have B2 := Lib.hid hb2
  have B3 : Hid (inLB t 2 = b3) := Lib.hid hb3
  have B5 := Lib.hid hb5
  have HB := Lib.hid ((Below.refl w.heap.size w).alloc (Nat.le_refl _) (Obj.cells #[.slice a0 n p0, .int .i64 t, .slice a2 m p2] 48))
  have hlr := Lib.hid hr
  have hlf := Lib.hid hf
  rw [hn] at hr
  rw [hm] at hf
  clear hb2 hb3 hb5 hn hm
  show Calls _ _ #[.agg #[.slice a0 n p0, .int .i64 t, .slice a2 m p2]] w _
  have paths : b1 = false ∨ (b1 = true ∧ b4 = false) ∨ (b1 = true ∧ b4 = true ∧ b3 = false) ∨ (b1 = true ∧ b4 = true ∧ b3 = true ∧ b2 = false) ∨ (b1 = true ∧ b4 = true ∧ b3 = true ∧ b2 = true ∧ b5 = false) ∨ (b1 = true ∧ b4 = true ∧ b3 = true ∧ b2 = true ∧ b5 = true) := by
    cases b1 <;> cases b2 <;> cases b3 <;> cases b4 <;> cases b5 <;> simp
  rcases paths with rfl | ⟨rfl, rfl⟩ | ⟨rfl, rfl, rfl⟩ | ⟨rfl, rfl, rfl, rfl⟩ | ⟨rfl, rfl, rfl, rfl, rfl⟩ | ⟨rfl, rfl, rfl, rfl, rfl⟩
  all_goals go_enter Tryz.func100, Tryz.ntmps100
  all_goals (go_wp2_with (first
    | (go_at_call 103; refine (implIn _ _ _).mono ?_; rintro e w' ⟨rfl, rfl⟩; rw [B3.out])
    | (go_at_call 111; first
      | (with_reducible refine (implWords_is B2.out hlr.out _ H0.out).mono ?_; rintro e w' ⟨rfl, rfl⟩)
      | (with_reducible refine (implWords_is B5.out hlf.out _ H2.out).mono ?_; rintro e w' ⟨rfl, rfl⟩))))
  all_goals go_ret
  all_goals exact ⟨by rw [He.out]; simp, HB.out⟩

/-- are two devices the same. -/
def sameD (r : List Int) (t : Int) (f : List Int) (r' : List Int) (t' : Int) (f' : List Int) : Bool := eqLB r r' && (t == t' && eqLB f f')
theorem sameD_iff (r : List Int) (t : Int) (f : List Int) (r' : List Int) (t' : Int) (f' : List Int) : sameD r t f r' t' f' = true ↔ (r, t, f) = (r', t', f') := by
  unfold sameD eqLB; simp
/-- data of the call's own. -/
def NewD (d : List Int × Int × List Int) (w : World) (e : Ending) (w' : World) : Prop := ∃ us, e = .returned (agg us) ∧ devK.cap (fun k => w.heap.size ≤ k) us d w' ∧ Below w.heap.size w w'
/-- the program's own copy: the list first, then the row that waits. -/
def OwnDev (B : Nat) (rv fv : Value) (r f : List Int) (w : World) : Prop := OwnI B rv r w ∧ OwnI B fv f w ∧ ∀ k, rv.ownBlock = some k → fv.ownBlock ≠ some k
theorem OwnDev.rd {B : Nat} {rv fv : Value} {r f : List Int} {t : Int} {w : World} (h : OwnDev B rv fv r f w) (hr : r.length ≤ 2000000) (hf : f.length ≤ 2000000) : devK.rd [rv, .int .i64 t, fv] (r, t, f) w :=
  dev_rd (ints_rd h.1.rd (own_bd h.1)) (ints_rd h.2.1.rd (own_bd h.2.1))
theorem cap_own2 {B : Nat} {v : Value} {l : List Int} {w : World} (h : OwnI B v l w) (hl : l.length ≤ 9223372036854775807) : ints.cap (fun k => v.ownBlock = some k) [v] l w := by
  have hbd := own_bd h
  rcases h.2 with ⟨rfl, h0⟩ | ⟨g, cp, cur, rfl, hb, hg, _, _, hcs, _⟩
  · obtain rfl : l = [] := List.length_eq_zero_iff.1 h0
    exact cap_nil _ _
  · refine RawI.cap (o := 0) ⟨rfl, cur, _, hg, by omega, fun i x hi => ?_⟩ rfl (hbd _ _ _ rfl)
    have := h.cell (i := i) (List.getElem?_eq_some_iff.1 hi).1
    rw [getD_some hi, cell_of_row w g i cur _ (0, 0) hg] at this
    rw [Nat.zero_add]; exact this
theorem OwnDev.cap {B : Nat} {rv fv : Value} {r f : List Int} {t : Int} {w : World} (h : OwnDev B rv fv r f w) (hr : r.length ≤ 2000000) (hf : f.length ≤ 2000000) : devK.cap (fun k => B ≤ k) [rv, .int .i64 t, fv] (r, t, f) w :=
  dev_cap (cap_own2 h.1 (by omega)) (cap_own2 h.2.1 (by omega)) (fun k hk => (World.ownsRow.lt h.1 k hk).1) (fun k hk => (World.ownsRow.lt h.2.1 k hk).1) h.2.2
theorem own_turn {B : Nat} {v : Value} {l : List Int} {w w' : World} {G : Foot} (h : OwnI B v l w) (ht : Turn G w w') (hG : ∀ k, v.ownBlock = some k → ¬ G k) : OwnI B v l w' := by
  have h' := h
  obtain ⟨h1, h2⟩ := h
  refine ⟨h1, ?_⟩
  rcases h2 with h2 | ⟨g, cp, cur, rfl, hb, hg, rest⟩
  · exact .inl h2
  · exact .inr ⟨g, cp, cur, rfl, hb, by rw [ht.block g (World.ownsRow.lt h' g rfl).2 (hG g rfl)]; exact hg, rest⟩
theorem OwnDev.turn {B : Nat} {rv fv : Value} {r f : List Int} {w w' : World} {G : Foot} (h : OwnDev B rv fv r f w) (ht : Turn G w w') (hG : ∀ k, k < w.heap.size → B ≤ k → ¬ G k) : OwnDev B rv fv r f w' :=
  ⟨own_turn h.1 ht (fun k hk => hG k (World.ownsRow.lt h.1 k hk).2 (World.ownsRow.lt h.1 k hk).1), own_turn h.2.1 ht (fun k hk => hG k (World.ownsRow.lt h.2.1 k hk).2 (World.ownsRow.lt h.2.1 k hk).1), h.2.2⟩
theorem OwnDev.later {B : Nat} {rv fv : Value} {r f : List Int} {w w' : World} (h : OwnDev B rv fv r f w) (hb : Below w.heap.size w w') : OwnDev B rv fv r f w' :=
  h.turn (Turn.of hb) (fun k h1 _ h3 => by omega)
theorem OwnDev.mono {B B' : Nat} {rv fv : Value} {r f : List Int} {w : World} (h : OwnDev B rv fv r f w) (hB : B' ≤ B) : OwnDev B' rv fv r f w := ⟨h.1.mono hB, h.2.1.mono hB, h.2.2⟩
/-- the value is a copy of a device. -/
def CopyD (r : List Int) (t : Int) (f : List Int) (w : World) (e : Ending) (w' : World) : Prop := ∃ rv fv, e = .returned (.agg #[rv, .int .i64 t, fv]) ∧ OwnDev w.heap.size rv fv r f w' ∧ Below w.heap.size w w'
end Go.Proofs.YtdhaelaoackfkaaGreat.KD
