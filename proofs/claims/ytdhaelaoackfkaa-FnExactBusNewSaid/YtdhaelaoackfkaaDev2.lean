
/-
  The device: is it one (the program's way), are two the same, a new one, copies of one; for the program and for its model.
-/
import Derived.Test.YtdhaelaoackfkaaDev1
import Derived.Test.YtdhaelaoackfkaaFresh
namespace Go.Proofs.Ytdhaelaoackfkaa.KD
open Go.RowKit Rows3 GR Num
set_option linter.unusedVariables false

theorem rd_dev {cs : List Value} {r : List Int} {t : Int} {f : List Int} {w : World} (h : devK.rd cs (r, t, f) w) :
    ∃ a0 p0 a2 p2, cs = [.slice a0 r.length p0, .int .i64 t, .slice a2 f.length p2] ∧ RdI (.slice a0 r.length p0) r w ∧ RdI (.slice a2 f.length p2) f w ∧ r.length ≤ 9223372036854775807 ∧ f.length ≤ 9223372036854775807 := by
  obtain ⟨a0, p0, a2, p2, rfl, h0, h2⟩ := dev_form h
  obtain ⟨_, _, e0, l0, R0⟩ := rd_ints h0
  obtain ⟨_, _, e2, l2, R2⟩ := rd_ints h2
  cases e0
  cases e2
  exact ⟨_, _, _, _, rfl, R0, R2, Nat.le_trans l0.1 l0.2, Nat.le_trans l2.1 l2.2⟩
/-- are two devices the same. -/
def sameD (r : List Int) (t : Int) (f : List Int) (r' : List Int) (t' : Int) (f' : List Int) : Bool := eqLB r r' && (t == t' && eqLB f f')
theorem sameD_iff (r : List Int) (t : Int) (f : List Int) (r' : List Int) (t' : Int) (f' : List Int) : sameD r t f r' t' f' = true ↔ (r, t, f) = (r', t', f') := by
  unfold sameD eqLB; simp
set_option maxHeartbeats 4000000 in
set_option maxRecDepth 100000 in
theorem specSameDev (cs ds : List Value) (r : List Int) (t : Int) (f : List Int) (r' : List Int) (t' : Int) (f' : List Int) (hr : r.length ≤ 2000000) (hf : f.length ≤ 2000000) (w : World) (h : devK.rd cs (r, t, f) w) (h' : devK.rd ds (r', t', f') w) :
    Calls Try.prog 95 #[agg cs, agg ds] w fun e w' => e = .returned (.bool (sameD r t f r' t' f')) ∧ Below w.heap.size w w' := by
  obtain ⟨a0, p0, a2, p2, rfl, R0, R2, _, _⟩ := rd_dev h
  obtain ⟨c0, q0, c2, q2, rfl, S0, S2, _, _⟩ := rd_dev h'
  have H0 := Lib.hid R0
  have H2 := Lib.hid R2
  have K0 := Lib.hid S0
  have K2 := Lib.hid S2
  clear h h' R0 R2 S0 S2
  obtain ⟨b1, hb1⟩ : ∃ b, eqLB r r' = b := ⟨_, rfl⟩
  obtain ⟨b2, hb2⟩ : ∃ b, (t == t') = b := ⟨_, rfl⟩
  obtain ⟨b3, hb3⟩ : ∃ b, eqLB f f' = b := ⟨_, rfl⟩
  have He := Lib.hid (show sameD r t f r' t' f' = (b1 && (b2 && b3)) by unfold sameD; rw [hb1, hb2, hb3])
  have B1 := Lib.hid hb1
  have B3 := Lib.hid hb3
  clear hb1 hb3
  show Calls _ _ #[.agg #[.slice a0 r.length p0, .int .i64 t, .slice a2 f.length p2], .agg #[.slice c0 r'.length q0, .int .i64 t', .slice c2 f'.length q2]] w _
  go_enter Try.func95, Try.ntmps95
  go_wp2_with (go_at_call 54; first
    | (with_reducible refine (l5Ints_any (.slice a0 r.length p0) _ r r' hr _ (rdI_later (rdI_later H0.out _) _) (rdI_later (rdI_later K0.out _) _)).mono ?_; rintro e w' ⟨rfl, d, rfl⟩; rw [B1.out])
    | (with_reducible refine (l5Ints_any (.slice a2 f.length p2) _ f f' hf _ (rdI_drewN (rdI_later (rdI_later H2.out _) _) _) (rdI_drewN (rdI_later (rdI_later K2.out _) _) _)).mono ?_; rintro e w' ⟨rfl, d2, rfl⟩; rw [B3.out]))
  all_goals go_ret
  all_goals refine ⟨by rw [He.out]; simp_all, ?_⟩
  all_goals first
    | exact below_drewN' (below_drewN' (below_alloc1 ((Below.refl _ _).alloc (Nat.le_refl _) _) (by simp) (Below.refl _ _)) _) _
    | exact below_drewN' (below_alloc1 ((Below.refl _ _).alloc (Nat.le_refl _) _) (by simp) (Below.refl _ _)) _
set_option maxHeartbeats 4000000 in
set_option maxRecDepth 100000 in
theorem implSameDev (cs ds : List Value) (r : List Int) (t : Int) (f : List Int) (r' : List Int) (t' : Int) (f' : List Int) (hr : r.length ≤ 2000000) (hf : f.length ≤ 2000000) (w : World) (h : devK.rd cs (r, t, f) w) (h' : devK.rd ds (r', t', f') w) :
    Calls Try.prog 104 #[agg cs, agg ds] w fun e w' => e = .returned (.bool (sameD r t f r' t' f')) ∧ Below w.heap.size w w' := by
  obtain ⟨a0, p0, a2, p2, rfl, R0, R2, _, _⟩ := rd_dev h
  obtain ⟨c0, q0, c2, q2, rfl, S0, S2, _, _⟩ := rd_dev h'
  have H0 := Lib.hid R0
  have H2 := Lib.hid R2
  have K0 := Lib.hid S0
  have K2 := Lib.hid S2
  clear h h' R0 R2 S0 S2
  obtain ⟨b1, hb1⟩ : ∃ b, eqLB r r' = b := ⟨_, rfl⟩
  obtain ⟨b2, hb2⟩ : ∃ b, (t == t') = b := ⟨_, rfl⟩
  obtain ⟨b3, hb3⟩ : ∃ b, eqLB f f' = b := ⟨_, rfl⟩
  have He := Lib.hid (show sameD r t f r' t' f' = (b1 && (b2 && b3)) by unfold sameD; rw [hb1, hb2, hb3])
  have B1 := Lib.hid hb1
  have B3 := Lib.hid hb3
  clear hb1 hb3
  show Calls _ _ #[.agg #[.slice a0 r.length p0, .int .i64 t, .slice a2 f.length p2], .agg #[.slice c0 r'.length q0, .int .i64 t', .slice c2 f'.length q2]] w _
  go_enter Try.func104, Try.ntmps104
  go_wp2_with (go_at_call 69; first
    | (with_reducible refine (equal_any (.slice a0 r.length p0) _ r r' hr _ (rdI_later (rdI_later H0.out _) _) (rdI_later (rdI_later K0.out _) _)).mono ?_; rintro e w' ⟨rfl, d, rfl⟩; rw [B1.out])
    | (with_reducible refine (equal_any (.slice a2 f.length p2) _ f f' hf _ (rdI_drewN (rdI_later (rdI_later H2.out _) _) _) (rdI_drewN (rdI_later (rdI_later K2.out _) _) _)).mono ?_; rintro e w' ⟨rfl, d2, rfl⟩; rw [B3.out]))
  all_goals go_ret
  all_goals refine ⟨by rw [He.out]; simp_all, ?_⟩
  all_goals first
    | exact below_drewN' (below_drewN' (below_alloc1 ((Below.refl _ _).alloc (Nat.le_refl _) _) (by simp) (Below.refl _ _)) _) _
    | exact below_drewN' (below_alloc1 ((Below.refl _ _).alloc (Nat.le_refl _) _) (by simp) (Below.refl _ _)) _

/-- data of the call's own. -/
def NewD (d : List Int × Int × List Int) (w : World) (e : Ending) (w' : World) : Prop := ∃ us, e = .returned (agg us) ∧ devK.cap (fun k => w.heap.size ≤ k) us d w' ∧ Below w.heap.size w w'
set_option maxRecDepth 100000 in
theorem implDevNew (w : World) : Calls Try.prog 82 #[] w (NewD ([0, 0, 0, 0], 0, []) w) := by
  have hmk := fun W => makeI 4 (by omega) W
  have Ho := Lib.hid (OwnI.make0 w.heap.size (w.alloc (.cells #[.slice (some ⟨w.heap.size + 1, 0, none⟩) 4 4, .int .i64 0, .slice none 0 0] 37)) (by simp) 4 (by omega))
  have e4 : ((4 : Nat) : Int) = 4 := rfl
  rw [e4] at hmk
  have A := (Bx.new 37 #[.slice (some ⟨w.heap.size + 1, 0, none⟩) 4 4, .int .i64 0, .slice none 0 0] w).alloc (Obj.cells (madeCells #[.int .i64 0] 4) 3)
  have g0 := A.cell 0 _ rfl
  have g1 := A.cell 1 _ rfl
  have g2 := A.cell 2 _ rfl
  clear A
  go_enter Try.func82, Try.ntmps82
  go_wp2_with fail
  refine bodyPost_ret (v := .agg #[.slice (some ⟨w.heap.size + 1, 0, none⟩) 4 4, .int .i64 0, .slice none 0 0]) (by simp [results, Try.results82, go_sem, g0, g1, g2]) rfl ⟨[.slice (some ⟨w.heap.size + 1, 0, none⟩) 4 4, .int .i64 0, .slice none 0 0], rfl, ?_, ?_⟩
  · have h := cap_own Ho.out (by simp)
    have hs : (w.alloc (.cells #[.slice (some ⟨w.heap.size + 1, 0, none⟩) 4 4, .int .i64 0, .slice none 0 0] 37)).heap.size = w.heap.size + 1 := by simp
    rw [hs] at h
    exact dev_cap (x0 := [0, 0, 0, 0]) (Fx0 := fun k => w.heap.size ≤ k) (Fx2 := fun _ => False) h (cap_nil _ _) (fun _ hk => hk) (fun _ hk => hk.elim) (fun _ _ hk => hk)
  · exact ((Below.refl _ _).alloc (Nat.le_refl _) _).alloc (by simp) _
set_option maxRecDepth 100000 in
theorem specDevNew (w : World) : Calls Try.prog 75 #[] w (NewD ([0, 0, 0, 0], 0, []) w) := by
  have hmk := fun W => makeI 4 (by omega) W
  have Ho := Lib.hid (OwnI.make0 w.heap.size (w.alloc (.cells #[.slice (some ⟨w.heap.size + 1, 0, none⟩) 4 4, .int .i64 0, .slice none 0 0] 37)) (by simp) 4 (by omega))
  have e4 : ((4 : Nat) : Int) = 4 := rfl
  rw [e4] at hmk
  have A := (Bx.new 37 #[.slice (some ⟨w.heap.size + 1, 0, none⟩) 4 4, .int .i64 0, .slice none 0 0] w).alloc (Obj.cells (madeCells #[.int .i64 0] 4) 3)
  have g0 := A.cell 0 _ rfl
  have g1 := A.cell 1 _ rfl
  have g2 := A.cell 2 _ rfl
  clear A
  go_enter Try.func75, Try.ntmps75
  go_wp2_with fail
  refine bodyPost_ret (v := .agg #[.slice (some ⟨w.heap.size + 1, 0, none⟩) 4 4, .int .i64 0, .slice none 0 0]) (by simp [results, Try.results75, go_sem, g0, g1, g2]) rfl ⟨[.slice (some ⟨w.heap.size + 1, 0, none⟩) 4 4, .int .i64 0, .slice none 0 0], rfl, ?_, ?_⟩
  · have h := cap_own Ho.out (by simp)
    have hs : (w.alloc (.cells #[.slice (some ⟨w.heap.size + 1, 0, none⟩) 4 4, .int .i64 0, .slice none 0 0] 37)).heap.size = w.heap.size + 1 := by simp
    rw [hs] at h
    exact dev_cap (x0 := [0, 0, 0, 0]) (Fx0 := fun k => w.heap.size ≤ k) (Fx2 := fun _ => False) h (cap_nil _ _) (fun _ hk => hk) (fun _ hk => hk.elim) (fun _ _ hk => hk)
  · exact ((Below.refl _ _).alloc (Nat.le_refl _) _).alloc (by simp) _

/-- the program's own copy: the list first, then the row that waits. -/
def OwnDev (B : Nat) (rv fv : Value) (r f : List Int) (w : World) : Prop := OwnI B rv r w ∧ OwnI B fv f w ∧ ∀ k, rv.ownBlock = some k → fv.ownBlock ≠ some k
theorem OwnDev.rd {B : Nat} {rv fv : Value} {r f : List Int} {t : Int} {w : World} (h : OwnDev B rv fv r f w) (hr : r.length ≤ 2000000) (hf : f.length ≤ 2000000) : devK.rd [rv, .int .i64 t, fv] (r, t, f) w :=
  dev_rd (ints_rd h.1.rd (own_bd h.1)) (ints_rd h.2.1.rd (own_bd h.2.1))
theorem cap_own2 {B : Nat} {v : Value} {l : List Int} {w : World} (h : OwnI B v l w) (hl : l.length ≤ 9223372036854775807) : ints.cap (fun k => v.ownBlock = some k) [v] l w := by
  have hbd := own_bd h
  rcases h.2 with ⟨rfl, h0⟩ | ⟨g, cp, cur, rfl, hb, hg, _, _, hcs, _⟩
  · obtain rfl : l = [] := List.length_eq_zero_iff.1 h0
    exact cap_nil _ _
  · refine RawI.cap (o := 0) ⟨rfl, cur, _, hg, by omega, fun i x hi => ?_⟩ rfl (hbd _ _ _ rfl)
    have := h.cell (i := i) (List.getElem?_eq_some_iff.1 hi).1
    rw [getD_some hi, cell_of_row w g i cur _ (0, 0) hg] at this
    rw [Nat.zero_add]; exact this
theorem OwnDev.cap {B : Nat} {rv fv : Value} {r f : List Int} {t : Int} {w : World} (h : OwnDev B rv fv r f w) (hr : r.length ≤ 2000000) (hf : f.length ≤ 2000000) : devK.cap (fun k => B ≤ k) [rv, .int .i64 t, fv] (r, t, f) w :=
  dev_cap (cap_own2 h.1 (by omega)) (cap_own2 h.2.1 (by omega)) (fun k hk => (World.ownsRow.lt h.1 k hk).1) (fun k hk => (World.ownsRow.lt h.2.1 k hk).1) h.2.2
theorem own_turn {B : Nat} {v : Value} {l : List Int} {w w' : World} {G : Foot} (h : OwnI B v l w) (ht : Turn G w w') (hG : ∀ k, v.ownBlock = some k → ¬ G k) : OwnI B v l w' := by
  have h' := h
  obtain ⟨h1, h2⟩ := h
  refine ⟨h1, ?_⟩
  rcases h2 with h2 | ⟨g, cp, cur, rfl, hb, hg, rest⟩
  · exact .inl h2
  · exact .inr ⟨g, cp, cur, rfl, hb, by rw [ht.block g (World.ownsRow.lt h' g rfl).2 (hG g rfl)]; exact hg, rest⟩
theorem OwnDev.turn {B : Nat} {rv fv : Value} {r f : List Int} {w w' : World} {G : Foot} (h : OwnDev B rv fv r f w) (ht : Turn G w w') (hG : ∀ k, k < w.heap.size → B ≤ k → ¬ G k) : OwnDev B rv fv r f w' :=
  ⟨own_turn h.1 ht (fun k hk => hG k (World.ownsRow.lt h.1 k hk).2 (World.ownsRow.lt h.1 k hk).1), own_turn h.2.1 ht (fun k hk => hG k (World.ownsRow.lt h.2.1 k hk).2 (World.ownsRow.lt h.2.1 k hk).1), h.2.2⟩
theorem OwnDev.later {B : Nat} {rv fv : Value} {r f : List Int} {w w' : World} (h : OwnDev B rv fv r f w) (hb : Below w.heap.size w w') : OwnDev B rv fv r f w' :=
  h.turn (Turn.of hb) (fun k h1 _ h3 => by omega)
theorem OwnDev.mono {B B' : Nat} {rv fv : Value} {r f : List Int} {w : World} (h : OwnDev B rv fv r f w) (hB : B' ≤ B) : OwnDev B' rv fv r f w := ⟨h.1.mono hB, h.2.1.mono hB, h.2.2⟩
/-- the value is a copy of a device. -/
def CopyD (r : List Int) (t : Int) (f : List Int) (w : World) (e : Ending) (w' : World) : Prop := ∃ rv fv, e = .returned (.agg #[rv, .int .i64 t, fv]) ∧ OwnDev w.heap.size rv fv r f w' ∧ Below w.heap.size w w'
end Go.Proofs.Ytdhaelaoackfkaa.KD
