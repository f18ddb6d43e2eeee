
/-
  The device: is it one (the program's way), are two the same, a new one, copies of one; for the program and for its model.
-/
import Derived.Test.YtbhmfjblmcppbaaDev1
import Derived.Test.YtbhmfjblmcppbaaFresh
namespace Go.Proofs.Ytbhmfjblmcppbaa.KD
open Go.RowKit Rows3 GR Num
set_option linter.unusedVariables false

theorem rd_dev {cs : List Value} {r : List Int} {t : Int} {f : List Int} {w : World} (h : devK.rd cs (r, t, f) w) :
    ∃ a0 p0 a2 p2, cs = [.slice a0 r.length p0, .int .i64 t, .slice a2 f.length p2] ∧ RdI (.slice a0 r.length p0) r w ∧ RdI (.slice a2 f.length p2) f w ∧ r.length ≤ 9223372036854775807 ∧ f.length ≤ 9223372036854775807 := by
  obtain ⟨a0, p0, a2, p2, rfl, h0, h2⟩ := dev_form h
  obtain ⟨_, _, e0, l0, R0⟩ := rd_ints h0
  obtain ⟨_, _, e2, l2, R2⟩ := rd_ints h2
  cases e0
  cases e2
  exact ⟨_, _, _, _, rfl, R0, R2, Nat.le_trans l0.1 l0.2, Nat.le_trans l2.1 l2.2⟩
set_option maxHeartbeats 4000000 in
set_option maxRecDepth 100000 in
theorem implDevOk (cs : List Value) (r : List Int) (t : Int) (f : List Int) (hr : r.length ≤ 2000000) (hf : f.length ≤ 2000000) (w : World) (h : devK.rd cs (r, t, f) w) :
    Calls Try.prog 45 #[agg cs] w fun e w' => e = .returned (.bool (okD r t f)) ∧ Below w.heap.size w w' := by
  obtain ⟨a0, p0, a2, p2, rfl, R0, R2, _, _⟩ := rd_dev h
  have H0 := Lib.hid (R0.below ((Below.refl w.heap.size w).alloc (Nat.le_refl _) (Obj.cells #[.slice a0 r.length p0, .int .i64 t, .slice a2 f.length p2] 26)))
  have H2 := Lib.hid (R2.below ((Below.refl w.heap.size w).alloc (Nat.le_refl _) (Obj.cells #[.slice a0 r.length p0, .int .i64 t, .slice a2 f.length p2] 26)))
  clear h R0 R2
  obtain ⟨n, hn⟩ : ∃ n, r.length = n := ⟨_, rfl⟩
  obtain ⟨m, hm⟩ : ∃ m, f.length = m := ⟨_, rfl⟩
  obtain ⟨b2, hb2⟩ : ∃ b, wordsB r = b := ⟨_, rfl⟩
  obtain ⟨b3, hb3⟩ : ∃ b, wordB t = b := ⟨_, rfl⟩
  obtain ⟨b5, hb5⟩ : ∃ b, wordsB f = b := ⟨_, rfl⟩
  obtain ⟨b1, hb1⟩ : ∃ b, ((n : Int) == 4) = b := ⟨_, rfl⟩
  obtain ⟨b4, hb4⟩ : ∃ b, decide ((m : Int) ≤ 4) = b := ⟨_, rfl⟩
  have He := Lib.hid (show okD r t f = (b1 && (b2 && (b3 && (b4 && b5)))) by unfold okD; rw [hn, hm, hb2, hb3, hb5, hb1, hb4])
  rw [hn] at H0 H2 ⊢
  rw [hm] at H0 H2 ⊢
  have B2 := Lib.hid hb2
  have B3 : Hid (inLB t 2 = b3) := Lib.hid hb3
  have B5 := Lib.hid hb5
  have HB := Lib.hid ((Below.refl w.heap.size w).alloc (Nat.le_refl _) (Obj.cells #[.slice a0 n p0, .int .i64 t, .slice a2 m p2] 26))
  have hlr := Lib.hid hr
  have hlf := Lib.hid hf
  rw [hn] at hr
  rw [hm] at hf
  clear hb2 hb3 hb5 hn hm
  show Calls _ _ #[.agg #[.slice a0 n p0, .int .i64 t, .slice a2 m p2]] w _
  have paths : b1 = false ∨ (b1 = true ∧ b4 = false) ∨ (b1 = true ∧ b4 = true ∧ b3 = false) ∨ (b1 = true ∧ b4 = true ∧ b3 = true ∧ b2 = false) ∨ (b1 = true ∧ b4 = true ∧ b3 = true ∧ b2 = true ∧ b5 = false) ∨ (b1 = true ∧ b4 = true ∧ b3 = true ∧ b2 = true ∧ b5 = true) := by
    cases b1 <;> cases b2 <;> cases b3 <;> cases b4 <;> cases b5 <;> simp
  rcases paths with rfl | ⟨rfl, rfl⟩ | ⟨rfl, rfl, rfl⟩ | ⟨rfl, rfl, rfl, rfl⟩ | ⟨rfl, rfl, rfl, rfl, rfl⟩ | ⟨rfl, rfl, rfl, rfl, rfl⟩
  all_goals go_enter Try.func45, Try.ntmps45
  all_goals (go_wp2_with (first
    | (go_at_call 72; refine (implIn _ _ _).mono ?_; rintro e w' ⟨rfl, rfl⟩; rw [B3.out])
    | (go_at_call 73; first
      | (with_reducible refine (implWords_is B2.out hlr.out _ H0.out).mono ?_; rintro e w' ⟨rfl, rfl⟩)
      | (with_reducible refine (implWords_is B5.out hlf.out _ H2.out).mono ?_; rintro e w' ⟨rfl, rfl⟩))))
  all_goals go_ret
  all_goals exact ⟨by rw [He.out]; simp, HB.out⟩

/-- are two devices the same. -/
def sameD (r : List Int) (t : Int) (f : List Int) (r' : List Int) (t' : Int) (f' : List Int) : Bool := eqLB r r' && (t == t' && eqLB f f')
theorem sameD_iff (r : List Int) (t : Int) (f : List Int) (r' : List Int) (t' : Int) (f' : List Int) : sameD r t f r' t' f' = true ↔ (r, t, f) = (r', t', f') := by
  unfold sameD eqLB; simp
set_option maxHeartbeats 4000000 in
set_option maxRecDepth 100000 in
theorem specSameDev (cs ds : List Value) (r : List Int) (t : Int) (f : List Int) (r' : List Int) (t' : Int) (f' : List Int) (hr : r.length ≤ 2000000) (hf : f.length ≤ 2000000) (w : World) (h : devK.rd cs (r, t, f) w) (h' : devK.rd ds (r', t', f') w) :
    Calls Try.prog 43 #[agg cs, agg ds] w fun e w' => e = .returned (.bool (sameD r t f r' t' f')) ∧ Below w.heap.size w w' := by
  obtain ⟨a0, p0, a2, p2, rfl, R0, R2, _, _⟩ := rd_dev h
  obtain ⟨c0, q0, c2, q2, rfl, S0, S2, _, _⟩ := rd_dev h'
  have H0 := Lib.hid R0
  have H2 := Lib.hid R2
  have K0 := Lib.hid S0
  have K2 := Lib.hid S2
  clear h h' R0 R2 S0 S2
  obtain ⟨b1, hb1⟩ : ∃ b, eqLB r r' = b := ⟨_, rfl⟩
  obtain ⟨b2, hb2⟩ : ∃ b, (t == t') = b := ⟨_, rfl⟩
  obtain ⟨b3, hb3⟩ : ∃ b, eqLB f f' = b := ⟨_, rfl⟩
  have He := Lib.hid (show sameD r t f r' t' f' = (b1 && (b2 && b3)) by unfold sameD; rw [hb1, hb2, hb3])
  have B1 := Lib.hid hb1
  have B3 := Lib.hid hb3
  clear hb1 hb3
  show Calls _ _ #[.agg #[.slice a0 r.length p0, .int .i64 t, .slice a2 f.length p2], .agg #[.slice c0 r'.length q0, .int .i64 t', .slice c2 f'.length q2]] w _
  go_enter Try.func43, Try.ntmps43
  go_wp2_with (go_at_call 42; first
    | (with_reducible refine (l5Ints_any (.slice a0 r.length p0) _ r r' hr _ (rdI_later (rdI_later H0.out _) _) (rdI_later (rdI_later K0.out _) _)).mono ?_; rintro e w' ⟨rfl, d, rfl⟩; rw [B1.out])
    | (with_reducible refine (l5Ints_any (.slice a2 f.length p2) _ f f' hf _ (rdI_drewN (rdI_later (rdI_later H2.out _) _) _) (rdI_drewN (rdI_later (rdI_later K2.out _) _) _)).mono ?_; rintro e w' ⟨rfl, d2, rfl⟩; rw [B3.out]))
  all_goals go_ret
  all_goals refine ⟨by rw [He.out]; simp_all, ?_⟩
  all_goals first
    | exact below_drewN' (below_drewN' (below_alloc1 ((Below.refl _ _).alloc (Nat.le_refl _) _) (by simp) (Below.refl _ _)) _) _
    | exact below_drewN' (below_alloc1 ((Below.refl _ _).alloc (Nat.le_refl _) _) (by simp) (Below.refl _ _)) _
set_option maxHeartbeats 4000000 in
set_option maxRecDepth 100000 in
theorem implSameDev (cs ds : List Value) (r : List Int) (t : Int) (f : List Int) (r' : List Int) (t' : Int) (f' : List Int) (hr : r.length ≤ 2000000) (hf : f.length ≤ 2000000) (w : World) (h : devK.rd cs (r, t, f) w) (h' : devK.rd ds (r', t', f') w) :
    Calls Try.prog 61 #[agg cs, agg ds] w fun e w' => e = .returned (.bool (sameD r t f r' t' f')) ∧ Below w.heap.size w w' := by
  obtain ⟨a0, p0, a2, p2, rfl, R0, R2, _, _⟩ := rd_dev h
  obtain ⟨c0, q0, c2, q2, rfl, S0, S2, _, _⟩ := rd_dev h'
  have H0 := Lib.hid R0
  have H2 := Lib.hid R2
  have K0 := Lib.hid S0
  have K2 := Lib.hid S2
  clear h h' R0 R2 S0 S2
  obtain ⟨b1, hb1⟩ : ∃ b, eqLB r r' = b := ⟨_, rfl⟩
  obtain ⟨b2, hb2⟩ : ∃ b, (t == t') = b := ⟨_, rfl⟩
  obtain ⟨b3, hb3⟩ : ∃ b, eqLB f f' = b := ⟨_, rfl⟩
  have He := Lib.hid (show sameD r t f r' t' f' = (b1 && (b2 && b3)) by unfold sameD; rw [hb1, hb2, hb3])
  have B1 := Lib.hid hb1
  have B3 := Lib.hid hb3
  clear hb1 hb3
  show Calls _ _ #[.agg #[.slice a0 r.length p0, .int .i64 t, .slice a2 f.length p2], .agg #[.slice c0 r'.length q0, .int .i64 t', .slice c2 f'.length q2]] w _
  go_enter Try.func61, Try.ntmps61
  go_wp2_with (go_at_call 60; first
    | (with_reducible refine (equal_any (.slice a0 r.length p0) _ r r' hr _ (rdI_later (rdI_later H0.out _) _) (rdI_later (rdI_later K0.out _) _)).mono ?_; rintro e w' ⟨rfl, d, rfl⟩; rw [B1.out])
    | (with_reducible refine (equal_any (.slice a2 f.length p2) _ f f' hf _ (rdI_drewN (rdI_later (rdI_later H2.out _) _) _) (rdI_drewN (rdI_later (rdI_later K2.out _) _) _)).mono ?_; rintro e w' ⟨rfl, d2, rfl⟩; rw [B3.out]))
  all_goals go_ret
  all_goals refine ⟨by rw [He.out]; simp_all, ?_⟩
  all_goals first
    | exact below_drewN' (below_drewN' (below_alloc1 ((Below.refl _ _).alloc (Nat.le_refl _) _) (by simp) (Below.refl _ _)) _) _
    | exact below_drewN' (below_alloc1 ((Below.refl _ _).alloc (Nat.le_refl _) _) (by simp) (Below.refl _ _)) _

/-- data of the call's own. -/
def NewD (d : List Int × Int × List Int) (w : World) (e : Ending) (w' : World) : Prop := ∃ us, e = .returned (agg us) ∧ devK.cap (fun k => w.heap.size ≤ k) us d w' ∧ Below w.heap.size w w'
set_option maxRecDepth 100000 in
theorem implDevNew (w : World) : Calls Try.prog 47 #[] w (NewD ([0, 0, 0, 0], 0, []) w) := by
  have hmk := fun W => makeI 4 (by omega) W
  have Ho := Lib.hid (OwnI.make0 w.heap.size (w.alloc (.cells #[.slice (some ⟨w.heap.size + 1, 0, none⟩) 4 4, .int .i64 0, .slice none 0 0] 26)) (by simp) 4 (by omega))
  have e4 : ((4 : Nat) : Int) = 4 := rfl
  rw [e4] at hmk
  have A := (Bx.new 26 #[.slice (some ⟨w.heap.size + 1, 0, none⟩) 4 4, .int .i64 0, .slice none 0 0] w).alloc (Obj.cells (madeCells #[.int .i64 0] 4) 3)
  have g0 := A.cell 0 _ rfl
  have g1 := A.cell 1 _ rfl
  have g2 := A.cell 2 _ rfl
  clear A
  go_enter Try.func47, Try.ntmps47
  go_wp2_with fail
  refine bodyPost_ret (v := .agg #[.slice (some ⟨w.heap.size + 1, 0, none⟩) 4 4, .int .i64 0, .slice none 0 0]) (by simp [results, Try.results47, go_sem, g0, g1, g2]) rfl ⟨[.slice (some ⟨w.heap.size + 1, 0, none⟩) 4 4, .int .i64 0, .slice none 0 0], rfl, ?_, ?_⟩
  · have h := cap_own Ho.out (by simp)
    have hs : (w.alloc (.cells #[.slice (some ⟨w.heap.size + 1, 0, none⟩) 4 4, .int .i64 0, .slice none 0 0] 26)).heap.size = w.heap.size + 1 := by simp
    rw [hs] at h
    exact dev_cap (x0 := [0, 0, 0, 0]) (Fx0 := fun k => w.heap.size ≤ k) (Fx2 := fun _ => False) h (cap_nil _ _) (fun _ hk => hk) (fun _ hk => hk.elim) (fun _ _ hk => hk)
  · exact ((Below.refl _ _).alloc (Nat.le_refl _) _).alloc (by simp) _
set_option maxRecDepth 100000 in
theorem specDevNew (w : World) : Calls Try.prog 46 #[] w (NewD ([0, 0, 0, 0], 0, []) w) := by
  have hmk := fun W => makeI 4 (by omega) W
  have Ho := Lib.hid (OwnI.make0 w.heap.size (w.alloc (.cells #[.slice (some ⟨w.heap.size + 1, 0, none⟩) 4 4, .int .i64 0, .slice none 0 0] 26)) (by simp) 4 (by omega))
  have e4 : ((4 : Nat) : Int) = 4 := rfl
  rw [e4] at hmk
  have A := (Bx.new 26 #[.slice (some ⟨w.heap.size + 1, 0, none⟩) 4 4, .int .i64 0, .slice none 0 0] w).alloc (Obj.cells (madeCells #[.int .i64 0] 4) 3)
  have g0 := A.cell 0 _ rfl
  have g1 := A.cell 1 _ rfl
  have g2 := A.cell 2 _ rfl
  clear A
  go_enter Try.func46, Try.ntmps46
  go_wp2_with fail
  refine bodyPost_ret (v := .agg #[.slice (some ⟨w.heap.size + 1, 0, none⟩) 4 4, .int .i64 0, .slice none 0 0]) (by simp [results, Try.results46, go_sem, g0, g1, g2]) rfl ⟨[.slice (some ⟨w.heap.size + 1, 0, none⟩) 4 4, .int .i64 0, .slice none 0 0], rfl, ?_, ?_⟩
  · have h := cap_own Ho.out (by simp)
    have hs : (w.alloc (.cells #[.slice (some ⟨w.heap.size + 1, 0, none⟩) 4 4, .int .i64 0, .slice none 0 0] 26)).heap.size = w.heap.size + 1 := by simp
    rw [hs] at h
    exact dev_cap (x0 := [0, 0, 0, 0]) (Fx0 := fun k => w.heap.size ≤ k) (Fx2 := fun _ => False) h (cap_nil _ _) (fun _ hk => hk) (fun _ hk => hk.elim) (fun _ _ hk => hk)
  · exact ((Below.refl _ _).alloc (Nat.le_refl _) _).alloc (by simp) _

/-- the program's own copy: the list first, then the row that waits. -/
def OwnDev (B : Nat) (rv fv : Value) (r f : List Int) (w : World) : Prop := OwnI B rv r w ∧ OwnI B fv f w ∧ ∀ k, rv.ownBlock = some k → fv.ownBlock ≠ some k
theorem OwnDev.rd {B : Nat} {rv fv : Value} {r f : List Int} {t : Int} {w : World} (h : OwnDev B rv fv r f w) (hr : r.length ≤ 2000000) (hf : f.length ≤ 2000000) : devK.rd [rv, .int .i64 t, fv] (r, t, f) w :=
  dev_rd (ints_rd h.1.rd (own_bd h.1)) (ints_rd h.2.1.rd (own_bd h.2.1))
theorem cap_own2 {B : Nat} {v : Value} {l : List Int} {w : World} (h : OwnI B v l w) (hl : l.length ≤ 9223372036854775807) : ints.cap (fun k => v.ownBlock = some k) [v] l w := by
  have hbd := own_bd h
  rcases h.2 with ⟨rfl, h0⟩ | ⟨g, cp, cur, rfl, hb, hg, _, _, hcs, _⟩
  · obtain rfl : l = [] := List.length_eq_zero_iff.1 h0
    exact cap_nil _ _
  · refine RawI.cap (o := 0) ⟨rfl, cur, _, hg, by omega, fun i x hi => ?_⟩ rfl (hbd _ _ _ rfl)
    have := h.cell (i := i) (List.getElem?_eq_some_iff.1 hi).1
    rw [getD_some hi, cell_of_row w g i cur _ (0, 0) hg] at this
    rw [Nat.zero_add]; exact this
theorem OwnDev.cap {B : Nat} {rv fv : Value} {r f : List Int} {t : Int} {w : World} (h : OwnDev B rv fv r f w) (hr : r.length ≤ 2000000) (hf : f.length ≤ 2000000) : devK.cap (fun k => B ≤ k) [rv, .int .i64 t, fv] (r, t, f) w :=
  dev_cap (cap_own2 h.1 (by omega)) (cap_own2 h.2.1 (by omega)) (fun k hk => (World.ownsRow.lt h.1 k hk).1) (fun k hk => (World.ownsRow.lt h.2.1 k hk).1) h.2.2
theorem own_turn {B : Nat} {v : Value} {l : List Int} {w w' : World} {G : Foot} (h : OwnI B v l w) (ht : Turn G w w') (hG : ∀ k, v.ownBlock = some k → ¬ G k) : OwnI B v l w' := by
  have h' := h
  obtain ⟨h1, h2⟩ := h
  refine ⟨h1, ?_⟩
  rcases h2 with h2 | ⟨g, cp, cur, rfl, hb, hg, rest⟩
  · exact .inl h2
  · exact .inr ⟨g, cp, cur, rfl, hb, by rw [ht.block g (World.ownsRow.lt h' g rfl).2 (hG g rfl)]; exact hg, rest⟩
theorem OwnDev.turn {B : Nat} {rv fv : Value} {r f : List Int} {w w' : World} {G : Foot} (h : OwnDev B rv fv r f w) (ht : Turn G w w') (hG : ∀ k, k < w.heap.size → B ≤ k → ¬ G k) : OwnDev B rv fv r f w' :=
  ⟨own_turn h.1 ht (fun k hk => hG k (World.ownsRow.lt h.1 k hk).2 (World.ownsRow.lt h.1 k hk).1), own_turn h.2.1 ht (fun k hk => hG k (World.ownsRow.lt h.2.1 k hk).2 (World.ownsRow.lt h.2.1 k hk).1), h.2.2⟩
theorem OwnDev.later {B : Nat} {rv fv : Value} {r f : List Int} {w w' : World} (h : OwnDev B rv fv r f w) (hb : Below w.heap.size w w') : OwnDev B rv fv r f w' :=
  h.turn (Turn.of hb) (fun k h1 _ h3 => by omega)
theorem OwnDev.mono {B B' : Nat} {rv fv : Value} {r f : List Int} {w : World} (h : OwnDev B rv fv r f w) (hB : B' ≤ B) : OwnDev B' rv fv r f w := ⟨h.1.mono hB, h.2.1.mono hB, h.2.2⟩
/-- the value is a copy of a device. -/
def CopyD (r : List Int) (t : Int) (f : List Int) (w : World) (e : Ending) (w' : World) : Prop := ∃ rv fv, e = .returned (.agg #[rv, .int .i64 t, fv]) ∧ OwnDev w.heap.size rv fv r f w' ∧ Below w.heap.size w w'
set_option maxHeartbeats 4000000 in
set_option maxRecDepth 100000 in
theorem implCopyDev (cs : List Value) (r : List Int) (t : Int) (f : List Int) (hr : r.length ≤ 2000000) (hf : f.length ≤ 2000000) (w : World) (h : devK.rd cs (r, t, f) w) :
    Calls Try.prog 66 #[agg cs] w (CopyD r t f w) := by
  obtain ⟨a0, p0, a2, p2, rfl, R0, R2, _, _⟩ := rd_dev h
  have H0 := Lib.hid R0
  have H2 := Lib.hid R2
  clear h R0 R2
  have hsz : ∀ (w : World) o, (w.alloc o).heap.size = w.heap.size + 1 := fun w o => by simp
  have A0 := Lib.hid ((Bx.new 26 #[.slice a0 r.length p0, .int .i64 t, .slice a2 f.length p2] w).alloc (Obj.cells #[.slice none 0 0, .int .i64 0, .slice none 0 0] 26))
  have B0 := Bx.new 26 #[.slice none 0 0, .int .i64 0, .slice none 0 0] (w.alloc (Obj.cells #[.slice a0 r.length p0, .int .i64 t, .slice a2 f.length p2] 26))
  rw [hsz] at B0
  have X0 := Lib.hid B0
  have HB0 := Lib.hid (((Below.refl w.heap.size w).alloc (Nat.le_refl _) (Obj.cells #[.slice a0 r.length p0, .int .i64 t, .slice a2 f.length p2] 26)).alloc (by simp) (Obj.cells #[.slice none 0 0, .int .i64 0, .slice none 0 0] 26))
  have hs2 : w.heap.size + 1 + 1 = ((w.alloc (Obj.cells #[.slice a0 r.length p0, .int .i64 t, .slice a2 f.length p2] 26)).alloc (Obj.cells #[.slice none 0 0, .int .i64 0, .slice none 0 0] 26)).heap.size := by simp
  have HS := Lib.hid hs2
  clear B0 hsz hs2
  show Calls _ _ #[.agg #[.slice a0 r.length p0, .int .i64 t, .slice a2 f.length p2]] w _
  go_enter Try.func66, Try.ntmps66
  go_wp2_with fail
  generalize (w.alloc (Obj.cells #[.slice a0 r.length p0, .int .i64 t, .slice a2 f.length p2] 26)).alloc (Obj.cells #[.slice none 0 0, .int .i64 0, .slice none 0 0] 26) = y0 at A0 X0 HB0 HS ⊢
  refine (clone_any _ r hr _ (H0.out.below HB0.out)).mono ?_
  rintro e y1 ⟨rv, rfl, ho, hb⟩
  obtain ⟨b0, q0, rfl⟩ := ho.slice
  have A1 := A0.out.later hb
  have z0 := A1.warm 0
  have g0 := A1.cell 0 _ rfl
  have g1 := A1.cell 1 _ rfl
  have g2 := A1.cell 2 _ rfl
  have hz1 : w.heap.size + 1 + 1 ≤ y1.heap.size := by rw [HS.out]; exact hb.size
  have hz0 : w.heap.size + 1 + 1 ≤ y0.heap.size := by rw [HS.out]; exact Nat.le_refl _
  have A2 := Lib.hid (show Bx 26 w.heap.size #[.slice b0 r.length q0, .int .i64 t, .slice a2 f.length p2] (y1.setCell ⟨w.heap.size, 0, none⟩ (.slice b0 r.length q0)) from A1.set 0 _)
  have X2 := Lib.hid ((X0.out.later hb).far (p := ⟨w.heap.size, 0, none⟩) (by dsimp only; omega) (.slice b0 r.length q0))
  have HB2 := Lib.hid ((HB0.out.trans (hb.mono HB0.out.size)).setCell (p := ⟨w.heap.size, 0, none⟩) (by dsimp only; omega) (.slice b0 r.length q0))
  have O2 := Lib.hid (own_turn ho ((Turn.refl (fun k => k = w.heap.size) y1).set (p := ⟨w.heap.size, 0, none⟩) rfl (.slice b0 r.length q0)) (fun k hk he => by have := (World.ownsRow.lt ho k hk).1; omega))
  have Hz2 : Hid (w.heap.size + 1 + 1 ≤ (y1.setCell ⟨w.heap.size, 0, none⟩ (.slice b0 r.length q0)).heap.size) := Lib.hid (by simp [World.setCell]; exact hz1)
  have Hz0 := Lib.hid hz0
  have Hy2 : Hid (y0.heap.size ≤ (y1.setCell ⟨w.heap.size, 0, none⟩ (.slice b0 r.length q0)).heap.size) := Lib.hid (by have := hb.size; simp [World.setCell]; exact this)
  clear A1 ho hb hz1 hz0
  go_wp2_with fail
  clear z0 g0 g1 g2
  generalize y1.setCell ⟨w.heap.size, 0, none⟩ (.slice b0 r.length q0) = y2 at A2 X2 HB2 O2 Hz2 Hy2 ⊢
  refine (clone_any _ f hf _ (H2.out.below HB2.out)).mono ?_
  rintro e y3 ⟨fv, rfl, ho, hb⟩
  obtain ⟨b2, q2, rfl⟩ := ho.slice
  have A3 := A2.out.later hb
  have X3 := X2.out.later hb
  have z2 := A3.warm 2
  have g0 := A3.cell 0 _ rfl
  have g1 := A3.cell 1 _ rfl
  have g2 := A3.cell 2 _ rfl
  have e0 := X3.cell 0 _ rfl
  have e1 := X3.cell 1 _ rfl
  have e2 := X3.cell 2 _ rfl
  have f0 := X3.warm 0
  have f1 := X3.warm 1
  have f2 := X3.warm 2
  have HD : Hid (OwnDev y0.heap.size (.slice b0 r.length q0) (.slice b2 f.length q2) r f y3) := Lib.hid ⟨O2.out.later hb, ho.mono Hy2.out, fun k hk hk2 => by have h1 := (World.ownsRow.lt O2.out k hk).2; have h2 := (World.ownsRow.lt ho k hk2).1; omega⟩
  have HB3 := Lib.hid (HB2.out.trans (hb.mono HB2.out.size))
  clear A3 X3 ho hb
  go_wp2_with fail
  refine bodyPost_ret (v := .agg #[.slice b0 r.length q0, .int .i64 t, .slice b2 f.length q2]) (by simp [results, Try.results66, go_sem, e0, e1, e2]) rfl ⟨_, _, rfl, ?_, ?_⟩
  · have ht : ∀ {w2 : World}, Turn (fun k => k = w.heap.size ∨ k = w.heap.size + 1) y3 w2 → OwnDev w.heap.size (.slice b0 r.length q0) (.slice b2 f.length q2) r f w2 := fun {w2} ht =>
      (HD.out.turn ht (fun k _ h1 h2 => by have := Hz0.out; omega)).mono (by have := Hz0.out; omega)
    refine ht ?_
    iterate 4 refine Turn.set ?_ (by simp) _
    exact Turn.refl _ _
  · iterate 4 refine Below.setCell ?_ (by dsimp only; omega) _
    exact HB3.out
end Go.Proofs.Ytbhmfjblmcppbaa.KD
