
/-
  The model: copies of one, a new one; for the program and for its model.
-/
import Derived.Test.YtbhmfjblmcppbaaMod1
import Derived.Deep.RegionHeld3
namespace Go.Proofs.Ytbhmfjblmcppbaa.KD
open Go.RowKit Rows3 GR Num
set_option linter.unusedVariables false

theorem cells4 {T : TypeId} {b : Nat} {c0 c1 c2 c3 : Value} {w : World} (h : Bx T b #[c0, c1, c2, c3] w) :
    w.cell? ⟨b, 0, none⟩ = some c0 ∧ w.cell? ⟨b, 1, none⟩ = some c1 ∧ w.cell? ⟨b, 2, none⟩ = some c2 ∧ w.cell? ⟨b, 3, none⟩ = some c3 := ⟨h.cell 0 _ rfl, h.cell 1 _ rfl, h.cell 2 _ rfl, h.cell 3 _ rfl⟩
theorem warm4 {T : TypeId} {b : Nat} {c0 c1 c2 c3 : Value} {w : World} (h : Bx T b #[c0, c1, c2, c3] w) :
    w.frozen? ⟨b, 0, none⟩ = false ∧ w.frozen? ⟨b, 1, none⟩ = false ∧ w.frozen? ⟨b, 2, none⟩ = false ∧ w.frozen? ⟨b, 3, none⟩ = false := ⟨h.warm 0, h.warm 1, h.warm 2, h.warm 3⟩
theorem Bx.four {T : TypeId} {b : Nat} {c0 c1 c2 c3 : Value} {w : World} (h : Bx T b #[c0, c1, c2, c3] w) (u0 u1 u2 u3 : Value) :
    Bx T b #[u0, u1, u2, u3] ((((w.setCell ⟨b, 0, none⟩ u0).setCell ⟨b, 1, none⟩ u1).setCell ⟨b, 2, none⟩ u2).setCell ⟨b, 3, none⟩ u3) := (((h.set 0 u0).set 1 u1).set 2 u2).set 3 u3
/-- the call's own model, its memory's row and its device in parts. -/
theorem model_own {B : Nat} {v : Value} {us : List Value} {l r : List Int} {t : Int} {f : List Int} {w : World} {F1 F2 : Foot} (h0 : ints.cap F1 [v] l w) (h1 : devK.cap F2 us (r, t, f) w) (s1 : ∀ k, F1 k → B ≤ k) (s2 : ∀ k, F2 k → B ≤ k) (hd : ∀ k, F1 k → ¬ F2 k) : modelK.cap (fun k => B ≤ k) (v :: us) (l, (r, t, f)) w :=
  ⟨[v], us, F1, F2, rfl, fun k hk => ⟨s1 k hk, hd k hk⟩, s2, h0, h1⟩
theorem own_model {F : Foot} {cs : List Value} {l r : List Int} {t : Int} {f : List Int} {w : World} (h : modelK.cap F cs (l, (r, t, f)) w) :
    ∃ v us F1 F2, cs = v :: us ∧ ints.cap F1 [v] l w ∧ devK.cap F2 us (r, t, f) w ∧ (∀ k, F1 k → F k) ∧ (∀ k, F2 k → F k) ∧ (∀ k, F1 k → ¬ F2 k) := by
  obtain ⟨ps, us, F1, F2, rfl, a1, a2, h0, h1⟩ := h
  obtain ⟨ad, cp, rfl, _⟩ := rd_ints (ints.cap_rd h0)
  exact ⟨_, us, F1, F2, rfl, h0, h1, fun k hk => (a1 k hk).1, a2, fun k hk => (a1 k hk).2⟩
theorem model_end {b B C : Nat} {us : List Value} {x : List Int × DevX} {y w' : World} (h : modelK.cap (fun k => B ≤ k) us x y) (hb : b < B) (hC : C ≤ B) (ht : Turn (fun k => k = b) y w') : modelK.cap (fun k => C ≤ k) us x w' :=
  modelK.cap_wide (modelK.cap_turn h ht (fun k _ h1 h2 => by omega)) (fun k _ hk => by omega)
/-- the value is a new model. -/
def NewM (d : List Int × DevX) (w : World) (e : Ending) (w' : World) : Prop := ∃ us, e = .returned (agg us) ∧ modelK.cap (fun k => w.heap.size ≤ k) us d w' ∧ Below w.heap.size w w'
set_option maxHeartbeats 4000000 in
set_option maxRecDepth 100000 in
theorem implCopyModel (cs : List Value) (l r : List Int) (t : Int) (f : List Int) (hl : l.length ≤ 2000000) (hr : r.length ≤ 2000000) (hf : f.length ≤ 2000000) (w : World) (h : modelK.rd cs (l, (r, t, f)) w) :
    Calls Try.prog 33 #[agg cs] w (NewM (l, (r, t, f)) w) := by
  obtain ⟨a0, p0, a1, p1, a2, p2, rfl, R0, R1⟩ := rd_model h
  clear h
  have hlr := Lib.hid hr
  have hlf := Lib.hid hf
  have hll := Lib.hid hl
  have hsz : ∀ (w : World) o, (w.alloc o).heap.size = w.heap.size + 1 := fun w o => by simp
  have A0 := Lib.hid ((Bx.new 28 #[.slice a0 l.length p0, .slice a1 r.length p1, .int .i64 t, .slice a2 f.length p2] w).alloc (Obj.cells #[.slice none 0 0, .slice none 0 0, .int .i64 0, .slice none 0 0] 28))
  have B0 := Bx.new 28 #[.slice none 0 0, .slice none 0 0, .int .i64 0, .slice none 0 0] (w.alloc (Obj.cells #[.slice a0 l.length p0, .slice a1 r.length p1, .int .i64 t, .slice a2 f.length p2] 28))
  rw [hsz] at B0
  have X0 := Lib.hid B0
  have hb0 : Below w.heap.size w _ := ((Below.refl w.heap.size w).alloc (Nat.le_refl _) (Obj.cells #[.slice a0 l.length p0, .slice a1 r.length p1, .int .i64 t, .slice a2 f.length p2] 28)).alloc (by simp) (Obj.cells #[.slice none 0 0, .slice none 0 0, .int .i64 0, .slice none 0 0] 28)
  have HB0 := Lib.hid hb0
  have H0 := Lib.hid (R0.below hb0)
  have H1 := Lib.hid (devK.rd_later R1 hb0)
  clear B0 hsz hb0 R0 R1 hr hf hl
  show Calls _ _ #[.agg #[.slice a0 l.length p0, .slice a1 r.length p1, .int .i64 t, .slice a2 f.length p2]] w _
  go_enter Try.func33, Try.ntmps33
  go_wp2_with fail
  generalize (w.alloc (Obj.cells #[.slice a0 l.length p0, .slice a1 r.length p1, .int .i64 t, .slice a2 f.length p2] 28)).alloc (Obj.cells #[.slice none 0 0, .slice none 0 0, .int .i64 0, .slice none 0 0] 28) = y0 at A0 X0 HB0 H0 H1 ⊢
  obtain ⟨g0, g1, g2, g3⟩ := cells4 A0.out
  have hlt := X0.out.lt
  have hlt0 : w.heap.size < y0.heap.size := by omega
  go_region_held3 (fun w' => w'.cell? ⟨w.heap.size, 0, none⟩ = some (.slice a0 l.length p0) ∧ w'.cell? ⟨w.heap.size, 1, none⟩ = some (.slice a1 r.length p1) ∧ w'.cell? ⟨w.heap.size, 2, none⟩ = some (.int .i64 t) ∧ w'.cell? ⟨w.heap.size, 3, none⟩ = some (.slice a2 f.length p2)) (go_keep) (first
    | (go_at_call 65; refine (clone_any _ l hll.out _ (H0.out.below (below_drew (w := y0)))).mono ?_; rintro e y1 ⟨v, rfl, ho, hb1⟩; obtain ⟨b0, q0, rfl⟩ := ho.slice; have hk : ∀ i, y1.cell? ⟨w.heap.size, i, none⟩ = y0.cell? ⟨w.heap.size, i, none⟩ := fun i => hb1.cell (p := ⟨w.heap.size, i, none⟩) hlt0)
    | (go_at_call 66; refine (implCopyDev [.slice a1 r.length p1, .int .i64 t, .slice a2 f.length p2] r t f hlr.out hlf.out _ (devK.rd_later (devK.rd_drew H1.out) hb1)).mono ?_; rintro e y2 ⟨rv, fv, rfl, ho2, hb2⟩; obtain ⟨b1, q1, rfl⟩ := ho2.1.slice; obtain ⟨b2, q2, rfl⟩ := ho2.2.1.slice; have hk2 : ∀ i, y2.cell? ⟨w.heap.size, i, none⟩ = y1.cell? ⟨w.heap.size, i, none⟩ := fun i => hb2.cell (p := ⟨w.heap.size, i, none⟩) (Nat.lt_of_lt_of_le hlt0 hb1.size)
       have hC := ((below_drew (w := y0)).trans hb1).trans (hb2.mono hb1.size)
       obtain ⟨j0, j1, j2, j3⟩ := cells4 (X0.out.below hC hlt)
       obtain ⟨z0, z1, z2, z3⟩ := warm4 (X0.out.below hC hlt)))
  have XF := Bx.four (X0.out.below hC hlt) (.slice b0 l.length q0) (.slice b1 r.length q1) (.int .i64 t) (.slice b2 f.length q2)
  obtain ⟨e0, e1, e2, e3⟩ := cells4 XF
  have HM : modelK.cap (fun k => y0.heap.size ≤ k) [.slice b0 l.length q0, .slice b1 r.length q1, .int .i64 t, .slice b2 f.length q2] (l, (r, t, f)) y2 :=
    model_own (cap_own2 (ho.later hb2) (by have := hll.out; omega)) (ho2.cap hlr.out hlf.out) (fun k hk => (World.ownsRow.lt ho k hk).1) (fun k hk => Nat.le_trans hb1.size hk) (fun k hk hk2 => by have := (World.ownsRow.lt ho k hk).2; omega)
  have HMH := Lib.hid HM
  have HBC := Lib.hid (HB0.out.trans (hC.mono HB0.out.size))
  clear HM XF hk hk2 hC ho ho2 hb1 hb2
  go_wp2_with fail
  refine bodyPost_ret (v := .agg #[.slice b0 l.length q0, .slice b1 r.length q1, .int .i64 t, .slice b2 f.length q2]) (by simp [results, Try.results33, go_sem, e0, e1, e2, e3]) rfl ⟨_, rfl, ?_, ?_⟩
  · refine model_end HMH.out (b := w.heap.size + 1) (by omega) (by omega) ?_
    iterate 4 refine Turn.set (F := fun k => k = w.heap.size + 1) ?_ rfl _
    exact Turn.refl _ _
  · iterate 4 refine Below.setCell ?_ (by dsimp only; omega) _
    exact HBC.out
set_option maxHeartbeats 4000000 in
set_option maxRecDepth 100000 in
theorem implModelNew (w : World) : Calls Try.prog 19 #[] w (NewM (List.replicate 192 0, ([0, 0, 0, 0], 0, [])) w) := by
  have hmk := fun W => makeI 192 (by omega) W
  have e192 : ((192 : Nat) : Int) = 192 := rfl
  rw [e192] at hmk
  have X0 := Lib.hid (Bx.new 28 #[.slice none 0 0, .slice none 0 0, .int .i64 0, .slice none 0 0] w)
  have HB0 := Lib.hid ((Below.refl w.heap.size w).alloc (Nat.le_refl _) (Obj.cells #[.slice none 0 0, .slice none 0 0, .int .i64 0, .slice none 0 0] 28))
  go_enter Try.func19, Try.ntmps19
  go_wp2_with fail
  generalize w.alloc (Obj.cells #[.slice none 0 0, .slice none 0 0, .int .i64 0, .slice none 0 0] 28) = y0 at X0 HB0 ⊢
  obtain ⟨g0, g1, g2, g3⟩ := cells4 X0.out
  have hlt := X0.out.lt
  go_region_held3 (fun w' => w.heap.size < w'.heap.size) (first | assumption | (simp; omega) | (dsimp only [World.drew]; omega)) (first
    | (go_at_call 47; refine (implDevNew _).mono ?_; rintro e y1 ⟨us, he, ho, hb1⟩
       obtain ⟨b1, q1, b2, q2, rfl, _, _⟩ := dev_form (devK.cap_rd ho)
       obtain rfl : e = .returned (.agg #[.slice b1 ([0, 0, 0, 0] : List Int).length q1, .int .i64 0, .slice b2 ([] : List Int).length q2]) := he
       have hC : Below y0.heap.size y0 y1 := by first | exact (below_drew (w := y0)).trans hb1 | exact ((below_drew (w := y0)).alloc (by simp; done) _).trans (hb1.mono (by simp; done))
       obtain ⟨j0, j1, j2, j3⟩ := cells4 (X0.out.below hC hlt)
       obtain ⟨z0, z1, z2, z3⟩ := warm4 (X0.out.below hC hlt)
       have ja := fun o => cells4 ((X0.out.below hC hlt).alloc o)
       have za := fun o => warm4 ((X0.out.below hC hlt).alloc o)
       have hs := Nat.lt_of_lt_of_le hlt hC.size))
  · have HM : modelK.cap (fun k => y0.heap.size ≤ k) [.slice (some ⟨y0.heap.size, 0, none⟩) 192 192, .slice b1 4 q1, .int .i64 0, .slice b2 0 q2] (List.replicate 192 0, ([0, 0, 0, 0], 0, [])) y1 := by
      have ho' : OwnI y0.heap.size (.slice (some ⟨y0.heap.size, 0, none⟩) 192 192) (List.replicate 192 0) y1 :=
        (show OwnI y0.heap.size (.slice (some ⟨y0.heap.size, 0, none⟩) 192 192) (List.replicate 192 0) (y0.alloc (Obj.cells (madeCells #[.int .i64 0] 192) 3)).drew from OwnI.make0 y0.heap.size y0 (Nat.le_refl _) 192 (by omega)).later hb1
      have hz : (y0.alloc (Obj.cells (madeCells #[.int .i64 0] 192) 3)).drew.heap.size = y0.heap.size + 1 := by simp
      rw [hz] at ho
      exact model_own (cap_own2 ho' (by simp)) ho (fun k hk => (World.ownsRow.lt ho' k hk).1) (fun k hk => by omega) (fun k hk hk2 => by simp [Value.ownBlock] at hk; omega)
    have HMH := Lib.hid HM
    have HBC := Lib.hid (HB0.out.trans (hC.mono HB0.out.size))
    obtain ⟨e0, e1, e2, e3⟩ := cells4 (Bx.four (X0.out.below hC hlt) (.slice (some ⟨y0.heap.size, 0, none⟩) 192 192) (.slice b1 4 q1) (.int .i64 0) (.slice b2 0 q2))
    clear HM ho hb1 hC ja za
    go_wp2_with fail
    refine bodyPost_ret (v := .agg #[.slice (some ⟨y0.heap.size, 0, none⟩) 192 192, .slice b1 4 q1, .int .i64 0, .slice b2 0 q2]) (by simp [results, Try.results19, go_sem, e0, e1, e2, e3]) rfl ⟨_, rfl, ?_, ?_⟩
    · refine model_end HMH.out (b := w.heap.size) (by omega) (by omega) ?_
      iterate 4 refine Turn.set (F := fun k => k = w.heap.size) ?_ rfl _
      exact Turn.refl _ _
    · iterate 4 refine Below.setCell ?_ (by first | omega | (dsimp only; omega)) _
      exact HBC.out
  · have XB := Lib.hid (Bx.four (X0.out.below hC hlt) (.slice (some ⟨y1.heap.size, 0, none⟩) 192 192) (.slice b1 4 q1) (.int .i64 0) (.slice b2 0 q2))
    have HY : Hid (y1.heap.size = ((((y1.setCell ⟨w.heap.size, 0, none⟩ (.slice (some ⟨y1.heap.size, 0, none⟩) 192 192)).setCell ⟨w.heap.size, 1, none⟩ (.slice b1 4 q1)).setCell ⟨w.heap.size, 2, none⟩ (.int .i64 0)).setCell ⟨w.heap.size, 3, none⟩ (.slice b2 0 q2)).heap.size) := Lib.hid (by simp [World.setCell])
    have ht : Turn (fun k => k = w.heap.size) y1 ((((y1.setCell ⟨w.heap.size, 0, none⟩ (.slice (some ⟨y1.heap.size, 0, none⟩) 192 192)).setCell ⟨w.heap.size, 1, none⟩ (.slice b1 4 q1)).setCell ⟨w.heap.size, 2, none⟩ (.int .i64 0)).setCell ⟨w.heap.size, 3, none⟩ (.slice b2 0 q2)) := by
      iterate 4 refine Turn.set (F := fun k => k = w.heap.size) ?_ rfl _
      exact Turn.refl _ _
    have hz := hC.size
    have HD := Lib.hid (devK.cap_turn (devK.cap_top ho) ht (fun k _ h1 h2 => by have h3 : y0.heap.size ≤ k := h1.1; omega))
    have HBY : Hid (Below w.heap.size w ((((y1.setCell ⟨w.heap.size, 0, none⟩ (.slice (some ⟨y1.heap.size, 0, none⟩) 192 192)).setCell ⟨w.heap.size, 1, none⟩ (.slice b1 4 q1)).setCell ⟨w.heap.size, 2, none⟩ (.int .i64 0)).setCell ⟨w.heap.size, 3, none⟩ (.slice b2 0 q2))) := Lib.hid (by
      iterate 4 refine Below.setCell ?_ (by first | omega | (dsimp only; omega)) _
      exact HB0.out.trans (hC.mono HB0.out.size))
    clear ho hb1 hC ja za ht
    go_wp2_with fail
    generalize ((((y1.setCell ⟨w.heap.size, 0, none⟩ (.slice (some ⟨y1.heap.size, 0, none⟩) 192 192)).setCell ⟨w.heap.size, 1, none⟩ (.slice b1 4 q1)).setCell ⟨w.heap.size, 2, none⟩ (.int .i64 0)).setCell ⟨w.heap.size, 3, none⟩ (.slice b2 0 q2)) = Y at XB HY HD HBY ⊢
    obtain ⟨e0, e1, e2, e3⟩ := cells4 (XB.out.alloc (Obj.cells (madeCells #[.int .i64 0] 192) 3))
    refine bodyPost_ret (v := .agg #[.slice (some ⟨y1.heap.size, 0, none⟩) 192 192, .slice b1 4 q1, .int .i64 0, .slice b2 0 q2]) (by simp [results, Try.results19, go_sem, e0, e1, e2, e3]) rfl ⟨_, rfl, ?_, ?_⟩
    · have ho' := OwnI.make0 y0.heap.size Y (by have := HY.out; omega) 192 (by omega)
      rw [← HY.out] at ho'
      refine modelK.cap_wide (model_own (B := y0.heap.size) (cap_own2 ho' (by simp)) (devK.cap_alloc HD.out _) (fun k hk => (World.ownsRow.lt ho' k hk).1) (fun k hk => hk.1) (fun k hk hk2 => by have h2 : k < y1.heap.size := hk2.2; simp [Value.ownBlock] at hk; omega)) (fun k _ hk => by omega)
    · exact HBY.out.alloc HBY.out.size _
set_option maxHeartbeats 4000000 in
set_option maxRecDepth 100000 in
theorem specModelNew (w : World) : Calls Try.prog 18 #[] w (NewM (List.replicate 192 0, ([0, 0, 0, 0], 0, [])) w) := by
  have hmk := fun W => makeI 192 (by omega) W
  have e192 : ((192 : Nat) : Int) = 192 := rfl
  rw [e192] at hmk
  have X0 := Lib.hid (Bx.new 28 #[.slice none 0 0, .slice none 0 0, .int .i64 0, .slice none 0 0] w)
  have HB0 := Lib.hid ((Below.refl w.heap.size w).alloc (Nat.le_refl _) (Obj.cells #[.slice none 0 0, .slice none 0 0, .int .i64 0, .slice none 0 0] 28))
  go_enter Try.func18, Try.ntmps18
  go_wp2_with fail
  generalize w.alloc (Obj.cells #[.slice none 0 0, .slice none 0 0, .int .i64 0, .slice none 0 0] 28) = y0 at X0 HB0 ⊢
  obtain ⟨g0, g1, g2, g3⟩ := cells4 X0.out
  have hlt := X0.out.lt
  go_region_held3 (fun w' => w.heap.size < w'.heap.size) (first | assumption | (simp; omega) | (dsimp only [World.drew]; omega)) (first
    | (go_at_call 46; refine (specDevNew _).mono ?_; rintro e y1 ⟨us, he, ho, hb1⟩
       obtain ⟨b1, q1, b2, q2, rfl, _, _⟩ := dev_form (devK.cap_rd ho)
       obtain rfl : e = .returned (.agg #[.slice b1 ([0, 0, 0, 0] : List Int).length q1, .int .i64 0, .slice b2 ([] : List Int).length q2]) := he
       have hC : Below y0.heap.size y0 y1 := by first | exact (below_drew (w := y0)).trans hb1 | exact ((below_drew (w := y0)).alloc (by simp; done) _).trans (hb1.mono (by simp; done))
       obtain ⟨j0, j1, j2, j3⟩ := cells4 (X0.out.below hC hlt)
       obtain ⟨z0, z1, z2, z3⟩ := warm4 (X0.out.below hC hlt)
       have ja := fun o => cells4 ((X0.out.below hC hlt).alloc o)
       have za := fun o => warm4 ((X0.out.below hC hlt).alloc o)
       have hs := Nat.lt_of_lt_of_le hlt hC.size))
  · have HM : modelK.cap (fun k => y0.heap.size ≤ k) [.slice (some ⟨y0.heap.size, 0, none⟩) 192 192, .slice b1 4 q1, .int .i64 0, .slice b2 0 q2] (List.replicate 192 0, ([0, 0, 0, 0], 0, [])) y1 := by
      have ho' : OwnI y0.heap.size (.slice (some ⟨y0.heap.size, 0, none⟩) 192 192) (List.replicate 192 0) y1 :=
        (show OwnI y0.heap.size (.slice (some ⟨y0.heap.size, 0, none⟩) 192 192) (List.replicate 192 0) (y0.alloc (Obj.cells (madeCells #[.int .i64 0] 192) 3)).drew from OwnI.make0 y0.heap.size y0 (Nat.le_refl _) 192 (by omega)).later hb1
      have hz : (y0.alloc (Obj.cells (madeCells #[.int .i64 0] 192) 3)).drew.heap.size = y0.heap.size + 1 := by simp
      rw [hz] at ho
      exact model_own (cap_own2 ho' (by simp)) ho (fun k hk => (World.ownsRow.lt ho' k hk).1) (fun k hk => by omega) (fun k hk hk2 => by simp [Value.ownBlock] at hk; omega)
    have HMH := Lib.hid HM
    have HBC := Lib.hid (HB0.out.trans (hC.mono HB0.out.size))
    obtain ⟨e0, e1, e2, e3⟩ := cells4 (Bx.four (X0.out.below hC hlt) (.slice (some ⟨y0.heap.size, 0, none⟩) 192 192) (.slice b1 4 q1) (.int .i64 0) (.slice b2 0 q2))
    clear HM ho hb1 hC ja za
    go_wp2_with fail
    refine bodyPost_ret (v := .agg #[.slice (some ⟨y0.heap.size, 0, none⟩) 192 192, .slice b1 4 q1, .int .i64 0, .slice b2 0 q2]) (by simp [results, Try.results18, go_sem, e0, e1, e2, e3]) rfl ⟨_, rfl, ?_, ?_⟩
    · refine model_end HMH.out (b := w.heap.size) (by omega) (by omega) ?_
      iterate 4 refine Turn.set (F := fun k => k = w.heap.size) ?_ rfl _
      exact Turn.refl _ _
    · iterate 4 refine Below.setCell ?_ (by first | omega | (dsimp only; omega)) _
      exact HBC.out
  · have XB := Lib.hid (Bx.four (X0.out.below hC hlt) (.slice (some ⟨y1.heap.size, 0, none⟩) 192 192) (.slice b1 4 q1) (.int .i64 0) (.slice b2 0 q2))
    have HY : Hid (y1.heap.size = ((((y1.setCell ⟨w.heap.size, 0, none⟩ (.slice (some ⟨y1.heap.size, 0, none⟩) 192 192)).setCell ⟨w.heap.size, 1, none⟩ (.slice b1 4 q1)).setCell ⟨w.heap.size, 2, none⟩ (.int .i64 0)).setCell ⟨w.heap.size, 3, none⟩ (.slice b2 0 q2)).heap.size) := Lib.hid (by simp [World.setCell])
    have ht : Turn (fun k => k = w.heap.size) y1 ((((y1.setCell ⟨w.heap.size, 0, none⟩ (.slice (some ⟨y1.heap.size, 0, none⟩) 192 192)).setCell ⟨w.heap.size, 1, none⟩ (.slice b1 4 q1)).setCell ⟨w.heap.size, 2, none⟩ (.int .i64 0)).setCell ⟨w.heap.size, 3, none⟩ (.slice b2 0 q2)) := by
      iterate 4 refine Turn.set (F := fun k => k = w.heap.size) ?_ rfl _
      exact Turn.refl _ _
    have hz := hC.size
    have HD := Lib.hid (devK.cap_turn (devK.cap_top ho) ht (fun k _ h1 h2 => by have h3 : y0.heap.size ≤ k := h1.1; omega))
    have HBY : Hid (Below w.heap.size w ((((y1.setCell ⟨w.heap.size, 0, none⟩ (.slice (some ⟨y1.heap.size, 0, none⟩) 192 192)).setCell ⟨w.heap.size, 1, none⟩ (.slice b1 4 q1)).setCell ⟨w.heap.size, 2, none⟩ (.int .i64 0)).setCell ⟨w.heap.size, 3, none⟩ (.slice b2 0 q2))) := Lib.hid (by
      iterate 4 refine Below.setCell ?_ (by first | omega | (dsimp only; omega)) _
      exact HB0.out.trans (hC.mono HB0.out.size))
    clear ho hb1 hC ja za ht
    go_wp2_with fail
    generalize ((((y1.setCell ⟨w.heap.size, 0, none⟩ (.slice (some ⟨y1.heap.size, 0, none⟩) 192 192)).setCell ⟨w.heap.size, 1, none⟩ (.slice b1 4 q1)).setCell ⟨w.heap.size, 2, none⟩ (.int .i64 0)).setCell ⟨w.heap.size, 3, none⟩ (.slice b2 0 q2)) = Y at XB HY HD HBY ⊢
    obtain ⟨e0, e1, e2, e3⟩ := cells4 (XB.out.alloc (Obj.cells (madeCells #[.int .i64 0] 192) 3))
    refine bodyPost_ret (v := .agg #[.slice (some ⟨y1.heap.size, 0, none⟩) 192 192, .slice b1 4 q1, .int .i64 0, .slice b2 0 q2]) (by simp [results, Try.results18, go_sem, e0, e1, e2, e3]) rfl ⟨_, rfl, ?_, ?_⟩
    · have ho' := OwnI.make0 y0.heap.size Y (by have := HY.out; omega) 192 (by omega)
      rw [← HY.out] at ho'
      refine modelK.cap_wide (model_own (B := y0.heap.size) (cap_own2 ho' (by simp)) (devK.cap_alloc HD.out _) (fun k hk => (World.ownsRow.lt ho' k hk).1) (fun k hk => hk.1) (fun k hk hk2 => by have h2 : k < y1.heap.size := hk2.2; simp [Value.ownBlock] at hk; omega)) (fun k _ hk => by omega)
    · exact HBY.out.alloc HBY.out.size _
set_option maxHeartbeats 4000000 in
set_option maxRecDepth 100000 in
theorem specCopyModel (cs : List Value) (l r : List Int) (t : Int) (f : List Int) (hl : l.length ≤ 2000000) (hr : r.length ≤ 2000000) (hf : f.length ≤ 2000000) (w : World) (h : modelK.rd cs (l, (r, t, f)) w) :
    Calls Try.prog 35 #[agg cs] w (NewM (l, (r, t, f)) w) := by
  obtain ⟨a0, p0, a1, p1, a2, p2, rfl, R0, R1⟩ := rd_model h
  clear h
  have hlr := Lib.hid hr
  have hlf := Lib.hid hf
  have hll := Lib.hid hl
  have hlm : l.length ≤ 17592186044416 := by omega
  have hsz : ∀ (w : World) o, (w.alloc o).heap.size = w.heap.size + 1 := fun w o => by simp
  have A0 := Lib.hid ((Bx.new 28 #[.slice a0 l.length p0, .slice a1 r.length p1, .int .i64 t, .slice a2 f.length p2] w).alloc (Obj.cells #[.slice none 0 0, .slice none 0 0, .int .i64 0, .slice none 0 0] 28))
  have B0 := Bx.new 28 #[.slice none 0 0, .slice none 0 0, .int .i64 0, .slice none 0 0] (w.alloc (Obj.cells #[.slice a0 l.length p0, .slice a1 r.length p1, .int .i64 t, .slice a2 f.length p2] 28))
  rw [hsz] at B0
  have X0 := Lib.hid B0
  have hb0 : Below w.heap.size w _ := ((Below.refl w.heap.size w).alloc (Nat.le_refl _) (Obj.cells #[.slice a0 l.length p0, .slice a1 r.length p1, .int .i64 t, .slice a2 f.length p2] 28)).alloc (by simp) (Obj.cells #[.slice none 0 0, .slice none 0 0, .int .i64 0, .slice none 0 0] 28)
  have HB0 := Lib.hid hb0
  have H0 := Lib.hid (R0.below hb0)
  have H1 := Lib.hid (devK.rd_later R1 hb0)
  clear B0 hsz hb0 R0 R1 hr hf hl
  show Calls _ _ #[.agg #[.slice a0 l.length p0, .slice a1 r.length p1, .int .i64 t, .slice a2 f.length p2]] w _
  go_enter Try.func35, Try.ntmps35
  go_wp2_with fail
  generalize (w.alloc (Obj.cells #[.slice a0 l.length p0, .slice a1 r.length p1, .int .i64 t, .slice a2 f.length p2] 28)).alloc (Obj.cells #[.slice none 0 0, .slice none 0 0, .int .i64 0, .slice none 0 0] 28) = y0 at A0 X0 HB0 H0 H1 ⊢
  obtain ⟨g0, g1, g2, g3⟩ := cells4 A0.out
  have hlt := X0.out.lt
  have hlt0 : w.heap.size < y0.heap.size := by omega
  go_region_held3 (fun w' => w.heap.size + 1 < w'.heap.size ∧ w'.cell? ⟨w.heap.size, 0, none⟩ = some (.slice a0 l.length p0) ∧ w'.cell? ⟨w.heap.size, 1, none⟩ = some (.slice a1 r.length p1) ∧ w'.cell? ⟨w.heap.size, 2, none⟩ = some (.int .i64 t) ∧ w'.cell? ⟨w.heap.size, 3, none⟩ = some (.slice a2 f.length p2)) (((try go_split_ands); refine ⟨by first | assumption | (simp; omega) | (simp; done), ?_⟩; go_keep)) (first
      | (refine step_append_empty rfl (.tmp 3) (.tmp 5) rfl _ _ l rfl rfl ?hg ?hu hlm ?_
         case hg => first | exact new_at rfl | (refine new_at ?_; simp; done) | exact Bx.alloc (bx_new rfl) _
         case hu => first | exact H0.out.below ((Below.refl _ _).drew.alloc (by simp; done) _) | exact H0.out.below ((Below.refl _ _).alloc (by simp; done) _) | exact H0.out.below ((Below.refl _ _).alloc (by simp; done) _).drew
         intro v3 w3 ho hb hd
         obtain ⟨ad3, cp3, rfl⟩ := ho.slice
         have hC : Below y0.heap.size y0 w3 := by
           first
           | exact ((Below.refl y0.heap.size y0).drew.alloc (by simp; done) _).trans (hb.mono (by simp; done))
           | exact ((Below.refl y0.heap.size y0).alloc (by simp; done) _).trans (hb.mono (by simp; done))
           | exact (((Below.refl y0.heap.size y0).alloc (by simp; done) _).drew).trans (hb.mono (by simp; done))
         have ho3 := Lib.hid (ho.mono (B' := y0.heap.size) (by first | omega | (simp; done) | (simp; omega)))
         have hB3 := Lib.hid hC
         have hz3 := Lib.hid hC.size
         obtain ⟨j0, j1, j2, j3⟩ := cells4 (A0.out.below hC hlt0)
         have hs3 : w.heap.size + 1 < w3.heap.size := Nat.lt_of_lt_of_le hlt hC.size
         clear ho hb hd hC)
      | (go_at_call 69; refine (specCopyDev [.slice a1 r.length p1, .int .i64 t, .slice a2 f.length p2] r t f hlr.out hlf.out _ ?hrd).mono ?_
         case hrd => first | exact devK.rd_later H1.out hB3.out | exact devK.rd_drew (devK.rd_later H1.out hB3.out)
         rintro e y4 ⟨rv, fv, rfl, ho4, hb4⟩
         obtain ⟨b1, q1, rfl⟩ := ho4.1.slice
         obtain ⟨b2, q2, rfl⟩ := ho4.2.1.slice
         have hB4 : Below w3.heap.size w3 y4 := by first | exact hb4 | exact (below_drew (w := w3)).trans hb4
         have hC := hB3.out.trans (hB4.mono hz3.out)
         have hd4 := Lib.hid (ho4.mono (B' := w3.heap.size) (by first | exact Nat.le_refl _ | (simp; done)))
         have hm3 := Lib.hid (ho3.out.later hB4)
         have HC4 := Lib.hid hC
         have hl3 := Lib.hid (fun k hk => (World.ownsRow.lt ho3.out k hk).2)
         obtain ⟨q20, q21, q22, q23⟩ := cells4 (A0.out.below hC hlt0)
         obtain ⟨q24, q25, q26, q27⟩ := cells4 (X0.out.below hC hlt)
         obtain ⟨z0, z1, z2, z3⟩ := warm4 (X0.out.below hC hlt)
         have hs4 : w.heap.size + 1 < y4.heap.size := Nat.lt_of_lt_of_le hlt hC.size
         clear ho4 hb4 hB4 hC))
  all_goals
    have HMH : Hid (modelK.cap (fun k => y0.heap.size ≤ k) [.slice ad3 l.length cp3, .slice b1 r.length q1, .int .i64 t, .slice b2 f.length q2] (l, (r, t, f)) y4) :=
      Lib.hid (model_own (cap_own2 hm3.out (by have := hll.out; omega)) (hd4.out.cap hlr.out hlf.out) (fun k hk => (World.ownsRow.lt hm3.out k hk).1) (fun k hk => Nat.le_trans hz3.out hk) (fun k hk hk2 => by have := hl3.out k hk; omega))
    obtain ⟨e0, e1, e2, e3⟩ := cells4 (Bx.four (X0.out.below HC4.out hlt) (.slice ad3 l.length cp3) (.slice b1 r.length q1) (.int .i64 t) (.slice b2 f.length q2))
  all_goals go_wp2_with fail
  all_goals refine bodyPost_ret (v := .agg #[.slice ad3 l.length cp3, .slice b1 r.length q1, .int .i64 t, .slice b2 f.length q2]) (by simp [results, Try.results35, go_sem, e0, e1, e2, e3]) rfl ⟨_, rfl, ?_, ?_⟩
  any_goals
    refine model_end HMH.out (b := w.heap.size + 1) (by omega) (by omega) ?_
    iterate 4 refine Turn.set (F := fun k => k = w.heap.size + 1) ?_ rfl _
    exact Turn.refl _ _
  all_goals
    iterate 4 refine Below.setCell ?_ (by dsimp only; omega) _
    exact HB0.out.trans (HC4.out.mono (by omega))
end Go.Proofs.Ytbhmfjblmcppbaa.KD
