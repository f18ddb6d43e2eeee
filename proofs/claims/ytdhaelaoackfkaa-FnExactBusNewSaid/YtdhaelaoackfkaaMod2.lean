
/-
  The model: copies of one, a new one; for the program and for its model.
-/
import Derived.Test.YtdhaelaoackfkaaMod1
import Derived.Deep.RegionHeld3
namespace Go.Proofs.Ytdhaelaoackfkaa.KD
open Go.RowKit Rows3 GR Num
set_option linter.unusedVariables false

theorem cells4 {T : TypeId} {b : Nat} {c0 c1 c2 c3 : Value} {w : World} (h : Bx T b #[c0, c1, c2, c3] w) :
    w.cell? ⟨b, 0, none⟩ = some c0 ∧ w.cell? ⟨b, 1, none⟩ = some c1 ∧ w.cell? ⟨b, 2, none⟩ = some c2 ∧ w.cell? ⟨b, 3, none⟩ = some c3 := ⟨h.cell 0 _ rfl, h.cell 1 _ rfl, h.cell 2 _ rfl, h.cell 3 _ rfl⟩
theorem warm4 {T : TypeId} {b : Nat} {c0 c1 c2 c3 : Value} {w : World} (h : Bx T b #[c0, c1, c2, c3] w) :
    w.frozen? ⟨b, 0, none⟩ = false ∧ w.frozen? ⟨b, 1, none⟩ = false ∧ w.frozen? ⟨b, 2, none⟩ = false ∧ w.frozen? ⟨b, 3, none⟩ = false := ⟨h.warm 0, h.warm 1, h.warm 2, h.warm 3⟩
theorem Bx.four {T : TypeId} {b : Nat} {c0 c1 c2 c3 : Value} {w : World} (h : Bx T b #[c0, c1, c2, c3] w) (u0 u1 u2 u3 : Value) :
    Bx T b #[u0, u1, u2, u3] ((((w.setCell ⟨b, 0, none⟩ u0).setCell ⟨b, 1, none⟩ u1).setCell ⟨b, 2, none⟩ u2).setCell ⟨b, 3, none⟩ u3) := (((h.set 0 u0).set 1 u1).set 2 u2).set 3 u3
/-- the call's own model, its memory's row and its device in parts. -/
theorem model_own {B : Nat} {v : Value} {us : List Value} {l r : List Int} {t : Int} {f : List Int} {w : World} {F1 F2 : Foot} (h0 : ints.cap F1 [v] l w) (h1 : devK.cap F2 us (r, t, f) w) (s1 : ∀ k, F1 k → B ≤ k) (s2 : ∀ k, F2 k → B ≤ k) (hd : ∀ k, F1 k → ¬ F2 k) : modelK.cap (fun k => B ≤ k) (v :: us) (l, (r, t, f)) w :=
  ⟨[v], us, F1, F2, rfl, fun k hk => ⟨s1 k hk, hd k hk⟩, s2, h0, h1⟩
theorem own_model {F : Foot} {cs : List Value} {l r : List Int} {t : Int} {f : List Int} {w : World} (h : modelK.cap F cs (l, (r, t, f)) w) :
    ∃ v us F1 F2, cs = v :: us ∧ ints.cap F1 [v] l w ∧ devK.cap F2 us (r, t, f) w ∧ (∀ k, F1 k → F k) ∧ (∀ k, F2 k → F k) ∧ (∀ k, F1 k → ¬ F2 k) := by
  obtain ⟨ps, us, F1, F2, rfl, a1, a2, h0, h1⟩ := h
  obtain ⟨ad, cp, rfl, _⟩ := rd_ints (ints.cap_rd h0)
  exact ⟨_, us, F1, F2, rfl, h0, h1, fun k hk => (a1 k hk).1, a2, fun k hk => (a1 k hk).2⟩
theorem model_end {b B C : Nat} {us : List Value} {x : List Int × DevX} {y w' : World} (h : modelK.cap (fun k => B ≤ k) us x y) (hb : b < B) (hC : C ≤ B) (ht : Turn (fun k => k = b) y w') : modelK.cap (fun k => C ≤ k) us x w' :=
  modelK.cap_wide (modelK.cap_turn h ht (fun k _ h1 h2 => by omega)) (fun k _ hk => by omega)
/-- the value is a new model. -/
def NewM (d : List Int × DevX) (w : World) (e : Ending) (w' : World) : Prop := ∃ us, e = .returned (agg us) ∧ modelK.cap (fun k => w.heap.size ≤ k) us d w' ∧ Below w.heap.size w w'
set_option maxHeartbeats 4000000 in
set_option maxRecDepth 100000 in
theorem implModelNew (w : World) : Calls Try.prog 26 #[] w (NewM (List.replicate 192 0, ([0, 0, 0, 0], 0, [])) w) := by
  have hmk := fun W => makeI 192 (by omega) W
  have e192 : ((192 : Nat) : Int) = 192 := rfl
  rw [e192] at hmk
  have X0 := Lib.hid (Bx.new 39 #[.slice none 0 0, .slice none 0 0, .int .i64 0, .slice none 0 0] w)
  have HB0 := Lib.hid ((Below.refl w.heap.size w).alloc (Nat.le_refl _) (Obj.cells #[.slice none 0 0, .slice none 0 0, .int .i64 0, .slice none 0 0] 39))
  go_enter Try.func26, Try.ntmps26
  go_wp2_with fail
  generalize w.alloc (Obj.cells #[.slice none 0 0, .slice none 0 0, .int .i64 0, .slice none 0 0] 39) = y0 at X0 HB0 ⊢
  obtain ⟨g0, g1, g2, g3⟩ := cells4 X0.out
  have hlt := X0.out.lt
  go_region_held3 (fun w' => w.heap.size < w'.heap.size) (first | assumption | (simp; omega) | (dsimp only [World.drew]; omega)) (first
    | (go_at_call 82; refine (implDevNew _).mono ?_; rintro e y1 ⟨us, he, ho, hb1⟩
       obtain ⟨b1, q1, b2, q2, rfl, _, _⟩ := dev_form (devK.cap_rd ho)
       obtain rfl : e = .returned (.agg #[.slice b1 ([0, 0, 0, 0] : List Int).length q1, .int .i64 0, .slice b2 ([] : List Int).length q2]) := he
       have hC : Below y0.heap.size y0 y1 := by first | exact (below_drew (w := y0)).trans hb1 | exact ((below_drew (w := y0)).alloc (by simp; done) _).trans (hb1.mono (by simp; done))
       obtain ⟨j0, j1, j2, j3⟩ := cells4 (X0.out.below hC hlt)
       obtain ⟨z0, z1, z2, z3⟩ := warm4 (X0.out.below hC hlt)
       have ja := fun o => cells4 ((X0.out.below hC hlt).alloc o)
       have za := fun o => warm4 ((X0.out.below hC hlt).alloc o)
       have hs := Nat.lt_of_lt_of_le hlt hC.size))
  · have HM : modelK.cap (fun k => y0.heap.size ≤ k) [.slice (some ⟨y0.heap.size, 0, none⟩) 192 192, .slice b1 4 q1, .int .i64 0, .slice b2 0 q2] (List.replicate 192 0, ([0, 0, 0, 0], 0, [])) y1 := by
      have ho' : OwnI y0.heap.size (.slice (some ⟨y0.heap.size, 0, none⟩) 192 192) (List.replicate 192 0) y1 :=
        (show OwnI y0.heap.size (.slice (some ⟨y0.heap.size, 0, none⟩) 192 192) (List.replicate 192 0) (y0.alloc (Obj.cells (madeCells #[.int .i64 0] 192) 3)).drew from OwnI.make0 y0.heap.size y0 (Nat.le_refl _) 192 (by omega)).later hb1
      have hz : (y0.alloc (Obj.cells (madeCells #[.int .i64 0] 192) 3)).drew.heap.size = y0.heap.size + 1 := by simp
      rw [hz] at ho
      exact model_own (cap_own2 ho' (by simp)) ho (fun k hk => (World.ownsRow.lt ho' k hk).1) (fun k hk => by omega) (fun k hk hk2 => by simp [Value.ownBlock] at hk; omega)
    have HMH := Lib.hid HM
    have HBC := Lib.hid (HB0.out.trans (hC.mono HB0.out.size))
    obtain ⟨e0, e1, e2, e3⟩ := cells4 (Bx.four (X0.out.below hC hlt) (.slice (some ⟨y0.heap.size, 0, none⟩) 192 192) (.slice b1 4 q1) (.int .i64 0) (.slice b2 0 q2))
    clear HM ho hb1 hC ja za
    go_wp2_with fail
    refine bodyPost_ret (v := .agg #[.slice (some ⟨y0.heap.size, 0, none⟩) 192 192, .slice b1 4 q1, .int .i64 0, .slice b2 0 q2]) (by simp [results, Try.results26, go_sem, e0, e1, e2, e3]) rfl ⟨_, rfl, ?_, ?_⟩
    · refine model_end HMH.out (b := w.heap.size) (by omega) (by omega) ?_
      iterate 4 refine Turn.set (F := fun k => k = w.heap.size) ?_ rfl _
      exact Turn.refl _ _
    · iterate 4 refine Below.setCell ?_ (by first | omega | (dsimp only; omega)) _
      exact HBC.out
  · have XB := Lib.hid (Bx.four (X0.out.below hC hlt) (.slice (some ⟨y1.heap.size, 0, none⟩) 192 192) (.slice b1 4 q1) (.int .i64 0) (.slice b2 0 q2))
    have HY : Hid (y1.heap.size = ((((y1.setCell ⟨w.heap.size, 0, none⟩ (.slice (some ⟨y1.heap.size, 0, none⟩) 192 192)).setCell ⟨w.heap.size, 1, none⟩ (.slice b1 4 q1)).setCell ⟨w.heap.size, 2, none⟩ (.int .i64 0)).setCell ⟨w.heap.size, 3, none⟩ (.slice b2 0 q2)).heap.size) := Lib.hid (by simp [World.setCell])
    have ht : Turn (fun k => k = w.heap.size) y1 ((((y1.setCell ⟨w.heap.size, 0, none⟩ (.slice (some ⟨y1.heap.size, 0, none⟩) 192 192)).setCell ⟨w.heap.size, 1, none⟩ (.slice b1 4 q1)).setCell ⟨w.heap.size, 2, none⟩ (.int .i64 0)).setCell ⟨w.heap.size, 3, none⟩ (.slice b2 0 q2)) := by
      iterate 4 refine Turn.set (F := fun k => k = w.heap.size) ?_ rfl _
      exact Turn.refl _ _
    have hz := hC.size
    have HD := Lib.hid (devK.cap_turn (devK.cap_top ho) ht (fun k _ h1 h2 => by have h3 : y0.heap.size ≤ k := h1.1; omega))
    have HBY : Hid (Below w.heap.size w ((((y1.setCell ⟨w.heap.size, 0, none⟩ (.slice (some ⟨y1.heap.size, 0, none⟩) 192 192)).setCell ⟨w.heap.size, 1, none⟩ (.slice b1 4 q1)).setCell ⟨w.heap.size, 2, none⟩ (.int .i64 0)).setCell ⟨w.heap.size, 3, none⟩ (.slice b2 0 q2))) := Lib.hid (by
      iterate 4 refine Below.setCell ?_ (by first | omega | (dsimp only; omega)) _
      exact HB0.out.trans (hC.mono HB0.out.size))
    clear ho hb1 hC ja za ht
    go_wp2_with fail
    generalize ((((y1.setCell ⟨w.heap.size, 0, none⟩ (.slice (some ⟨y1.heap.size, 0, none⟩) 192 192)).setCell ⟨w.heap.size, 1, none⟩ (.slice b1 4 q1)).setCell ⟨w.heap.size, 2, none⟩ (.int .i64 0)).setCell ⟨w.heap.size, 3, none⟩ (.slice b2 0 q2)) = Y at XB HY HD HBY ⊢
    obtain ⟨e0, e1, e2, e3⟩ := cells4 (XB.out.alloc (Obj.cells (madeCells #[.int .i64 0] 192) 3))
    refine bodyPost_ret (v := .agg #[.slice (some ⟨y1.heap.size, 0, none⟩) 192 192, .slice b1 4 q1, .int .i64 0, .slice b2 0 q2]) (by simp [results, Try.results26, go_sem, e0, e1, e2, e3]) rfl ⟨_, rfl, ?_, ?_⟩
    · have ho' := OwnI.make0 y0.heap.size Y (by have := HY.out; omega) 192 (by omega)
      rw [← HY.out] at ho'
      refine modelK.cap_wide (model_own (B := y0.heap.size) (cap_own2 ho' (by simp)) (devK.cap_alloc HD.out _) (fun k hk => (World.ownsRow.lt ho' k hk).1) (fun k hk => hk.1) (fun k hk hk2 => by have h2 : k < y1.heap.size := hk2.2; simp [Value.ownBlock] at hk; omega)) (fun k _ hk => by omega)
    · exact HBY.out.alloc HBY.out.size _
set_option maxHeartbeats 4000000 in
set_option maxRecDepth 100000 in
theorem specModelNew (w : World) : Calls Try.prog 21 #[] w (NewM (List.replicate 192 0, ([0, 0, 0, 0], 0, [])) w) := by
  have hmk := fun W => makeI 192 (by omega) W
  have e192 : ((192 : Nat) : Int) = 192 := rfl
  rw [e192] at hmk
  have X0 := Lib.hid (Bx.new 39 #[.slice none 0 0, .slice none 0 0, .int .i64 0, .slice none 0 0] w)
  have HB0 := Lib.hid ((Below.refl w.heap.size w).alloc (Nat.le_refl _) (Obj.cells #[.slice none 0 0, .slice none 0 0, .int .i64 0, .slice none 0 0] 39))
  go_enter Try.func21, Try.ntmps21
  go_wp2_with fail
  generalize w.alloc (Obj.cells #[.slice none 0 0, .slice none 0 0, .int .i64 0, .slice none 0 0] 39) = y0 at X0 HB0 ⊢
  obtain ⟨g0, g1, g2, g3⟩ := cells4 X0.out
  have hlt := X0.out.lt
  go_region_held3 (fun w' => w.heap.size < w'.heap.size) (first | assumption | (simp; omega) | (dsimp only [World.drew]; omega)) (first
    | (go_at_call 75; refine (specDevNew _).mono ?_; rintro e y1 ⟨us, he, ho, hb1⟩
       obtain ⟨b1, q1, b2, q2, rfl, _, _⟩ := dev_form (devK.cap_rd ho)
       obtain rfl : e = .returned (.agg #[.slice b1 ([0, 0, 0, 0] : List Int).length q1, .int .i64 0, .slice b2 ([] : List Int).length q2]) := he
       have hC : Below y0.heap.size y0 y1 := by first | exact (below_drew (w := y0)).trans hb1 | exact ((below_drew (w := y0)).alloc (by simp; done) _).trans (hb1.mono (by simp; done))
       obtain ⟨j0, j1, j2, j3⟩ := cells4 (X0.out.below hC hlt)
       obtain ⟨z0, z1, z2, z3⟩ := warm4 (X0.out.below hC hlt)
       have ja := fun o => cells4 ((X0.out.below hC hlt).alloc o)
       have za := fun o => warm4 ((X0.out.below hC hlt).alloc o)
       have hs := Nat.lt_of_lt_of_le hlt hC.size))
  · have HM : modelK.cap (fun k => y0.heap.size ≤ k) [.slice (some ⟨y0.heap.size, 0, none⟩) 192 192, .slice b1 4 q1, .int .i64 0, .slice b2 0 q2] (List.replicate 192 0, ([0, 0, 0, 0], 0, [])) y1 := by
      have ho' : OwnI y0.heap.size (.slice (some ⟨y0.heap.size, 0, none⟩) 192 192) (List.replicate 192 0) y1 :=
        (show OwnI y0.heap.size (.slice (some ⟨y0.heap.size, 0, none⟩) 192 192) (List.replicate 192 0) (y0.alloc (Obj.cells (madeCells #[.int .i64 0] 192) 3)).drew from OwnI.make0 y0.heap.size y0 (Nat.le_refl _) 192 (by omega)).later hb1
      have hz : (y0.alloc (Obj.cells (madeCells #[.int .i64 0] 192) 3)).drew.heap.size = y0.heap.size + 1 := by simp
      rw [hz] at ho
      exact model_own (cap_own2 ho' (by simp)) ho (fun k hk => (World.ownsRow.lt ho' k hk).1) (fun k hk => by omega) (fun k hk hk2 => by simp [Value.ownBlock] at hk; omega)
    have HMH := Lib.hid HM
    have HBC := Lib.hid (HB0.out.trans (hC.mono HB0.out.size))
    obtain ⟨e0, e1, e2, e3⟩ := cells4 (Bx.four (X0.out.below hC hlt) (.slice (some ⟨y0.heap.size, 0, none⟩) 192 192) (.slice b1 4 q1) (.int .i64 0) (.slice b2 0 q2))
    clear HM ho hb1 hC ja za
    go_wp2_with fail
    refine bodyPost_ret (v := .agg #[.slice (some ⟨y0.heap.size, 0, none⟩) 192 192, .slice b1 4 q1, .int .i64 0, .slice b2 0 q2]) (by simp [results, Try.results21, go_sem, e0, e1, e2, e3]) rfl ⟨_, rfl, ?_, ?_⟩
    · refine model_end HMH.out (b := w.heap.size) (by omega) (by omega) ?_
      iterate 4 refine Turn.set (F := fun k => k = w.heap.size) ?_ rfl _
      exact Turn.refl _ _
    · iterate 4 refine Below.setCell ?_ (by first | omega | (dsimp only; omega)) _
      exact HBC.out
  · have XB := Lib.hid (Bx.four (X0.out.below hC hlt) (.slice (some ⟨y1.heap.size, 0, none⟩) 192 192) (.slice b1 4 q1) (.int .i64 0) (.slice b2 0 q2))
    have HY : Hid (y1.heap.size = ((((y1.setCell ⟨w.heap.size, 0, none⟩ (.slice (some ⟨y1.heap.size, 0, none⟩) 192 192)).setCell ⟨w.heap.size, 1, none⟩ (.slice b1 4 q1)).setCell ⟨w.heap.size, 2, none⟩ (.int .i64 0)).setCell ⟨w.heap.size, 3, none⟩ (.slice b2 0 q2)).heap.size) := Lib.hid (by simp [World.setCell])
    have ht : Turn (fun k => k = w.heap.size) y1 ((((y1.setCell ⟨w.heap.size, 0, none⟩ (.slice (some ⟨y1.heap.size, 0, none⟩) 192 192)).setCell ⟨w.heap.size, 1, none⟩ (.slice b1 4 q1)).setCell ⟨w.heap.size, 2, none⟩ (.int .i64 0)).setCell ⟨w.heap.size, 3, none⟩ (.slice b2 0 q2)) := by
      iterate 4 refine Turn.set (F := fun k => k = w.heap.size) ?_ rfl _
      exact Turn.refl _ _
    have hz := hC.size
    have HD := Lib.hid (devK.cap_turn (devK.cap_top ho) ht (fun k _ h1 h2 => by have h3 : y0.heap.size ≤ k := h1.1; omega))
    have HBY : Hid (Below w.heap.size w ((((y1.setCell ⟨w.heap.size, 0, none⟩ (.slice (some ⟨y1.heap.size, 0, none⟩) 192 192)).setCell ⟨w.heap.size, 1, none⟩ (.slice b1 4 q1)).setCell ⟨w.heap.size, 2, none⟩ (.int .i64 0)).setCell ⟨w.heap.size, 3, none⟩ (.slice b2 0 q2))) := Lib.hid (by
      iterate 4 refine Below.setCell ?_ (by first | omega | (dsimp only; omega)) _
      exact HB0.out.trans (hC.mono HB0.out.size))
    clear ho hb1 hC ja za ht
    go_wp2_with fail
    generalize ((((y1.setCell ⟨w.heap.size, 0, none⟩ (.slice (some ⟨y1.heap.size, 0, none⟩) 192 192)).setCell ⟨w.heap.size, 1, none⟩ (.slice b1 4 q1)).setCell ⟨w.heap.size, 2, none⟩ (.int .i64 0)).setCell ⟨w.heap.size, 3, none⟩ (.slice b2 0 q2)) = Y at XB HY HD HBY ⊢
    obtain ⟨e0, e1, e2, e3⟩ := cells4 (XB.out.alloc (Obj.cells (madeCells #[.int .i64 0] 192) 3))
    refine bodyPost_ret (v := .agg #[.slice (some ⟨y1.heap.size, 0, none⟩) 192 192, .slice b1 4 q1, .int .i64 0, .slice b2 0 q2]) (by simp [results, Try.results21, go_sem, e0, e1, e2, e3]) rfl ⟨_, rfl, ?_, ?_⟩
    · have ho' := OwnI.make0 y0.heap.size Y (by have := HY.out; omega) 192 (by omega)
      rw [← HY.out] at ho'
      refine modelK.cap_wide (model_own (B := y0.heap.size) (cap_own2 ho' (by simp)) (devK.cap_alloc HD.out _) (fun k hk => (World.ownsRow.lt ho' k hk).1) (fun k hk => hk.1) (fun k hk hk2 => by have h2 : k < y1.heap.size := hk2.2; simp [Value.ownBlock] at hk; omega)) (fun k _ hk => by omega)
    · exact HBY.out.alloc HBY.out.size _
end Go.Proofs.Ytdhaelaoackfkaa.KD
