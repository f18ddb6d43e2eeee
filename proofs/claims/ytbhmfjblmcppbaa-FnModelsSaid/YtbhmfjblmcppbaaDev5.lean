
/-
  A word of the device written, and read: the program's writeDev and readDev.
-/
import Derived.Test.YtbhmfjblmcppbaaDev4
namespace Go.Proofs.Ytbhmfjblmcppbaa.KD
open Go.RowKit Rows3 GR Num
set_option linter.unusedVariables false

theorem doW_bad {a v : Int} {r : List Int} {t : Int} {f : List Int} (h : wordB v = false) : doW a v r t f = ((r, t, f), 0, false) := if_pos h
theorem doW_reg {a v : Int} {r : List Int} {t : Int} {f : List Int} (h : wordB v = true) (h1 : regB a = true) : doW a v r t f = ((r.set (a / 4).toNat v, t, f), v, true) := by
  unfold doW; rw [if_neg (by rw [h]; simp), if_pos h1]
theorem doW_tim {v : Int} {r : List Int} {t : Int} {f : List Int} (h : wordB v = true) : doW 16 v r t f = ((r, v, f), v, true) := by
  unfold doW; rw [if_neg (by rw [h]; simp), if_neg (by rw [regB_iff]; omega), if_pos rfl]
theorem doW_fif {v : Int} {r : List Int} {t : Int} {f : List Int} (h : wordB v = true) (hl : f.length < 4) : doW 20 v r t f = ((r, t, f ++ [v]), v, true) := by
  unfold doW; rw [if_neg (by rw [h]; simp), if_neg (by rw [regB_iff]; omega), if_neg (by omega), if_pos ⟨rfl, hl⟩]
theorem doW_no {a v : Int} {r : List Int} {t : Int} {f : List Int} (h : wordB v = true) (h1 : regB a = false) (h2 : ¬ a = 16) (h3 : ¬ (a = 20 ∧ f.length < 4)) : doW a v r t f = ((r, t, f), 0, false) := by
  unfold doW; rw [if_neg (by rw [h]; simp), if_neg (by rw [h1]; simp), if_neg h2, if_neg h3]
/-- the three cells of a result behind three stores. -/
theorem Bx.three {T : TypeId} {b : Nat} {c0 c1 c2 : Value} {w : World} (h : Bx T b #[c0, c1, c2] w) (u0 u1 u2 : Value) :
    Bx T b #[u0, u1, u2] (((w.setCell ⟨b, 0, none⟩ u0).setCell ⟨b, 1, none⟩ u1).setCell ⟨b, 2, none⟩ u2) := ((h.set 0 u0).set 1 u1).set 2 u2
theorem OwnDev.turn2 {B : Nat} {rv fv : Value} {r f : List Int} {w w' : World} {G : Foot} (h : OwnDev B rv fv r f w) (ht : Turn G w w') (h0 : ∀ k, rv.ownBlock = some k → ¬ G k) (h2 : ∀ k, fv.ownBlock = some k → ¬ G k) : OwnDev B rv fv r f w' :=
  ⟨own_turn h.1 ht h0, own_turn h.2.1 ht h2, h.2.2⟩
set_option maxHeartbeats 8000000 in
set_option maxRecDepth 100000 in
theorem implWriteDev (B : Nat) (rv fv : Value) (r : List Int) (t : Int) (f : List Int) (a v : Int) (hr : r.length = 4) (hf : f.length ≤ 4) (w : World) (hB : B ≤ w.heap.size) (h : OwnDev B rv fv r f w) :
    Calls Try.prog 78 #[.agg #[rv, .int .i64 t, fv], .int .i64 a, .int .i64 v] w (DoPost B (doW a v r t f) w) := by
  obtain ⟨a0, p0, rfl⟩ := h.1.slice
  obtain ⟨a2, p2, rfl⟩ := h.2.1.slice
  have hlr : Hid (r.length ≤ 2000000) := Lib.hid (by omega)
  have hlf : Hid (f.length ≤ 2000000) := Lib.hid (by omega)
  have HR := Lib.hid hr
  have HF := Lib.hid hf
  obtain ⟨n, hn⟩ : ∃ n, r.length = n := ⟨_, rfl⟩
  obtain ⟨m, hm⟩ : ∃ m, f.length = m := ⟨_, rfl⟩
  have hm4 : m ≤ 4 := by omega
  have HN := Lib.hid hn
  have HM := Lib.hid hm
  rw [hn, hm] at h ⊢
  clear hr hf hn hm
  have HO := Lib.hid h
  have hsz : ∀ (w : World) o, (w.alloc o).heap.size = w.heap.size + 1 := fun w o => by simp
  have A0 := Lib.hid ((Bx.new 26 #[.slice a0 n p0, .int .i64 t, .slice a2 m p2] w).alloc (Obj.cells #[.slice none 0 0, .int .i64 0, .slice none 0 0] 26))
  have B0 := Bx.new 26 #[.slice none 0 0, .int .i64 0, .slice none 0 0] (w.alloc (Obj.cells #[.slice a0 n p0, .int .i64 t, .slice a2 m p2] 26))
  rw [hsz] at B0
  have X0 := Lib.hid B0
  have hb0 : Below w.heap.size w _ := ((Below.refl w.heap.size w).alloc (Nat.le_refl _) (Obj.cells #[.slice a0 n p0, .int .i64 t, .slice a2 m p2] 26)).alloc (by simp) (Obj.cells #[.slice none 0 0, .int .i64 0, .slice none 0 0] 26)
  have HB0 := Lib.hid hb0
  have O0 := Lib.hid (HO.out.later hb0)
  have Hlt0 := Lib.hid (show ∀ k, (Value.slice a0 n p0).ownBlock = some k → k < w.heap.size from fun k hk => (World.ownsRow.lt h.1 k hk).2)
  have Hlt2 := Lib.hid (show ∀ k, (Value.slice a2 m p2).ownBlock = some k → k < w.heap.size from fun k hk => (World.ownsRow.lt h.2.1 k hk).2)
  clear B0 hsz h hb0
  by_cases hv : wordB v = true
  · have HV : Hid (inLB v 2 = true) := Lib.hid hv
    obtain ⟨R, hR⟩ : ∃ R, regB a = R := ⟨_, rfl⟩
    have HRg := Lib.hid hR
    cases R with
    | true =>
      rw [doW_reg hv hR]
      obtain rfl : n = 4 := by rw [← HN.out, HR.out]
      obtain ⟨j, hj, rfl, hja⟩ : ∃ j : Nat, j < 4 ∧ a = 4 * (j : Int) ∧ (a / 4).toNat = j := by
        rw [regB_iff] at hR
        rcases hR with rfl | rfl | rfl | rfl
        · exact ⟨0, by omega, rfl, rfl⟩
        · exact ⟨1, by omega, rfl, rfl⟩
        · exact ⟨2, by omega, rfl, rfl⟩
        · exact ⟨3, by omega, rfl, rfl⟩
      rw [hja]
      have hjl : j < r.length := by rw [HR.out]; exact hj
      obtain ⟨g, rfl⟩ : ∃ g, a0 = some ⟨g, 0, none⟩ := by
        rcases HO.out.1.2 with ⟨e, h0⟩ | ⟨g, cp, cur, e, _⟩
        · cases e
        · injection e with e _ _; exact ⟨g, e⟩
      have hg1 : g < w.heap.size := Hlt0.out g rfl
      have hc := O0.out.1.cell (i := j) hjl
      have hw := O0.out.1.frozen j
      have Hjl := Lib.hid hjl
      have hq : Int.tdiv (4 * (j : Int)) 4 = (j : Int) := Int.mul_tdiv_cancel_left _ (by omega)
      generalize r.getD j 0 = y at hc
      clear hR hjl hv hja
      go_enter Try.func78, Try.ntmps78
      go_wp2_with fail
      generalize (w.alloc (Obj.cells #[.slice (some ⟨g, 0, none⟩) 4 p0, .int .i64 t, .slice a2 m p2] 26)).alloc (Obj.cells #[.slice none 0 0, .int .i64 0, .slice none 0 0] 26) = y0 at A0 X0 HB0 O0 hc hw ⊢
      refine (implIn _ _ _).mono ?_
      rintro e w' ⟨rfl, rfl⟩
      rw [HV.out]
      obtain ⟨g0, g1, g2⟩ := cells3 A0.out
      obtain ⟨k0, k1, k2⟩ := cells3 X0.out
      have z0 := X0.out.warm 0
      have z1 := X0.out.warm 1
      have z2 := X0.out.warm 2
      go_wp2_with (go_at_call 83; refine (implRegAt _ _).mono ?_; rintro e w' ⟨rfl, rfl⟩; rw [HRg.out])
      have XF := X0.out.far (p := ⟨g, j, none⟩) (by dsimp only; omega) (.int .i64 v)
      have OF : OwnDev B (.slice (some ⟨g, 0, none⟩) 4 p0) (.slice a2 m p2) (r.set j v) f (y0.setCell ⟨g, j, none⟩ (.int .i64 v)) :=
        ⟨O0.out.1.set j v, own_turn O0.out.2.1 (Turn.set (F := fun k => k = g) (Turn.refl _ _) rfl _) (fun k hk he => O0.out.2.2 g rfl (by rw [hk, he])), O0.out.2.2⟩
      have hBg : B ≤ g := (World.ownsRow.lt O0.out.1 g rfl).1
      obtain ⟨e0, e1, e2⟩ := cells3 (Bx.three XF (.slice (some ⟨g, 0, none⟩) 4 p0) (.int .i64 t) (.slice a2 m p2))
      refine bodyPost_ret (v := .tuple #[.agg #[.slice (some ⟨g, 0, none⟩) 4 p0, .int .i64 t, .slice a2 m p2], .int .i64 v, .bool true]) (by simp [results, Try.results78, go_sem, e0, e1, e2]) rfl ⟨_, rfl, ?_, ?_⟩
      · refine (OwnDev.turn2 OF (G := fun k => k = w.heap.size + 1) ?_ (fun k h1 h2 => ?_) (fun k h1 h2 => ?_)).cap (by rw [List.length_set]; exact hlr.out) hlf.out
        · iterate 3 refine Turn.set (F := fun k => k = w.heap.size + 1) ?_ rfl _
          exact Turn.refl _ _
        · have := Hlt0.out k h1; omega
        · have := Hlt2.out k h1; omega
      · iterate 3 refine Below.setCell ?_ (by first | omega | (dsimp only; omega)) _
        exact (HB0.out.mono hB).setCell (p := ⟨g, j, none⟩) hBg _
    | false =>
      by_cases h16 : a = 16
      · subst h16
        rw [doW_tim hv]
        clear hR hv
        go_enter Try.func78, Try.ntmps78
        go_wp2_with fail
        generalize (w.alloc (Obj.cells #[.slice a0 n p0, .int .i64 t, .slice a2 m p2] 26)).alloc (Obj.cells #[.slice none 0 0, .int .i64 0, .slice none 0 0] 26) = y0 at A0 X0 HB0 O0 ⊢
        refine (implIn _ _ _).mono ?_
        rintro e w' ⟨rfl, rfl⟩
        rw [HV.out]
        obtain ⟨g0, g1, g2⟩ := cells3 A0.out
        obtain ⟨k0, k1, k2⟩ := cells3 X0.out
        have z0 := X0.out.warm 0
        have z1 := X0.out.warm 1
        have z2 := X0.out.warm 2
        have y1 := A0.out.warm 1
        go_wp2_with (go_at_call 83; refine (implRegAt _ _).mono ?_; rintro e w' ⟨rfl, rfl⟩; rw [HRg.out])
        have XF := X0.out.far (p := ⟨w.heap.size, 1, none⟩) (by dsimp only; omega) (.int .i64 v)
        have OF := OwnDev.turn2 O0.out (Turn.set (p := ⟨w.heap.size, 1, none⟩) (F := fun k => k = w.heap.size) (Turn.refl _ _) rfl (.int .i64 v)) (fun k h1 h2 => by have := Hlt0.out k h1; omega) (fun k h1 h2 => by have := Hlt2.out k h1; omega)
        obtain ⟨e0, e1, e2⟩ := cells3 (Bx.three XF (.slice a0 n p0) (.int .i64 v) (.slice a2 m p2))
        refine bodyPost_ret (v := .tuple #[.agg #[.slice a0 n p0, .int .i64 v, .slice a2 m p2], .int .i64 v, .bool true]) (by simp [results, Try.results78, go_sem, e0, e1, e2]) rfl ⟨_, rfl, ?_, ?_⟩
        · refine (OwnDev.turn2 OF (G := fun k => k = w.heap.size + 1) ?_ (fun k h1 h2 => ?_) (fun k h1 h2 => ?_)).cap hlr.out hlf.out
          · iterate 3 refine Turn.set (F := fun k => k = w.heap.size + 1) ?_ rfl _
            exact Turn.refl _ _
          · have := Hlt0.out k h1; omega
          · have := Hlt2.out k h1; omega
        · iterate 3 refine Below.setCell ?_ (by first | omega | (dsimp only; omega)) _
          exact (HB0.out.mono hB).setCell (p := ⟨w.heap.size, 1, none⟩) hB _
      · by_cases h20 : a = 20 ∧ m < 4
        · obtain ⟨rfl, hm3⟩ := h20
          rw [doW_fif hv (by rw [HM.out]; exact hm3)]
          obtain ⟨m1, hm1⟩ : ∃ m1, (f ++ [v]).length = m1 := ⟨_, rfl⟩
          have Hm1 := Lib.hid hm1
          clear hm1
          clear hR hv h16
          go_enter Try.func78, Try.ntmps78
          go_wp2_with fail
          generalize (w.alloc (Obj.cells #[.slice a0 n p0, .int .i64 t, .slice a2 m p2] 26)).alloc (Obj.cells #[.slice none 0 0, .int .i64 0, .slice none 0 0] 26) = y0 at A0 X0 HB0 O0 ⊢
          refine (implIn _ _ _).mono ?_
          rintro e w' ⟨rfl, rfl⟩
          rw [HV.out]
          obtain ⟨g0, g1, g2⟩ := cells3 A0.out
          obtain ⟨k0, k1, k2⟩ := cells3 X0.out
          have z0 := X0.out.warm 0
          have z1 := X0.out.warm 1
          have z2 := X0.out.warm 2
          have hBy : B ≤ y0.heap.size := Nat.le_trans hB HB0.out.size
          have hla : f.length + 1 ≤ 17592186044416 := by have := hlf.out; omega
          go_wp2_with (first
            | (go_at_call 83; refine (implRegAt _ _).mono ?_; rintro e w' ⟨rfl, rfl⟩; rw [HRg.out])
            | (at_builtin; refine appIg rfl _ _ rfl B (.slice a2 m p2) f y0 v rfl rfl O0.out.2.1 hBy hla ?_; intro v' y1 ho hg hp; have Ho := Lib.hid ho; have Hg := Lib.hid hg; have Hp := Lib.hid hp; clear hp; obtain ⟨b2, q2, e2⟩ := ho.slice; rw [Hm1.out] at e2; subst e2; have A1 : Hid (Bx 26 w.heap.size #[.slice a0 n p0, .int .i64 t, .slice a2 m p2] y1) := Lib.hid ((hg.block _ A0.out.lt (fun e => by have := Hlt2.out _ e.symm; omega)).trans A0.out); have X1 : Hid (Bx 26 (w.heap.size + 1) #[.slice none 0 0, .int .i64 0, .slice none 0 0] y1) := Lib.hid ((hg.block _ X0.out.lt (fun e => by have := Hlt2.out _ e.symm; omega)).trans X0.out); obtain ⟨q0, q1, q2'⟩ := cells3 A1.out; obtain ⟨l0, l1, l2⟩ := cells3 X1.out; have x0 := X1.out.warm 0; have x1 := X1.out.warm 1; have x2 := X1.out.warm 2; have y2 := A1.out.warm 2; clear ho hg))
          have XF := X1.out.far (p := ⟨w.heap.size, 2, none⟩) (by dsimp only; omega) (.slice b2 m1 q2)
          have hy0 : w.heap.size + 1 < y0.heap.size := X0.out.lt
          have hnew : ∀ k, (Value.slice b2 m1 q2).ownBlock = some k → k < w.heap.size ∨ w.heap.size + 1 < k := fun k hk => by
            rcases Hp.out k hk with h1 | h1
            · exact .inl (Hlt2.out k h1)
            · exact .inr (by omega)
          have O1 : OwnDev B (.slice a0 n p0) (.slice b2 m1 q2) r (f ++ [v]) y1 :=
            ⟨O0.out.1.far Hg.out (fun k h1 e => O0.out.2.2 k h1 e.symm), Ho.out, fun k h1 h2 => by
              rcases Hp.out k h2 with h3 | h3
              · exact O0.out.2.2 k h1 h3
              · have := Hlt0.out k h1; omega⟩
          have OF := OwnDev.turn2 O1 (Turn.set (p := ⟨w.heap.size, 2, none⟩) (F := fun k => k = w.heap.size) (Turn.refl _ _) rfl (.slice b2 m1 q2)) (fun k h1 h2 => by have := Hlt0.out k h1; omega) (fun k h1 h2 => by have := hnew k h1; omega)
          obtain ⟨e0, e1, e2⟩ := cells3 (Bx.three XF (.slice a0 n p0) (.int .i64 t) (.slice b2 m1 q2))
          refine bodyPost_ret (v := .tuple #[.agg #[.slice a0 n p0, .int .i64 t, .slice b2 m1 q2], .int .i64 v, .bool true]) (by simp [results, Try.results78, go_sem, e0, e1, e2]) rfl ⟨_, rfl, ?_, ?_⟩
          · refine (OwnDev.turn2 OF (G := fun k => k = w.heap.size + 1) ?_ (fun k h1 h2 => ?_) (fun k h1 h2 => ?_)).cap hlr.out (by have := hlf.out; rw [List.length_append]; have := HF.out; simp; omega)
            · iterate 3 refine Turn.set (F := fun k => k = w.heap.size + 1) ?_ rfl _
              exact Turn.refl _ _
            · have := Hlt0.out k h1; omega
            · have := hnew k h1; omega
          · iterate 3 refine Below.setCell ?_ (by first | omega | (dsimp only; omega)) _
            exact ((HB0.out.mono hB).grown Hg.out hBy (fun k hk => (World.ownsRow.lt O0.out.2.1 k hk).1)).setCell (p := ⟨w.heap.size, 2, none⟩) hB _
        · rw [doW_no hv hR h16 (by rw [HM.out]; exact h20)]
          clear hR hv
          have hg16 : (a == 16) = false := by simpa using h16
          by_cases h20a : a = 20
          · subst h20a
            have hm3 : ¬ (m : Int) < 4 := by omega
            go_enter Try.func78, Try.ntmps78
            go_wp2_with fail
            generalize (w.alloc (Obj.cells #[.slice a0 n p0, .int .i64 t, .slice a2 m p2] 26)).alloc (Obj.cells #[.slice none 0 0, .int .i64 0, .slice none 0 0] 26) = y0 at A0 X0 HB0 O0 ⊢
            refine (implIn _ _ _).mono ?_
            rintro e w' ⟨rfl, rfl⟩
            rw [HV.out]
            obtain ⟨g0, g1, g2⟩ := cells3 A0.out
            obtain ⟨k0, k1, k2⟩ := cells3 X0.out
            have z0 := X0.out.warm 0
            have z1 := X0.out.warm 1
            have z2 := X0.out.warm 2
            go_wp2_with (go_at_call 83; refine (implRegAt _ _).mono ?_; rintro e w' ⟨rfl, rfl⟩; rw [HRg.out])
            have XF := X0.out
            have OF := O0.out
            obtain ⟨e0, e1, e2⟩ := cells3 (Bx.three XF (.slice a0 n p0) (.int .i64 t) (.slice a2 m p2))
            refine bodyPost_ret (v := .tuple #[.agg #[.slice a0 n p0, .int .i64 t, .slice a2 m p2], .int .i64 0, .bool false]) (by simp [results, Try.results78, go_sem, e0, e1, e2]) rfl ⟨_, rfl, ?_, ?_⟩
            · refine (OwnDev.turn2 OF (G := fun k => k = w.heap.size + 1) ?_ (fun k h1 h2 => ?_) (fun k h1 h2 => ?_)).cap hlr.out hlf.out
              · iterate 3 refine Turn.set (F := fun k => k = w.heap.size + 1) ?_ rfl _
                exact Turn.refl _ _
              · have := Hlt0.out k h1; omega
              · have := Hlt2.out k h1; omega
            · iterate 3 refine Below.setCell ?_ (by first | omega | (dsimp only; omega)) _
              exact HB0.out.mono hB
          · have hg20 : (a == 20) = false := by simpa using h20a
            go_enter Try.func78, Try.ntmps78
            go_wp2_with fail
            generalize (w.alloc (Obj.cells #[.slice a0 n p0, .int .i64 t, .slice a2 m p2] 26)).alloc (Obj.cells #[.slice none 0 0, .int .i64 0, .slice none 0 0] 26) = y0 at A0 X0 HB0 O0 ⊢
            refine (implIn _ _ _).mono ?_
            rintro e w' ⟨rfl, rfl⟩
            rw [HV.out]
            obtain ⟨g0, g1, g2⟩ := cells3 A0.out
            obtain ⟨k0, k1, k2⟩ := cells3 X0.out
            have z0 := X0.out.warm 0
            have z1 := X0.out.warm 1
            have z2 := X0.out.warm 2
            go_wp2_with (go_at_call 83; refine (implRegAt _ _).mono ?_; rintro e w' ⟨rfl, rfl⟩; rw [HRg.out])
            have XF := X0.out
            have OF := O0.out
            obtain ⟨e0, e1, e2⟩ := cells3 (Bx.three XF (.slice a0 n p0) (.int .i64 t) (.slice a2 m p2))
            refine bodyPost_ret (v := .tuple #[.agg #[.slice a0 n p0, .int .i64 t, .slice a2 m p2], .int .i64 0, .bool false]) (by simp [results, Try.results78, go_sem, e0, e1, e2]) rfl ⟨_, rfl, ?_, ?_⟩
            · refine (OwnDev.turn2 OF (G := fun k => k = w.heap.size + 1) ?_ (fun k h1 h2 => ?_) (fun k h1 h2 => ?_)).cap hlr.out hlf.out
              · iterate 3 refine Turn.set (F := fun k => k = w.heap.size + 1) ?_ rfl _
                exact Turn.refl _ _
              · have := Hlt0.out k h1; omega
              · have := Hlt2.out k h1; omega
            · iterate 3 refine Below.setCell ?_ (by first | omega | (dsimp only; omega)) _
              exact HB0.out.mono hB
  · have hv : wordB v = false := by simpa using hv
    have HV : Hid (inLB v 2 = false) := Lib.hid hv
    rw [doW_bad hv]
    go_enter Try.func78, Try.ntmps78
    go_wp2_with fail
    generalize (w.alloc (Obj.cells #[.slice a0 n p0, .int .i64 t, .slice a2 m p2] 26)).alloc (Obj.cells #[.slice none 0 0, .int .i64 0, .slice none 0 0] 26) = y0 at A0 X0 HB0 O0 ⊢
    refine (implIn _ _ _).mono ?_
    rintro e w' ⟨rfl, rfl⟩
    rw [HV.out]
    obtain ⟨g0, g1, g2⟩ := cells3 A0.out
    obtain ⟨k0, k1, k2⟩ := cells3 X0.out
    have z0 := X0.out.warm 0
    have z1 := X0.out.warm 1
    have z2 := X0.out.warm 2
    go_wp2_with fail
    obtain ⟨e0, e1, e2⟩ := cells3 (Bx.three X0.out (.slice a0 n p0) (.int .i64 t) (.slice a2 m p2))
    refine bodyPost_ret (v := .tuple #[.agg #[.slice a0 n p0, .int .i64 t, .slice a2 m p2], .int .i64 0, .bool false]) (by simp [results, Try.results78, go_sem, e0, e1, e2]) rfl ⟨_, rfl, ?_, ?_⟩
    · refine (OwnDev.turn2 O0.out (G := fun k => k = w.heap.size + 1) ?_ (fun k h1 h2 => by have := Hlt0.out k h1; omega) (fun k h1 h2 => by have := Hlt2.out k h1; omega)).cap hlr.out hlf.out
      iterate 3 refine Turn.set (F := fun k => k = w.heap.size + 1) ?_ rfl _
      exact Turn.refl _ _
    · iterate 3 refine Below.setCell ?_ (by first | omega | (dsimp only; omega)) _
      exact HB0.out.mono hB
end Go.Proofs.Ytbhmfjblmcppbaa.KD
