
/-
  A word of the device read: the program's readDev.
-/
import Derived.Test.YtbhmfjblmcppbaaDev5
namespace Go.Proofs.Ytbhmfjblmcppbaa.KD
open Go.RowKit Rows3 GR Num
set_option linter.unusedVariables false

theorem doR_reg {a : Int} {r : List Int} {t : Int} {f : List Int} (h1 : regB a = true) : doR a r t f = ((r, t, f), r.getD (a / 4).toNat 0, true) := if_pos h1
theorem doR_tim {r : List Int} {t : Int} {f : List Int} : doR 16 r t f = ((r, (t + 1) % 4294967296, f), t, true) := by
  unfold doR; rw [if_neg (by rw [regB_iff]; omega), if_pos rfl]
theorem doR_fif {r : List Int} {t : Int} {f : List Int} (hl : 0 < f.length) : doR 20 r t f = ((r, t, f.tail), f.getD 0 0, true) := by
  unfold doR; rw [if_neg (by rw [regB_iff]; omega), if_neg (by omega), if_pos ⟨rfl, hl⟩]
theorem doR_no {a : Int} {r : List Int} {t : Int} {f : List Int} (h1 : regB a = false) (h2 : ¬ a = 16) (h3 : ¬ (a = 20 ∧ 0 < f.length)) : doR a r t f = ((r, t, f), 0, false) := by
  unfold doR; rw [if_neg (by rw [h1]; simp), if_neg h2, if_neg h3]
theorem Turn.drew {F : Foot} {w w' : World} (h : Turn F w w') : Turn F w w'.drew := ⟨h.os, h.tape, h.output, h.size, h.block⟩
theorem own_base {B g n p : Nat} {l : List Int} {w : World} (h : OwnI B (.slice (some ⟨g, 0, none⟩) n p) l w) : RawI (fun k => k = g) g 0 0 [] w := by
  rcases h.2 with ⟨e, _⟩ | ⟨g', cp, cur, e, hb, hg, _⟩
  · cases e
  · cases e
    exact ⟨rfl, cur, _, hg, Nat.zero_le _, fun i x hi => by simp at hi⟩
theorem own_tail {B g n p : Nat} {l : List Int} {w : World} (h : OwnI B (.slice (some ⟨g, 0, none⟩) n p) l w) (hp : 0 < p) : RawI (fun k => k = g) g 1 (p - 1) l.tail w := by
  rcases h.2 with ⟨e, _⟩ | ⟨g', cp, cur, e, hb, hg, _, _, hcs, _⟩
  · cases e
  · cases e
    refine ⟨rfl, cur, _, hg, by omega, fun i x hi => ?_⟩
    have hi2 : l[i + 1]? = some x := by
      cases l with
      | nil => simp at hi
      | cons y l => simpa using hi
    have hc := h.cell (i := i + 1) (List.getElem?_eq_some_iff.1 hi2).1
    rw [getD_some hi2, cell_of_row w g _ cur _ (0, 0) hg] at hc
    rw [Nat.add_comm]; exact hc
set_option maxHeartbeats 8000000 in
set_option maxRecDepth 100000 in
theorem implReadDev (B : Nat) (rv fv : Value) (r : List Int) (t : Int) (f : List Int) (a : Int) (hr : r.length = 4) (hf : f.length ≤ 4) (ht0 : 0 ≤ t) (ht1 : t < 4294967296) (w : World) (hB : B ≤ w.heap.size) (h : OwnDev B rv fv r f w) :
    Calls Try.prog 79 #[.agg #[rv, .int .i64 t, fv], .int .i64 a] w (DoPost B (doR a r t f) w) := by
  obtain ⟨a0, p0, rfl⟩ := h.1.slice
  obtain ⟨a2, p2, rfl⟩ := h.2.1.slice
  have hlr : Hid (r.length ≤ 2000000) := Lib.hid (by omega)
  have hlf : Hid (f.length ≤ 2000000) := Lib.hid (by omega)
  have HR := Lib.hid hr
  have HF := Lib.hid hf
  obtain ⟨n, hn⟩ : ∃ n, r.length = n := ⟨_, rfl⟩
  obtain ⟨m, hm⟩ : ∃ m, f.length = m := ⟨_, rfl⟩
  have hm4 : m ≤ 4 := by omega
  have HN := Lib.hid hn
  have HM := Lib.hid hm
  rw [hn, hm] at h ⊢
  clear hr hf hn hm
  have HO := Lib.hid h
  have hsz : ∀ (w : World) o, (w.alloc o).heap.size = w.heap.size + 1 := fun w o => by simp
  have A0 := Lib.hid ((Bx.new 26 #[.slice a0 n p0, .int .i64 t, .slice a2 m p2] w).alloc (Obj.cells #[.slice none 0 0, .int .i64 0, .slice none 0 0] 26))
  have B0 := Bx.new 26 #[.slice none 0 0, .int .i64 0, .slice none 0 0] (w.alloc (Obj.cells #[.slice a0 n p0, .int .i64 t, .slice a2 m p2] 26))
  rw [hsz] at B0
  have X0 := Lib.hid B0
  have hb0 : Below w.heap.size w _ := ((Below.refl w.heap.size w).alloc (Nat.le_refl _) (Obj.cells #[.slice a0 n p0, .int .i64 t, .slice a2 m p2] 26)).alloc (by simp) (Obj.cells #[.slice none 0 0, .int .i64 0, .slice none 0 0] 26)
  have HB0 := Lib.hid hb0
  have O0 := Lib.hid (HO.out.later hb0)
  have Hlt0 := Lib.hid (show ∀ k, (Value.slice a0 n p0).ownBlock = some k → k < w.heap.size from fun k hk => (World.ownsRow.lt h.1 k hk).2)
  have Hlt2 := Lib.hid (show ∀ k, (Value.slice a2 m p2).ownBlock = some k → k < w.heap.size from fun k hk => (World.ownsRow.lt h.2.1 k hk).2)
  clear B0 hsz h hb0
  obtain ⟨R, hR⟩ : ∃ R, regB a = R := ⟨_, rfl⟩
  have HRg := Lib.hid hR
  cases R with
  | true =>
    rw [doR_reg hR]
    obtain rfl : n = 4 := by rw [← HN.out, HR.out]
    obtain ⟨g, rfl⟩ : ∃ g, a0 = some ⟨g, 0, none⟩ := by
      rcases HO.out.1.2 with ⟨e, h0⟩ | ⟨g, cp, cur, e, _⟩
      · cases e
      · injection e with e _ _; exact ⟨g, e⟩
    have hg1 : g < w.heap.size := Hlt0.out g rfl
    have hgn : g ≠ w.heap.size + 1 := by omega
    have hgn2 : w.heap.size + 1 ≠ g := by omega
    have key : ∀ (a : Int) (j : Nat), (a = 0 ∧ j = 0) ∨ (a = 4 ∧ j = 1) ∨ (a = 8 ∧ j = 2) ∨ (a = 12 ∧ j = 3) → regB a = true → Calls Try.prog 79 #[.agg #[.slice (some ⟨g, 0, none⟩) 4 p0, .int .i64 t, .slice a2 m p2], .int .i64 a] w (DoPost B ((r, t, f), r.getD j 0, true) w) := by
      intro a j haj hR
      have HRg := Lib.hid hR
      have hc := O0.out.1.cell (i := j) (by rw [HR.out]; omega)
      generalize r.getD j 0 = y at hc ⊢
      clear hR
      rcases haj with ⟨rfl, rfl⟩ | ⟨rfl, rfl⟩ | ⟨rfl, rfl⟩ | ⟨rfl, rfl⟩
      all_goals go_enter Try.func79, Try.ntmps79
      all_goals go_wp2_with fail
      all_goals generalize (w.alloc (Obj.cells #[.slice (some ⟨g, 0, none⟩) 4 p0, .int .i64 t, .slice a2 m p2] 26)).alloc (Obj.cells #[.slice none 0 0, .int .i64 0, .slice none 0 0] 26) = y0 at A0 X0 HB0 O0 hc ⊢
      all_goals refine (implRegAt _ _).mono ?_
      all_goals rintro e w' ⟨rfl, rfl⟩
      all_goals rw [HRg.out]
      all_goals
        obtain ⟨g0, g1, g2⟩ := cells3 A0.out
        obtain ⟨k0, k1, k2⟩ := cells3 X0.out
        have z0 := X0.out.warm 0
        have z1 := X0.out.warm 1
        have z2 := X0.out.warm 2
      all_goals go_wp2_with fail
      all_goals have h04 : ∀ i : Int, 0 ≤ i → i < 4 → (0 : Int) ≤ i ∧ i < ((4 : Nat) : Int) := fun i h1 h2 => ⟨h1, h2⟩
      all_goals go_region
      all_goals go_wp2_with fail
      all_goals obtain ⟨e0, e1, e2⟩ := cells3 (Bx.drew (Bx.three X0.out (.slice (some ⟨g, 0, none⟩) 4 p0) (.int .i64 t) (.slice a2 m p2)))
      all_goals refine bodyPost_ret (v := .tuple #[.agg #[.slice (some ⟨g, 0, none⟩) 4 p0, .int .i64 t, .slice a2 m p2], .int .i64 y, .bool true]) (by simp [results, Try.results79, go_sem, e0, e1, e2]) rfl ⟨_, rfl, ?_, ?_⟩
      any_goals
        refine (OwnDev.turn2 O0.out (G := fun k => k = w.heap.size + 1) ?_ (fun k h1 h2 => by have := Hlt0.out k h1; omega) (fun k h1 h2 => by have := Hlt2.out k h1; omega)).cap hlr.out hlf.out
        refine Turn.drew ?_
        iterate 3 refine Turn.set (F := fun k => k = w.heap.size + 1) ?_ rfl _
        exact Turn.refl _ _
      all_goals
        refine Below.drew ?_
        iterate 3 refine Below.setCell ?_ (by first | omega | (dsimp only; omega)) _
        exact HB0.out.mono hB
    rw [regB_iff] at hR
    rcases hR with rfl | rfl | rfl | rfl
    · exact key 0 0 (.inl ⟨rfl, rfl⟩) HRg.out
    · exact key 4 1 (.inr (.inl ⟨rfl, rfl⟩)) HRg.out
    · exact key 8 2 (.inr (.inr (.inl ⟨rfl, rfl⟩))) HRg.out
    · exact key 12 3 (.inr (.inr (.inr ⟨rfl, rfl⟩))) HRg.out
  | false =>
    by_cases h16 : a = 16
    · subst h16
      rw [doR_tim]
      clear hR
      obtain ⟨T, hT⟩ : ∃ T, (t + 1) % 4294967296 = T := ⟨_, rfl⟩
      have HT := Lib.hid hT
      have hTm : Int.tmod (t + 1) 4294967296 = T := by rw [← hT]; exact Int.tmod_eq_emod_of_nonneg (by omega)
      rw [hT]
      go_enter Try.func79, Try.ntmps79
      go_wp2_with fail
      generalize (w.alloc (Obj.cells #[.slice a0 n p0, .int .i64 t, .slice a2 m p2] 26)).alloc (Obj.cells #[.slice none 0 0, .int .i64 0, .slice none 0 0] 26) = y0 at A0 X0 HB0 O0 ⊢
      refine (implRegAt _ _).mono ?_
      rintro e w' ⟨rfl, rfl⟩
      rw [HRg.out]
      obtain ⟨g0, g1, g2⟩ := cells3 A0.out
      obtain ⟨k0, k1, k2⟩ := cells3 X0.out
      have z0 := X0.out.warm 0
      have z1 := X0.out.warm 1
      have z2 := X0.out.warm 2
      have y1 := A0.out.warm 1
      go_wp2_with (go_at_call 80; refine (implLimit _ _).mono ?_; rintro e w' ⟨rfl, rfl⟩; simp only [show limW 2 = 4294967296 from rfl])
      have XF := X0.out.far (p := ⟨w.heap.size, 1, none⟩) (by dsimp only; omega) (.int .i64 T)
      have OF := OwnDev.turn2 O0.out (Turn.set (p := ⟨w.heap.size, 1, none⟩) (F := fun k => k = w.heap.size) (Turn.refl _ _) rfl (.int .i64 T)) (fun k h1 h2 => by have := Hlt0.out k h1; omega) (fun k h1 h2 => by have := Hlt2.out k h1; omega)
      obtain ⟨e0, e1, e2⟩ := cells3 (Bx.three XF (.slice a0 n p0) (.int .i64 (T)) (.slice a2 m p2))
      refine bodyPost_ret (v := .tuple #[.agg #[.slice a0 n p0, .int .i64 (T), .slice a2 m p2], .int .i64 t, .bool true]) (by simp [results, Try.results79, go_sem, e0, e1, e2]) rfl ⟨_, rfl, ?_, ?_⟩
      · refine (OwnDev.turn2 OF (G := fun k => k = w.heap.size + 1) ?_ (fun k h1 h2 => ?_) (fun k h1 h2 => ?_)).cap hlr.out hlf.out
        · iterate 3 refine Turn.set (F := fun k => k = w.heap.size + 1) ?_ rfl _
          exact Turn.refl _ _
        · have := Hlt0.out k h1; omega
        · have := Hlt2.out k h1; omega
      · iterate 3 refine Below.setCell ?_ (by first | omega | (dsimp only; omega)) _
        exact (HB0.out.mono hB).setCell (p := ⟨w.heap.size, 1, none⟩) hB _
    · by_cases h20 : a = 20 ∧ 0 < m
      · obtain ⟨rfl, hm3⟩ := h20
        rw [doR_fif (by rw [HM.out]; exact hm3)]
        clear hR h16
        obtain ⟨g, rfl⟩ : ∃ g, a2 = some ⟨g, 0, none⟩ := by
          rcases HO.out.2.1.2 with ⟨e, h0⟩ | ⟨g, cp, cur, e, _⟩
          · injection e with _ e _; omega
          · injection e with e _ _; exact ⟨g, e⟩
        have hg1 : g < w.heap.size := Hlt2.out g rfl
        have hmp : m ≤ p2 ∧ p2 ≤ 9223372036854775807 := by
          exact own_bd HO.out.2.1 _ _ _ rfl
        have hc := O0.out.2.1.cell (i := 0) (by rw [HM.out]; exact hm3)
        generalize f.getD 0 0 = y at hc ⊢
        by_cases hp : p2 = 1
        · subst hp
          obtain rfl : m = 1 := by omega
          have htl : Hid (f.tail = []) := Lib.hid (List.length_eq_zero_iff.1 (by rw [List.length_tail, HM.out]))
          go_enter Try.func79, Try.ntmps79
          go_wp2_with fail
          generalize (w.alloc (Obj.cells #[.slice a0 n p0, .int .i64 t, .slice (some ⟨g, 0, none⟩) 1 1] 26)).alloc (Obj.cells #[.slice none 0 0, .int .i64 0, .slice none 0 0] 26) = y0 at A0 X0 HB0 O0 hc ⊢
          refine (implRegAt _ _).mono ?_
          rintro e w' ⟨rfl, rfl⟩
          rw [HRg.out]
          obtain ⟨g0, g1, g2⟩ := cells3 A0.out
          obtain ⟨k0, k1, k2⟩ := cells3 X0.out
          have z0 := X0.out.warm 0
          have z1 := X0.out.warm 1
          have z2 := X0.out.warm 2
          have y2 := A0.out.warm 2
          go_wp2_with fail
          have XF := X0.out.far (p := ⟨w.heap.size, 2, none⟩) (by dsimp only; omega) (.slice (some ⟨g, 0, none⟩) 0 0)
          obtain ⟨e0, e1, e2⟩ := cells3 (Bx.three XF (.slice a0 n p0) (.int .i64 t) (.slice (some ⟨g, 0, none⟩) 0 0))
          refine bodyPost_ret (v := .tuple #[.agg #[.slice a0 n p0, .int .i64 t, .slice (some ⟨g, 0, none⟩) 0 0], .int .i64 y, .bool true]) (by simp [results, Try.results79, go_sem, e0, e1, e2]) rfl ⟨_, rfl, ?_, ?_⟩
          · have key : ∀ {w2 : World}, Turn (fun k => k = w.heap.size ∨ k = w.heap.size + 1) y0 w2 → devK.cap (fun k => B ≤ k) [.slice a0 n p0, .int .i64 t, .slice (some ⟨g, 0, none⟩) 0 0] (r, t, f.tail) w2 := fun {w2} ht => by
              have o1 := OwnDev.turn2 O0.out ht (fun k h1 h2 => by have := Hlt0.out k h1; omega) (fun k h1 h2 => by have := Hlt2.out k h1; omega)
              have hlr2 := hlr.out
              exact dev_cap (cap_own2 o1.1 (by omega)) (Fx2 := fun k => k = g) (by rw [htl.out]; exact (own_base o1.2.1).cap rfl (by omega)) (fun k hk => (World.ownsRow.lt o1.1 k hk).1) (fun k hk => by obtain rfl : k = g := hk; exact (World.ownsRow.lt o1.2.1 k rfl).1) (fun k h1 h2 => by obtain rfl : k = g := h2; exact o1.2.2 k h1 rfl)
            refine key ?_
            iterate 4 refine Turn.set (F := fun k => k = w.heap.size ∨ k = w.heap.size + 1) ?_ (by first | exact .inl rfl | exact .inr rfl) _
            exact Turn.refl _ _
          · iterate 4 refine Below.setCell ?_ (by first | omega | (dsimp only; omega)) _
            exact HB0.out.mono hB
        · skip
          go_enter Try.func79, Try.ntmps79
          go_wp2_with fail
          generalize (w.alloc (Obj.cells #[.slice a0 n p0, .int .i64 t, .slice (some ⟨g, 0, none⟩) m p2] 26)).alloc (Obj.cells #[.slice none 0 0, .int .i64 0, .slice none 0 0] 26) = y0 at A0 X0 HB0 O0 hc ⊢
          refine (implRegAt _ _).mono ?_
          rintro e w' ⟨rfl, rfl⟩
          rw [HRg.out]
          obtain ⟨g0, g1, g2⟩ := cells3 A0.out
          obtain ⟨k0, k1, k2⟩ := cells3 X0.out
          have z0 := X0.out.warm 0
          have z1 := X0.out.warm 1
          have z2 := X0.out.warm 2
          have y2 := A0.out.warm 2
          go_wp2_with fail
          have XF := X0.out.far (p := ⟨w.heap.size, 2, none⟩) (by dsimp only; omega) (.slice (some ⟨g, 1, none⟩) (m - 1) (p2 - 1))
          obtain ⟨e0, e1, e2⟩ := cells3 (Bx.three XF (.slice a0 n p0) (.int .i64 t) (.slice (some ⟨g, 1, none⟩) (m - 1) (p2 - 1)))
          refine bodyPost_ret (v := .tuple #[.agg #[.slice a0 n p0, .int .i64 t, .slice (some ⟨g, 1, none⟩) (m - 1) (p2 - 1)], .int .i64 y, .bool true]) (by simp [results, Try.results79, go_sem, e0, e1, e2]) rfl ⟨_, rfl, ?_, ?_⟩
          · have key : ∀ {w2 : World}, Turn (fun k => k = w.heap.size ∨ k = w.heap.size + 1) y0 w2 → devK.cap (fun k => B ≤ k) [.slice a0 n p0, .int .i64 t, .slice (some ⟨g, 1, none⟩) (m - 1) (p2 - 1)] (r, t, f.tail) w2 := fun {w2} ht => by
              have o1 := OwnDev.turn2 O0.out ht (fun k h1 h2 => by have := Hlt0.out k h1; omega) (fun k h1 h2 => by have := Hlt2.out k h1; omega)
              have hlr2 := hlr.out
              exact dev_cap (cap_own2 o1.1 (by omega)) (Fx2 := fun k => k = g) ((own_tail o1.2.1 (by omega)).cap (by rw [List.length_tail, HM.out]) (by omega)) (fun k hk => (World.ownsRow.lt o1.1 k hk).1) (fun k hk => by obtain rfl : k = g := hk; exact (World.ownsRow.lt o1.2.1 k rfl).1) (fun k h1 h2 => by obtain rfl : k = g := h2; exact o1.2.2 k h1 rfl)
            refine key ?_
            iterate 4 refine Turn.set (F := fun k => k = w.heap.size ∨ k = w.heap.size + 1) ?_ (by first | exact .inl rfl | exact .inr rfl) _
            exact Turn.refl _ _
          · iterate 4 refine Below.setCell ?_ (by first | omega | (dsimp only; omega)) _
            exact HB0.out.mono hB
      · rw [doR_no hR h16 (by rw [HM.out]; exact h20)]
        clear hR
        have hg16 : (a == 16) = false := by simpa using h16
        by_cases h20a : a = 20
        · subst h20a
          obtain rfl : m = 0 := by omega
          go_enter Try.func79, Try.ntmps79
          go_wp2_with fail
          generalize (w.alloc (Obj.cells #[.slice a0 n p0, .int .i64 t, .slice a2 0 p2] 26)).alloc (Obj.cells #[.slice none 0 0, .int .i64 0, .slice none 0 0] 26) = y0 at A0 X0 HB0 O0 ⊢
          refine (implRegAt _ _).mono ?_
          rintro e w' ⟨rfl, rfl⟩
          rw [HRg.out]
          obtain ⟨g0, g1, g2⟩ := cells3 A0.out
          obtain ⟨k0, k1, k2⟩ := cells3 X0.out
          have z0 := X0.out.warm 0
          have z1 := X0.out.warm 1
          have z2 := X0.out.warm 2
          go_wp2_with fail
          have XF := X0.out
          have OF := O0.out
          obtain ⟨e0, e1, e2⟩ := cells3 (Bx.three XF (.slice a0 n p0) (.int .i64 (t)) (.slice a2 0 p2))
          refine bodyPost_ret (v := .tuple #[.agg #[.slice a0 n p0, .int .i64 (t), .slice a2 0 p2], .int .i64 0, .bool false]) (by simp [results, Try.results79, go_sem, e0, e1, e2]) rfl ⟨_, rfl, ?_, ?_⟩
          · refine (OwnDev.turn2 OF (G := fun k => k = w.heap.size + 1) ?_ (fun k h1 h2 => ?_) (fun k h1 h2 => ?_)).cap hlr.out hlf.out
            · iterate 3 refine Turn.set (F := fun k => k = w.heap.size + 1) ?_ rfl _
              exact Turn.refl _ _
            · have := Hlt0.out k h1; omega
            · have := Hlt2.out k h1; omega
          · iterate 3 refine Below.setCell ?_ (by first | omega | (dsimp only; omega)) _
            exact HB0.out.mono hB
        · have hg20 : (a == 20) = false := by simpa using h20a
          go_enter Try.func79, Try.ntmps79
          go_wp2_with fail
          generalize (w.alloc (Obj.cells #[.slice a0 n p0, .int .i64 t, .slice a2 m p2] 26)).alloc (Obj.cells #[.slice none 0 0, .int .i64 0, .slice none 0 0] 26) = y0 at A0 X0 HB0 O0 ⊢
          refine (implRegAt _ _).mono ?_
          rintro e w' ⟨rfl, rfl⟩
          rw [HRg.out]
          obtain ⟨g0, g1, g2⟩ := cells3 A0.out
          obtain ⟨k0, k1, k2⟩ := cells3 X0.out
          have z0 := X0.out.warm 0
          have z1 := X0.out.warm 1
          have z2 := X0.out.warm 2
          go_wp2_with fail
          have XF := X0.out
          have OF := O0.out
          obtain ⟨e0, e1, e2⟩ := cells3 (Bx.three XF (.slice a0 n p0) (.int .i64 (t)) (.slice a2 m p2))
          refine bodyPost_ret (v := .tuple #[.agg #[.slice a0 n p0, .int .i64 (t), .slice a2 m p2], .int .i64 0, .bool false]) (by simp [results, Try.results79, go_sem, e0, e1, e2]) rfl ⟨_, rfl, ?_, ?_⟩
          · refine (OwnDev.turn2 OF (G := fun k => k = w.heap.size + 1) ?_ (fun k h1 h2 => ?_) (fun k h1 h2 => ?_)).cap hlr.out hlf.out
            · iterate 3 refine Turn.set (F := fun k => k = w.heap.size + 1) ?_ rfl _
              exact Turn.refl _ _
            · have := Hlt0.out k h1; omega
            · have := Hlt2.out k h1; omega
          · iterate 3 refine Below.setCell ?_ (by first | omega | (dsimp only; omega)) _
            exact HB0.out.mono hB
end Go.Proofs.Ytbhmfjblmcppbaa.KD
