
/-
  A beat: the model's own ModelDo. (Made by wip/gmod5.py.)
-/
import Derived.Test.YtbhmfjblmcppbaaMod4
import Derived.Deep.Cut
namespace Go.Proofs.Ytbhmfjblmcppbaa.KD
open Go.RowKit Rows3 GR Num
set_option linter.unusedVariables false

theorem getB_odd {l : List Int} {a k : Int} (h : alB a k = false) : getB l a k = false := by unfold getB fitB; rw [h]; simp
theorem putB_odd {l : List Int} {a k v : Int} (h : alB a k = false) : putB l a k v = false := by unfold putB; rw [getB_odd h]; rfl
theorem putB_big {l : List Int} {a k v : Int} (h : inLB v k = false) : putB l a k v = false := by unfold putB; rw [h]; simp
theorem okM_facts {l r : List Int} {t : Int} {f : List Int} (h : okM l r t f = true) : l.length = 192 ∧ memB l = true ∧ okD r t f = true := by
  unfold okM at h
  simp only [Bool.and_eq_true, beq_iff_eq] at h
  exact ⟨by omega, h.2.1, h.2.2⟩
/-- a number that is aligned ahead of the end fits. -/
theorem fit_in {n : Nat} {a k : Int} (h : alB a k = true) (ha : a < 192) (hn : n = 192) : fitB n a k = true := by
  subst hn
  rw [alB_iff] at h
  rw [fitB_iff]
  obtain ⟨h1, h2, h3⟩ := h
  refine ⟨h1, h2, h3, ?_⟩
  rcases limW_cases k with ⟨e, _⟩ | ⟨_, e, _⟩ | ⟨_, e, _⟩ | ⟨_, e, _⟩ <;> rw [e] at h1 h3 ⊢ <;> omega
theorem getB_in {l r : List Int} {t : Int} {f : List Int} {a k : Int} (h : okM l r t f = true) (h1 : alB a k = true) (ha : a < 192) : getB l a k = true := by
  obtain ⟨h2, h3, _⟩ := okM_facts h
  unfold getB; rw [h3, fit_in h1 ha h2]; rfl
theorem putB_in {l r : List Int} {t : Int} {f : List Int} {a k v : Int} (h : okM l r t f = true) (h1 : alB a k = true) (ha : a < 192) (hv : inLB v k = true) : putB l a k v = true := by
  unfold putB; rw [getB_in h h1 ha, hv]; rfl
theorem doM_odd {wr : Bool} {a k v : Int} {l r : List Int} {t : Int} {f : List Int} (h : alB a k = false) : doM wr a k v l r t f = ((l, (r, t, f)), 0, 1) := by
  refine doM_no ?_
  by_cases h1 : slaveW a = 1 ∨ slaveW a = 2
  · cases wr with
    | true => rw [doB_w h1]; exact putB_odd h
    | false => rw [doB_r h1]; exact getB_odd h
  · by_cases h2 : slaveW a = 3 ∧ k = 2
    · obtain ⟨h2, rfl⟩ := h2
      rw [doB_d h2]
      have h3 : ¬ (a - 192) % 4 = 0 := by
        intro h4
        rw [← Bool.not_eq_true, alB_iff] at h
        have h5 : bytesW 2 = 4 := rfl
        rw [h5] at h
        rcases slaveW_cases a with ⟨ha, e⟩ | ⟨ha, e⟩ | ⟨ha, e⟩ | ⟨ha, e⟩ <;> omega
      rw [doD_odd h3]
    · rw [doB_no h1 h2]
theorem doM_big {a k v : Int} {l r : List Int} {t : Int} {f : List Int} (h : inLB v k = false) : doM true a k v l r t f = ((l, (r, t, f)), 0, 1) := by
  refine doM_no ?_
  by_cases h1 : slaveW a = 1 ∨ slaveW a = 2
  · rw [doB_w h1]; exact putB_big h
  · by_cases h2 : slaveW a = 3 ∧ k = 2
    · obtain ⟨h2, rfl⟩ := h2
      rw [doB_d h2]
      cases ho : okD r t f with
      | false => rw [doD_bad ho]
      | true => rw [doD_w ho, doW_bad h]
    · rw [doB_no h1 h2]
theorem doM_w {a k v : Int} {l r : List Int} {t : Int} {f : List Int} (h : okM l r t f = true) (h1 : alB a k = true) (hv : inLB v k = true) (hs : slaveW a = 1 ∨ slaveW a = 2) (ha : a < 192) : doM true a k v l r t f = ((putW l a k v, (r, t, f)), v, 0) := by
  rw [doM_yes h (by rw [doB_w hs]; exact putB_in h h1 ha hv), doB_w hs]
theorem doM_r {a k v : Int} {l r : List Int} {t : Int} {f : List Int} (h : okM l r t f = true) (h1 : alB a k = true) (hs : slaveW a = 1 ∨ slaveW a = 2) (ha : a < 192) : doM false a k v l r t f = ((l, (r, t, f)), getW l a k, 0) := by
  rw [doM_yes h (by rw [doB_r hs]; exact getB_in h h1 ha), doB_r hs]
theorem doM_d {wr : Bool} {a v : Int} {l r : List Int} {t : Int} {f : List Int} {D : DevX × Int × Bool} (h : okM l r t f = true) (hs : slaveW a = 3) (hD : doD wr (a - 192) v r t f = D) (hK : D.2.2 = true) : doM wr a 2 v l r t f = ((l, D.1), D.2.1, 0) := by
  rw [doM_yes h (by rw [doB_d hs, hD]; exact hK), doB_d hs, hD]
theorem doM_dn {wr : Bool} {a v : Int} {l r : List Int} {t : Int} {f : List Int} {D : DevX × Int × Bool} (hs : slaveW a = 3) (hD : doD wr (a - 192) v r t f = D) (hK : D.2.2 = false) : doM wr a 2 v l r t f = ((l, (r, t, f)), 0, 1) :=
  doM_no (by rw [doB_d hs, hD]; exact hK)
theorem doM_none {wr : Bool} {a k v : Int} {l r : List Int} {t : Int} {f : List Int} (h : ¬ (slaveW a = 1 ∨ slaveW a = 2)) (h2 : ¬ (slaveW a = 3 ∧ k = 2)) : doM wr a k v l r t f = ((l, (r, t, f)), 0, 1) := doM_no (by rw [doB_no h h2])
set_option maxHeartbeats 16000000 in
set_option maxRecDepth 100000 in
theorem specModelDo (cs : List Value) (wr : Bool) (a k v : Int) (l r : List Int) (t : Int) (f : List Int) (hl : l.length ≤ 2000000) (hr : r.length ≤ 2000000) (hf : f.length ≤ 2000000) (w : World) (h : modelK.rd cs (l, (r, t, f)) w) :
    Calls Try.prog 12 #[agg cs, .bool wr, .int .i64 a, .int .i64 k, .int .i64 v] w (MPost w.heap.size (doM wr a k v l r t f) w) := by
  obtain ⟨a0, p0, a1, p1, a2, p2, rfl, RM, RD⟩ := rd_model h
  have HRM := Lib.hid RM
  have HRD := Lib.hid RD
  have H := Lib.hid h
  have hlr := Lib.hid hr
  have hlf := Lib.hid hf
  have hll := Lib.hid hl
  have hsz : ∀ (w : World) o, (w.alloc o).heap.size = w.heap.size + 1 := fun w o => by simp
  have A0 := Lib.hid ((Bx.new 28 #[.slice a0 l.length p0, .slice a1 r.length p1, .int .i64 t, .slice a2 f.length p2] w).alloc (Obj.cells #[.slice none 0 0, .slice none 0 0, .int .i64 0, .slice none 0 0] 28))
  have B0 := Bx.new 28 #[.slice none 0 0, .slice none 0 0, .int .i64 0, .slice none 0 0] (w.alloc (Obj.cells #[.slice a0 l.length p0, .slice a1 r.length p1, .int .i64 t, .slice a2 f.length p2] 28))
  rw [hsz] at B0
  have X0 := Lib.hid B0
  have HB0 := Lib.hid (((Below.refl w.heap.size w).alloc (Nat.le_refl _) (Obj.cells #[.slice a0 l.length p0, .slice a1 r.length p1, .int .i64 t, .slice a2 f.length p2] 28)).alloc (by simp) (Obj.cells #[.slice none 0 0, .slice none 0 0, .int .i64 0, .slice none 0 0] 28))
  clear B0 hsz h hr hf hl RM RD
  show Calls _ _ #[.agg #[.slice a0 l.length p0, .slice a1 r.length p1, .int .i64 t, .slice a2 f.length p2], .bool wr, .int .i64 a, .int .i64 k, .int .i64 v] w _
  obtain ⟨O, hO⟩ : ∃ O, okM l r t f = O := ⟨_, rfl⟩
  have HO := Lib.hid hO
  obtain ⟨A, hA⟩ : ∃ A, alB a k = A := ⟨_, rfl⟩
  have HA := Lib.hid hA
  obtain ⟨I, hI⟩ : ∃ I, inLB v k = I := ⟨_, rfl⟩
  have HI := Lib.hid hI
  obtain ⟨s, hs⟩ : ∃ s, slaveW a = s := ⟨_, rfl⟩
  have HS := Lib.hid hs
  have hlb := limW_bd k
  obtain ⟨lim, hlim⟩ : ∃ m, limW k = m := ⟨_, rfl⟩
  rw [hlim] at hlb
  have HL := Lib.hid hlim
  obtain ⟨R, hR⟩ : ∃ R, doM wr a k v l r t f = R := ⟨_, rfl⟩
  have HR := Lib.hid hR
  rw [hR]
  have hsc := slaveW_cases a
  rw [hs] at hsc
  clear hO hA hI hs hR hlim
  go_enter Try.func12, Try.ntmps12
  go_wp2_with fail
  generalize (w.alloc (Obj.cells #[.slice a0 l.length p0, .slice a1 r.length p1, .int .i64 t, .slice a2 f.length p2] 28)).alloc (Obj.cells #[.slice none 0 0, .slice none 0 0, .int .i64 0, .slice none 0 0] 28) = y0 at A0 X0 HB0 ⊢
  refine (specCopyModel [.slice a0 l.length p0, .slice a1 r.length p1, .int .i64 t, .slice a2 f.length p2] l r t f hll.out hlr.out hlf.out _ (modelK.rd_later H.out HB0.out)).mono ?_
  rintro e y1 ⟨us, he, hc, hb⟩
  obtain ⟨b0, q0, b1, q1, b2, q2, rfl, _, _, _⟩ := model_form (modelK.cap_rd hc)
  obtain rfl : e = .returned (.agg #[.slice b0 l.length q0, .slice b1 r.length q1, .int .i64 t, .slice b2 f.length q2]) := he
  have ab := (Below.refl y1.heap.size y1).alloc (Nat.le_refl _) (Obj.cells #[.slice b0 l.length q0, .slice b1 r.length q1, .int .i64 t, .slice b2 f.length q2] 28)
  have A1 := Lib.hid ((A0.out.later hb).later ab)
  have X1 := Lib.hid ((X0.out.later hb).later ab)
  have N1 := Lib.hid (Bx.new 28 #[.slice b0 l.length q0, .slice b1 r.length q1, .int .i64 t, .slice b2 f.length q2] y1)
  have HB1 := Lib.hid ((HB0.out.trans (hb.mono HB0.out.size)).trans (ab.mono (Nat.le_trans HB0.out.size hb.size)))
  have C1 := Lib.hid (modelK.cap_later (modelK.cap_top hc) ab)
  have hlt : w.heap.size + 1 < y0.heap.size := X0.out.lt
  have hlt1 : y0.heap.size ≤ y1.heap.size := hb.size
  obtain ⟨g0, g1, g2, g3⟩ := cells4 (A0.out.later hb)
  obtain ⟨j0, j1, j2, j3⟩ := cells4 A1.out
  clear hc hb ab
  obtain ⟨b, hbb⟩ : ∃ b, y1.heap.size = b := ⟨_, rfl⟩
  go_wp2_with fail
  clear g0 g1 g2 g3 j0 j1 j2 j3
  generalize y1.alloc (Obj.cells #[.slice b0 l.length q0, .slice b1 r.length q1, .int .i64 t, .slice b2 f.length q2] 28) = y2 at A1 X1 N1 HB1 C1 ⊢
  refine (specModelOk [.slice a0 l.length p0, .slice a1 r.length p1, .int .i64 t, .slice a2 f.length p2] l r t f hll.out hlr.out hlf.out _ (modelK.rd_later H.out HB1.out)).mono ?_
  rintro e y3 ⟨rfl, hb⟩
  rw [HO.out]
  have A3 := Lib.hid (A1.out.later hb)
  have N3 := Lib.hid (N1.out.later hb)
  have X3 := Lib.hid (X1.out.later hb)
  have HB3 := Lib.hid (HB1.out.trans (hb.mono HB1.out.size))
  have C3 := Lib.hid (modelK.cap_later C1.out hb)
  rw [hbb] at N3 C3 hlt1
  obtain ⟨g0, g1, g2, g3⟩ := cells4 N3.out
  clear hb hbb A0 A1 N1 X0 X1 HB0 HB1 C1
  have hne : ¬ w.heap.size + 1 = b := by omega
  have hb3 : b < y3.heap.size := N3.out.lt
  cases O with
  | false =>
    obtain rfl : R = ((l, (r, t, f)), 0, 1) := HR.out.symm.trans (doM_bad HO.out)
    obtain ⟨k0, k1, k2, k3⟩ := cells4 X3.out
    obtain ⟨z0, z1, z2, z3⟩ := warm4 X3.out
    obtain ⟨e0, e1, e2, e3⟩ := cells4 (Bx.four X3.out (.slice b0 l.length q0) (.slice b1 r.length q1) (.int .i64 t) (.slice b2 f.length q2))
    go_wp2_with fail
    refine bodyPost_ret (v := .tuple #[.agg #[.slice b0 l.length q0, .slice b1 r.length q1, .int .i64 t, .slice b2 f.length q2], .int .i64 0, .int .i64 1]) (by simp [results, Try.results12, go_sem, e0, e1, e2, e3]) rfl ⟨_, rfl, ?_, ?_⟩
    · refine model_end (modelK.cap_wide C3.out (fun i _ hi => hi.1)) (b := w.heap.size + 1) hlt (by omega) ?_
      iterate 4 refine Turn.set (F := fun k => k = w.heap.size + 1) ?_ rfl _
      exact Turn.refl _ _
    · iterate 4 refine Below.setCell ?_ (by first | omega | (dsimp only; omega)) _
      exact HB3.out
  | true =>
  cases A with
  | false =>
    obtain rfl : R = ((l, (r, t, f)), 0, 1) := HR.out.symm.trans (doM_odd HA.out)
    obtain ⟨k0, k1, k2, k3⟩ := cells4 X3.out
    obtain ⟨z0, z1, z2, z3⟩ := warm4 X3.out
    obtain ⟨e0, e1, e2, e3⟩ := cells4 (Bx.four X3.out (.slice b0 l.length q0) (.slice b1 r.length q1) (.int .i64 t) (.slice b2 f.length q2))
    go_wp2_with (first | (go_at_call 36; refine (specAligned _ _ _).mono ?_; rintro e w' ⟨rfl, rfl⟩; rw [HA.out]) | (go_at_call 38; refine (specLimit _ _).mono ?_; rintro e w' ⟨rfl, rfl⟩; rw [HL.out]) | (go_at_call 37; refine (specIn v k _ (by rw [HL.out]) _).mono ?_; rintro e w' ⟨rfl, rfl⟩; rw [HI.out]) | (go_at_call 16; refine (specSlave _ _).mono ?_; rintro e w' ⟨rfl, rfl⟩; rw [HS.out]))
    refine bodyPost_ret (v := .tuple #[.agg #[.slice b0 l.length q0, .slice b1 r.length q1, .int .i64 t, .slice b2 f.length q2], .int .i64 0, .int .i64 1]) (by simp [results, Try.results12, go_sem, e0, e1, e2, e3]) rfl ⟨_, rfl, ?_, ?_⟩
    · refine model_end (modelK.cap_wide C3.out (fun i _ hi => hi.1)) (b := w.heap.size + 1) hlt (by omega) ?_
      iterate 4 refine Turn.set (F := fun k => k = w.heap.size + 1) ?_ rfl _
      exact Turn.refl _ _
    · iterate 4 refine Below.setCell ?_ (by first | omega | (dsimp only; omega)) _
      exact HB3.out
  | true =>
  have two : (wr = true ∧ I = false) ∨ ((wr = true ∧ I = true) ∨ (wr = false)) := by cases wr <;> cases I <;> simp
  rcases two with ⟨rfl, rfl⟩ | two
  · obtain rfl : R = ((l, (r, t, f)), 0, 1) := HR.out.symm.trans (doM_big HI.out)
    obtain ⟨k0, k1, k2, k3⟩ := cells4 X3.out
    obtain ⟨z0, z1, z2, z3⟩ := warm4 X3.out
    obtain ⟨e0, e1, e2, e3⟩ := cells4 (Bx.four X3.out (.slice b0 l.length q0) (.slice b1 r.length q1) (.int .i64 t) (.slice b2 f.length q2))
    go_wp2_with (first | (go_at_call 36; refine (specAligned _ _ _).mono ?_; rintro e w' ⟨rfl, rfl⟩; rw [HA.out]) | (go_at_call 38; refine (specLimit _ _).mono ?_; rintro e w' ⟨rfl, rfl⟩; rw [HL.out]) | (go_at_call 37; refine (specIn v k _ (by rw [HL.out]) _).mono ?_; rintro e w' ⟨rfl, rfl⟩; rw [HI.out]) | (go_at_call 16; refine (specSlave _ _).mono ?_; rintro e w' ⟨rfl, rfl⟩; rw [HS.out]))
    refine bodyPost_ret (v := .tuple #[.agg #[.slice b0 l.length q0, .slice b1 r.length q1, .int .i64 t, .slice b2 f.length q2], .int .i64 0, .int .i64 1]) (by simp [results, Try.results12, go_sem, e0, e1, e2, e3]) rfl ⟨_, rfl, ?_, ?_⟩
    · refine model_end (modelK.cap_wide C3.out (fun i _ hi => hi.1)) (b := w.heap.size + 1) hlt (by omega) ?_
      iterate 4 refine Turn.set (F := fun k => k = w.heap.size + 1) ?_ rfl _
      exact Turn.refl _ _
    · iterate 4 refine Below.setCell ?_ (by first | omega | (dsimp only; omega)) _
      exact HB3.out
  · rcases hsc with ⟨ha, h1⟩ | ⟨ha, h1⟩ | ⟨ha, h1⟩ | ⟨ha, h1⟩
    · obtain rfl : s = 0 := h1
      rcases two with ⟨rfl, rfl⟩ | rfl
      · skip
        obtain rfl : R = ((l, (r, t, f)), 0, 1) := HR.out.symm.trans (doM_none (by rw [HS.out]; omega) (by rw [HS.out]; omega))
        obtain ⟨k0, k1, k2, k3⟩ := cells4 X3.out
        obtain ⟨z0, z1, z2, z3⟩ := warm4 X3.out
        obtain ⟨e0, e1, e2, e3⟩ := cells4 (Bx.four X3.out (.slice b0 l.length q0) (.slice b1 r.length q1) (.int .i64 t) (.slice b2 f.length q2))
        go_wp2_with (first | (go_at_call 36; refine (specAligned _ _ _).mono ?_; rintro e w' ⟨rfl, rfl⟩; rw [HA.out]) | (go_at_call 38; refine (specLimit _ _).mono ?_; rintro e w' ⟨rfl, rfl⟩; rw [HL.out]) | (go_at_call 37; refine (specIn v k _ (by rw [HL.out]) _).mono ?_; rintro e w' ⟨rfl, rfl⟩; rw [HI.out]) | (go_at_call 16; refine (specSlave _ _).mono ?_; rintro e w' ⟨rfl, rfl⟩; rw [HS.out]))
        refine bodyPost_ret (v := .tuple #[.agg #[.slice b0 l.length q0, .slice b1 r.length q1, .int .i64 t, .slice b2 f.length q2], .int .i64 0, .int .i64 1]) (by simp [results, Try.results12, go_sem, e0, e1, e2, e3]) rfl ⟨_, rfl, ?_, ?_⟩
        · refine model_end (modelK.cap_wide C3.out (fun i _ hi => hi.1)) (b := w.heap.size + 1) hlt (by omega) ?_
          iterate 4 refine Turn.set (F := fun k => k = w.heap.size + 1) ?_ rfl _
          exact Turn.refl _ _
        · iterate 4 refine Below.setCell ?_ (by first | omega | (dsimp only; omega)) _
          exact HB3.out
      · skip
        obtain rfl : R = ((l, (r, t, f)), 0, 1) := HR.out.symm.trans (doM_none (by rw [HS.out]; omega) (by rw [HS.out]; omega))
        obtain ⟨k0, k1, k2, k3⟩ := cells4 X3.out
        obtain ⟨z0, z1, z2, z3⟩ := warm4 X3.out
        obtain ⟨e0, e1, e2, e3⟩ := cells4 (Bx.four X3.out (.slice b0 l.length q0) (.slice b1 r.length q1) (.int .i64 t) (.slice b2 f.length q2))
        go_wp2_with (first | (go_at_call 36; refine (specAligned _ _ _).mono ?_; rintro e w' ⟨rfl, rfl⟩; rw [HA.out]) | (go_at_call 38; refine (specLimit _ _).mono ?_; rintro e w' ⟨rfl, rfl⟩; rw [HL.out]) | (go_at_call 37; refine (specIn v k _ (by rw [HL.out]) _).mono ?_; rintro e w' ⟨rfl, rfl⟩; rw [HI.out]) | (go_at_call 16; refine (specSlave _ _).mono ?_; rintro e w' ⟨rfl, rfl⟩; rw [HS.out]))
        refine bodyPost_ret (v := .tuple #[.agg #[.slice b0 l.length q0, .slice b1 r.length q1, .int .i64 t, .slice b2 f.length q2], .int .i64 0, .int .i64 1]) (by simp [results, Try.results12, go_sem, e0, e1, e2, e3]) rfl ⟨_, rfl, ?_, ?_⟩
        · refine model_end (modelK.cap_wide C3.out (fun i _ hi => hi.1)) (b := w.heap.size + 1) hlt (by omega) ?_
          iterate 4 refine Turn.set (F := fun k => k = w.heap.size + 1) ?_ rfl _
          exact Turn.refl _ _
        · iterate 4 refine Below.setCell ?_ (by first | omega | (dsimp only; omega)) _
          exact HB3.out
    · obtain rfl : s = 1 := h1
      rcases two with ⟨rfl, rfl⟩ | rfl
      · skip
        have hpl := putW_length l a k v
        obtain rfl : R = ((putW l a k v, (r, t, f)), v, 0) := HR.out.symm.trans (doM_w HO.out HA.out HI.out (by rw [HS.out]; omega) (by omega))
        obtain ⟨u0, u1, u2, u3⟩ := cells4 A3.out
        go_wp2_with (first | (go_at_call 36; refine (specAligned _ _ _).mono ?_; rintro e w' ⟨rfl, rfl⟩; rw [HA.out]) | (go_at_call 38; refine (specLimit _ _).mono ?_; rintro e w' ⟨rfl, rfl⟩; rw [HL.out]) | (go_at_call 37; refine (specIn v k _ (by rw [HL.out]) _).mono ?_; rintro e w' ⟨rfl, rfl⟩; rw [HI.out]) | (go_at_call 16; refine (specSlave _ _).mono ?_; rintro e w' ⟨rfl, rfl⟩; rw [HS.out]))
        refine (specPutR _ l hll.out a k v _ (HRM.out.below HB3.out)).mono ?_
        rintro e y4 ⟨u, rfl, hu, hb⟩
        obtain ⟨c0, s0, hu0⟩ := hu.slice
        rw [hpl] at hu0
        subst hu0
        generalize putB l a k v = pb
        obtain ⟨_, _, F1, F2, e0, c1, c2, s1, s2, hd⟩ := own_model C3.out
        cases e0
        have N4 := N3.out.later hb
        have X4 := X3.out.later hb
        have HB4 := Lib.hid (HB3.out.trans (hb.mono HB3.out.size))
        clear g0 g1 g2 g3 u0 u1 u2 u3
        obtain ⟨g0, g1, g2, g3⟩ := cells4 N4
        obtain ⟨y0', y1', y2', y3'⟩ := warm4 N4
        obtain ⟨j0, j1, j2, j3⟩ := cells4 (show Bx 28 b #[.slice c0 l.length s0, .slice b1 r.length q1, .int .i64 t, .slice b2 f.length q2] _ from N4.set 0 (.slice c0 l.length s0))
        have XX := X4.far (p := ⟨b, 0, none⟩) hne (.slice c0 l.length s0)
        obtain ⟨k0, k1, k2, k3⟩ := cells4 XX
        obtain ⟨z0, z1, z2, z3⟩ := warm4 XX
        obtain ⟨e0, e1, e2, e3⟩ := cells4 (Bx.four XX (.slice c0 l.length s0) (.slice b1 r.length q1) (.int .i64 t) (.slice b2 f.length q2))
        have last : ∀ (y5 : World), Turn (fun i => i = w.heap.size + 1 ∨ i = b) y4 y5 → modelK.cap (fun i => w.heap.size ≤ i) [.slice c0 l.length s0, .slice b1 r.length q1, .int .i64 t, .slice b2 f.length q2] (putW l a k v, (r, t, f)) y5 := fun y5 ht =>
          modelK.cap_wide (modelK.cap_turn (modelF (F := fun i => (y0.heap.size ≤ i ∧ i < b) ∨ y3.heap.size ≤ i) (cap_own2 hu (by rw [hpl]; have := hll.out; omega)) (devK.cap_later c2 hb) (fun i hi => .inr (World.ownsRow.lt hu i hi).1) (fun i hi => .inl (s2 i hi)) (fun i hi hi2 => by have h1 := (World.ownsRow.lt hu i hi).1; have h2 := (s2 i hi2).2; omega)) ht (fun i _ h1 h2 => by rcases h1 with ⟨h3, h4⟩ | h1 <;> omega)) (fun i _ hi => by rcases hi with ⟨h3, h4⟩ | h1 <;> omega)
        have Last := Lib.hid last
        clear hu hb N4 X4 XX last c1 c2 s1 s2 hd
        go_wp2_with fail
        refine bodyPost_ret (v := .tuple #[.agg #[.slice c0 l.length s0, .slice b1 r.length q1, .int .i64 t, .slice b2 f.length q2], .int .i64 v, .int .i64 0]) (by simp [results, Try.results12, go_sem, e0, e1, e2, e3]) rfl ⟨_, rfl, Last.out _ ?_, ?_⟩
        · iterate 4 refine Turn.set (F := fun k => k = w.heap.size + 1 ∨ k = b) ?_ (.inl rfl) _
          iterate 1 refine Turn.set (F := fun k => k = w.heap.size + 1 ∨ k = b) ?_ (.inr rfl) _
          exact Turn.refl _ _
        · iterate 5 refine Below.setCell ?_ (by first | omega | (dsimp only; omega)) _
          exact HB4.out
      · skip
        obtain ⟨n, hn⟩ : ∃ n, getW l a k = n := ⟨_, rfl⟩
        have HN := Lib.hid hn
        obtain rfl : R = ((l, (r, t, f)), n, 0) := by rw [← hn]; exact HR.out.symm.trans (doM_r HO.out HA.out (by rw [HS.out]; omega) (by omega))
        clear hn
        obtain ⟨u0, u1, u2, u3⟩ := cells4 A3.out
        go_wp2_with (first | (go_at_call 36; refine (specAligned _ _ _).mono ?_; rintro e w' ⟨rfl, rfl⟩; rw [HA.out]) | (go_at_call 38; refine (specLimit _ _).mono ?_; rintro e w' ⟨rfl, rfl⟩; rw [HL.out]) | (go_at_call 37; refine (specIn v k _ (by rw [HL.out]) _).mono ?_; rintro e w' ⟨rfl, rfl⟩; rw [HI.out]) | (go_at_call 16; refine (specSlave _ _).mono ?_; rintro e w' ⟨rfl, rfl⟩; rw [HS.out]))
        refine (specGet _ l hll.out a k _ (HRM.out.below HB3.out)).mono ?_
        rintro e w' ⟨rfl, rfl⟩
        rw [HN.out]
        generalize getB l a k = gb
        clear u0 u1 u2 u3
        obtain ⟨k0, k1, k2, k3⟩ := cells4 X3.out
        obtain ⟨z0, z1, z2, z3⟩ := warm4 X3.out
        obtain ⟨e0, e1, e2, e3⟩ := cells4 (Bx.four X3.out (.slice b0 l.length q0) (.slice b1 r.length q1) (.int .i64 t) (.slice b2 f.length q2))
        go_wp2_with fail
        refine bodyPost_ret (v := .tuple #[.agg #[.slice b0 l.length q0, .slice b1 r.length q1, .int .i64 t, .slice b2 f.length q2], .int .i64 n, .int .i64 0]) (by simp [results, Try.results12, go_sem, e0, e1, e2, e3]) rfl ⟨_, rfl, ?_, ?_⟩
        · refine model_end (modelK.cap_wide C3.out (fun i _ hi => hi.1)) (b := w.heap.size + 1) hlt (by omega) ?_
          iterate 4 refine Turn.set (F := fun k => k = w.heap.size + 1) ?_ rfl _
          exact Turn.refl _ _
        · iterate 4 refine Below.setCell ?_ (by first | omega | (dsimp only; omega)) _
          exact HB3.out
    · obtain rfl : s = 2 := h1
      rcases two with ⟨rfl, rfl⟩ | rfl
      · skip
        have hpl := putW_length l a k v
        obtain rfl : R = ((putW l a k v, (r, t, f)), v, 0) := HR.out.symm.trans (doM_w HO.out HA.out HI.out (by rw [HS.out]; omega) (by omega))
        obtain ⟨u0, u1, u2, u3⟩ := cells4 A3.out
        go_wp2_with (first | (go_at_call 36; refine (specAligned _ _ _).mono ?_; rintro e w' ⟨rfl, rfl⟩; rw [HA.out]) | (go_at_call 38; refine (specLimit _ _).mono ?_; rintro e w' ⟨rfl, rfl⟩; rw [HL.out]) | (go_at_call 37; refine (specIn v k _ (by rw [HL.out]) _).mono ?_; rintro e w' ⟨rfl, rfl⟩; rw [HI.out]) | (go_at_call 16; refine (specSlave _ _).mono ?_; rintro e w' ⟨rfl, rfl⟩; rw [HS.out]))
        refine (specPutR _ l hll.out a k v _ (HRM.out.below HB3.out)).mono ?_
        rintro e y4 ⟨u, rfl, hu, hb⟩
        obtain ⟨c0, s0, hu0⟩ := hu.slice
        rw [hpl] at hu0
        subst hu0
        generalize putB l a k v = pb
        obtain ⟨_, _, F1, F2, e0, c1, c2, s1, s2, hd⟩ := own_model C3.out
        cases e0
        have N4 := N3.out.later hb
        have X4 := X3.out.later hb
        have HB4 := Lib.hid (HB3.out.trans (hb.mono HB3.out.size))
        clear g0 g1 g2 g3 u0 u1 u2 u3
        obtain ⟨g0, g1, g2, g3⟩ := cells4 N4
        obtain ⟨y0', y1', y2', y3'⟩ := warm4 N4
        obtain ⟨j0, j1, j2, j3⟩ := cells4 (show Bx 28 b #[.slice c0 l.length s0, .slice b1 r.length q1, .int .i64 t, .slice b2 f.length q2] _ from N4.set 0 (.slice c0 l.length s0))
        have XX := X4.far (p := ⟨b, 0, none⟩) hne (.slice c0 l.length s0)
        obtain ⟨k0, k1, k2, k3⟩ := cells4 XX
        obtain ⟨z0, z1, z2, z3⟩ := warm4 XX
        obtain ⟨e0, e1, e2, e3⟩ := cells4 (Bx.four XX (.slice c0 l.length s0) (.slice b1 r.length q1) (.int .i64 t) (.slice b2 f.length q2))
        have last : ∀ (y5 : World), Turn (fun i => i = w.heap.size + 1 ∨ i = b) y4 y5 → modelK.cap (fun i => w.heap.size ≤ i) [.slice c0 l.length s0, .slice b1 r.length q1, .int .i64 t, .slice b2 f.length q2] (putW l a k v, (r, t, f)) y5 := fun y5 ht =>
          modelK.cap_wide (modelK.cap_turn (modelF (F := fun i => (y0.heap.size ≤ i ∧ i < b) ∨ y3.heap.size ≤ i) (cap_own2 hu (by rw [hpl]; have := hll.out; omega)) (devK.cap_later c2 hb) (fun i hi => .inr (World.ownsRow.lt hu i hi).1) (fun i hi => .inl (s2 i hi)) (fun i hi hi2 => by have h1 := (World.ownsRow.lt hu i hi).1; have h2 := (s2 i hi2).2; omega)) ht (fun i _ h1 h2 => by rcases h1 with ⟨h3, h4⟩ | h1 <;> omega)) (fun i _ hi => by rcases hi with ⟨h3, h4⟩ | h1 <;> omega)
        have Last := Lib.hid last
        clear hu hb N4 X4 XX last c1 c2 s1 s2 hd
        go_wp2_with fail
        refine bodyPost_ret (v := .tuple #[.agg #[.slice c0 l.length s0, .slice b1 r.length q1, .int .i64 t, .slice b2 f.length q2], .int .i64 v, .int .i64 0]) (by simp [results, Try.results12, go_sem, e0, e1, e2, e3]) rfl ⟨_, rfl, Last.out _ ?_, ?_⟩
        · iterate 4 refine Turn.set (F := fun k => k = w.heap.size + 1 ∨ k = b) ?_ (.inl rfl) _
          iterate 1 refine Turn.set (F := fun k => k = w.heap.size + 1 ∨ k = b) ?_ (.inr rfl) _
          exact Turn.refl _ _
        · iterate 5 refine Below.setCell ?_ (by first | omega | (dsimp only; omega)) _
          exact HB4.out
      · skip
        obtain ⟨n, hn⟩ : ∃ n, getW l a k = n := ⟨_, rfl⟩
        have HN := Lib.hid hn
        obtain rfl : R = ((l, (r, t, f)), n, 0) := by rw [← hn]; exact HR.out.symm.trans (doM_r HO.out HA.out (by rw [HS.out]; omega) (by omega))
        clear hn
        obtain ⟨u0, u1, u2, u3⟩ := cells4 A3.out
        go_wp2_with (first | (go_at_call 36; refine (specAligned _ _ _).mono ?_; rintro e w' ⟨rfl, rfl⟩; rw [HA.out]) | (go_at_call 38; refine (specLimit _ _).mono ?_; rintro e w' ⟨rfl, rfl⟩; rw [HL.out]) | (go_at_call 37; refine (specIn v k _ (by rw [HL.out]) _).mono ?_; rintro e w' ⟨rfl, rfl⟩; rw [HI.out]) | (go_at_call 16; refine (specSlave _ _).mono ?_; rintro e w' ⟨rfl, rfl⟩; rw [HS.out]))
        refine (specGet _ l hll.out a k _ (HRM.out.below HB3.out)).mono ?_
        rintro e w' ⟨rfl, rfl⟩
        rw [HN.out]
        generalize getB l a k = gb
        clear u0 u1 u2 u3
        obtain ⟨k0, k1, k2, k3⟩ := cells4 X3.out
        obtain ⟨z0, z1, z2, z3⟩ := warm4 X3.out
        obtain ⟨e0, e1, e2, e3⟩ := cells4 (Bx.four X3.out (.slice b0 l.length q0) (.slice b1 r.length q1) (.int .i64 t) (.slice b2 f.length q2))
        go_wp2_with fail
        refine bodyPost_ret (v := .tuple #[.agg #[.slice b0 l.length q0, .slice b1 r.length q1, .int .i64 t, .slice b2 f.length q2], .int .i64 n, .int .i64 0]) (by simp [results, Try.results12, go_sem, e0, e1, e2, e3]) rfl ⟨_, rfl, ?_, ?_⟩
        · refine model_end (modelK.cap_wide C3.out (fun i _ hi => hi.1)) (b := w.heap.size + 1) hlt (by omega) ?_
          iterate 4 refine Turn.set (F := fun k => k = w.heap.size + 1) ?_ rfl _
          exact Turn.refl _ _
        · iterate 4 refine Below.setCell ?_ (by first | omega | (dsimp only; omega)) _
          exact HB3.out
    · obtain rfl : s = 3 := h1
      obtain ⟨D, hD⟩ : ∃ D, doD wr (a - 192) v r t f = D := ⟨_, rfl⟩
      have HD := Lib.hid hD
      obtain ⟨⟨r', t', f'⟩, N, K⟩ := D
      clear hD
      obtain ⟨u0, u1, u2, u3⟩ := cells4 A3.out
      have kk : (k = 2 ∧ K = true) ∨ (k = 2 ∧ K = false) ∨ ¬ k = 2 := by cases K <;> by_cases h : k = 2 <;> simp [h]
      rcases two with ⟨rfl, rfl⟩ | rfl
      all_goals go_wp2_with (first | (go_at_call 36; refine (specAligned _ _ _).mono ?_; rintro e w' ⟨rfl, rfl⟩; rw [HA.out]) | (go_at_call 38; refine (specLimit _ _).mono ?_; rintro e w' ⟨rfl, rfl⟩; rw [HL.out]) | (go_at_call 37; refine (specIn v k _ (by rw [HL.out]) _).mono ?_; rintro e w' ⟨rfl, rfl⟩; rw [HI.out]) | (go_at_call 16; refine (specSlave _ _).mono ?_; rintro e w' ⟨rfl, rfl⟩; rw [HS.out]))
      all_goals
        refine (specDevDo [.slice a1 r.length p1, .int .i64 t, .slice a2 f.length p2] _ (a - 192) v r t f hlr.out hlf.out _ (devK.rd_later HRD.out HB3.out)).mono ?_
        rw [HD.out]
        rintro e y4 ⟨us, he, hc, hb⟩
        obtain ⟨c1, s1, c2, s2, rfl, _, _⟩ := dev_form (devK.cap_rd hc)
        obtain rfl : e = .returned (.tuple #[.agg #[.slice c1 r'.length s1, .int .i64 t', .slice c2 f'.length s2], .int .i64 N, .bool K]) := he
        obtain ⟨_, _, F1, F2, e0, d1, d2, s3, s4, hd⟩ := own_model C3.out
        cases e0
        have ab := (Below.refl y4.heap.size y4).alloc (Nat.le_refl _) (Obj.cells #[.slice c1 r'.length s1, .int .i64 t', .slice c2 f'.length s2] 26)
        have N5 := Lib.hid ((N3.out.later hb).later ab)
        have X5 := Lib.hid ((X3.out.later hb).later ab)
        have E5 := Lib.hid (Bx.new 26 #[.slice c1 r'.length s1, .int .i64 t', .slice c2 f'.length s2] y4)
        have HB5 := Lib.hid ((HB3.out.trans (hb.mono HB3.out.size)).trans (ab.mono (Nat.le_trans HB3.out.size hb.size)))
        have C5 := Lib.hid (modelK.cap_later (modelK.cap_later C3.out hb) ab)
        have hlt4 : b < y4.heap.size := Nat.lt_of_lt_of_le hb3 hb.size
        have U5 : Hid (modelK.cap (fun i => ((y0.heap.size ≤ i ∧ i < b) ∨ y3.heap.size ≤ i) ∧ i < y4.heap.size) [.slice b0 l.length q0, .slice c1 r'.length s1, .int .i64 t', .slice c2 f'.length s2] (l, (r', t', f')) (y4.alloc (Obj.cells #[.slice c1 r'.length s1, .int .i64 t', .slice c2 f'.length s2] 26))) := Lib.hid
          (modelK.cap_alloc (modelK.cap_top (modelF (F := fun i => (y0.heap.size ≤ i ∧ i < b) ∨ y3.heap.size ≤ i) (ints.cap_later d1 hb) hc (fun i hi => .inl (s3 i hi)) (fun i hi => .inr hi) (fun i hi hi2 => by have h2 := (s3 i hi).2; omega))) _)
        clear g0 g1 g2 g3 u0 u1 u2 u3 hc hb d1 d2 s3 s4 hd ab
        obtain ⟨c, hcc⟩ : ∃ c, y4.heap.size = c := ⟨_, rfl⟩
        go_upto_region 14 with fail
        generalize y4.alloc (Obj.cells #[.slice c1 r'.length s1, .int .i64 t', .slice c2 f'.length s2] 26) = y5 at N5 X5 E5 HB5 C5 U5 ⊢
        rw [hcc] at E5 U5 hlt4
        clear hcc
        obtain ⟨g0, g1, g2, g3⟩ := cells4 N5.out
        obtain ⟨z0, z1, z2, z3⟩ := warm4 X5.out
        obtain ⟨k0, k1, k2, k3⟩ := cells4 X5.out
        rcases kk with ⟨rfl, rfl⟩ | ⟨rfl, rfl⟩ | hk2
        · -- the device has done it
          obtain rfl : R = ((l, (r', t', f')), N, 0) := HR.out.symm.trans (doM_d HO.out HS.out HD.out rfl)
          obtain ⟨y0', y1', y2', y3'⟩ := warm4 N5.out
          obtain ⟨v0, v1, v2⟩ := cells3 E5.out
          have NN := ((N5.out.set 1 (.slice c1 r'.length s1)).set 2 (.int .i64 t')).set 3 (.slice c2 f'.length s2)
          obtain ⟨j0, j1, j2, j3⟩ := cells4 (show Bx 28 b #[.slice b0 l.length q0, .slice c1 r'.length s1, .int .i64 t', .slice c2 f'.length s2] _ from NN)
          have XX := ((X5.out.far (p := ⟨b, 1, none⟩) hne (.slice c1 r'.length s1)).far (p := ⟨b, 2, none⟩) hne (.int .i64 t')).far (p := ⟨b, 3, none⟩) hne (.slice c2 f'.length s2)
          clear k0 k1 k2 k3
          obtain ⟨k0, k1, k2, k3⟩ := cells4 XX
          obtain ⟨x0, x1, x2, x3⟩ := warm4 XX
          obtain ⟨e0, e1, e2, e3⟩ := cells4 (Bx.four XX (.slice b0 l.length q0) (.slice c1 r'.length s1) (.int .i64 t') (.slice c2 f'.length s2))
          clear NN XX
          go_wp2_with fail
          refine bodyPost_ret (v := .tuple #[.agg #[.slice b0 l.length q0, .slice c1 r'.length s1, .int .i64 t', .slice c2 f'.length s2], .int .i64 N, .int .i64 0]) (by simp [results, Try.results12, go_sem, e0, e1, e2, e3]) rfl ⟨_, rfl, ?_, ?_⟩
          · refine modelK.cap_wide (modelK.cap_turn (G := fun i => i = w.heap.size + 1 ∨ i = b) U5.out ?_ (fun i _ h1 h2 => by rcases h1 with ⟨⟨h3, h4⟩ | h1, h5⟩ <;> omega)) (fun i _ hi => by rcases hi with ⟨⟨h3, h4⟩ | h1, h5⟩ <;> omega)
            iterate 4 refine Turn.set (F := fun k => k = w.heap.size + 1 ∨ k = b) ?_ (.inl rfl) _
            iterate 3 refine Turn.set (F := fun k => k = w.heap.size + 1 ∨ k = b) ?_ (.inr rfl) _
            exact Turn.refl _ _
          · iterate 7 refine Below.setCell ?_ (by first | omega | (dsimp only; omega)) _
            exact HB5.out
        · obtain rfl : R = ((l, (r, t, f)), 0, 1) := HR.out.symm.trans (doM_dn HS.out HD.out rfl)
          obtain ⟨e0, e1, e2, e3⟩ := cells4 (Bx.four X5.out (.slice b0 l.length q0) (.slice b1 r.length q1) (.int .i64 t) (.slice b2 f.length q2))
          go_wp2_with fail
          refine bodyPost_ret (v := .tuple #[.agg #[.slice b0 l.length q0, .slice b1 r.length q1, .int .i64 t, .slice b2 f.length q2], .int .i64 0, .int .i64 1]) (by simp [results, Try.results12, go_sem, e0, e1, e2, e3]) rfl ⟨_, rfl, ?_, ?_⟩
          · refine model_end (modelK.cap_wide C5.out (fun i _ hi => hi.1)) (b := w.heap.size + 1) hlt (by omega) ?_
            iterate 4 refine Turn.set (F := fun k => k = w.heap.size + 1) ?_ rfl _
            exact Turn.refl _ _
          · iterate 4 refine Below.setCell ?_ (by first | omega | (dsimp only; omega)) _
            exact HB5.out
        · obtain rfl : R = ((l, (r, t, f)), 0, 1) := HR.out.symm.trans (doM_none (by rw [HS.out]; omega) (by rw [HS.out]; omega))
          have hk3 : (k == 2) = false := by simp [hk2]
          obtain ⟨e0, e1, e2, e3⟩ := cells4 (Bx.four X5.out (.slice b0 l.length q0) (.slice b1 r.length q1) (.int .i64 t) (.slice b2 f.length q2))
          go_wp2_with fail
          refine bodyPost_ret (v := .tuple #[.agg #[.slice b0 l.length q0, .slice b1 r.length q1, .int .i64 t, .slice b2 f.length q2], .int .i64 0, .int .i64 1]) (by simp [results, Try.results12, go_sem, e0, e1, e2, e3]) rfl ⟨_, rfl, ?_, ?_⟩
          · refine model_end (modelK.cap_wide C5.out (fun i _ hi => hi.1)) (b := w.heap.size + 1) hlt (by omega) ?_
            iterate 4 refine Turn.set (F := fun k => k = w.heap.size + 1) ?_ rfl _
            exact Turn.refl _ _
          · iterate 4 refine Below.setCell ?_ (by first | omega | (dsimp only; omega)) _
            exact HB5.out
end Go.Proofs.Ytbhmfjblmcppbaa.KD
