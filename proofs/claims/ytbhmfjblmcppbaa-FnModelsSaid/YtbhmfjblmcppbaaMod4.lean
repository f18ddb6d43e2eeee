
/-
  A beat: the program's ModelDo.
-/
import Derived.Test.YtbhmfjblmcppbaaMod3
namespace Go.Proofs.Ytbhmfjblmcppbaa.KD
open Go.RowKit Rows3 GR Num
set_option linter.unusedVariables false

theorem doD_same {wr : Bool} {a v : Int} {r : List Int} {t : Int} {f : List Int} (h : (doD wr a v r t f).2.2 = false) : (doD wr a v r t f).1 = (r, t, f) := by
  unfold doD doW doR at h ⊢
  split at h
  · rename_i h1; rw [if_pos h1]
  · rename_i h1
    rw [if_neg h1]
    split at h
    · rename_i h2
      rw [if_pos h2]
      split at h
      · rename_i h3; rw [if_pos h3]
      · split at h
        · cases h
        · split at h
          · cases h
          · split at h
            · cases h
            · rename_i h3 h4 h5 h6; rw [if_neg h3, if_neg h4, if_neg h5, if_neg h6]
    · rename_i h2
      rw [if_neg h2]
      split at h
      · cases h
      · split at h
        · cases h
        · split at h
          · cases h
          · rename_i h3 h4 h5; rw [if_neg h3, if_neg h4, if_neg h5]
theorem doB_same {wr : Bool} {a k v : Int} {l r : List Int} {t : Int} {f : List Int} (h : (doB wr a k v l r t f).2.2 = false) : (doB wr a k v l r t f).1 = (l, (r, t, f)) := by
  by_cases h1 : slaveW a = 1 ∨ slaveW a = 2
  · cases wr with
    | true => rw [doB_w h1] at h ⊢; show (putW l a k v, _) = _; rw [putW_no h]
    | false => rw [doB_r h1]
  · by_cases h2 : slaveW a = 3 ∧ k = 2
    · obtain ⟨h2, rfl⟩ := h2
      rw [doB_d h2] at h ⊢
      show (l, _) = _
      rw [doD_same h]
    · rw [doB_no h1 h2]
/-- what ModelDo returns. -/
def doM (wr : Bool) (a k v : Int) (l r : List Int) (t : Int) (f : List Int) : ModX × Int × Int :=
  if okM l r t f = true ∧ (doB wr a k v l r t f).2.2 = true then ((doB wr a k v l r t f).1, (doB wr a k v l r t f).2.1, 0) else ((l, (r, t, f)), 0, 1)
theorem doM_bad {wr : Bool} {a k v : Int} {l r : List Int} {t : Int} {f : List Int} (h : okM l r t f = false) : doM wr a k v l r t f = ((l, (r, t, f)), 0, 1) := by
  unfold doM; rw [if_neg (by rw [h]; simp)]
theorem doM_no {wr : Bool} {a k v : Int} {l r : List Int} {t : Int} {f : List Int} (h : (doB wr a k v l r t f).2.2 = false) : doM wr a k v l r t f = ((l, (r, t, f)), 0, 1) := by
  unfold doM; rw [if_neg (by rw [h]; simp)]
theorem doM_yes {wr : Bool} {a k v : Int} {l r : List Int} {t : Int} {f : List Int} (h : okM l r t f = true) (h2 : (doB wr a k v l r t f).2.2 = true) : doM wr a k v l r t f = ((doB wr a k v l r t f).1, (doB wr a k v l r t f).2.1, 0) := if_pos ⟨h, h2⟩
/-- a model of the call's own, two numbers. -/
def MPost (B : Nat) (d : ModX × Int × Int) (w : World) (e : Ending) (w' : World) : Prop :=
  ∃ us, e = .returned (.tuple #[agg us, .int .i64 d.2.1, .int .i64 d.2.2]) ∧ modelK.cap (fun k => B ≤ k) us d.1 w' ∧ Below B w w'
set_option maxHeartbeats 8000000 in
set_option maxRecDepth 100000 in
theorem implModelDo (cs : List Value) (wr : Bool) (a k v : Int) (l r : List Int) (t : Int) (f : List Int) (hl : l.length ≤ 2000000) (hr : r.length ≤ 2000000) (hf : f.length ≤ 2000000) (w : World) (h : modelK.rd cs (l, (r, t, f)) w) :
    Calls Try.prog 11 #[agg cs, .bool wr, .int .i64 a, .int .i64 k, .int .i64 v] w (MPost w.heap.size (doM wr a k v l r t f) w) := by
  obtain ⟨a0, p0, a1, p1, a2, p2, rfl, _, _⟩ := rd_model h
  have H := Lib.hid h
  have hlr := Lib.hid hr
  have hlf := Lib.hid hf
  have hll := Lib.hid hl
  have hsz : ∀ (w : World) o, (w.alloc o).heap.size = w.heap.size + 1 := fun w o => by simp
  have A0 := Lib.hid ((Bx.new 28 #[.slice a0 l.length p0, .slice a1 r.length p1, .int .i64 t, .slice a2 f.length p2] w).alloc (Obj.cells #[.slice none 0 0, .slice none 0 0, .int .i64 0, .slice none 0 0] 28))
  have B0 := Bx.new 28 #[.slice none 0 0, .slice none 0 0, .int .i64 0, .slice none 0 0] (w.alloc (Obj.cells #[.slice a0 l.length p0, .slice a1 r.length p1, .int .i64 t, .slice a2 f.length p2] 28))
  rw [hsz] at B0
  have X0 := Lib.hid B0
  have HB0 := Lib.hid (((Below.refl w.heap.size w).alloc (Nat.le_refl _) (Obj.cells #[.slice a0 l.length p0, .slice a1 r.length p1, .int .i64 t, .slice a2 f.length p2] 28)).alloc (by simp) (Obj.cells #[.slice none 0 0, .slice none 0 0, .int .i64 0, .slice none 0 0] 28))
  clear B0 hsz h hr hf hl
  show Calls _ _ #[.agg #[.slice a0 l.length p0, .slice a1 r.length p1, .int .i64 t, .slice a2 f.length p2], .bool wr, .int .i64 a, .int .i64 k, .int .i64 v] w _
  obtain ⟨O, hO⟩ : ∃ O, okM l r t f = O := ⟨_, rfl⟩
  have HO := Lib.hid hO
  obtain ⟨D, hD⟩ : ∃ D, doB wr a k v l r t f = D := ⟨_, rfl⟩
  have HD := Lib.hid hD
  obtain ⟨⟨l', r', t', f'⟩, N, K⟩ := D
  obtain ⟨R, hR⟩ : ∃ R, doM wr a k v l r t f = R := ⟨_, rfl⟩
  have HR := Lib.hid hR
  rw [hR]
  clear hO hD hR
  go_enter Try.func11, Try.ntmps11
  go_wp2_with fail
  generalize (w.alloc (Obj.cells #[.slice a0 l.length p0, .slice a1 r.length p1, .int .i64 t, .slice a2 f.length p2] 28)).alloc (Obj.cells #[.slice none 0 0, .slice none 0 0, .int .i64 0, .slice none 0 0] 28) = y0 at A0 X0 HB0 ⊢
  refine (implCopyModel [.slice a0 l.length p0, .slice a1 r.length p1, .int .i64 t, .slice a2 f.length p2] l r t f hll.out hlr.out hlf.out _ (modelK.rd_later H.out HB0.out)).mono ?_
  rintro e y1 ⟨us, he, hc, hb⟩
  obtain ⟨b0, q0, b1, q1, b2, q2, rfl, _, _, _⟩ := model_form (modelK.cap_rd hc)
  obtain rfl : e = .returned (.agg #[.slice b0 l.length q0, .slice b1 r.length q1, .int .i64 t, .slice b2 f.length q2]) := he
  have ab := (Below.refl y1.heap.size y1).alloc (Nat.le_refl _) (Obj.cells #[.slice b0 l.length q0, .slice b1 r.length q1, .int .i64 t, .slice b2 f.length q2] 28)
  have A1 := Lib.hid ((A0.out.later hb).later ab)
  have X1 := Lib.hid ((X0.out.later hb).later ab)
  have N1 := Lib.hid (Bx.new 28 #[.slice b0 l.length q0, .slice b1 r.length q1, .int .i64 t, .slice b2 f.length q2] y1)
  have HB1 := Lib.hid ((HB0.out.trans (hb.mono HB0.out.size)).trans (ab.mono (Nat.le_trans HB0.out.size hb.size)))
  have C1 := Lib.hid (modelK.cap_later (modelK.cap_top hc) ab)
  have hlt : w.heap.size + 1 < y0.heap.size := X0.out.lt
  have hlt1 : y0.heap.size ≤ y1.heap.size := hb.size
  obtain ⟨g0, g1, g2, g3⟩ := cells4 (A0.out.later hb)
  obtain ⟨j0, j1, j2, j3⟩ := cells4 A1.out
  clear hc hb ab
  obtain ⟨b, hbb⟩ : ∃ b, y1.heap.size = b := ⟨_, rfl⟩
  go_wp2_with fail
  clear g0 g1 g2 g3 j0 j1 j2 j3
  generalize y1.alloc (Obj.cells #[.slice b0 l.length q0, .slice b1 r.length q1, .int .i64 t, .slice b2 f.length q2] 28) = y2 at A1 X1 N1 HB1 C1 ⊢
  refine (implModelOk [.slice a0 l.length p0, .slice a1 r.length p1, .int .i64 t, .slice a2 f.length p2] l r t f hll.out hlr.out hlf.out _ (modelK.rd_later H.out HB1.out)).mono ?_
  rintro e y3 ⟨rfl, hb⟩
  rw [HO.out]
  have N3 := Lib.hid (N1.out.later hb)
  have X3 := Lib.hid (X1.out.later hb)
  have HB3 := Lib.hid (HB1.out.trans (hb.mono HB1.out.size))
  have C3 := Lib.hid (modelK.cap_later C1.out hb)
  rw [hbb] at N3 C3 hlt1
  obtain ⟨g0, g1, g2, g3⟩ := cells4 N3.out
  clear hb hbb A0 A1 N1 X0 X1 HB0 HB1 C1 H
  cases O with
  | false =>
    obtain rfl : R = ((l, (r, t, f)), 0, 1) := HR.out.symm.trans (doM_bad HO.out)
    obtain ⟨k0, k1, k2, k3⟩ := cells4 X3.out
    obtain ⟨z0, z1, z2, z3⟩ := warm4 X3.out
    obtain ⟨e0, e1, e2, e3⟩ := cells4 (Bx.four X3.out (.slice b0 l.length q0) (.slice b1 r.length q1) (.int .i64 t) (.slice b2 f.length q2))
    go_wp2_with fail
    refine bodyPost_ret (v := .tuple #[.agg #[.slice b0 l.length q0, .slice b1 r.length q1, .int .i64 t, .slice b2 f.length q2], .int .i64 0, .int .i64 1]) (by simp [results, Try.results11, go_sem, e0, e1, e2, e3]) rfl ⟨_, rfl, ?_, ?_⟩
    · refine model_end (modelK.cap_wide C3.out (fun i _ hi => hi.1)) (b := w.heap.size + 1) hlt (by omega) ?_
      iterate 4 refine Turn.set (F := fun k => k = w.heap.size + 1) ?_ rfl _
      exact Turn.refl _ _
    · iterate 4 refine Below.setCell ?_ (by first | omega | (dsimp only; omega)) _
      exact HB3.out
  | true =>
    have hb3 : b < y3.heap.size := N3.out.lt
    go_wp2_with fail
    refine (implDoBeat _ [.slice b0 l.length q0, .slice b1 r.length q1, .int .i64 t, .slice b2 f.length q2] wr a k v l r t f hll.out hlr.out hlf.out _ C3.out).mono ?_
    rw [HD.out]
    rintro e y4 ⟨us, he, hc, hb⟩
    obtain ⟨c0, s0, c1, s1, c2, s2, rfl, _, _, _⟩ := model_form (modelK.cap_rd hc)
    obtain rfl : e = .returned (.tuple #[.agg #[.slice c0 l'.length s0, .slice c1 r'.length s1, .int .i64 t', .slice c2 f'.length s2], .int .i64 N, .bool K]) := he
    have N4 := N3.out.later hb
    have X4 := X3.out.later hb
    have HB4 := Lib.hid (HB3.out.trans (hb.mono HB3.out.size))
    have HU := Lib.hid hc
    clear g0 g1 g2 g3
    obtain ⟨g0, g1, g2, g3⟩ := cells4 N4
    obtain ⟨y0', y1', y2', y3'⟩ := warm4 N4
    have hne : ¬ w.heap.size + 1 = b := by omega
    have NN := Bx.four N4 (.slice c0 l'.length s0) (.slice c1 r'.length s1) (.int .i64 t') (.slice c2 f'.length s2)
    obtain ⟨j0, j1, j2, j3⟩ := cells4 NN
    have XX := (((X4.far (p := ⟨b, 0, none⟩) hne (.slice c0 l'.length s0)).far (p := ⟨b, 1, none⟩) hne (.slice c1 r'.length s1)).far (p := ⟨b, 2, none⟩) hne (.int .i64 t')).far (p := ⟨b, 3, none⟩) hne (.slice c2 f'.length s2)
    obtain ⟨k0, k1, k2, k3⟩ := cells4 XX
    obtain ⟨z0, z1, z2, z3⟩ := warm4 XX
    obtain ⟨e0, e1, e2, e3⟩ := cells4 (Bx.four XX (.slice c0 l'.length s0) (.slice c1 r'.length s1) (.int .i64 t') (.slice c2 f'.length s2))
    have last : ∀ (y5 : World), Turn (fun i => i = w.heap.size + 1 ∨ i = b) y4 y5 → modelK.cap (fun i => w.heap.size ≤ i) [.slice c0 l'.length s0, .slice c1 r'.length s1, .int .i64 t', .slice c2 f'.length s2] (l', (r', t', f')) y5 := fun y5 ht =>
      modelK.cap_wide (modelK.cap_turn HU.out ht (fun i _ h1 h2 => by rcases h1 with ⟨h3, h4⟩ | h1 <;> omega)) (fun i _ hi => by rcases hi with ⟨h3, h4⟩ | h1 <;> omega)
    have Last := Lib.hid last
    clear hc hb N4 X4 NN XX last
    cases K with
    | true =>
      obtain rfl : R = ((l', (r', t', f')), N, 0) := by rw [← HR.out, doM_yes HO.out (by rw [HD.out]), HD.out]
      go_wp2_with fail
      refine bodyPost_ret (v := .tuple #[.agg #[.slice c0 l'.length s0, .slice c1 r'.length s1, .int .i64 t', .slice c2 f'.length s2], .int .i64 N, .int .i64 0]) (by simp [results, Try.results11, go_sem, e0, e1, e2, e3]) rfl ⟨_, rfl, Last.out _ ?_, ?_⟩
      · iterate 4 refine Turn.set (F := fun k => k = w.heap.size + 1 ∨ k = b) ?_ (.inl rfl) _
        iterate 4 refine Turn.set (F := fun k => k = w.heap.size + 1 ∨ k = b) ?_ (.inr rfl) _
        exact Turn.refl _ _
      · iterate 8 refine Below.setCell ?_ (by first | omega | (dsimp only; omega)) _
        exact HB4.out
    | false =>
      have hR : R = ((l, (r, t, f)), 0, 1) := HR.out.symm.trans (doM_no (by rw [HD.out]))
      have hS : ((l', (r', t', f')) : ModX) = (l, (r, t, f)) := by have h := doB_same (wr := wr) (a := a) (k := k) (v := v) (l := l) (r := r) (t := t) (f := f) (by rw [HD.out]); rw [HD.out] at h; exact h
      obtain rfl : R = ((l', (r', t', f')), 0, 1) := by rw [hR, hS]
      go_wp2_with fail
      refine bodyPost_ret (v := .tuple #[.agg #[.slice c0 l'.length s0, .slice c1 r'.length s1, .int .i64 t', .slice c2 f'.length s2], .int .i64 0, .int .i64 1]) (by simp [results, Try.results11, go_sem, e0, e1, e2, e3]) rfl ⟨_, rfl, Last.out _ ?_, ?_⟩
      · iterate 4 refine Turn.set (F := fun k => k = w.heap.size + 1 ∨ k = b) ?_ (.inl rfl) _
        iterate 4 refine Turn.set (F := fun k => k = w.heap.size + 1 ∨ k = b) ?_ (.inr rfl) _
        exact Turn.refl _ _
      · iterate 8 refine Below.setCell ?_ (by first | omega | (dsimp only; omega)) _
        exact HB4.out
end Go.Proofs.Ytbhmfjblmcppbaa.KD
