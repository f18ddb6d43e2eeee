
/-
  A word of the device read or written: the program's DevDo.
-/
import Derived.Test.YtbhmfjblmcppbaaDev6
namespace Go.Proofs.Ytbhmfjblmcppbaa.KD
open Go.RowKit Rows3 GR Num
set_option linter.unusedVariables false

theorem doD_bad {wr : Bool} {a v : Int} {r : List Int} {t : Int} {f : List Int} (h : okD r t f = false) : doD wr a v r t f = ((r, t, f), 0, false) := if_pos h
theorem doD_w {a v : Int} {r : List Int} {t : Int} {f : List Int} (h : okD r t f = true) : doD true a v r t f = doW a v r t f := by
  unfold doD; rw [if_neg (by rw [h]; simp), if_pos rfl]
theorem doD_r {a v : Int} {r : List Int} {t : Int} {f : List Int} (h : okD r t f = true) : doD false a v r t f = doR a r t f := by
  unfold doD; rw [if_neg (by rw [h]; simp), if_neg (by simp)]
theorem okD_facts {r : List Int} {t : Int} {f : List Int} (h : okD r t f = true) : r.length = 4 ∧ f.length ≤ 4 ∧ 0 ≤ t ∧ t < 4294967296 := by
  unfold okD at h
  simp only [Bool.and_eq_true, beq_iff_eq, decide_eq_true_eq] at h
  obtain ⟨h1, _, h3, h4, _⟩ := h
  have := (wordB_iff t).1 h3
  exact ⟨by omega, by omega, this.1, this.2⟩
set_option maxHeartbeats 8000000 in
set_option maxRecDepth 100000 in
theorem implDevDo (cs : List Value) (wr : Bool) (a v : Int) (r : List Int) (t : Int) (f : List Int) (hr : r.length ≤ 2000000) (hf : f.length ≤ 2000000) (w : World) (h : devK.rd cs (r, t, f) w) :
    Calls Try.prog 68 #[agg cs, .bool wr, .int .i64 a, .int .i64 v] w (DoPost w.heap.size (doD wr a v r t f) w) := by
  obtain ⟨c0, q0, c2, q2, rfl, _, _, _, _⟩ := rd_dev h
  obtain ⟨n, hn⟩ : ∃ n, r.length = n := ⟨_, rfl⟩
  obtain ⟨m, hm⟩ : ∃ m, f.length = m := ⟨_, rfl⟩
  rw [hn, hm] at h ⊢
  have HN := Lib.hid hn
  have HM := Lib.hid hm
  have hlr := Lib.hid hr
  have hlf := Lib.hid hf
  have H := Lib.hid h
  clear h hn hm hr hf
  have hsz : ∀ (w : World) o, (w.alloc o).heap.size = w.heap.size + 1 := fun w o => by simp
  have A0 := Lib.hid ((Bx.new 26 #[.slice c0 n q0, .int .i64 t, .slice c2 m q2] w).alloc (Obj.cells #[.slice none 0 0, .int .i64 0, .slice none 0 0] 26))
  have B0 := Bx.new 26 #[.slice none 0 0, .int .i64 0, .slice none 0 0] (w.alloc (Obj.cells #[.slice c0 n q0, .int .i64 t, .slice c2 m q2] 26))
  rw [hsz] at B0
  have X0 := Lib.hid B0
  have HB0 := Lib.hid (((Below.refl w.heap.size w).alloc (Nat.le_refl _) (Obj.cells #[.slice c0 n q0, .int .i64 t, .slice c2 m q2] 26)).alloc (by simp) (Obj.cells #[.slice none 0 0, .int .i64 0, .slice none 0 0] 26))
  clear B0 hsz
  have head : ∀ (Q : Ending → World → Prop), True := fun _ => trivial
  obtain ⟨O, hO⟩ : ∃ O, okD r t f = O := ⟨_, rfl⟩
  have HO := Lib.hid hO
  clear head
  cases O with
  | false =>
    rw [doD_bad hO]
    clear hO
    show Calls _ _ #[.agg #[.slice c0 n q0, .int .i64 t, .slice c2 m q2], .bool wr, .int .i64 a, .int .i64 v] w _
    go_enter Try.func68, Try.ntmps68
    go_wp2_with fail
    generalize (w.alloc (Obj.cells #[.slice c0 n q0, .int .i64 t, .slice c2 m q2] 26)).alloc (Obj.cells #[.slice none 0 0, .int .i64 0, .slice none 0 0] 26) = y0 at A0 X0 HB0 ⊢
    refine (implCopyDev [.slice c0 n q0, .int .i64 t, .slice c2 m q2] r t f hlr.out hlf.out _ (devK.rd_later H.out HB0.out)).mono ?_
    rintro e y1 ⟨rv, fv, rfl, ho, hb⟩
    obtain ⟨a0, p0, e0⟩ := ho.1.slice
    obtain ⟨a2, p2, e2⟩ := ho.2.1.slice
    rw [HN.out] at e0
    rw [HM.out] at e2
    subst e0 e2
    have ab := (Below.refl y1.heap.size y1).alloc (Nat.le_refl _) (Obj.cells #[.slice a0 n p0, .int .i64 t, .slice a2 m p2] 26)
    have A1 := Lib.hid ((A0.out.later hb).later ab)
    have X1 := Lib.hid ((X0.out.later hb).later ab)
    have N1 := Lib.hid (Bx.new 26 #[.slice a0 n p0, .int .i64 t, .slice a2 m p2] y1)
    have HB1 := Lib.hid ((HB0.out.trans (hb.mono HB0.out.size)).trans (ab.mono (Nat.le_trans HB0.out.size hb.size)))
    have O1 := Lib.hid (ho.later ab)
    have Hz := Lib.hid hb.size
    obtain ⟨g0, g1, g2⟩ := cells3 (A0.out.later hb)
    obtain ⟨j0, j1, j2⟩ := cells3 A1.out
    clear ho hb ab
    go_wp2_with fail
    clear g0 g1 g2 j0 j1 j2
    generalize y1.alloc (Obj.cells #[.slice a0 n p0, .int .i64 t, .slice a2 m p2] 26) = y2 at A1 X1 N1 HB1 O1 ⊢
    refine (implDevOk [.slice c0 n q0, .int .i64 t, .slice c2 m q2] r t f hlr.out hlf.out _ (devK.rd_later H.out HB1.out)).mono ?_
    rintro e y3 ⟨rfl, hb⟩
    rw [HO.out]
    obtain ⟨g0, g1, g2⟩ := cells3 (N1.out.later hb)
    obtain ⟨k0, k1, k2⟩ := cells3 (X1.out.later hb)
    have z0 := (X1.out.later hb).warm 0
    have z1 := (X1.out.later hb).warm 1
    have z2 := (X1.out.later hb).warm 2
    have X3 := Lib.hid (X1.out.later hb)
    have HB3 := Lib.hid (HB1.out.trans (hb.mono HB1.out.size))
    have O3 := Lib.hid (O1.out.later hb)
    have hlt : w.heap.size + 1 < y0.heap.size := X0.out.lt
    clear hb
    go_wp2_with fail
    obtain ⟨e0, e1, e2⟩ := cells3 (Bx.three X3.out (.slice a0 n p0) (.int .i64 t) (.slice a2 m p2))
    refine bodyPost_ret (v := .tuple #[.agg #[.slice a0 n p0, .int .i64 t, .slice a2 m p2], .int .i64 0, .bool false]) (by simp [results, Try.results68, go_sem, e0, e1, e2]) rfl ⟨_, rfl, ?_, ?_⟩
    · refine ((OwnDev.turn O3.out (G := fun k => k = w.heap.size + 1) ?_ (fun k h1 h2 h3 => by omega)).mono (by omega)).cap hlr.out hlf.out
      iterate 3 refine Turn.set (F := fun k => k = w.heap.size + 1) ?_ rfl _
      exact Turn.refl _ _
    · iterate 3 refine Below.setCell ?_ (by first | omega | (dsimp only; omega)) _
      exact HB3.out
  | true =>
    obtain ⟨hr4, hf4, ht0, ht1⟩ := okD_facts hO
    have HR4 := Lib.hid hr4
    have HF4 := Lib.hid hf4
    obtain ⟨D, hD⟩ : ∃ D, doD wr a v r t f = D := ⟨_, rfl⟩
    have HDw : Hid (wr = true → doW a v r t f = D) := Lib.hid (fun e => by rw [← hD, e, doD_w hO])
    have HDr : Hid (wr = false → doR a r t f = D) := Lib.hid (fun e => by rw [← hD, e, doD_r hO])
    rw [hD]
    clear hO hr4 hf4 hD
    obtain ⟨⟨r', t', f'⟩, N, K⟩ := D
    show Calls _ _ #[.agg #[.slice c0 n q0, .int .i64 t, .slice c2 m q2], .bool wr, .int .i64 a, .int .i64 v] w _
    go_enter Try.func68, Try.ntmps68
    go_wp2_with fail
    generalize (w.alloc (Obj.cells #[.slice c0 n q0, .int .i64 t, .slice c2 m q2] 26)).alloc (Obj.cells #[.slice none 0 0, .int .i64 0, .slice none 0 0] 26) = y0 at A0 X0 HB0 ⊢
    refine (implCopyDev [.slice c0 n q0, .int .i64 t, .slice c2 m q2] r t f hlr.out hlf.out _ (devK.rd_later H.out HB0.out)).mono ?_
    rintro e y1 ⟨rv, fv, rfl, ho, hb⟩
    obtain ⟨a0, p0, e0⟩ := ho.1.slice
    obtain ⟨a2, p2, e2⟩ := ho.2.1.slice
    rw [HN.out] at e0
    rw [HM.out] at e2
    subst e0 e2
    have ab := (Below.refl y1.heap.size y1).alloc (Nat.le_refl _) (Obj.cells #[.slice a0 n p0, .int .i64 t, .slice a2 m p2] 26)
    have A1 := Lib.hid ((A0.out.later hb).later ab)
    have X1 := Lib.hid ((X0.out.later hb).later ab)
    have N1 := Lib.hid (Bx.new 26 #[.slice a0 n p0, .int .i64 t, .slice a2 m p2] y1)
    have HB1 := Lib.hid ((HB0.out.trans (hb.mono HB0.out.size)).trans (ab.mono (Nat.le_trans HB0.out.size hb.size)))
    have O1 := Lib.hid (ho.later ab)
    have Hz := Lib.hid (Nat.le_trans hb.size ab.size)
    obtain ⟨g0, g1, g2⟩ := cells3 (A0.out.later hb)
    obtain ⟨j0, j1, j2⟩ := cells3 A1.out
    clear ho hb ab
    go_wp2_with fail
    clear g0 g1 g2 j0 j1 j2
    generalize y1.alloc (Obj.cells #[.slice a0 n p0, .int .i64 t, .slice a2 m p2] 26) = y2 at A1 X1 N1 HB1 O1 Hz ⊢
    refine (implDevOk [.slice c0 n q0, .int .i64 t, .slice c2 m q2] r t f hlr.out hlf.out _ (devK.rd_later H.out HB1.out)).mono ?_
    rintro e y3 ⟨rfl, hb⟩
    rw [HO.out]
    obtain ⟨g0, g1, g2⟩ := cells3 (N1.out.later hb)
    have X3 := Lib.hid (X1.out.later hb)
    have HB3 := Lib.hid (HB1.out.trans (hb.mono HB1.out.size))
    have O3 := Lib.hid (O1.out.later hb)
    have Hz3 := Lib.hid (Nat.le_trans Hz.out hb.size)
    have hlt : w.heap.size + 1 < y0.heap.size := X0.out.lt
    clear hb
    have done : ∀ (us : List Value) (y4 : World), devK.cap (fun k => y0.heap.size ≤ k) us (r', t', f') y4 → Below y0.heap.size y3 y4 → ∃ b0 s0 b2 s2, us = [.slice b0 r'.length s0, .int .i64 t', .slice b2 f'.length s2] ∧ Hid (devK.cap (fun k => y0.heap.size ≤ k) us (r', t', f') y4) ∧ Hid (Bx 26 (w.heap.size + 1) #[.slice none 0 0, .int .i64 0, .slice none 0 0] y4) ∧ Hid (Below w.heap.size w y4) := by
      intro us y4 hc hb
      obtain ⟨b0, s0, b2, s2, e, _, _⟩ := dev_form (devK.cap_rd hc)
      exact ⟨b0, s0, b2, s2, e, hc, X3.out.below hb hlt, HB3.out.trans (hb.mono (by omega))⟩
    cases wr with
    | true =>
      have HD := Lib.hid (HDw.out rfl)
      clear HDw HDr
      go_wp2_with fail
      refine (implWriteDev y0.heap.size (.slice a0 n p0) (.slice a2 m p2) r t f a v HR4.out HF4.out _ Hz3.out O3.out).mono ?_
      rw [HD.out]
      rintro e y4 ⟨us, he, hc, hb⟩
      obtain ⟨b0, s0, b2, s2, rfl, HC, X4, HB4⟩ := done us y4 hc hb
      obtain rfl : e = .returned (.tuple #[.agg #[.slice b0 r'.length s0, .int .i64 t', .slice b2 f'.length s2], .int .i64 N, .bool K]) := he
      obtain ⟨k0, k1, k2⟩ := cells3 X4.out
      have z0 := X4.out.warm 0
      have z1 := X4.out.warm 1
      have z2 := X4.out.warm 2
      clear hc hb done g0 g1 g2
      go_wp2_with fail
      obtain ⟨e0, e1, e2⟩ := cells3 (Bx.three X4.out (.slice b0 r'.length s0) (.int .i64 t') (.slice b2 f'.length s2))
      refine bodyPost_ret (v := .tuple #[.agg #[.slice b0 r'.length s0, .int .i64 t', .slice b2 f'.length s2], .int .i64 N, .bool K]) (by simp [results, Try.results68, go_sem, e0, e1, e2]) rfl ⟨_, rfl, ?_, ?_⟩
      · refine devK.cap_wide (devK.cap_turn HC.out (G := fun k => k = w.heap.size + 1) ?_ (fun k _ h1 h2 => by omega)) (fun k _ hk => by omega)
        iterate 3 refine Turn.set (F := fun k => k = w.heap.size + 1) ?_ rfl _
        exact Turn.refl _ _
      · iterate 3 refine Below.setCell ?_ (by first | omega | (dsimp only; omega)) _
        exact HB4.out
    | false =>
      have HD := Lib.hid (HDr.out rfl)
      clear HDw HDr
      go_wp2_with fail
      refine (implReadDev y0.heap.size (.slice a0 n p0) (.slice a2 m p2) r t f a HR4.out HF4.out ht0 ht1 _ Hz3.out O3.out).mono ?_
      rw [HD.out]
      rintro e y4 ⟨us, he, hc, hb⟩
      obtain ⟨b0, s0, b2, s2, rfl, HC, X4, HB4⟩ := done us y4 hc hb
      obtain rfl : e = .returned (.tuple #[.agg #[.slice b0 r'.length s0, .int .i64 t', .slice b2 f'.length s2], .int .i64 N, .bool K]) := he
      obtain ⟨k0, k1, k2⟩ := cells3 X4.out
      have z0 := X4.out.warm 0
      have z1 := X4.out.warm 1
      have z2 := X4.out.warm 2
      clear hc hb done g0 g1 g2
      go_wp2_with fail
      obtain ⟨e0, e1, e2⟩ := cells3 (Bx.three X4.out (.slice b0 r'.length s0) (.int .i64 t') (.slice b2 f'.length s2))
      refine bodyPost_ret (v := .tuple #[.agg #[.slice b0 r'.length s0, .int .i64 t', .slice b2 f'.length s2], .int .i64 N, .bool K]) (by simp [results, Try.results68, go_sem, e0, e1, e2]) rfl ⟨_, rfl, ?_, ?_⟩
      · refine devK.cap_wide (devK.cap_turn HC.out (G := fun k => k = w.heap.size + 1) ?_ (fun k _ h1 h2 => by omega)) (fun k _ hk => by omega)
        iterate 3 refine Turn.set (F := fun k => k = w.heap.size + 1) ?_ rfl _
        exact Turn.refl _ _
      · iterate 3 refine Below.setCell ?_ (by first | omega | (dsimp only; omega)) _
        exact HB4.out
end Go.Proofs.Ytbhmfjblmcppbaa.KD
