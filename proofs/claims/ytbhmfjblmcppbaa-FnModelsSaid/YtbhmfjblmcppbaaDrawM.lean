
/-
  The models that are drawn: spec.l9Model.
-/
import Derived.Test.YtbhmfjblmcppbaaMod6
import Derived.Test.YtbhmfjblmcppbaaDrawD3
import Derived.Deep.RegionLaw
namespace Go.Proofs.Ytbhmfjblmcppbaa.Cur
open Go.RowKit Bytes Num GR KD Rows3
set_option linter.unusedVariables false

/-- the parts of a model whose struct lies in block b; its memory has n cells. -/
def PartM (B b n : Nat) (us : List Value) (w : World) : Prop := ∃ l r t f, l.length = n ∧ r.length ≤ 4 ∧ f.length ≤ 5 ∧ modelK.cap (fun k => B ≤ k ∧ k ≠ b) us (l, (r, t, f)) w
theorem PartM.only {B b n c : Nat} {us : List Value} {w w' : World} (h : PartM B b n us w) (hO : Only c w w') (hc : c < B) : PartM B b n us w' := by
  obtain ⟨l, r, t, f, hl, hr, hf, h⟩ := h; exact ⟨l, r, t, f, hl, hr, hf, cap_only modelK h hO (fun hh => by omega)⟩
theorem PartM.later {B b n : Nat} {us : List Value} {w w' : World} (h : PartM B b n us w) (hb : Below w.heap.size w w') : PartM B b n us w' := by
  obtain ⟨l, r, t, f, hl, hr, hf, h⟩ := h; exact ⟨l, r, t, f, hl, hr, hf, modelK.cap_later h hb⟩
theorem PartM.setb {B b n : Nat} {us : List Value} {w : World} (h : PartM B b n us w) (o : Nat) (u : Value) : PartM B b n us (w.setCell ⟨b, o, none⟩ u) := by
  obtain ⟨l, r, t, f, hl, hr, hf, h⟩ := h; exact ⟨l, r, t, f, hl, hr, hf, modelK.cap_set h (fun hh => hh.2 rfl) u⟩
theorem PartM.set0 {B b n : Nat} {us : List Value} {w : World} (h : PartM B b n us w) {p : Addr} (hp : p.block < B) (u : Value) : PartM B b n us (w.setCell p u) := by
  obtain ⟨l, r, t, f, hl, hr, hf, h⟩ := h; exact ⟨l, r, t, f, hl, hr, hf, modelK.cap_set h (fun hh => by omega) u⟩
theorem PartM.form {B b n : Nat} {us : List Value} {w : World} (h : PartM B b n us w) : ∃ a0 p0 a1 n1 p1 t a2 n2 p2, us = [.slice a0 n p0, .slice a1 n1 p1, .int .i64 t, .slice a2 n2 p2] := by
  obtain ⟨l, r, t, f, rfl, hr, hf, h⟩ := h
  obtain ⟨a0, p0, a1, p1, a2, p2, rfl, _⟩ := model_form (modelK.cap_rd h)
  exact ⟨a0, p0, a1, _, p1, t, a2, _, p2, rfl⟩
/-- some data of a model's shape, in memory from B on. -/
def AnyM (B : Nat) (us : List Value) (w : World) : Prop := ∃ l r t f, l.length ≤ 192 ∧ r.length ≤ 4 ∧ f.length ≤ 5 ∧ modelK.cap (fun k => B ≤ k) us (l, (r, t, f)) w
theorem PartM.any {B B' b n : Nat} {us : List Value} {w : World} (h : PartM B b n us w) (hn : n ≤ 192) (hB : B' ≤ B) : AnyM B' us w := by
  obtain ⟨l, r, t, f, hl, hr, hf, h⟩ := h; exact ⟨l, r, t, f, by omega, hr, hf, modelK.cap_wide h (fun k _ hk => Nat.le_trans hB hk.1)⟩
/-- the memory's row. -/
theorem PartM.row {B b n : Nat} {v : Value} {us : List Value} {w : World} (h : PartM B b n (v :: us) w) (hn : 0 < n) :
    ∃ g o cp, v = .slice (some ⟨g, o, none⟩) n cp ∧ n ≤ cp ∧ cp ≤ 9223372036854775807 ∧ B ≤ g ∧ g ≠ b ∧ g < w.heap.size ∧ (∀ i, i < n → ∃ y, w.cell? ⟨g, o + i, none⟩ = some (.int .i64 y)) ∧ (∀ i, w.frozen? ⟨g, i, none⟩ = false) := by
  obtain ⟨l, r, t, f, hl, hr, hf, h⟩ := h
  obtain ⟨v', us', F1, F2, e, h0, h1, s1, s2, hd⟩ := own_model h
  cases e
  rcases cap_raw h0 with ⟨rfl, _⟩ | ⟨g, o, cp, e, hbd, hraw⟩
  · cases hl; cases hn
  · cases e
    obtain ⟨hF, xs, T, hg, hroom, hx⟩ := hraw
    rw [hl] at hbd ⊢
    refine ⟨g, o, cp, rfl, hbd.1, hbd.2, (s1 g hF).1, (s1 g hF).2, (Array.getElem?_eq_some_iff.1 hg).1, fun i hi => ?_, fun i => RawI.warm (l := l) ⟨hF, xs, T, hg, hroom, hx⟩ i⟩
    exact ⟨_, RawI.cell (l := l) ⟨hF, xs, T, hg, hroom, hx⟩ (some_getD (by omega))⟩
theorem PartM.put {B b n g o cp : Nat} {us : List Value} {w : World} (h : PartM B b n (.slice (some ⟨g, o, none⟩) n cp :: us) w) (hn : 0 < n) (i : Nat) (x : Int) :
    PartM B b n (.slice (some ⟨g, o, none⟩) n cp :: us) (w.setCell ⟨g, o + i, none⟩ (.int .i64 x)) := by
  obtain ⟨l, r, t, f, hl, hr, hf, h⟩ := h
  obtain ⟨v', us', F1, F2, e, h0, h1, s1, s2, hd⟩ := own_model h
  cases e
  rcases cap_raw h0 with ⟨rfl, _⟩ | ⟨g', o', cp', e, hbd, hraw⟩
  · cases hl; cases hn
  · simp at e
    obtain ⟨⟨rfl, rfl⟩, _, rfl⟩ := e
    have hF := hraw.1
    refine ⟨l.set i x, r, t, f, by rw [List.length_set]; exact hl, hr, hf, modelF (RawI.cap (RawI.set hraw i x) (by rw [List.length_set]; exact hl) (by rw [← hl]; exact hbd)) (devK.cap_set h1 (fun hh => hd _ hF hh) _) s1 s2 hd⟩
theorem SomeD.any {B : Nat} {us : List Value} {w : World} (h : SomeD B us w) : AnyD B us w := by
  obtain ⟨r, t, f, hr, hf, hc⟩ := h; exact ⟨r, t, f, by omega, by omega, hc⟩
/-- another device in the model. -/
theorem PartM.dev {B b n c : Nat} {v : Value} {us us' : List Value} {w w' : World} (h : PartM B b n (v :: us) w) (hO : Only c w w') (hc : c < B) (hb : b < w.heap.size) (hB : B ≤ w.heap.size) (h' : AnyD w.heap.size us' w') : PartM B b n (v :: us') w' := by
  obtain ⟨l, r, t, f, hl, hr, hf, h⟩ := h
  obtain ⟨v', us', F1, F2, e, h0, h1, s1, s2, hd⟩ := own_model (modelK.cap_top h)
  cases e
  obtain ⟨r', t', f', hr', hf', h2⟩ := h'
  exact ⟨l, r', t', f', hl, hr', hf', modelF (cap_only ints h0 hO (fun hh => by have := (s1 c hh).1.1; omega)) h2 (fun k hk => (s1 k hk).1) (fun k hk => ⟨by omega, by omega⟩) (fun k hk hk2 => by have := (s1 k hk).2; omega)⟩
theorem PartM.top {B B' b n : Nat} {us : List Value} {w : World} (h : PartM B b n us w) (hB : B' ≤ B) : PartM B' w.heap.size n us w := by
  obtain ⟨l, r, t, f, hl, hr, hf, h⟩ := h
  exact ⟨l, r, t, f, hl, hr, hf, modelK.cap_wide h (fun k hk hh => ⟨by omega, by omega⟩)⟩
def DrewM (D c n : Nat) (w : World) (e : Ending) (w' : World) : Prop := ∃ us, e = .returned (agg us) ∧ PartM w.heap.size w'.heap.size n us w' ∧ CuD D c w' ∧ Only c w w'
/-- what holds in the loop. -/
def LoopM (D c b : Nat) (w0 : World) (wr : World) : Prop :=
  ∃ g o p0 a1 n1 p1 t a2 n2 p2, Bx 28 b #[.slice (some ⟨g, o, none⟩) 192 p0, .slice a1 n1 p1, .int .i64 t, .slice a2 n2 p2] wr ∧ PartM (w0.heap.size + 1) b 192 [.slice (some ⟨g, o, none⟩) 192 p0, .slice a1 n1 p1, .int .i64 t, .slice a2 n2 p2] wr ∧ Bx 28 w0.heap.size #[.slice none 0 0, .slice none 0 0, .int .i64 0, .slice none 0 0] wr ∧ CuD D c wr ∧ Only c w0 wr
set_option maxHeartbeats 8000000 in
set_option maxRecDepth 100000 in
theorem model_any (D c : Nat) (w : World) (h : CuD D c w) : Calls Try.prog 63 #[.pointer (some ⟨c, 0, none⟩)] w (DrewM D c 192 w) := by
  have hD := h.le
  have hcD := h.lt
  have B0 := Bx.new 28 #[.slice none 0 0, .slice none 0 0, .int .i64 0, .slice none 0 0] w
  have hO0 := (Only.refl c w).alloc (.cells #[.slice none 0 0, .slice none 0 0, .int .i64 0, .slice none 0 0] 28)
  have hC0 := h.alloc (.cells #[.slice none 0 0, .slice none 0 0, .int .i64 0, .slice none 0 0] 28)
  go_enter Try.func63, Try.ntmps63
  go_wp2_with fail
  refine (specModelNew _).mono ?_
  rintro e w2 ⟨us, he, hc, hb⟩
  have hp : PartM (w.heap.size + 1) w2.heap.size 192 us w2 := ⟨_, _, _, _, by simp, by simp, by simp, modelK.cap_wide (modelK.cap_top hc) (fun k _ hk => ⟨by have := hk.1; simpa using this, by have := hk.2; omega⟩)⟩
  obtain ⟨a0, p0, a1, n1, p1, t, a2, n2, p2, rfl⟩ := hp.form
  obtain ⟨g, o, cp, e0, _⟩ := hp.row (by omega)
  simp at e0
  obtain ⟨rfl, rfl⟩ := e0
  obtain rfl : e = .returned (.agg #[.slice (some ⟨g, o, none⟩) 192 p0, .slice a1 n1 p1, .int .i64 t, .slice a2 n2 p2]) := he
  have hs2 : w.heap.size + 1 ≤ w2.heap.size := by have := hb.size; simpa using this
  have b3 := (Below.refl w2.heap.size w2).alloc (Nat.le_refl _) (.cells #[.slice (some ⟨g, o, none⟩) 192 p0, .slice a1 n1 p1, .int .i64 t, .slice a2 n2 p2] 28)
  have L0 : Hid (LoopM D c w2.heap.size w (w2.alloc (.cells #[.slice (some ⟨g, o, none⟩) 192 p0, .slice a1 n1 p1, .int .i64 t, .slice a2 n2 p2] 28))) :=
    Lib.hid ⟨g, o, p0, a1, n1, p1, t, a2, n2, p2, Bx.new _ _ _, hp.later b3, (B0.later hb).later b3, (hC0.below hb).below b3, (hO0.below2 hb).below2 b3⟩
  clear hc hb hp b3 B0 hO0 hC0 h
  go_wp2_with fail
  obtain ⟨b, hbb⟩ : ∃ b, w2.heap.size = b := ⟨_, rfl⟩
  rw [hbb] at L0 hs2
  generalize w2.alloc (.cells #[.slice (some ⟨g, o, none⟩) 192 p0, .slice a1 n1 p1, .int .i64 t, .slice a2 n2 p2] 28) = w3 at L0 ⊢
  obtain ⟨g, o, p0, a1, n1, p1, t, a2, n2, p2, X3, S3, R3, C3, N3⟩ := L0.out
  refine (belowC D c 5 (by omega) (by omega) _ C3).mono ?_
  rintro e w4 ⟨k, ⟨hk0, hk1⟩, rfl, hC4, hO4⟩
  have hcb : b ≠ c := by omega
  have hcb0 : w.heap.size ≠ c := by omega
  have L4 : Hid (LoopM D c b w w4) := Lib.hid ⟨g, o, p0, a1, n1, p1, t, a2, n2, p2, bx_only X3 hO4 hcb, S3.only hO4 (by omega), bx_only R3 hO4 hcb0, hC4, N3.trans hO4⟩
  clear X3 S3 R3 C3 N3 hC4 hO4 L0
  rw [hbb]
  have Hs2 := Lib.hid hs2
  clear hbb
  go_wp2_with fail
  go_loopw [4] (fun i wr => ∃ j : Int, 0 ≤ j ∧ j < 5 ∧ i = .int .i64 j ∧ LoopM D c b w wr) (fun i _ => (intOf i).toNat)
  case atStart => exact ⟨k, hk0, hk1, rfl, L4.out⟩
  case round =>
    obtain ⟨j, hj0, hj1, rfl, g, o, p0, a1, n1, p1, t, a2, n2, p2, hX, hS, hR, hC, hN⟩ := hrel
    have X := Lib.hid hX
    have S := Lib.hid hS
    have R := Lib.hid hR
    have C := Lib.hid hC
    have N := Lib.hid hN
    have hbr : b < wr.heap.size := hX.lt
    clear hX hS hR hC hN L4
    by_cases hjp : 0 < j
    · obtain ⟨g0, g1, g2, g3⟩ := cells4 X.out
      have hcD2 := C.out.le
      go_wp2_with fail
      go_region_law (first
        | (refine step_of rfl ?_; unfold Oper.wp; go_simp; go_at_call 29; refine (belowC D c 256 (by omega) (by omega) _ c2).mono ?_; rintro e w5 ⟨x5, ⟨hx50, hx51⟩, rfl, c5, h5⟩; have X5 := Lib.hid (bx_only X2.out h5 hcb); obtain ⟨o0, o1, o2, o3⟩ := cells4 X5.out; have S5 := Lib.hid (S2.out.only h5 (by omega)); obtain ⟨_, _, _, er, hcp1, hcp2, hgB, hgb, hgl, hrow, hwarm⟩ := S5.out.row (by omega); cases er; obtain ⟨yy, hcell⟩ := hrow i (by omega); have hwrm := hwarm (o + i); clear hrow hwarm)
        | (refine step_of rfl ?_; unfold Oper.wp; go_simp; go_at_call 29; refine (belowC D c 192 (by omega) (by omega) _ (by first | exact C.out | exact C.out.drew)).mono ?_; rintro e w2 ⟨x2, ⟨hx20, hx21⟩, rfl, c2, h2'⟩; obtain ⟨i, rfl⟩ : ∃ i : Nat, x2 = i := ⟨x2.toNat, by omega⟩; have h2 : Only c wr w2 := (by first | exact h2' | exact only_undrew h2'); clear h2'; have X2 := Lib.hid (bx_only X.out h2 hcb); have S2 := Lib.hid (S.out.only h2 (by omega)); obtain ⟨l0, l1, l2, l3⟩ := cells4 X2.out))
      all_goals
        have X' := X5.out.far (p := ⟨g, o + i, none⟩) (by dsimp only; omega) (.int .i64 x5)
        have S' := S5.out.put (by omega) i x5
        have R5 := bx_only (bx_only R.out h2 hcb0) h5 hcb0
        have R' := R5.far (p := ⟨g, o + i, none⟩) (by dsimp only; omega) (.int .i64 x5)
        have hbs := (Below.refl w.heap.size w5).setCell (p := ⟨g, o + i, none⟩) (by dsimp only; omega) (.int .i64 x5)
        have C' := c5.belowB hbs hD
        have N' := (N.out.trans (h2.trans h5)).transB hbs
        have L' := Lib.hid (show LoopM D c b w _ from ⟨g, o, p0, a1, n1, p1, t, a2, n2, p2, X', S', R', C', N'⟩)
        clear X' S' R5 R' hbs C' N' X5 S5 X2 S2 X S R C N h2 h5 c2 c5 g0 g1 g2 g3
        go_wp2_with fail
        go_roundw
        case rel => exact ⟨j - 1, by omega, by omega, by go_num, L'.out⟩
        case measure => simp [intOf]; omega
    · go_wp2_with fail
      refine (dev_any D c _ C.out).mono ?_
      rintro e w6 ⟨us, he, hS6, hC6, hO6⟩
      have hP := S.out.dev hO6 (by omega) hbr (by omega) hS6.any
      obtain ⟨b1, q1, t', b2, m', q2, rfl, hm'⟩ := hS6.form
      obtain rfl : e = .returned (.agg #[.slice b1 4 q1, .int .i64 t', .slice b2 m' q2]) := he
      have X6 := bx_only X.out hO6 hcb
      have R6 := bx_only R.out hO6 hcb0
      have N6 := Lib.hid (N.out.trans hO6)
      have C6 := Lib.hid hC6
      have P6 := Lib.hid hP
      obtain ⟨g0, g1, g2, g3⟩ := cells4 X6
      obtain ⟨y0', y1', y2', y3'⟩ := warm4 X6
      obtain ⟨j0, j1, j2, j3⟩ := cells4 (show Bx 28 b #[.slice (some ⟨g, o, none⟩) 192 p0, .slice b1 4 q1, .int .i64 t', .slice b2 m' q2] _ from ((X6.set 1 (.slice b1 4 q1)).set 2 (.int .i64 t')).set 3 (.slice b2 m' q2))
      have XX := ((R6.far (p := ⟨b, 1, none⟩) (by dsimp only; omega) (.slice b1 4 q1)).far (p := ⟨b, 2, none⟩) (by dsimp only; omega) (.int .i64 t')).far (p := ⟨b, 3, none⟩) (by dsimp only; omega) (.slice b2 m' q2)
      obtain ⟨k0, k1, k2, k3⟩ := cells4 XX
      obtain ⟨z0, z1, z2, z3⟩ := warm4 XX
      obtain ⟨e0, e1, e2, e3⟩ := cells4 (Bx.four XX (.slice (some ⟨g, o, none⟩) 192 p0) (.slice b1 4 q1) (.int .i64 t') (.slice b2 m' q2))
      clear X6 R6 XX hS6 hC6 hP hO6
      go_wp2_with fail
      refine bodyPost_ret (v := .agg #[.slice (some ⟨g, o, none⟩) 192 p0, .slice b1 4 q1, .int .i64 t', .slice b2 m' q2]) (by simp [results, Try.results63, go_sem, e0, e1, e2, e3]) rfl ⟨_, rfl, ?_, ?_, ?_⟩
      · refine PartM.top (B := w.heap.size + 1) (b := b) ?_ (by omega)
        iterate 4 refine PartM.set0 ?_ (by dsimp only; omega) _
        iterate 3 refine PartM.setb ?_ _ _
        exact P6.out
      · refine C6.out.belowB (B := w.heap.size) ?_ hD
        iterate 7 refine Below.setCell ?_ (by first | exact Nat.le_refl _ | (dsimp only; omega)) _
        exact Below.refl _ _
      · refine N6.out.transB ?_
        iterate 7 refine Below.setCell ?_ (by first | exact Nat.le_refl _ | (dsimp only; omega)) _
        exact Below.refl _ _
end Go.Proofs.Ytbhmfjblmcppbaa.Cur
