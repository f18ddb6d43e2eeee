
/-
  The models that are drawn, spoiled or not: spec.l9Any.
-/
import Derived.Test.YtbhmfjblmcppbaaDrawM
namespace Go.Proofs.Ytbhmfjblmcppbaa.Cur
open Go.RowKit Bytes Num GR KD Rows3
set_option linter.unusedVariables false

/-- the memory but its first cell. -/
theorem PartM.tail {B b n g o cp : Nat} {us : List Value} {w : World} (h : PartM B b (n + 1) (.slice (some ⟨g, o, none⟩) (n + 1) cp :: us) w) :
    PartM B b n (.slice (some ⟨g, o + 1, none⟩) n (cp - 1) :: us) w := by
  obtain ⟨l, r, t, f, hl, hr, hf, h⟩ := h
  obtain ⟨v', us', F1, F2, e, h0, h1, s1, s2, hd⟩ := own_model h
  cases e
  rcases cap_raw h0 with ⟨rfl, _⟩ | ⟨g', o', cp', e, hbd, hraw⟩
  · cases hl
  · simp at e
    obtain ⟨⟨rfl, rfl⟩, _, rfl⟩ := e
    obtain ⟨hF, xs, T, hg, hroom, hx⟩ := hraw
    refine ⟨l.tail, r, t, f, by rw [List.length_tail]; omega, hr, hf, modelF (RawI.cap (cp := cp - 1) ⟨hF, xs, T, hg, by omega, fun i x hi => ?_⟩ (by rw [List.length_tail]; omega) (by omega)) h1 s1 s2 hd⟩
    have hi2 : l[i + 1]? = some x := by
      cases l with
      | nil => simp at hi
      | cons y l => simpa using hi
    have := hx _ _ hi2
    rwa [show o + 1 + i = o + (i + 1) by omega]
def DrewAnyM (D c : Nat) (w : World) (e : Ending) (w' : World) : Prop := ∃ us, e = .returned (agg us) ∧ AnyM w.heap.size us w' ∧ CuD D c w' ∧ Only c w w'
set_option maxHeartbeats 8000000 in
set_option maxRecDepth 100000 in
theorem anyM_any (D c : Nat) (w : World) (h : CuD D c w) : Calls Try.prog 31 #[.pointer (some ⟨c, 0, none⟩)] w (DrewAnyM D c w) := by
  have hD := h.le
  have hcD := h.lt
  have B0 := Bx.new 28 #[.slice none 0 0, .slice none 0 0, .int .i64 0, .slice none 0 0] w
  have hO0 := (Only.refl c w).alloc (.cells #[.slice none 0 0, .slice none 0 0, .int .i64 0, .slice none 0 0] 28)
  have hC0 := h.alloc (.cells #[.slice none 0 0, .slice none 0 0, .int .i64 0, .slice none 0 0] 28)
  have hsz : (w.alloc (.cells #[.slice none 0 0, .slice none 0 0, .int .i64 0, .slice none 0 0] 28)).heap.size = w.heap.size + 1 := by simp
  go_enter Try.func31, Try.ntmps31
  go_wp2_with fail
  refine (model_any D c _ hC0).mono ?_
  rintro e w2 ⟨us, he, hp, hC, hO⟩
  rw [hsz] at hp
  obtain ⟨a0, p0, a1, n1, p1, t, a2, n2, p2, rfl⟩ := hp.form
  obtain ⟨g, o, cp, e0, hcp1, hcp2, hgB, hgb, hgl, _⟩ := hp.row (by omega)
  simp at e0
  obtain ⟨rfl, rfl⟩ := e0
  obtain rfl : e = .returned (.agg #[.slice (some ⟨g, o, none⟩) 192 p0, .slice a1 n1 p1, .int .i64 t, .slice a2 n2 p2]) := he
  have hs2 : w.heap.size + 1 ≤ w2.heap.size := by have := hO.size; simpa using this
  have b3 := (Below.refl w2.heap.size w2).alloc (Nat.le_refl _) (.cells #[.slice (some ⟨g, o, none⟩) 192 p0, .slice a1 n1 p1, .int .i64 t, .slice a2 n2 p2] 28)
  have hcb0 : w.heap.size ≠ c := by omega
  have X3 := Lib.hid (Bx.new 28 #[.slice (some ⟨g, o, none⟩) 192 p0, .slice a1 n1 p1, .int .i64 t, .slice a2 n2 p2] w2)
  have S3 := Lib.hid (hp.later b3)
  have R3 := Lib.hid ((bx_only B0 hO hcb0).later b3)
  have C3 := Lib.hid (hC.below b3)
  have N3 := Lib.hid ((hO0.trans hO).below2 b3)
  clear hp b3 B0 hO0 hC0 h hO hC hsz
  go_wp2_with fail
  obtain ⟨b, hbb⟩ : ∃ b, w2.heap.size = b := ⟨_, rfl⟩
  rw [hbb] at X3 S3 hs2 hgb hgl
  generalize w2.alloc (.cells #[.slice (some ⟨g, o, none⟩) 192 p0, .slice a1 n1 p1, .int .i64 t, .slice a2 n2 p2] 28) = w3 at X3 S3 R3 C3 N3 ⊢
  refine (belowC D c 12 (by omega) (by omega) _ C3.out).mono ?_
  rintro e w4 ⟨k, ⟨hk0, hk1⟩, rfl, hC4, hO4⟩
  have hcb : b ≠ c := by omega
  have X := Lib.hid (bx_only X3.out hO4 hcb)
  have S := Lib.hid (S3.out.only hO4 (by omega))
  have R := Lib.hid (bx_only R3.out hO4 hcb0)
  have C := Lib.hid hC4
  have N := Lib.hid (N3.out.trans hO4)
  clear X3 S3 R3 C3 N3 hC4 hO4
  rw [hbb]
  have Hbb := Lib.hid hbb
  clear hbb
  have hbr := X.out.lt
  obtain ⟨g0, g1, g2, g3⟩ := cells4 X.out
  obtain ⟨k0, k1, k2, k3⟩ := cells4 R.out
  obtain ⟨y0, y1, y2, y3⟩ := warm4 X.out
  obtain ⟨z0, z1, z2, z3⟩ := warm4 R.out
  have hfin : ∀ (W : World) (us : List Value), Below w.heap.size w4 W → AnyM w.heap.size us W → AnyM w.heap.size us W ∧ CuD D c W ∧ Only c w W := fun W us hb ha => ⟨ha, C.out.belowB hb hD, N.out.transB hb⟩
  by_cases h3 : 3 ≤ k
  · have q0 : (k == 0) = false := by simp; omega
    have q1 : (k == 1) = false := by simp; omega
    have q2 : (k == 2) = false := by simp; omega
    obtain ⟨e0, e1, e2, e3⟩ := cells4 (Bx.four R.out (.slice (some ⟨g, o, none⟩) 192 p0) (.slice a1 n1 p1) (.int .i64 t) (.slice a2 n2 p2))
    go_wp2_with fail
    refine bodyPost_ret (v := .agg #[.slice (some ⟨g, o, none⟩) 192 p0, .slice a1 n1 p1, .int .i64 t, .slice a2 n2 p2]) (by simp [results, Try.results31, go_sem, e0, e1, e2, e3]) rfl ⟨_, rfl, hfin _ _ ?_ ?_⟩
    · iterate 4 refine Below.setCell ?_ (by dsimp only; omega) _
      exact Below.refl _ _
    · refine PartM.any (B := w.heap.size + 1) (b := b) (n := 192) ?_ (by omega) (by omega)
      iterate 4 refine PartM.set0 ?_ (by dsimp only; omega) _
      exact S.out
  · have hk : k = 0 ∨ k = 1 ∨ k = 2 := by omega
    clear h3
    rcases hk with rfl | rfl | rfl
    · obtain ⟨_, _, _, er, _, _, _, _, _, hrow, hwarm⟩ := S.out.row (by omega)
      cases er
      obtain ⟨yy, hcell⟩ := hrow 3 (by omega)
      have hwrm := hwarm (o + 3)
      clear hrow hwarm
      have XF := X.out.far (p := ⟨g, o + 3, none⟩) (by dsimp only; omega) (.int .i64 256)
      obtain ⟨j0, j1, j2, j3⟩ := cells4 XF
      have RF := R.out.far (p := ⟨g, o + 3, none⟩) (by dsimp only; omega) (.int .i64 256)
      obtain ⟨l0, l1, l2, l3⟩ := cells4 RF
      obtain ⟨x0, x1, x2, x3⟩ := warm4 RF
      obtain ⟨e0, e1, e2, e3⟩ := cells4 (Bx.four RF (.slice (some ⟨g, o, none⟩) 192 p0) (.slice a1 n1 p1) (.int .i64 t) (.slice a2 n2 p2))
      have S' := Lib.hid (S.out.put (by omega) 3 256)
      clear XF RF
      go_wp2_with fail
      refine bodyPost_ret (v := .agg #[.slice (some ⟨g, o, none⟩) 192 p0, .slice a1 n1 p1, .int .i64 t, .slice a2 n2 p2]) (by simp [results, Try.results31, go_sem, e0, e1, e2, e3]) rfl ⟨_, rfl, hfin _ _ ?_ ?_⟩
      · iterate 5 refine Below.setCell ?_ (by dsimp only; omega) _
        exact Below.refl _ _
      · refine PartM.any (B := w.heap.size + 1) (b := b) (n := 192) ?_ (by omega) (by omega)
        iterate 4 refine PartM.set0 ?_ (by dsimp only; omega) _
        exact S'.out
    · have hp1 : ¬ p0 = 1 := by omega
      have S' := Lib.hid (PartM.tail (n := 191) S.out)
      obtain ⟨j0, j1, j2, j3⟩ := cells4 (show Bx 28 b #[.slice (some ⟨g, o + 1, none⟩) 191 (p0 - 1), .slice a1 n1 p1, .int .i64 t, .slice a2 n2 p2] _ from X.out.set 0 (.slice (some ⟨g, o + 1, none⟩) 191 (p0 - 1)))
      have RF := R.out.far (p := ⟨b, 0, none⟩) (by dsimp only; omega) (.slice (some ⟨g, o + 1, none⟩) 191 (p0 - 1))
      obtain ⟨l0, l1, l2, l3⟩ := cells4 RF
      obtain ⟨x0, x1, x2, x3⟩ := warm4 RF
      obtain ⟨e0, e1, e2, e3⟩ := cells4 (Bx.four RF (.slice (some ⟨g, o + 1, none⟩) 191 (p0 - 1)) (.slice a1 n1 p1) (.int .i64 t) (.slice a2 n2 p2))
      clear RF
      go_wp2_with fail
      refine bodyPost_ret (v := .agg #[.slice (some ⟨g, o + 1, none⟩) 191 (p0 - 1), .slice a1 n1 p1, .int .i64 t, .slice a2 n2 p2]) (by simp [results, Try.results31, go_sem, e0, e1, e2, e3]) rfl ⟨_, rfl, hfin _ _ ?_ ?_⟩
      · iterate 5 refine Below.setCell ?_ (by dsimp only; omega) _
        exact Below.refl _ _
      · refine PartM.any (B := w.heap.size + 1) (b := b) (n := 191) ?_ (by omega) (by omega)
        iterate 4 refine PartM.set0 ?_ (by dsimp only; omega) _
        refine PartM.setb ?_ _ _
        exact S'.out
    · clear g0 g1 g2 g3 k0 k1 k2 k3 y0 y1 y2 y3 z0 z1 z2 z3
      go_wp2_with fail
      refine (any_any D c _ C.out).mono ?_
      rintro e w6 ⟨us, he, hS6, hC6, hO6⟩
      have P6 := Lib.hid (S.out.dev hO6 (by omega) hbr (by omega) hS6)
      obtain ⟨b1, m1, q1, t', b2, m2, q2, rfl⟩ := hS6.form
      obtain rfl : e = .returned (.agg #[.slice b1 m1 q1, .int .i64 t', .slice b2 m2 q2]) := he
      have X6 := bx_only X.out hO6 hcb
      have R6 := bx_only R.out hO6 hcb0
      have N6 := Lib.hid (N.out.trans hO6)
      have C6 := Lib.hid hC6
      obtain ⟨g0, g1, g2, g3⟩ := cells4 X6
      obtain ⟨y0, y1, y2, y3⟩ := warm4 X6
      obtain ⟨j0, j1, j2, j3⟩ := cells4 (show Bx 28 b #[.slice (some ⟨g, o, none⟩) 192 p0, .slice b1 m1 q1, .int .i64 t', .slice b2 m2 q2] _ from ((X6.set 1 (.slice b1 m1 q1)).set 2 (.int .i64 t')).set 3 (.slice b2 m2 q2))
      have XX := ((R6.far (p := ⟨b, 1, none⟩) (by dsimp only; omega) (.slice b1 m1 q1)).far (p := ⟨b, 2, none⟩) (by dsimp only; omega) (.int .i64 t')).far (p := ⟨b, 3, none⟩) (by dsimp only; omega) (.slice b2 m2 q2)
      obtain ⟨k0, k1, k2, k3⟩ := cells4 XX
      obtain ⟨z0, z1, z2, z3⟩ := warm4 XX
      obtain ⟨e0, e1, e2, e3⟩ := cells4 (Bx.four XX (.slice (some ⟨g, o, none⟩) 192 p0) (.slice b1 m1 q1) (.int .i64 t') (.slice b2 m2 q2))
      clear X6 R6 XX hS6 hC6 hO6 hfin
      go_wp2_with fail
      refine bodyPost_ret (v := .agg #[.slice (some ⟨g, o, none⟩) 192 p0, .slice b1 m1 q1, .int .i64 t', .slice b2 m2 q2]) (by simp [results, Try.results31, go_sem, e0, e1, e2, e3]) rfl ⟨_, rfl, ?_, ?_, ?_⟩
      · refine PartM.any (B := w.heap.size + 1) (b := b) (n := 192) ?_ (by omega) (by omega)
        iterate 4 refine PartM.set0 ?_ (by dsimp only; omega) _
        iterate 3 refine PartM.setb ?_ _ _
        exact P6.out
      · refine C6.out.belowB (B := w.heap.size) ?_ hD
        iterate 7 refine Below.setCell ?_ (by first | exact Nat.le_refl _ | (dsimp only; omega)) _
        exact Below.refl _ _
      · refine N6.out.transB ?_
        iterate 7 refine Below.setCell ?_ (by first | exact Nat.le_refl _ | (dsimp only; omega)) _
        exact Below.refl _ _
end Go.Proofs.Ytbhmfjblmcppbaa.Cur
