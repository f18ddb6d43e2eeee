
/-
  The devices that are drawn: spec.l8Dev.
-/
import Derived.Test.YtbhmfjblmcppbaaDev9
import Derived.Test.YtbhmfjblmcppbaaDraw4
import Derived.Test.YtbhmfjblmcppbaaFresh
import Derived.Deep.RegionLaw
namespace Go.Proofs.Ytbhmfjblmcppbaa.Cur
open Go.RowKit Bytes Num GR KD
set_option linter.unusedVariables false

theorem Only.below2 {c : Nat} {w w1 w2 : World} (h : Only c w w1) (k : Below w1.heap.size w1 w2) : Only c w w2 := h.trans (Only.of_below k)
theorem bx_only {T b c : Nat} {cs : Array Value} {w w' : World} (h : Bx T b cs w) (hO : Only c w w') (hc : b ≠ c) : Bx T b cs w' := (hO.block b h.lt hc).trans h
theorem only_undrew {c : Nat} {w w' : World} (h : Only c w.drew w') : Only c w w' := ⟨h.os, h.tape, h.output, h.size, h.block⟩
theorem only_turn {c : Nat} {w w' : World} (h : Only c w w') : Turn (fun k => k = c) w w' := ⟨h.os, h.tape, h.output, h.size, h.block⟩
theorem cap_only {α : Type} (K : Kn α) {F : Foot} {cs : List Value} {x : α} {c : Nat} {w w' : World} (h : K.cap F cs x w) (hO : Only c w w') (hc : ¬ F c) : K.cap F cs x w' :=
  K.cap_turn h (only_turn hO) (fun k _ hf e => hc (e ▸ hf))
/-- some device, in memory from B on. -/
def SomeD (B : Nat) (us : List Value) (w : World) : Prop := ∃ r t f, r.length = 4 ∧ f.length ≤ 4 ∧ devK.cap (fun k => B ≤ k) us (r, t, f) w
theorem SomeD.form {B : Nat} {us : List Value} {w : World} (h : SomeD B us w) : ∃ a0 p0 t a2 m p2, us = [.slice a0 4 p0, .int .i64 t, .slice a2 m p2] ∧ m ≤ 4 := by
  obtain ⟨r, t, f, hr, hf, hc⟩ := h
  obtain ⟨a0, p0, a2, p2, rfl, _, _⟩ := dev_form (devK.cap_rd hc)
  exact ⟨a0, p0, t, a2, f.length, p2, by rw [hr], hf⟩
theorem SomeD.later {B : Nat} {us : List Value} {w w' : World} (h : SomeD B us w) (hb : Below w.heap.size w w') : SomeD B us w' := by
  obtain ⟨r, t, f, hr, hf, hc⟩ := h; exact ⟨r, t, f, hr, hf, devK.cap_later hc hb⟩
theorem SomeD.mono {B B' : Nat} {us : List Value} {w : World} (h : SomeD B us w) (hB : B' ≤ B) : SomeD B' us w := by
  obtain ⟨r, t, f, hr, hf, hc⟩ := h; exact ⟨r, t, f, hr, hf, devK.cap_wide hc (fun _ _ hk => Nat.le_trans hB hk)⟩
theorem SomeD.only {B c : Nat} {us : List Value} {w w' : World} (h : SomeD B us w) (hO : Only c w w') (hc : c < B) : SomeD B us w' := by
  obtain ⟨r, t, f, hr, hf, h⟩ := h; exact ⟨r, t, f, hr, hf, cap_only devK h hO (by omega)⟩
theorem SomeD.set {B : Nat} {us : List Value} {w : World} (h : SomeD B us w) {p : Addr} (hp : p.block < B) (u : Value) : SomeD B us (w.setCell p u) := by
  obtain ⟨r, t, f, hr, hf, h⟩ := h; exact ⟨r, t, f, hr, hf, devK.cap_set h (by omega) u⟩
/-- whatever is done with it: a device again. -/
theorem doD_len {wr : Bool} {a v : Int} {r : List Int} {t : Int} {f : List Int} {r' : List Int} {t' : Int} {f' : List Int} {n : Int} {k : Bool} (h4 : r.length = 4) (hf4 : f.length ≤ 4) (hd : doD wr a v r t f = ((r', t', f'), n, k)) : r'.length = 4 ∧ f'.length ≤ 4 := by
  cases ho : okD r t f with
  | false => rw [doD_bad ho] at hd; cases hd; exact ⟨h4, hf4⟩
  | true =>
    cases wr with
    | true =>
      rw [doD_w ho] at hd
      unfold doW at hd
      split at hd
      · cases hd; exact ⟨h4, hf4⟩
      · split at hd
        · cases hd; exact ⟨by rw [List.length_set]; exact h4, hf4⟩
        · split at hd
          · cases hd; exact ⟨h4, hf4⟩
          · split at hd
            · cases hd; exact ⟨h4, by rw [List.length_append]; simp; omega⟩
            · cases hd; exact ⟨h4, hf4⟩
    | false =>
      rw [doD_r ho] at hd
      unfold doR at hd
      split at hd
      · cases hd; exact ⟨h4, hf4⟩
      · split at hd
        · cases hd; exact ⟨h4, hf4⟩
        · split at hd
          · cases hd; exact ⟨h4, by rw [List.length_tail]; omega⟩
          · cases hd; exact ⟨h4, hf4⟩
/-- a device, a number, a truth value. -/
def SomeT (w : World) (e : Ending) (w' : World) : Prop := ∃ us n k, e = .returned (.tuple #[agg us, .int .i64 n, .bool k]) ∧ SomeD w.heap.size us w' ∧ Below w.heap.size w w'
theorem someDo {B : Nat} {us : List Value} {wr : Bool} {a v : Int} {w : World} (h : SomeD B us w) : Calls Try.prog 41 #[agg us, .bool wr, .int .i64 a, .int .i64 v] w (SomeT w) := by
  obtain ⟨r, t, f, hr, hf, h⟩ := h
  obtain ⟨D, hD⟩ : ∃ D, doD wr a v r t f = D := ⟨_, rfl⟩
  obtain ⟨⟨r', t', f'⟩, n, k⟩ := D
  have hl := doD_len hr hf hD
  refine (specDevDo us wr a v r t f (by omega) (by omega) w (devK.cap_rd h)).mono ?_
  rw [hD]
  rintro e w' ⟨us', he, hc, hb⟩
  exact ⟨us', n, k, he, ⟨r', t', f', hl.1, hl.2, hc⟩, hb⟩
def DrewDv (D c : Nat) (w : World) (e : Ending) (w' : World) : Prop := ∃ us, e = .returned (agg us) ∧ SomeD w.heap.size us w' ∧ CuD D c w' ∧ Only c w w'
def frI8 (P : Int → Prop) : Fresh.Fr := ⟨fun v => ∃ x : Int, P x ∧ v = .int .i64 x, fun _ _ => True⟩
def frB8 : Fresh.Fr := ⟨fun v => ∃ x : Bool, v = .bool x, fun _ _ => True⟩
def tupD (a0 : Option Addr) (p0 : Nat) (t : Int) (a2 : Option Addr) (m p2 : Nat) (n : Int) (k : Bool) : Value := .tuple #[.agg #[.slice a0 4 p0, .int .i64 t, .slice a2 m p2], .int .i64 n, .bool k]
def frT8 (B : Nat) : Fresh.Fr := ⟨fun v => ∃ a0 p0 t a2 m p2 n k, v = tupD a0 p0 t a2 m p2 n k, fun v w => ∃ a0 p0 t a2 m p2 n k, v = tupD a0 p0 t a2 m p2 n k ∧ SomeD B [.slice a0 4 p0, .int .i64 t, .slice a2 m p2] w⟩
theorem tupD_inj {a0 : Option Addr} {p0 : Nat} {t : Int} {a2 : Option Addr} {m p2 : Nat} {n : Int} {k : Bool} {a0' : Option Addr} {p0' : Nat} {t' : Int} {a2' : Option Addr} {m' p2' : Nat} {n' : Int} {k' : Bool} (h : tupD a0 p0 t a2 m p2 n k = tupD a0' p0' t' a2' m' p2' n' k') :
    a0 = a0' ∧ p0 = p0' ∧ t = t' ∧ a2 = a2' ∧ m = m' ∧ p2 = p2' := by
  simp [tupD] at h
  obtain ⟨⟨⟨h1, h2⟩, h3, h4, h5, h6⟩, _, _⟩ := h
  exact ⟨h1, h2, h3, h4, h5, h6⟩
/-- what holds in the loop. -/
def LoopD (D c b : Nat) (w0 : World) (wr : World) : Prop :=
  ∃ a0 p0 t a2 m p2, Bx 26 b #[.slice a0 4 p0, .int .i64 t, .slice a2 m p2] wr ∧ SomeD (w0.heap.size + 1) [.slice a0 4 p0, .int .i64 t, .slice a2 m p2] wr ∧ Bx 26 w0.heap.size #[.slice none 0 0, .int .i64 0, .slice none 0 0] wr ∧ CuD D c wr ∧ Only c w0 wr
set_option maxHeartbeats 8000000 in
set_option maxRecDepth 100000 in
theorem dev_any (D c : Nat) (w : World) (h : CuD D c w) : Calls Try.prog 75 #[.pointer (some ⟨c, 0, none⟩)] w (DrewDv D c w) := by
  have hD := h.le
  have hcD := h.lt
  have B0 := Bx.new 26 #[.slice none 0 0, .int .i64 0, .slice none 0 0] w
  have hO0 := (Only.refl c w).alloc (.cells #[.slice none 0 0, .int .i64 0, .slice none 0 0] 26)
  have hC0 := h.alloc (.cells #[.slice none 0 0, .int .i64 0, .slice none 0 0] 26)
  go_enter Try.func75, Try.ntmps75
  go_wp2_with fail
  refine (specDevNew _).mono ?_
  rintro e w2 ⟨us, he, hc, hb⟩
  obtain ⟨a0, p0, t, a2, m, p2, rfl, hm4⟩ := SomeD.form ⟨_, _, _, rfl, Nat.zero_le _, hc⟩
  obtain rfl : e = .returned (.agg #[.slice a0 4 p0, .int .i64 t, .slice a2 m p2]) := he
  have ho : SomeD (w.heap.size + 1) [.slice a0 4 p0, .int .i64 t, .slice a2 m p2] w2 := SomeD.mono ⟨_, _, _, rfl, Nat.zero_le _, hc⟩ (by simp)
  have hs2 : w.heap.size + 1 ≤ w2.heap.size := by have := hb.size; simpa using this
  have b3 := (Below.refl w2.heap.size w2).alloc (Nat.le_refl _) (.cells #[.slice a0 4 p0, .int .i64 t, .slice a2 m p2] 26)
  have L0 : Hid (LoopD D c w2.heap.size w (w2.alloc (.cells #[.slice a0 4 p0, .int .i64 t, .slice a2 m p2] 26))) :=
    Lib.hid ⟨a0, p0, t, a2, m, p2, Bx.new _ _ _, ho.later b3, (B0.later hb).later b3, (hC0.below hb).below b3, (hO0.below2 hb).below2 b3⟩
  clear hc hb ho b3 B0 hO0 hC0 h
  go_wp2_with fail
  obtain ⟨b, hbb⟩ : ∃ b, w2.heap.size = b := ⟨_, rfl⟩
  rw [hbb] at L0 hs2
  generalize w2.alloc (.cells #[.slice a0 4 p0, .int .i64 t, .slice a2 m p2] 26) = w3 at L0 ⊢
  obtain ⟨a0, p0, t, a2, m, p2, X3, S3, R3, C3, N3⟩ := L0.out
  refine (belowC D c 8 (by omega) (by omega) _ C3).mono ?_
  rintro e w4 ⟨k, ⟨hk0, hk1⟩, rfl, hC4, hO4⟩
  have hcb : b ≠ c := by omega
  have hcb0 : w.heap.size ≠ c := by omega
  have L4 : Hid (LoopD D c b w w4) := Lib.hid ⟨a0, p0, t, a2, m, p2, bx_only X3 hO4 hcb, S3.only hO4 (by omega), bx_only R3 hO4 hcb0, hC4, N3.trans hO4⟩
  clear X3 S3 R3 C3 N3 hC4 hO4 L0
  rw [hbb]
  have Hs2 := Lib.hid hs2
  clear hbb
  go_wp2_with fail
  go_loopw [4] (fun i wr => ∃ j : Int, 0 ≤ j ∧ j < 8 ∧ i = .int .i64 j ∧ LoopD D c b w wr) (fun i _ => (intOf i).toNat)
  case atStart => exact ⟨k, hk0, hk1, rfl, L4.out⟩
  case round =>
    obtain ⟨j, hj0, hj1, rfl, a0, p0, t, a2, m, p2, hX, hS, hR, hC, hN⟩ := hrel
    have X := Lib.hid hX
    have S := Lib.hid hS
    have R := Lib.hid hR
    have C := Lib.hid hC
    have N := Lib.hid hN
    have hbr : b < wr.heap.size := hX.lt
    clear hX hS hR hC hN L4
    by_cases hjp : 0 < j
    · obtain ⟨g0, g1, g2⟩ := cells3 X.out
      have hcD2 := C.out.le
      go_wp2_with fail
      go_region_law (first
        | (refine step_of rfl ?_; unfold Oper.wp; go_simp; go_at_call 41; refine (someDo (us := [.slice a0 4 p0, .int .i64 t, .slice a2 m p2]) (S.out.only ((h2.trans h5).trans h8) (by omega))).mono ?_; rintro e w9 ⟨us, n, k', he, hs, hb⟩; obtain ⟨b0, s0, t', b2, m', s2, rfl, hm'⟩ := hs.form; obtain rfl : e = .returned (.tuple #[.agg #[.slice b0 4 s0, .int .i64 t', .slice b2 m' s2], .int .i64 n, .bool k']) := he; have H9 := Lib.hid hs; have B9 := Lib.hid hb; have X9 := Lib.hid ((bx_only X8.out (Only.refl c _) hcb).later hb); obtain ⟨v0, v1, v2⟩ := cells3 X9.out; have u0 := X9.out.warm 0; have u1 := X9.out.warm 1; have u2 := X9.out.warm 2; clear hs hb)
        | (refine step_of rfl ?_; unfold Oper.wp; go_simp; go_at_call 32; refine (value_any D c 2 _ c5).mono ?_; rintro e w8 ⟨x8, -, rfl, c8, h8⟩; have X8 := Lib.hid (bx_only X5.out h8 hcb); obtain ⟨r0, r1, r2⟩ := cells3 X8.out)
        | (refine step_of rfl ?_; unfold Oper.wp; go_simp; go_at_call 29; refine (belowC D c 6 (by omega) (by omega) _ c2).mono ?_; rintro e w5 ⟨x5, ⟨hx50, hx51⟩, rfl, c5, h5⟩; have X5 := Lib.hid (bx_only X2.out h5 hcb); obtain ⟨o0, o1, o2⟩ := cells3 X5.out)
        | (refine step_of rfl ?_; unfold Oper.wp; go_simp; go_at_call 30; refine (onceC D c 4 (by omega) (by omega) _ (by first | exact C.out | exact C.out.drew)).mono ?_; rintro e w2 ⟨x2, rfl, c2, h2'⟩; have h2 : Only c wr w2 := (by first | exact h2' | exact only_undrew h2'); clear h2'; have X2 := Lib.hid (bx_only X.out h2 hcb); obtain ⟨l0, l1, l2⟩ := cells3 X2.out))
      all_goals
        have hz8 := Nat.le_trans h2.size (Nat.le_trans h5.size h8.size)
        have X' := Bx.three X9.out (.slice b0 4 s0) (.int .i64 t') (.slice b2 m' s2)
        have S' := (((H9.out.set (p := ⟨b, 0, none⟩) (by dsimp only; omega) (.slice b0 4 s0)).set (p := ⟨b, 1, none⟩) (by dsimp only; omega) (.int .i64 t')).set (p := ⟨b, 2, none⟩) (by dsimp only; omega) (.slice b2 m' s2)).mono (show w.heap.size + 1 ≤ _ by omega)
        have R9 := (bx_only (bx_only (bx_only R.out h2 hcb0) h5 hcb0) h8 hcb0).later B9.out
        have R' := ((R9.far (p := ⟨b, 0, none⟩) (by dsimp only; omega) (.slice b0 4 s0)).far (p := ⟨b, 1, none⟩) (by dsimp only; omega) (.int .i64 t')).far (p := ⟨b, 2, none⟩) (by dsimp only; omega) (.slice b2 m' s2)
        have hbs := (((Below.refl w.heap.size w9).setCell (p := ⟨b, 0, none⟩) (by dsimp only; omega) (.slice b0 4 s0)).setCell (p := ⟨b, 1, none⟩) (by dsimp only; omega) (.int .i64 t')).setCell (p := ⟨b, 2, none⟩) (by dsimp only; omega) (.slice b2 m' s2)
        have C' := (c8.below B9.out).belowB hbs hD
        have N' := ((N.out.trans ((h2.trans h5).trans h8)).below2 B9.out).transB hbs
        have L' := Lib.hid (show LoopD D c b w _ from ⟨b0, s0, t', b2, m', s2, X', S', R', C', N'⟩)
        clear X' S' R' C' N' hbs R9 hz8 H9 B9 X9 X8 X5 X2 X S R C N h2 h5 h8 c2 c5 c8 g0 g1 g2
        go_wp2_with fail
        go_roundw
        case rel => exact ⟨j - 1, by omega, by omega, by go_num, L'.out⟩
        case measure => simp [intOf]; omega
    · obtain ⟨g0, g1, g2⟩ := cells3 X.out
      obtain ⟨k0, k1, k2⟩ := cells3 R.out
      have z0 := R.out.warm 0
      have z1 := R.out.warm 1
      have z2 := R.out.warm 2
      obtain ⟨e0, e1, e2⟩ := cells3 (Bx.three R.out (.slice a0 4 p0) (.int .i64 t) (.slice a2 m p2))
      go_wp2_with fail
      refine bodyPost_ret (v := .agg #[.slice a0 4 p0, .int .i64 t, .slice a2 m p2]) (by simp [results, Try.results75, go_sem, e0, e1, e2]) rfl ⟨_, rfl, ?_, ?_, ?_⟩
      · refine SomeD.mono (B := w.heap.size + 1) ?_ (by omega)
        iterate 3 refine SomeD.set ?_ (by dsimp only; omega) _
        exact S.out
      · exact C.out.belowB ((((Below.refl w.heap.size wr).setCell (p := ⟨w.heap.size, 0, none⟩) (Nat.le_refl _) _).setCell (p := ⟨w.heap.size, 1, none⟩) (Nat.le_refl _) _).setCell (p := ⟨w.heap.size, 2, none⟩) (Nat.le_refl _) _) hD
      · exact N.out.transB ((((Below.refl w.heap.size wr).setCell (p := ⟨w.heap.size, 0, none⟩) (Nat.le_refl _) _).setCell (p := ⟨w.heap.size, 1, none⟩) (Nat.le_refl _) _).setCell (p := ⟨w.heap.size, 2, none⟩) (Nat.le_refl _) _)
end Go.Proofs.Ytbhmfjblmcppbaa.Cur
