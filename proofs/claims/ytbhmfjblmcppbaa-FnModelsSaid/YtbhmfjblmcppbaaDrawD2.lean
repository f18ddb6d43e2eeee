
/-
  The devices that are drawn, spoiled or not: spec.l8Any.
-/
import Derived.Test.YtbhmfjblmcppbaaDrawD
import Derived.Test.YtbhmfjblmcppbaaAppRow
namespace Go.Proofs.Ytbhmfjblmcppbaa.Cur
open Go.RowKit Bytes Num GR KD Rows3
set_option linter.unusedVariables false

/-- some data of a device's shape, in memory from B on. -/
def AnyD (B : Nat) (us : List Value) (w : World) : Prop := ∃ r t f, r.length ≤ 4 ∧ f.length ≤ 5 ∧ devK.cap (fun k => B ≤ k) us (r, t, f) w
/-- the parts of a device whose struct lies in block b. -/
def PartD (B b n m : Nat) (us : List Value) (t : Int) (w : World) : Prop := ∃ r f, r.length = n ∧ f.length = m ∧ devK.cap (fun k => B ≤ k ∧ k ≠ b) us (r, t, f) w
theorem PartD.only {B b n m c : Nat} {us : List Value} {t : Int} {w w' : World} (h : PartD B b n m us t w) (hO : Only c w w') (hc : c < B) : PartD B b n m us t w' := by
  obtain ⟨r, f, hr, hf, h⟩ := h; exact ⟨r, f, hr, hf, cap_only devK h hO (fun hh => by omega)⟩
theorem PartD.later {B b n m : Nat} {us : List Value} {t : Int} {w w' : World} (h : PartD B b n m us t w) (hb : Below w.heap.size w w') : PartD B b n m us t w' := by
  obtain ⟨r, f, hr, hf, h⟩ := h; exact ⟨r, f, hr, hf, devK.cap_later h hb⟩
theorem PartD.setb {B b n m : Nat} {us : List Value} {t : Int} {w : World} (h : PartD B b n m us t w) (o : Nat) (u : Value) : PartD B b n m us t (w.setCell ⟨b, o, none⟩ u) := by
  obtain ⟨r, f, hr, hf, h⟩ := h; exact ⟨r, f, hr, hf, devK.cap_set h (fun hh => hh.2 rfl) u⟩
theorem PartD.set0 {B b n m : Nat} {us : List Value} {t : Int} {w : World} (h : PartD B b n m us t w) {p : Addr} (hp : p.block < B) (u : Value) : PartD B b n m us t (w.setCell p u) := by
  obtain ⟨r, f, hr, hf, h⟩ := h; exact ⟨r, f, hr, hf, devK.cap_set h (fun hh => by omega) u⟩
theorem PartD.any {B B' b n m : Nat} {us : List Value} {t : Int} {w : World} (h : PartD B b n m us t w) (hn : n ≤ 4) (hm : m ≤ 5) (hB : B' ≤ B) : AnyD B' us w := by
  obtain ⟨r, f, hr, hf, h⟩ := h; exact ⟨r, t, f, by omega, by omega, devK.cap_wide h (fun k _ hk => Nat.le_trans hB hk.1)⟩
/-- the timer is another. -/
theorem PartD.tim {B b n m : Nat} {u0 u2 : Value} {t t' : Int} {w : World} (h : PartD B b n m [u0, .int .i64 t, u2] t w) : PartD B b n m [u0, .int .i64 t', u2] t' w := by
  obtain ⟨r, f, hr, hf, h⟩ := h
  obtain ⟨a0, p0, a2, p2, F0, F2, e, h0, h2, s0, s2, hd⟩ := cap_dev h
  simp at e
  obtain ⟨rfl, rfl⟩ := e
  exact ⟨r, f, hr, hf, dev_cap h0 h2 s0 s2 hd⟩
/-- the registers but the first. -/
theorem PartD.regs {B b m p0 : Nat} {a0 : Option Addr} {u2 : Value} {t : Int} {w : World} (h : PartD B b 4 m [.slice a0 4 p0, .int .i64 t, u2] t w) :
    ∃ g o, a0 = some ⟨g, o, none⟩ ∧ 4 ≤ p0 ∧ p0 ≤ 9223372036854775807 ∧ PartD B b 3 m [.slice (some ⟨g, o + 1, none⟩) 3 (p0 - 1), .int .i64 t, u2] t w := by
  obtain ⟨r, f, hr, hf, h⟩ := h
  obtain ⟨a0', p0', a2, p2, F0, F2, e, h0, h2, s0, s2, hd⟩ := cap_dev h
  simp at e
  obtain ⟨⟨rfl, hr', rfl⟩, rfl⟩ := e
  rcases cap_raw h0 with ⟨rfl, _⟩ | ⟨g, o, cp, e, hbd, hraw⟩
  · cases hr
  · simp at e
    obtain ⟨rfl, rfl⟩ := e
    obtain ⟨hF, xs, T, hg, hroom, hx⟩ := hraw
    refine ⟨g, o, rfl, by omega, by omega, r.tail, f, by rw [List.length_tail]; omega, hf, dev_cap (RawI.cap (cp := p0 - 1) ⟨hF, xs, T, hg, by omega, fun i x hi => ?_⟩ (by rw [List.length_tail]; omega) (by omega)) h2 s0 s2 hd⟩
    have hi2 : r[i + 1]? = some x := by
      cases r with
      | nil => simp at hi
      | cons y l => simpa using hi
    have := hx _ _ hi2
    rwa [show o + 1 + i = o + (i + 1) by omega]
/-- one more word in the fifo. -/
theorem PartD.part {B b n m : Nat} {u0 : Value} {a2 : Option Addr} {p2 : Nat} {t : Int} {w : World} (h : PartD B b n m [u0, .int .i64 t, .slice a2 m p2] t w) (hb : b < w.heap.size) (hB : B ≤ w.heap.size) (x : Int) :
    ∃ F2 f, f.length = m ∧ ints.cap F2 [.slice a2 m p2] f w ∧ (∀ k, F2 k → B ≤ k ∧ k ≠ b ∧ k < w.heap.size) ∧
      ∀ v' w', ints.cap (fun k => F2 k ∨ w.heap.size ≤ k) [v'] (f ++ [x]) w' → Turn F2 w w' → ∃ u2 q2, v' = .slice u2 (m + 1) q2 ∧ PartD B b n (m + 1) [u0, .int .i64 t, .slice u2 (m + 1) q2] t w' := by
  obtain ⟨r, f, hr, hf, h⟩ := h
  obtain ⟨a0, p0, a2', p2', F0, F2, e, h0, h2, s0, s2, hd⟩ := cap_dev h
  simp at e
  obtain ⟨rfl, rfl, hm, rfl⟩ := e
  rw [← hm] at h2
  refine ⟨fun k => F2 k ∧ k < w.heap.size, f, hf, ints.cap_top h2, fun k hk => ⟨(s2 k hk.1).1, (s2 k hk.1).2, hk.2⟩, fun v' w' hc ht => ?_⟩
  obtain ⟨u2, q2, e2, hbd, hrd⟩ := rd_ints (ints.cap_rd hc)
  have hl : (f ++ [x]).length = m + 1 := by simp [hf]
  rw [hl] at e2
  obtain rfl : v' = .slice u2 (m + 1) q2 := by simpa using e2
  refine ⟨u2, q2, rfl, r, f ++ [x], hr, hl, dev_cap (ints.cap_turn (ints.cap_top h0) ht (fun k _ hk hk2 => hd k hk.1 hk2.1)) hc (fun k hk => s0 k hk.1) (fun k hk => ?_) (fun k hk hk2 => ?_)⟩
  · rcases hk with hk | hk
    · exact s2 k hk.1
    · exact ⟨by omega, by omega⟩
  · rcases hk2 with hk2 | hk2
    · exact hd k hk.1 hk2.1
    · have := hk.2; omega
def lenAt (b : Nat) (w : World) : Nat := match w.cell? ⟨b, 2, none⟩ with | some (.slice _ m _) => m | _ => 0
theorem lenAt_of {b m p2 : Nat} {a2 : Option Addr} {w : World} (h : w.cell? ⟨b, 2, none⟩ = some (.slice a2 m p2)) : lenAt b w = m := by unfold lenAt; rw [h]
/-- what holds in the loop. -/
def Loop2 (D c b : Nat) (w0 : World) (wr : World) : Prop :=
  ∃ m a0 p0 t a2 p2, m ≤ 5 ∧ Bx 26 b #[.slice a0 4 p0, .int .i64 t, .slice a2 m p2] wr ∧ PartD (w0.heap.size + 1) b 4 m [.slice a0 4 p0, .int .i64 t, .slice a2 m p2] t wr ∧ Bx 26 w0.heap.size #[.slice none 0 0, .int .i64 0, .slice none 0 0] wr ∧ CuD D c wr ∧ Only c w0 wr
def LoopB (D c b m : Nat) (w0 : World) (wr : World) : Prop :=
  ∃ a0 p0 t a2 p2, Bx 26 b #[.slice a0 4 p0, .int .i64 t, .slice a2 m p2] wr ∧ PartD (w0.heap.size + 1) b 4 m [.slice a0 4 p0, .int .i64 t, .slice a2 m p2] t wr ∧ Bx 26 w0.heap.size #[.slice none 0 0, .int .i64 0, .slice none 0 0] wr ∧ CuD D c wr ∧ Only c w0 wr
def DrewAny (D c : Nat) (w : World) (e : Ending) (w' : World) : Prop := ∃ us, e = .returned (agg us) ∧ AnyD w.heap.size us w' ∧ CuD D c w' ∧ Only c w w'
set_option maxHeartbeats 8000000 in
set_option maxRecDepth 100000 in
theorem any_any (D c : Nat) (w : World) (h : CuD D c w) : Calls Try.prog 64 #[.pointer (some ⟨c, 0, none⟩)] w (DrewAny D c w) := by
  have hD := h.le
  have hcD := h.lt
  have B0 := Bx.new 26 #[.slice none 0 0, .int .i64 0, .slice none 0 0] w
  have hO0 := (Only.refl c w).alloc (.cells #[.slice none 0 0, .int .i64 0, .slice none 0 0] 26)
  have hC0 := h.alloc (.cells #[.slice none 0 0, .int .i64 0, .slice none 0 0] 26)
  go_enter Try.func64, Try.ntmps64
  go_wp2_with fail
  refine (dev_any D c _ hC0).mono ?_
  rintro e w2 ⟨us, he, hs, hC, hO⟩
  obtain ⟨r, t, f, hr4, hf4, hcap⟩ := hs
  obtain ⟨a0, p0, a2, p2, rfl, _, _⟩ := dev_form (devK.cap_rd hcap)
  obtain ⟨m, hm⟩ : ∃ m, f.length = m := ⟨_, rfl⟩
  rw [hr4, hm] at hcap he
  obtain rfl : e = .returned (.agg #[.slice a0 4 p0, .int .i64 t, .slice a2 m p2]) := he
  have hs2 : w.heap.size + 1 ≤ w2.heap.size := by have := hO.size; simpa using this
  have hm5 : m ≤ 4 := by omega
  have ho : PartD (w.heap.size + 1) w2.heap.size 4 m [.slice a0 4 p0, .int .i64 t, .slice a2 m p2] t w2 := ⟨r, f, hr4, hm, devK.cap_wide hcap (fun k hk h1 => ⟨by simpa using h1, by omega⟩)⟩
  have b3 := (Below.refl w2.heap.size w2).alloc (Nat.le_refl _) (.cells #[.slice a0 4 p0, .int .i64 t, .slice a2 m p2] 26)
  have hcb0 : w.heap.size ≠ c := by omega
  have L0 : Hid (LoopB D c w2.heap.size m w (w2.alloc (.cells #[.slice a0 4 p0, .int .i64 t, .slice a2 m p2] 26))) :=
    Lib.hid ⟨a0, p0, t, a2, p2, Bx.new _ _ _, ho.later b3, (bx_only B0 hO hcb0).later b3, hC.below b3, (hO0.trans hO).below2 b3⟩
  clear hcap ho b3 B0 hO0 hC0 h hO hC hr4 hf4 hm
  go_wp2_with fail
  obtain ⟨b, hbb⟩ : ∃ b, w2.heap.size = b := ⟨_, rfl⟩
  rw [hbb] at L0 hs2
  generalize w2.alloc (.cells #[.slice a0 4 p0, .int .i64 t, .slice a2 m p2] 26) = w3 at L0 ⊢
  obtain ⟨a0, p0, t, a2, p2, X3, S3, R3, C3, N3⟩ := L0.out
  refine (belowC D c 12 (by omega) (by omega) _ C3).mono ?_
  rintro e w4 ⟨k, ⟨hk0, hk1⟩, rfl, hC4, hO4⟩
  have hcb : b ≠ c := by omega
  have X := Lib.hid (bx_only X3 hO4 hcb)
  have S := Lib.hid (S3.only hO4 (by omega))
  have R := Lib.hid (bx_only R3 hO4 hcb0)
  have C := Lib.hid hC4
  have N := Lib.hid (N3.trans hO4)
  clear X3 S3 R3 C3 N3 hC4 hO4 L0
  rw [hbb]
  have Hbb := Lib.hid hbb
  clear hbb
  have hbr := X.out.lt
  obtain ⟨g0, g1, g2⟩ := cells3 X.out
  obtain ⟨k0, k1, k2⟩ := cells3 R.out
  have y0 := X.out.warm 0
  have y1 := X.out.warm 1
  have z0 := R.out.warm 0
  have z1 := R.out.warm 1
  have z2 := R.out.warm 2
  have hfin : ∀ (W : World) (us : List Value), Below w.heap.size w4 W → AnyD w.heap.size us W → AnyD w.heap.size us W ∧ CuD D c W ∧ Only c w W := fun W us hb ha => ⟨ha, C.out.belowB hb hD, N.out.transB hb⟩
  by_cases h3 : 3 ≤ k
  · have q0 : (k == 0) = false := by simp; omega
    have q1 : (k == 1) = false := by simp; omega
    have q2 : (k == 2) = false := by simp; omega
    obtain ⟨e0, e1, e2⟩ := cells3 (Bx.three R.out (.slice a0 4 p0) (.int .i64 t) (.slice a2 m p2))
    go_wp2_with fail
    refine bodyPost_ret (v := .agg #[.slice a0 4 p0, .int .i64 t, .slice a2 m p2]) (by simp [results, Try.results64, go_sem, e0, e1, e2]) rfl ⟨_, rfl, hfin _ _ ?_ ?_⟩
    · iterate 3 refine Below.setCell ?_ (by dsimp only; omega) _
      exact Below.refl _ _
    · exact (((S.out.set0 (p := ⟨w.heap.size, 0, none⟩) (by dsimp only; omega) _).set0 (p := ⟨w.heap.size, 1, none⟩) (by dsimp only; omega) _).set0 (p := ⟨w.heap.size, 2, none⟩) (by dsimp only; omega) _).any (by omega) (by omega) (by omega)
  · have hk : k = 0 ∨ k = 1 ∨ k = 2 := by omega
    clear h3
    rcases hk with rfl | rfl | rfl
    · clear g0 g1 g2 k0 k1 k2 y0 y1 z0 z1 z2
      go_wp2_with fail
      refine (pickLit D c [-1, 4294967295, 4294967296] 3 rfl (by omega) (by omega) _ C.out _ rfl).mono ?_
      rintro e w5 ⟨x, _, rfl, hC5, hO5⟩
      have X5 := bx_only X.out hO5 hcb
      have R5 := bx_only R.out hO5 hcb0
      have S5 := ((S.out.only hO5 (by omega)).tim (t' := x))
      have N5 := N.out.trans hO5
      obtain ⟨g0, g1, g2⟩ := cells3 X5
      obtain ⟨k0, k1, k2⟩ := cells3 R5
      have y1 := X5.warm 1
      have z0 := R5.warm 0
      have z1 := R5.warm 1
      have z2 := R5.warm 2
      have RF := R5.far (p := ⟨b, 1, none⟩) (by dsimp only; omega) (.int .i64 x)
      obtain ⟨e0, e1, e2⟩ := cells3 (Bx.three RF (.slice a0 4 p0) (.int .i64 x) (.slice a2 m p2))
      have HS5 := Lib.hid S5
      have HC5 := Lib.hid hC5
      have HN5 := Lib.hid N5
      clear X5 R5 S5 N5 hC5 hO5 RF hfin
      go_wp2_with fail
      have hbW : Below w.heap.size w5 ((((w5.setCell ⟨b, 1, none⟩ (.int .i64 x)).setCell ⟨w.heap.size, 0, none⟩ (.slice a0 4 p0)).setCell ⟨w.heap.size, 1, none⟩ (.int .i64 x)).setCell ⟨w.heap.size, 2, none⟩ (.slice a2 m p2)) := by
        iterate 4 refine Below.setCell ?_ (by dsimp only; omega) _
        exact Below.refl _ _
      refine bodyPost_ret (v := .agg #[.slice a0 4 p0, .int .i64 x, .slice a2 m p2]) (by simp [results, Try.results64, go_sem, e0, e1, e2]) rfl ⟨_, rfl, ?_, HC5.out.belowB hbW hD, HN5.out.transB hbW⟩
      exact ((((HS5.out.setb 1 _).set0 (p := ⟨w.heap.size, 0, none⟩) (by dsimp only; omega) _).set0 (p := ⟨w.heap.size, 1, none⟩) (by dsimp only; omega) _).set0 (p := ⟨w.heap.size, 2, none⟩) (by dsimp only; omega) _).any (by omega) (by omega) (by omega)
    · obtain ⟨g, o, rfl, hp4, hpm, hS1⟩ := S.out.regs
      have hp1 : ¬ p0 = 1 := by omega
      have HS1 := Lib.hid hS1
      clear hS1
      have RF := R.out.far (p := ⟨b, 0, none⟩) (by dsimp only; omega) (.slice (some ⟨g, o + 1, none⟩) 3 (p0 - 1))
      obtain ⟨e0, e1, e2⟩ := cells3 (Bx.three RF (.slice (some ⟨g, o + 1, none⟩) 3 (p0 - 1)) (.int .i64 t) (.slice a2 m p2))
      clear RF
      go_wp2_with fail
      refine bodyPost_ret (v := .agg #[.slice (some ⟨g, o + 1, none⟩) 3 (p0 - 1), .int .i64 t, .slice a2 m p2]) (by simp [results, Try.results64, go_sem, e0, e1, e2]) rfl ⟨_, rfl, hfin _ _ ?_ ?_⟩
      · iterate 4 refine Below.setCell ?_ (by dsimp only; omega) _
        exact Below.refl _ _
      · exact ((((HS1.out.setb 0 _).set0 (p := ⟨w.heap.size, 0, none⟩) (by dsimp only; omega) _).set0 (p := ⟨w.heap.size, 1, none⟩) (by dsimp only; omega) _).set0 (p := ⟨w.heap.size, 2, none⟩) (by dsimp only; omega) _).any (by omega) (by omega) (by omega)
    · have L : Hid (Loop2 D c b w w4) := Lib.hid ⟨m, a0, p0, t, a2, p2, by omega, X.out, S.out, R.out, C.out, N.out⟩
      clear g0 g1 g2 k0 k1 k2 y0 y1 z0 z1 z2 hfin X S R C N hk0 hk1 hbr hm5
      go_wp2_with fail
      go_loopw [28] (fun i wr => Loop2 D c b w wr) (fun _ wr => 5 - lenAt b wr)
      case atStart => exact L.out
      case round =>
        obtain ⟨n, a0, p0, t, a2, p2, hn5, hX, hS, hR, hC, hN⟩ := hrel
        have X := Lib.hid hX
        have S := Lib.hid hS
        have R := Lib.hid hR
        have C := Lib.hid hC
        have N := Lib.hid hN
        have hbr : b < wr.heap.size := hX.lt
        clear hX hS hR hC hN L
        obtain ⟨g0, g1, g2⟩ := cells3 X.out
        have hm0 := Lib.hid (lenAt_of g2)
        have hcD2 := C.out.le
        go_wp2_with fail
        go_region_law (refine step_of rfl ?_; unfold Oper.wp; go_simp; go_at_call 29; refine (belowC D c 2 (by omega) (by omega) _ (by first | exact C.out | exact C.out.drew)).mono ?_; rintro e w2 ⟨x, ⟨hx0, hx1⟩, rfl, c2, h2'⟩; have h2 : Only c wr w2 := (by first | exact h2' | exact only_undrew h2'); clear h2'; have X2 := Lib.hid (bx_only X.out h2 hcb); obtain ⟨l0, l1, l2⟩ := cells3 X2.out)
        all_goals
          have S2 := Lib.hid (S.out.only h2 (by omega))
          have R2 := Lib.hid (bx_only R.out h2 hcb0)
          have N2 := Lib.hid (N.out.trans h2)
          have C2 := Lib.hid c2
          have hb2 : b < w2.heap.size := X2.out.lt
          clear X S R C N g0 g1 g2 h2 c2 hbr
          have hwr : IntKind.i64.wrap (4 + x) = 4 + x := by
            have h01 : x = 0 ∨ x = 1 := by omega
            rcases h01 with rfl | rfl <;> rfl
          have Hwr := Lib.hid hwr
          by_cases hlt : (n : Int) < IntKind.i64.wrap (4 + x)
          · obtain ⟨F, f, hf, hcap, hF, hnext⟩ := S2.out.part hb2 (show w.heap.size + 1 ≤ w2.heap.size by omega) 1
            have HF := Lib.hid hF
            have Hnext := Lib.hid hnext
            have Hcap := Lib.hid hcap
            have Hf := Lib.hid hf
            have y2 := X2.out.warm 2
            clear hcap hF hnext hf hwr
            go_wp2_with (first
              | (at_builtin; refine appRaw rfl _ _ rfl F (.slice a2 n p2) f w2 1 rfl rfl Hcap.out (fun k hk => (HF.out k hk).2.2) (by have := Hf.out; omega) ?_; intro v' w5 hc ht; obtain ⟨u2, q2, rfl, hS5⟩ := Hnext.out v' w5 hc ht; have S5 := Lib.hid hS5; have X5 : Hid (Bx 26 b #[.slice a0 4 p0, .int .i64 t, .slice a2 n p2] w5) := Lib.hid ((ht.block b X2.out.lt (fun hk => (HF.out b hk).2.1 rfl)).trans X2.out); have T5 := Lib.hid ht; obtain ⟨q0, q1, q2'⟩ := cells3 X5.out; have y5 := X5.out.warm 2; clear hc hS5 ht)
              | fail)
            have hw := Hwr.out
            have hb5 : Below (w.heap.size + 1) w2 w5 := T5.out.below (by omega) (fun k hk => (HF.out k hk).1)
            have hb6 := hb5.setCell (p := ⟨b, 2, none⟩) (by dsimp only; omega) (.slice u2 (n + 1) q2)
            have hb7 : Below w.heap.size w2 _ := ⟨hb6.os, hb6.tape, hb6.output, hb6.size, fun k hk => hb6.block k (by omega)⟩
            have X6 : Bx 26 b #[.slice a0 4 p0, .int .i64 t, .slice u2 (n + 1) q2] _ := X5.out.set 2 (.slice u2 (n + 1) q2)
            refine ⟨⟨n + 1, a0, p0, t, u2, q2, by omega, X6, S5.out.setb 2 _, R2.out.below hb6 (by omega), C2.out.belowB hb7 (by omega), N2.out.transB hb7⟩, ?_⟩
            rw [lenAt_of (cells3 X6).2.2, hm0.out]
            omega
          · obtain ⟨k0, k1, k2⟩ := cells3 R2.out
            have z0 := R2.out.warm 0
            have z1 := R2.out.warm 1
            have z2 := R2.out.warm 2
            obtain ⟨e0, e1, e2⟩ := cells3 (Bx.three R2.out (.slice a0 4 p0) (.int .i64 t) (.slice a2 n p2))
            clear hwr
            go_wp2_with fail
            have hbW : Below w.heap.size w2 (((w2.setCell ⟨w.heap.size, 0, none⟩ (.slice a0 4 p0)).setCell ⟨w.heap.size, 1, none⟩ (.int .i64 t)).setCell ⟨w.heap.size, 2, none⟩ (.slice a2 n p2)) := by
              iterate 3 refine Below.setCell ?_ (by dsimp only; omega) _
              exact Below.refl _ _
            refine bodyPost_ret (v := .agg #[.slice a0 4 p0, .int .i64 t, .slice a2 n p2]) (by simp [results, Try.results64, go_sem, e0, e1, e2]) rfl ⟨_, rfl, ?_, C2.out.belowB hbW hD, N2.out.transB hbW⟩
            exact (((S2.out.set0 (p := ⟨w.heap.size, 0, none⟩) (by dsimp only; omega) _).set0 (p := ⟨w.heap.size, 1, none⟩) (by dsimp only; omega) _).set0 (p := ⟨w.heap.size, 2, none⟩) (by dsimp only; omega) _).any (by omega) (by omega) (by omega)
end Go.Proofs.Ytbhmfjblmcppbaa.Cur
