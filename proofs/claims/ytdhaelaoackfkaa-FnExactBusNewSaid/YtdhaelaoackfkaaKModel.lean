
/-
  Model as data; what the laws' own functions do with it. (Made by wip/gk.py.)
-/
import Derived.Test.YtdhaelaoackfkaaKDev
import Derived.Test.YtdhaelaoackfkaaKdI
import Derived.Test.YtdhaelaoackfkaaGRow
import Derived.Outline
namespace Go.Proofs.Ytdhaelaoackfkaa.KD
open Go.RowKit Rows3 GR
set_option linter.unusedVariables false

def modelK : Kn (List Int × (List Int × Int × List Int)) := prod ints devK
theorem model_form {cs : List Value} {x0 : List Int} {x10 : List Int} {x11 : Int} {x12 : List Int} {w : World} (h : modelK.rd cs (x0, (x10, x11, x12)) w) :
    ∃ ax0 px0 ax10 px10 ax12 px12, cs = [.slice ax0 x0.length px0, .slice ax10 x10.length px10, .int .i64 x11, .slice ax12 x12.length px12] ∧ ints.rd [.slice ax0 x0.length px0] x0 w ∧ ints.rd [.slice ax10 x10.length px10] x10 w ∧ ints.rd [.slice ax12 x12.length px12] x12 w := by
  obtain ⟨c0, r0, rfl, h0, h1⟩ := h
  have t0 := h0
  obtain ⟨ax0, px0, rfl, _⟩ := t0
  obtain ⟨ax10, px10, ax12, px12, rfl, qx10, qx12⟩ := dev_form h1
  exact ⟨_, _, _, _, _, _, rfl, h0, qx10, qx12⟩
theorem model_rd {ux0 ux10 ux12 : Value} {x0 : List Int} {x10 : List Int} {x11 : Int} {x12 : List Int} {w : World} (hx0 : ints.rd [ux0] x0 w) (hx10 : ints.rd [ux10] x10 w) (hx12 : ints.rd [ux12] x12 w) : modelK.rd [ux0, ux10, .int .i64 x11, ux12] (x0, (x10, x11, x12)) w :=
  ⟨[ux0], _, rfl, hx0, dev_rd hx10 hx12⟩
theorem cap_model {F : Foot} {cs : List Value} {x0 : List Int} {x10 : List Int} {x11 : Int} {x12 : List Int} {w : World} (h : modelK.cap F cs (x0, (x10, x11, x12)) w) :
    ∃ ax0 px0 ax10 px10 ax12 px12 Fx0 Fx10 Fx12, cs = [.slice ax0 x0.length px0, .slice ax10 x10.length px10, .int .i64 x11, .slice ax12 x12.length px12] ∧ ints.cap Fx0 [.slice ax0 x0.length px0] x0 w ∧ ints.cap Fx10 [.slice ax10 x10.length px10] x10 w ∧ ints.cap Fx12 [.slice ax12 x12.length px12] x12 w ∧ (∀ k, Fx0 k → F k) ∧ (∀ k, Fx10 k → F k) ∧ (∀ k, Fx12 k → F k) ∧ (∀ k, Fx0 k → ¬ Fx10 k) ∧ (∀ k, Fx0 k → ¬ Fx12 k) ∧ (∀ k, Fx10 k → ¬ Fx12 k) := by
  obtain ⟨c0, r0, G0, D0, rfl, d0, e0, h0, h1⟩ := h
  have t0 := h0
  obtain ⟨ax0, px0, rfl, _⟩ := t0
  obtain ⟨ax10, px10, ax12, px12, Fx10, Fx12, rfl, qx10, qx12, sx10, sx12, ux10_x12⟩ := cap_dev h1
  exact ⟨_, _, _, _, _, _, G0, Fx10, Fx12, rfl, h0, qx10, qx12, fun k hk => (d0 k hk).1, fun k hk => (e0 k (sx10 k hk)), fun k hk => (e0 k (sx12 k hk)), fun k hk hk2 => (d0 k hk).2 ((sx10 k hk2)), fun k hk hk2 => (d0 k hk).2 ((sx12 k hk2)), ux10_x12⟩
theorem model_cap {F Fx0 Fx10 Fx12 : Foot} {ux0 ux10 ux12 : Value} {x0 : List Int} {x10 : List Int} {x11 : Int} {x12 : List Int} {w : World} (hx0 : ints.cap Fx0 [ux0] x0 w) (hx10 : ints.cap Fx10 [ux10] x10 w) (hx12 : ints.cap Fx12 [ux12] x12 w)
    (sx0 : ∀ k, Fx0 k → F k) (sx10 : ∀ k, Fx10 k → F k) (sx12 : ∀ k, Fx12 k → F k) (ux0_x10 : ∀ k, Fx0 k → ¬ Fx10 k) (ux0_x12 : ∀ k, Fx0 k → ¬ Fx12 k) (ux10_x12 : ∀ k, Fx10 k → ¬ Fx12 k) : modelK.cap F [ux0, ux10, .int .i64 x11, ux12] (x0, (x10, x11, x12)) w :=
  ⟨[ux0], _, (fun k => Fx0 k), (fun k => Fx10 k ∨ Fx12 k), rfl, fun k hk => ⟨sx0 k hk, fun hk2 => hk2.elim (fun hk2 => ux0_x10 k hk hk2) (fun hk2 => ux0_x12 k hk hk2)⟩, fun k hk => hk.elim (fun hk => sx10 k hk) (fun hk => sx12 k hk), hx0, dev_cap hx10 hx12 (fun k hk => (.inl hk)) (fun k hk => (.inr hk)) ux10_x12⟩
theorem model_sz (x0 : List Int) (x10 : List Int) (x11 : Int) (x12 : List Int) : modelK.sz (x0, (x10, x11, x12)) = ints.sz x0 + devK.sz (x10, x11, x12) := by
  show ints.sz x0 + devK.sz (x10, x11, x12) = _
  omega
theorem model_cT (x0 : List Int) (x10 : List Int) (x11 : Int) (x12 : List Int) : modelK.cT (x0, (x10, x11, x12)) = ints.cT x0 + devK.cT (x10, x11, x12) := by
  show ints.cT x0 + devK.cT (x10, x11, x12) = _
  omega
theorem model_mT (x0 : List Int) (x10 : List Int) (x11 : Int) (x12 : List Int) (k : Int) : modelK.mT (x0, (x10, x11, x12)) k = (ints.mT x0 (k), devK.mT (x10, x11, x12) (k + (ints.cT x0 : Int))) := by
  show (ints.mT x0 (k), devK.mT (x10, x11, x12) (k + (ints.cT x0 : Int))) = _
  simp
set_option maxRecDepth 100000 in
theorem szModel : SzC modelK agg 51 := by
  intro cs x L w hr h0 h1
  obtain ⟨x0, ⟨x10, x11, x12⟩⟩ := x
  rw [model_sz]
  obtain ⟨ax0, px0, ax10, px10, ax12, px12, rfl, rx0, rx10, rx12⟩ := model_form hr
  have Rx0 := Lib.hid rx0
  have Rx10 := Lib.hid rx10
  have Rx12 := Lib.hid rx12
  clear hr rx0 rx10 rx12
  obtain ⟨n0, hn0⟩ : ∃ n, ints.sz x0 = n := ⟨_, rfl⟩
  obtain ⟨n1, hn1⟩ : ∃ n, devK.sz (x10, x11, x12) = n := ⟨_, rfl⟩
  rw [hn0, hn1]
  have B0 := Lib.hid (Bx.new 57 #[.slice ax0 x0.length px0, .slice ax10 x10.length px10, .int .i64 x11, .slice ax12 x12.length px12] w)
  have HB0 := Lib.hid ((Below.refl w.heap.size w).alloc (Nat.le_refl _) (Obj.cells #[.slice ax0 x0.length px0, .slice ax10 x10.length px10, .int .i64 x11, .slice ax12 x12.length px12] 57))
  show Calls _ _ #[.agg #[.slice ax0 x0.length px0, .slice ax10 x10.length px10, .int .i64 x11, .slice ax12 x12.length px12], .int .i64 L] w _
  obtain ⟨M0, hM0⟩ : ∃ M, szW L n0 = M := ⟨_, rfl⟩
  have hb0 := szW_bd L n0 (by omega)
  rw [hM0] at hb0
  have ht0 := hM0
  have HM0 : Hid (szW L (ints.sz x0) = M0) := Lib.hid (by rw [hn0]; exact hM0)
  by_cases c0 : M0 < 0
  · have He : Hid (szW L (n0 + n1) = -1) := Lib.hid (szW_neg (by rw [ht0]; exact c0))
    obtain rfl : M0 = -1 := by omega
    clear hM0 ht0 hn0 hn1
    go_enter Try.func51, Try.ntmps51
    go_wp2_with fail
    generalize w.alloc (Obj.cells #[.slice ax0 x0.length px0, .slice ax10 x10.length px10, .int .i64 x11, .slice ax12 x12.length px12] 57) = y0 at B0 HB0 ⊢
    refine (szIntS [.slice ax0 x0.length px0] x0 L _ (ints.rd_later Rx0.out HB0.out) (by omega) (by omega)).mono ?_
    rintro e y1 ⟨rfl, hb⟩
    rw [HM0.out]
    have B1 := Lib.hid (B0.out.later hb)
    have HB1 := Lib.hid (HB0.out.trans (hb.mono HB0.out.size))
    have g0 := B1.out.cell 0 _ rfl
    have g1 := B1.out.cell 1 _ rfl
    have g2 := B1.out.cell 2 _ rfl
    have g3 := B1.out.cell 3 _ rfl
    clear hb
    go_wp2
    go_ret
    exact ⟨by rw [He.out]; rfl, HB1.out⟩
  · skip
    obtain ⟨M1, hM1⟩ : ∃ M, szW M0 n1 = M := ⟨_, rfl⟩
    have hb1 := szW_bd M0 n1 (by omega)
    rw [hM1] at hb1
    have ht1 : szW L (n0 + n1) = M1 := by rw [← hM1, szW_pos ht0 (by omega)]
    have HM1 : Hid (szW M0 (devK.sz (x10, x11, x12)) = M1) := Lib.hid (by rw [hn1]; exact hM1)
    have He := Lib.hid ht1
    clear hM0 hM1 ht0 ht1 hn0 hn1
    by_cases c1 : M1 < 0
    · obtain rfl : M1 = -1 := by omega
      go_enter Try.func51, Try.ntmps51
      go_wp2_with fail
      generalize w.alloc (Obj.cells #[.slice ax0 x0.length px0, .slice ax10 x10.length px10, .int .i64 x11, .slice ax12 x12.length px12] 57) = y0 at B0 HB0 ⊢
      refine (szIntS [.slice ax0 x0.length px0] x0 L _ (ints.rd_later Rx0.out HB0.out) (by omega) (by omega)).mono ?_
      rintro e y1 ⟨rfl, hb⟩
      rw [HM0.out]
      have B1 := Lib.hid (B0.out.later hb)
      have HB1 := Lib.hid (HB0.out.trans (hb.mono HB0.out.size))
      have g0 := B1.out.cell 0 _ rfl
      have g1 := B1.out.cell 1 _ rfl
      have g2 := B1.out.cell 2 _ rfl
      have g3 := B1.out.cell 3 _ rfl
      clear hb
      go_wp2_with fail
      refine (szDev [.slice ax10 x10.length px10, .int .i64 x11, .slice ax12 x12.length px12] (x10, x11, x12) M0 _ (dev_rd (ints.rd_later Rx10.out HB1.out) (ints.rd_later Rx12.out HB1.out)) (by omega) (by omega)).mono ?_
      rintro e y2 ⟨rfl, hb⟩
      rw [HM1.out]
      have B2 := Lib.hid (B1.out.later hb)
      have HB2 := Lib.hid (HB1.out.trans (hb.mono HB1.out.size))
      clear g0 g1 g2 g3
      have g0 := B2.out.cell 0 _ rfl
      have g1 := B2.out.cell 1 _ rfl
      have g2 := B2.out.cell 2 _ rfl
      have g3 := B2.out.cell 3 _ rfl
      clear hb
      go_wp2
      go_ret
      exact ⟨by rw [He.out]; rfl, HB2.out⟩
    · skip
      go_enter Try.func51, Try.ntmps51
      go_wp2_with fail
      generalize w.alloc (Obj.cells #[.slice ax0 x0.length px0, .slice ax10 x10.length px10, .int .i64 x11, .slice ax12 x12.length px12] 57) = y0 at B0 HB0 ⊢
      refine (szIntS [.slice ax0 x0.length px0] x0 L _ (ints.rd_later Rx0.out HB0.out) (by omega) (by omega)).mono ?_
      rintro e y1 ⟨rfl, hb⟩
      rw [HM0.out]
      have B1 := Lib.hid (B0.out.later hb)
      have HB1 := Lib.hid (HB0.out.trans (hb.mono HB0.out.size))
      have g0 := B1.out.cell 0 _ rfl
      have g1 := B1.out.cell 1 _ rfl
      have g2 := B1.out.cell 2 _ rfl
      have g3 := B1.out.cell 3 _ rfl
      clear hb
      go_wp2_with fail
      refine (szDev [.slice ax10 x10.length px10, .int .i64 x11, .slice ax12 x12.length px12] (x10, x11, x12) M0 _ (dev_rd (ints.rd_later Rx10.out HB1.out) (ints.rd_later Rx12.out HB1.out)) (by omega) (by omega)).mono ?_
      rintro e y2 ⟨rfl, hb⟩
      rw [HM1.out]
      have B2 := Lib.hid (B1.out.later hb)
      have HB2 := Lib.hid (HB1.out.trans (hb.mono HB1.out.size))
      clear g0 g1 g2 g3
      have g0 := B2.out.cell 0 _ rfl
      have g1 := B2.out.cell 1 _ rfl
      have g2 := B2.out.cell 2 _ rfl
      have g3 := B2.out.cell 3 _ rfl
      clear hb
      go_wp2
      go_ret
      exact ⟨by rw [He.out]; rfl, HB2.out⟩
set_option maxRecDepth 100000 in
theorem toModel : ToC modelK agg 63 := by
  intro cs x w hs hr
  obtain ⟨x0, ⟨x10, x11, x12⟩⟩ := x
  rw [model_sz] at hs
  obtain ⟨ax0, px0, ax10, px10, ax12, px12, rfl, rx0, rx10, rx12⟩ := model_form hr
  have Rx0 := Lib.hid rx0
  have Rx10 := Lib.hid rx10
  have Rx12 := Lib.hid rx12
  clear hr rx0 rx10 rx12
  have hsz : ∀ (w : World) o, (w.alloc o).heap.size = w.heap.size + 1 := fun w o => by simp
  have A1 := Lib.hid (((Bx.new 57 #[.slice ax0 x0.length px0, .slice ax10 x10.length px10, .int .i64 x11, .slice ax12 x12.length px12] w).alloc (Obj.cells #[.slice none 0 0, .slice none 0 0, .int .i64 0, .slice none 0 0] 39)).alloc (Obj.cells #[.slice none 0 0, .slice none 0 0, .int .i64 0, .slice none 0 0] 39))
  have A2 := (Bx.new 39 #[.slice none 0 0, .slice none 0 0, .int .i64 0, .slice none 0 0] (w.alloc (Obj.cells #[.slice ax0 x0.length px0, .slice ax10 x10.length px10, .int .i64 x11, .slice ax12 x12.length px12] 57))).alloc (Obj.cells #[.slice none 0 0, .slice none 0 0, .int .i64 0, .slice none 0 0] 39)
  have A3 := Bx.new 39 #[.slice none 0 0, .slice none 0 0, .int .i64 0, .slice none 0 0] ((w.alloc (Obj.cells #[.slice ax0 x0.length px0, .slice ax10 x10.length px10, .int .i64 x11, .slice ax12 x12.length px12] 57)).alloc (Obj.cells #[.slice none 0 0, .slice none 0 0, .int .i64 0, .slice none 0 0] 39))
  rw [hsz] at A2
  rw [hsz, hsz] at A3
  have HA2 := Lib.hid A2
  have HA3 := Lib.hid A3
  have HB0 := Lib.hid ((((Below.refl w.heap.size w).alloc (Nat.le_refl _) (Obj.cells #[.slice ax0 x0.length px0, .slice ax10 x10.length px10, .int .i64 x11, .slice ax12 x12.length px12] 57)).alloc (by simp) (Obj.cells #[.slice none 0 0, .slice none 0 0, .int .i64 0, .slice none 0 0] 39)).alloc (by simp; omega) (Obj.cells #[.slice none 0 0, .slice none 0 0, .int .i64 0, .slice none 0 0] 39))
  have hn3 := size_alloc3 w (Obj.cells #[.slice ax0 x0.length px0, .slice ax10 x10.length px10, .int .i64 x11, .slice ax12 x12.length px12] 57) (Obj.cells #[.slice none 0 0, .slice none 0 0, .int .i64 0, .slice none 0 0] 39) (Obj.cells #[.slice none 0 0, .slice none 0 0, .int .i64 0, .slice none 0 0] 39)
  have Hz0 : Hid (w.heap.size + 1 + 1 + 1 ≤ (((w.alloc (Obj.cells #[.slice ax0 x0.length px0, .slice ax10 x10.length px10, .int .i64 x11, .slice ax12 x12.length px12] 57)).alloc (Obj.cells #[.slice none 0 0, .slice none 0 0, .int .i64 0, .slice none 0 0] 39)).alloc (Obj.cells #[.slice none 0 0, .slice none 0 0, .int .i64 0, .slice none 0 0] 39)).heap.size) := Lib.hid (by rw [hn3]; exact Nat.le_refl _)
  clear A2 A3 hsz hn3
  show Calls _ _ #[.agg #[.slice ax0 x0.length px0, .slice ax10 x10.length px10, .int .i64 x11, .slice ax12 x12.length px12]] w _
  go_enter Try.func63, Try.ntmps63
  go_wp2_with fail
  have X1_0 := A1
  have X2_0 := HA2
  have X3_0 := HA3
  clear A1 HA2 HA3
  generalize ((w.alloc (Obj.cells #[.slice ax0 x0.length px0, .slice ax10 x10.length px10, .int .i64 x11, .slice ax12 x12.length px12] 57)).alloc (Obj.cells #[.slice none 0 0, .slice none 0 0, .int .i64 0, .slice none 0 0] 39)).alloc (Obj.cells #[.slice none 0 0, .slice none 0 0, .int .i64 0, .slice none 0 0] 39) = y0 at X1_0 X2_0 X3_0 HB0 Hz0 ⊢
  have HB_0 := HB0
  clear HB0
  refine (toIntS [.slice ax0 x0.length px0] x0 _ (by omega) (ints.rd_later Rx0.out HB_0.out)).mono ?_
  rintro e v1 ⟨us, he, hc, hb⟩
  obtain ⟨bx0, qx0, rfl, _⟩ := ints.cap_rd hc
  obtain rfl : e = .returned (.slice bx0 x0.length qx0) := he
  have Vx0 := Lib.hid (ints.cap_wide (ints.cap_top hc) (G := fun k => y0.heap.size ≤ k ∧ k < v1.heap.size) (fun k _ hk => hk))
  have W1 := Lib.hid (X1_0.out.later hb)
  have W2 := Lib.hid (X2_0.out.later hb)
  have W3 := Lib.hid (X3_0.out.later hb)
  have WB := Lib.hid (HB_0.out.trans (hb.mono HB_0.out.size))
  have Wz := Lib.hid (Nat.le_trans Hz0.out hb.size)
  have Ws := Lib.hid hb.size
  have Wy0 := Lib.hid Hz0.out
  clear hc hb
  have g0 := W3.out.cell 0 _ rfl
  have g1 := W3.out.cell 1 _ rfl
  have g2 := W3.out.cell 2 _ rfl
  have g3 := W3.out.cell 3 _ rfl
  have a0 := W1.out.cell 0 _ rfl
  have a1 := W1.out.cell 1 _ rfl
  have a2 := W1.out.cell 2 _ rfl
  have a3 := W1.out.cell 3 _ rfl
  have z0 := W3.out.warm 0
  have z1 := W3.out.warm 1
  have z2 := W3.out.warm 2
  have z3 := W3.out.warm 3
  have X1_1 := Lib.hid (W1.out.far (p := ⟨w.heap.size + 1 + 1, 0, none⟩) (by dsimp only; omega) (.slice bx0 x0.length qx0))
  have X2_1 := Lib.hid (W2.out.far (p := ⟨w.heap.size + 1 + 1, 0, none⟩) (by dsimp only; omega) (.slice bx0 x0.length qx0))
  have X3_1 := Lib.hid (show Bx 39 (w.heap.size + 1 + 1) #[.slice bx0 x0.length qx0, .slice none 0 0, .int .i64 0, .slice none 0 0] ((v1.setCell ⟨w.heap.size + 1 + 1, 0, none⟩ (.slice bx0 x0.length qx0))) from (W3.out.set 0 (.slice bx0 x0.length qx0)))
  have HB_1 := Lib.hid (WB.out.setCell (p := ⟨w.heap.size + 1 + 1, 0, none⟩) (by dsimp only; omega) (.slice bx0 x0.length qx0))
  have Ux0_1 := Lib.hid (ints.cap_set Vx0.out (p := ⟨w.heap.size + 1 + 1, 0, none⟩) (fun hk => by have h1 := Wy0.out; have h2 : y0.heap.size ≤ w.heap.size + 1 + 1 := hk.1; omega) (.slice bx0 x0.length qx0))
  have Hy1 : Hid (w.heap.size + 1 + 1 + 1 ≤ ((v1.setCell ⟨w.heap.size + 1 + 1, 0, none⟩ (.slice bx0 x0.length qx0))).heap.size) := Lib.hid (by have := Wz.out; simp [World.setCell]; omega)
  have Hv1_1 : Hid (v1.heap.size ≤ ((v1.setCell ⟨w.heap.size + 1 + 1, 0, none⟩ (.slice bx0 x0.length qx0))).heap.size) := Lib.hid (by simp [World.setCell])
  clear W1 W2 W3 WB Wz Ws Vx0
  go_wp2_with fail
  clear g0 g1 g2 g3 a0 a1 a2 a3 z0 z1 z2 z3
  generalize (v1.setCell ⟨w.heap.size + 1 + 1, 0, none⟩ (.slice bx0 x0.length qx0)) = y1 at X1_1 X2_1 X3_1 HB_1 Hy1 Hv1_1 Ux0_1 ⊢
  refine (toDev [.slice ax10 x10.length px10, .int .i64 x11, .slice ax12 x12.length px12] (x10, x11, x12) _ (by omega) (dev_rd (ints.rd_later Rx10.out HB_1.out) (ints.rd_later Rx12.out HB_1.out))).mono ?_
  rintro e v2 ⟨us, he, hc, hb⟩
  obtain ⟨bx10, qx10, bx12, qx12, rfl, _, _⟩ := dev_form (devK.cap_rd hc)
  obtain rfl : e = .returned (.agg #[.slice bx10 x10.length qx10, .int .i64 x11, .slice bx12 x12.length qx12]) := he
  have Vx0 := Lib.hid (ints.cap_later Ux0_1.out hb)
  have Vx1 := Lib.hid (devK.cap_wide (devK.cap_top hc) (G := fun k => y1.heap.size ≤ k ∧ k < v2.heap.size) (fun k _ hk => hk))
  have W1 := Lib.hid (X1_1.out.later hb)
  have W2 := Lib.hid (X2_1.out.later hb)
  have W3 := Lib.hid (X3_1.out.later hb)
  have WB := Lib.hid (HB_1.out.trans (hb.mono HB_1.out.size))
  have Wz := Lib.hid (Nat.le_trans Hy1.out hb.size)
  have Ws := Lib.hid hb.size
  have Wy1 := Lib.hid Hy1.out
  clear hc hb
  have g0 := W3.out.cell 0 _ rfl
  have g1 := W3.out.cell 1 _ rfl
  have g2 := W3.out.cell 2 _ rfl
  have g3 := W3.out.cell 3 _ rfl
  have a0 := W1.out.cell 0 _ rfl
  have a1 := W1.out.cell 1 _ rfl
  have a2 := W1.out.cell 2 _ rfl
  have a3 := W1.out.cell 3 _ rfl
  have z0 := W3.out.warm 0
  have z1 := W3.out.warm 1
  have z2 := W3.out.warm 2
  have z3 := W3.out.warm 3
  have e0 := W2.out.cell 0 _ rfl
  have e1 := W2.out.cell 1 _ rfl
  have e2 := W2.out.cell 2 _ rfl
  have e3 := W2.out.cell 3 _ rfl
  have f0 := W2.out.warm 0
  have f1 := W2.out.warm 1
  have f2 := W2.out.warm 2
  have f3 := W2.out.warm 3
  go_wp2_with fail
  have Tx0 : Hid (∀ w2, Turn (fun k => k = w.heap.size + 1 + 1 ∨ k = w.heap.size + 1) v2 w2 → ints.cap (fun k => y0.heap.size ≤ k ∧ k < v1.heap.size) [.slice bx0 x0.length qx0] x0 w2) := Lib.hid (fun w2 ht => ints.cap_turn Vx0.out ht (fun k _ hk he => by have h1 := Wy0.out; have h2 : y0.heap.size ≤ k := hk.1; omega))
  have Tx1 : Hid (∀ w2, Turn (fun k => k = w.heap.size + 1 + 1 ∨ k = w.heap.size + 1) v2 w2 → devK.cap (fun k => y1.heap.size ≤ k ∧ k < v2.heap.size) [.slice bx10 x10.length qx10, .int .i64 x11, .slice bx12 x12.length qx12] (x10, x11, x12) w2) := Lib.hid (fun w2 ht => devK.cap_turn Vx1.out ht (fun k _ hk he => by have h1 := Wy1.out; have h2 : y1.heap.size ≤ k := hk.1; omega))
  refine bodyPost_ret (v := .agg #[.slice bx0 x0.length qx0, .slice bx10 x10.length qx10, .int .i64 x11, .slice bx12 x12.length qx12]) (by simp [results, Try.results63, go_sem, e0, e1, e2, e3]) rfl ⟨[.slice bx0 x0.length qx0, .slice bx10 x10.length qx10, .int .i64 x11, .slice bx12 x12.length qx12], rfl, ?_, ?_⟩
  · have ht : ∀ {w2 : World}, Turn (fun k => k = w.heap.size + 1 + 1 ∨ k = w.heap.size + 1) v2 w2 → modelK.cap (fun k => w.heap.size ≤ k) [.slice bx0 x0.length qx0, .slice bx10 x10.length qx10, .int .i64 x11, .slice bx12 x12.length qx12] (x0, (x10, x11, x12)) w2 := fun {w2} ht => by
      have tx0 := Tx0.out w2 ht
      obtain ⟨_, _, _, _, Fx10, Fx12, ecs, tx10, tx12, sx10, sx12, ux10_x12⟩ := cap_dev (Tx1.out w2 ht)
      cases ecs
      exact model_cap tx0 tx10 tx12 (fun k hk => by have h1 := Wy0.out; have h2 : y0.heap.size ≤ k := (hk).1; omega) (fun k hk => by have h1 := Wy1.out; have h2 : y1.heap.size ≤ k := ((sx10 k hk)).1; omega) (fun k hk => by have h1 := Wy1.out; have h2 : y1.heap.size ≤ k := ((sx12 k hk)).1; omega) (fun k hk hk2 => by have h1 : k < v1.heap.size := (hk).2; have h2 : y1.heap.size ≤ k := ((sx10 k hk2)).1; have h3 := Hv1_1.out; omega) (fun k hk hk2 => by have h1 : k < v1.heap.size := (hk).2; have h2 : y1.heap.size ≤ k := ((sx12 k hk2)).1; have h3 := Hv1_1.out; omega) ux10_x12
    refine ht ?_
    iterate 7 refine Turn.set ?_ (by simp) _
    exact Turn.refl _ _
  · iterate 7 refine Below.setCell ?_ (by dsimp only; omega) _
    exact WB.out
set_option maxRecDepth 100000 in
theorem eqModel : EqC modelK agg 33 := by
  intro cs ds x w hs hr hr2
  obtain ⟨x0, ⟨x10, x11, x12⟩⟩ := x
  rw [model_sz] at hs
  obtain ⟨ax0, px0, ax10, px10, ax12, px12, rfl, rx0, rx10, rx12⟩ := model_form hr
  have Rx0 := Lib.hid rx0
  have Rx10 := Lib.hid rx10
  have Rx12 := Lib.hid rx12
  clear hr rx0 rx10 rx12
  obtain ⟨bx0, qx0, bx10, qx10, bx12, qx12, rfl, sx0, sx10, sx12⟩ := model_form hr2
  have Sx0 := Lib.hid sx0
  have Sx10 := Lib.hid sx10
  have Sx12 := Lib.hid sx12
  clear hr2 sx0 sx10 sx12
  have hsz : ∀ (w : World) o, (w.alloc o).heap.size = w.heap.size + 1 := fun w o => by simp
  have A0 := Lib.hid ((Bx.new 39 #[.slice ax0 x0.length px0, .slice ax10 x10.length px10, .int .i64 x11, .slice ax12 x12.length px12] w).alloc (Obj.cells #[.slice bx0 x0.length qx0, .slice bx10 x10.length qx10, .int .i64 x11, .slice bx12 x12.length qx12] 39))
  have B0 := Bx.new 39 #[.slice bx0 x0.length qx0, .slice bx10 x10.length qx10, .int .i64 x11, .slice bx12 x12.length qx12] (w.alloc (Obj.cells #[.slice ax0 x0.length px0, .slice ax10 x10.length px10, .int .i64 x11, .slice ax12 x12.length px12] 39))
  rw [hsz] at B0
  have X0 := Lib.hid B0
  clear B0 hsz
  have HB0 := Lib.hid (((Below.refl w.heap.size w).alloc (Nat.le_refl _) (Obj.cells #[.slice ax0 x0.length px0, .slice ax10 x10.length px10, .int .i64 x11, .slice ax12 x12.length px12] 39)).alloc (by simp) (Obj.cells #[.slice bx0 x0.length qx0, .slice bx10 x10.length qx10, .int .i64 x11, .slice bx12 x12.length qx12] 39))
  have nx11 : (x11 != x11) = false := by simp
  show Calls _ _ #[.agg #[.slice ax0 x0.length px0, .slice ax10 x10.length px10, .int .i64 x11, .slice ax12 x12.length px12], .agg #[.slice bx0 x0.length qx0, .slice bx10 x10.length qx10, .int .i64 x11, .slice bx12 x12.length qx12]] w _
  go_enter Try.func33, Try.ntmps33
  go_wp2_with fail
  generalize (w.alloc (Obj.cells #[.slice ax0 x0.length px0, .slice ax10 x10.length px10, .int .i64 x11, .slice ax12 x12.length px12] 39)).alloc (Obj.cells #[.slice bx0 x0.length qx0, .slice bx10 x10.length qx10, .int .i64 x11, .slice bx12 x12.length qx12] 39) = y0 at A0 X0 HB0 ⊢
  refine (eqIntS [.slice ax0 x0.length px0] [.slice bx0 x0.length qx0] x0 _ (by omega) (ints.rd_later Rx0.out HB0.out) (ints.rd_later Sx0.out HB0.out)).mono ?_
  rintro e y1 ⟨rfl, hb⟩
  have A1 := Lib.hid (A0.out.later hb)
  have X1 := Lib.hid (X0.out.later hb)
  have HB1 := Lib.hid (HB0.out.trans (hb.mono HB0.out.size))
  clear hb
  have g0 := A1.out.cell 0 _ rfl
  have g1 := A1.out.cell 1 _ rfl
  have g2 := A1.out.cell 2 _ rfl
  have g3 := A1.out.cell 3 _ rfl
  have k0 := X1.out.cell 0 _ rfl
  have k1 := X1.out.cell 1 _ rfl
  have k2 := X1.out.cell 2 _ rfl
  have k3 := X1.out.cell 3 _ rfl
  go_wp2_with fail
  clear g0 g1 g2 g3 k0 k1 k2 k3
  refine (eqDev [.slice ax10 x10.length px10, .int .i64 x11, .slice ax12 x12.length px12] [.slice bx10 x10.length qx10, .int .i64 x11, .slice bx12 x12.length qx12] (x10, x11, x12) _ (by omega) (dev_rd (ints.rd_later Rx10.out HB1.out) (ints.rd_later Rx12.out HB1.out)) (dev_rd (ints.rd_later Sx10.out HB1.out) (ints.rd_later Sx12.out HB1.out))).mono ?_
  rintro e y2 ⟨rfl, hb⟩
  have A2 := Lib.hid (A1.out.later hb)
  have X2 := Lib.hid (X1.out.later hb)
  have HB2 := Lib.hid (HB1.out.trans (hb.mono HB1.out.size))
  clear hb
  have g0 := A2.out.cell 0 _ rfl
  have g1 := A2.out.cell 1 _ rfl
  have g2 := A2.out.cell 2 _ rfl
  have g3 := A2.out.cell 3 _ rfl
  have k0 := X2.out.cell 0 _ rfl
  have k1 := X2.out.cell 1 _ rfl
  have k2 := X2.out.cell 2 _ rfl
  have k3 := X2.out.cell 3 _ rfl
  go_wp2
  go_ret
  exact ⟨rfl, HB2.out⟩
set_option maxRecDepth 100000 in
theorem markModel : MarkC modelK agg 40 := by
  intro F cs x k0 w hs h0 h1 hc
  obtain ⟨x0, ⟨x10, x11, x12⟩⟩ := x
  rw [model_sz] at hs
  rw [model_cT] at h1 ⊢
  rw [model_mT]
  obtain ⟨c0, r0, G0, L0, rfl, d0, e0, h0, h1⟩ := modelK.cap_top hc
  have t0 := h0
  obtain ⟨ax0, px0, rfl, _⟩ := t0
  obtain ⟨ax10, px10, ax12, px12, rfl, _, _⟩ := dev_form (devK.cap_rd h1)
  have Cx0_0 := Lib.hid h0
  have Sx0 : Hid (∀ k, G0 k → F k ∧ k < w.heap.size) := Lib.hid (fun k hk => (d0 k hk).1)
  have Cx1_0 := Lib.hid h1
  have Sx1 : Hid (∀ k, L0 k → F k ∧ k < w.heap.size) := Lib.hid (fun k hk => (e0 k hk))
  have Ux0_x1 : Hid (∀ k, G0 k → ¬ L0 k) := Lib.hid (fun k hk hk2 => (d0 k hk).2 (hk2))
  have Dd0 := Lib.hid d0
  have De0 := Lib.hid e0
  clear hc d0 e0 h0 h1
  have B0 := Lib.hid (Bx.new 39 #[.slice ax0 x0.length px0, .slice ax10 x10.length px10, .int .i64 x11, .slice ax12 x12.length px12] w)
  have HA := Lib.hid ((Below.refl w.heap.size w).alloc (Nat.le_refl _) (Obj.cells #[.slice ax0 x0.length px0, .slice ax10 x10.length px10, .int .i64 x11, .slice ax12 x12.length px12] 39))
  show Calls _ _ #[.agg #[.slice ax0 x0.length px0, .slice ax10 x10.length px10, .int .i64 x11, .slice ax12 x12.length px12], .int .i64 k0] w _
  go_enter Try.func40, Try.ntmps40
  go_wp2_with fail
  generalize w.alloc (Obj.cells #[.slice ax0 x0.length px0, .slice ax10 x10.length px10, .int .i64 x11, .slice ax12 x12.length px12] 39) = y0 at B0 HA ⊢
  have HT0 : Hid (Turn F w y0) := Lib.hid (Turn.later HA.out)
  have Dx0_0 := Lib.hid (ints.cap_later Cx0_0.out HA.out)
  have Dx1_0 := Lib.hid (devK.cap_later Cx1_0.out HA.out)
  clear HA Cx0_0 Cx1_0
  refine (markIntS G0 [.slice ax0 x0.length px0] x0 k0 _ (by omega) (by omega) (by omega) Dx0_0.out).mono ?_
  rintro e y1 ⟨rfl, hc, ht⟩
  obtain ⟨k1, hk1⟩ : ∃ k, k0 + (ints.cT x0 : Int) = k := ⟨_, rfl⟩
  rw [hk1]
  have B1 : Hid (Bx 39 w.heap.size #[.slice ax0 x0.length px0, .slice ax10 x10.length px10, .int .i64 x11, .slice ax12 x12.length px12] y1) := Lib.hid ((ht.block _ B0.out.lt (fun h => by have := (Sx0.out _ h).2; omega)).trans B0.out)
  have HT1 := Lib.hid (HT0.out.trans (ht.wide (fun k hk => (Sx0.out k hk).1)))
  have Dx0_1 := Lib.hid hc
  have Dx1_1 := Lib.hid (devK.cap_turn Dx1_0.out ht (fun k _ hf hg => Ux0_x1.out k hg hf))
  clear hc ht Dx0_0 Dx1_0
  have g0 := B1.out.cell 0 _ rfl
  have g1 := B1.out.cell 1 _ rfl
  have g2 := B1.out.cell 2 _ rfl
  have g3 := B1.out.cell 3 _ rfl
  go_wp2_with fail
  clear g0 g1 g2 g3
  refine (markDev L0 [.slice ax10 x10.length px10, .int .i64 x11, .slice ax12 x12.length px12] (x10, x11, x12) k1 _ (by omega) (by omega) (by omega) Dx1_1.out).mono ?_
  rintro e y2 ⟨rfl, hc, ht⟩
  obtain ⟨k2, hk2⟩ : ∃ k, k1 + (devK.cT (x10, x11, x12) : Int) = k := ⟨_, rfl⟩
  rw [hk2]
  have B2 : Hid (Bx 39 w.heap.size #[.slice ax0 x0.length px0, .slice ax10 x10.length px10, .int .i64 x11, .slice ax12 x12.length px12] y2) := Lib.hid ((ht.block _ B1.out.lt (fun h => by have := (Sx1.out _ h).2; omega)).trans B1.out)
  have HT2 := Lib.hid (HT1.out.trans (ht.wide (fun k hk => (Sx1.out k hk).1)))
  have Dx0_2 := Lib.hid (ints.cap_turn Dx0_1.out ht (fun k _ hf hg => Ux0_x1.out k hf hg))
  have Dx1_2 := Lib.hid hc
  clear hc ht Dx0_1 Dx1_1
  have g0 := B2.out.cell 0 _ rfl
  have g1 := B2.out.cell 1 _ rfl
  have g2 := B2.out.cell 2 _ rfl
  have g3 := B2.out.cell 3 _ rfl
  have He : Hid (k2 = k0 + ((ints.cT x0 + devK.cT (x10, x11, x12) : Nat) : Int)) := Lib.hid (by omega)
  have Hk1 := Lib.hid hk1
  have Hk2 := Lib.hid hk2
  clear hk1 hk2
  go_wp2
  go_ret
  refine ⟨by rw [← He.out]; rfl, ?_, HT2.out⟩
  have E1 : Hid (k0 + (ints.cT x0 : Int) = k1) := Lib.hid (by have h1 := Hk1.out;  omega)
  rw [E1.out]
  refine modelK.cap_wide (F := fun k => F k ∧ k < w.heap.size) ?_ (fun k _ hk => hk.1)
  exact ⟨[.slice ax0 x0.length px0], _, G0, L0, rfl, Dd0.out, De0.out, Dx0_2.out, Dx1_2.out⟩
set_option maxRecDepth 100000 in
theorem heldModel : HeldC modelK agg 46 := by
  intro cs x k0 w hs h0 h1 hr
  obtain ⟨x0, ⟨x10, x11, x12⟩⟩ := x
  rw [model_sz] at hs
  rw [model_cT] at h1 ⊢
  rw [model_mT] at hr
  obtain ⟨k1, hk1⟩ : ∃ k, k0 + (ints.cT x0 : Int) = k := ⟨_, rfl⟩
  rw [hk1] at hr
  obtain ⟨k2, hk2⟩ : ∃ k, k1 + (devK.cT (x10, x11, x12) : Int) = k := ⟨_, rfl⟩
  obtain ⟨c0, r0, rfl, h0, h1⟩ := hr
  obtain ⟨m0, hm0⟩ : ∃ m, ints.mT x0 (k0) = m := ⟨_, rfl⟩
  replace h0 : ints.rd c0 m0 w := by rw [← hm0]; exact h0
  have t0 := h0
  obtain ⟨am0, pm0, rfl, _⟩ := t0
  have R0 := Lib.hid h0
  have Hm0 := Lib.hid hm0
  clear h0 hm0
  obtain ⟨⟨m10, m11, m12⟩, hm1⟩ : ∃ m, devK.mT (x10, x11, x12) (k1) = m := ⟨_, rfl⟩
  replace h1 : devK.rd r0 (m10, m11, m12) w := by rw [← hm1]; exact h1
  obtain ⟨am10, pm10, am12, pm12, rfl, _, _⟩ := dev_form h1
  have R1 := Lib.hid h1
  have Hm1 := Lib.hid hm1
  clear h1 hm1
  have He : Hid (k2 = k0 + ((ints.cT x0 + devK.cT (x10, x11, x12) : Nat) : Int)) := Lib.hid (by omega)
  have B0 := Lib.hid (Bx.new 39 #[.slice am0 m0.length pm0, .slice am10 m10.length pm10, .int .i64 m11, .slice am12 m12.length pm12] w)
  have HB0 := Lib.hid ((Below.refl w.heap.size w).alloc (Nat.le_refl _) (Obj.cells #[.slice am0 m0.length pm0, .slice am10 m10.length pm10, .int .i64 m11, .slice am12 m12.length pm12] 39))
  show Calls _ _ #[.agg #[.slice am0 m0.length pm0, .slice am10 m10.length pm10, .int .i64 m11, .slice am12 m12.length pm12], .int .i64 k0] w _
  have hp1 : ¬ k1 < 0 := by omega
  have hq1 : 0 ≤ k1 := by omega
  have hp2 : ¬ k2 < 0 := by omega
  have hq2 : 0 ≤ k2 := by omega
  have hl0 : k0 + (ints.cT x0 : Int) ≤ 4611686018427387904 := by omega
  have Hl0 := Lib.hid hl0
  have hl1 : k1 + (devK.cT (x10, x11, x12) : Int) ≤ 4611686018427387904 := by omega
  have Hl1 := Lib.hid hl1
  have Hk1 := Lib.hid hk1
  have Hk2 := Lib.hid hk2
  clear hk1 hk2 hl0 hl1
  go_enter Try.func46, Try.ntmps46
  go_wp2_with fail
  generalize w.alloc (Obj.cells #[.slice am0 m0.length pm0, .slice am10 m10.length pm10, .int .i64 m11, .slice am12 m12.length pm12] 39) = y0 at B0 HB0 ⊢
  refine (heldIntS [.slice am0 m0.length pm0] x0 k0 _ (by omega) (by omega) Hl0.out (by rw [Hm0.out]; exact ints.rd_later R0.out HB0.out)).mono ?_
  rintro e y1 ⟨rfl, hb⟩
  rw [Hk1.out]
  have B1 := Lib.hid (B0.out.later hb)
  have HB1 := Lib.hid (HB0.out.trans (hb.mono HB0.out.size))
  clear hb
  have g0 := B1.out.cell 0 _ rfl
  have g1 := B1.out.cell 1 _ rfl
  have g2 := B1.out.cell 2 _ rfl
  have g3 := B1.out.cell 3 _ rfl
  go_wp2_with fail
  clear g0 g1 g2 g3
  refine (heldDev [.slice am10 m10.length pm10, .int .i64 m11, .slice am12 m12.length pm12] (x10, x11, x12) k1 _ (by omega) (by omega) Hl1.out (by rw [Hm1.out]; exact devK.rd_later R1.out HB1.out)).mono ?_
  rintro e y2 ⟨rfl, hb⟩
  rw [Hk2.out]
  have B2 := Lib.hid (B1.out.later hb)
  have HB2 := Lib.hid (HB1.out.trans (hb.mono HB1.out.size))
  clear hb
  have g0 := B2.out.cell 0 _ rfl
  have g1 := B2.out.cell 1 _ rfl
  have g2 := B2.out.cell 2 _ rfl
  have g3 := B2.out.cell 3 _ rfl
  go_wp2
  go_ret
  exact ⟨by rw [← He.out]; rfl, HB2.out⟩
end Go.Proofs.Ytdhaelaoackfkaa.KD
