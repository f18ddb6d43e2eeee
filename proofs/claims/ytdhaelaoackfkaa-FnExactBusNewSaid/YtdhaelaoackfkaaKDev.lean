
/-
  Dev as data; what the laws' own functions do with it. (Made by wip/gk.py.)
-/
import Derived.Test.YtdhaelaoackfkaaKdI
import Derived.Test.YtdhaelaoackfkaaGRow
import Derived.Outline
namespace Go.Proofs.Ytdhaelaoackfkaa.KD
open Go.RowKit Rows3 GR
set_option linter.unusedVariables false

def devK : Kn (List Int × Int × List Int) := prod ints (prod int ints)
theorem dev_form {cs : List Value} {x0 : List Int} {x1 : Int} {x2 : List Int} {w : World} (h : devK.rd cs (x0, x1, x2) w) :
    ∃ ax0 px0 ax2 px2, cs = [.slice ax0 x0.length px0, .int .i64 x1, .slice ax2 x2.length px2] ∧ ints.rd [.slice ax0 x0.length px0] x0 w ∧ ints.rd [.slice ax2 x2.length px2] x2 w := by
  obtain ⟨c0, r0, rfl, h0, c1, r1, rfl, h1, h2⟩ := h
  have t0 := h0
  obtain ⟨ax0, px0, rfl, _⟩ := t0
  obtain rfl := h1
  have t2 := h2
  obtain ⟨ax2, px2, rfl, _⟩ := t2
  exact ⟨_, _, _, _, rfl, h0, h2⟩
theorem dev_rd {ux0 ux2 : Value} {x0 : List Int} {x1 : Int} {x2 : List Int} {w : World} (hx0 : ints.rd [ux0] x0 w) (hx2 : ints.rd [ux2] x2 w) : devK.rd [ux0, .int .i64 x1, ux2] (x0, x1, x2) w :=
  ⟨[ux0], _, rfl, hx0, ⟨[.int .i64 x1], _, rfl, rfl, hx2⟩⟩
theorem cap_dev {F : Foot} {cs : List Value} {x0 : List Int} {x1 : Int} {x2 : List Int} {w : World} (h : devK.cap F cs (x0, x1, x2) w) :
    ∃ ax0 px0 ax2 px2 Fx0 Fx2, cs = [.slice ax0 x0.length px0, .int .i64 x1, .slice ax2 x2.length px2] ∧ ints.cap Fx0 [.slice ax0 x0.length px0] x0 w ∧ ints.cap Fx2 [.slice ax2 x2.length px2] x2 w ∧ (∀ k, Fx0 k → F k) ∧ (∀ k, Fx2 k → F k) ∧ (∀ k, Fx0 k → ¬ Fx2 k) := by
  obtain ⟨c0, r0, G0, D0, rfl, d0, e0, h0, c1, r1, G1, D1, rfl, d1, e1, h1, h2⟩ := h
  have t0 := h0
  obtain ⟨ax0, px0, rfl, _⟩ := t0
  obtain rfl := h1
  have t2 := h2
  obtain ⟨ax2, px2, rfl, _⟩ := t2
  exact ⟨_, _, _, _, G0, D1, rfl, h0, h2, fun k hk => (d0 k hk).1, fun k hk => (e0 k (e1 k hk)), fun k hk hk2 => (d0 k hk).2 ((e1 k hk2))⟩
theorem dev_cap {F Fx0 Fx2 : Foot} {ux0 ux2 : Value} {x0 : List Int} {x1 : Int} {x2 : List Int} {w : World} (hx0 : ints.cap Fx0 [ux0] x0 w) (hx2 : ints.cap Fx2 [ux2] x2 w)
    (sx0 : ∀ k, Fx0 k → F k) (sx2 : ∀ k, Fx2 k → F k) (ux0_x2 : ∀ k, Fx0 k → ¬ Fx2 k) : devK.cap F [ux0, .int .i64 x1, ux2] (x0, x1, x2) w :=
  ⟨[ux0], _, (fun k => Fx0 k), (fun k => Fx2 k), rfl, fun k hk => ⟨sx0 k hk, fun hk2 => ux0_x2 k hk hk2⟩, fun k hk => sx2 k hk, hx0, ⟨[.int .i64 x1], _, (fun k => False), (fun k => Fx2 k), rfl, fun k hk => ⟨hk.elim, fun hk2 => hk.elim⟩, fun k hk => hk, rfl, hx2⟩⟩
theorem dev_sz (x0 : List Int) (x1 : Int) (x2 : List Int) : devK.sz (x0, x1, x2) = ints.sz x0 + ints.sz x2 := by
  show ints.sz x0 + (0 + ints.sz x2) = _
  omega
theorem dev_cT (x0 : List Int) (x1 : Int) (x2 : List Int) : devK.cT (x0, x1, x2) = ints.cT x0 + ints.cT x2 := by
  show ints.cT x0 + (0 + ints.cT x2) = _
  omega
theorem dev_mT (x0 : List Int) (x1 : Int) (x2 : List Int) (k : Int) : devK.mT (x0, x1, x2) k = (ints.mT x0 (k), x1, ints.mT x2 (k + (ints.cT x0 : Int))) := by
  show (ints.mT x0 (k), x1, ints.mT x2 (k + (ints.cT x0 : Int) + ((0 : Nat) : Int))) = _
  simp
set_option maxRecDepth 100000 in
theorem szDev : SzC devK agg 94 := by
  intro cs x L w hr h0 h1
  obtain ⟨x0, x1, x2⟩ := x
  rw [dev_sz]
  obtain ⟨ax0, px0, ax2, px2, rfl, rx0, rx2⟩ := dev_form hr
  have Rx0 := Lib.hid rx0
  have Rx2 := Lib.hid rx2
  clear hr rx0 rx2
  obtain ⟨n0, hn0⟩ : ∃ n, ints.sz x0 = n := ⟨_, rfl⟩
  obtain ⟨n2, hn2⟩ : ∃ n, ints.sz x2 = n := ⟨_, rfl⟩
  rw [hn0, hn2]
  have B0 := Lib.hid (Bx.new 55 #[.slice ax0 x0.length px0, .int .i64 x1, .slice ax2 x2.length px2] w)
  have HB0 := Lib.hid ((Below.refl w.heap.size w).alloc (Nat.le_refl _) (Obj.cells #[.slice ax0 x0.length px0, .int .i64 x1, .slice ax2 x2.length px2] 55))
  show Calls _ _ #[.agg #[.slice ax0 x0.length px0, .int .i64 x1, .slice ax2 x2.length px2], .int .i64 L] w _
  obtain ⟨M0, hM0⟩ : ∃ M, szW L n0 = M := ⟨_, rfl⟩
  have hb0 := szW_bd L n0 (by omega)
  rw [hM0] at hb0
  have ht0 := hM0
  have HM0 : Hid (szW L (ints.sz x0) = M0) := Lib.hid (by rw [hn0]; exact hM0)
  by_cases c0 : M0 < 0
  · have He : Hid (szW L (n0 + n2) = -1) := Lib.hid (szW_neg (by rw [ht0]; exact c0))
    obtain rfl : M0 = -1 := by omega
    clear hM0 ht0 hn0 hn2
    go_enter Try.func94, Try.ntmps94
    go_wp2_with fail
    generalize w.alloc (Obj.cells #[.slice ax0 x0.length px0, .int .i64 x1, .slice ax2 x2.length px2] 55) = y0 at B0 HB0 ⊢
    refine (szIntS [.slice ax0 x0.length px0] x0 L _ (ints.rd_later Rx0.out HB0.out) (by omega) (by omega)).mono ?_
    rintro e y1 ⟨rfl, hb⟩
    rw [HM0.out]
    have B1 := Lib.hid (B0.out.later hb)
    have HB1 := Lib.hid (HB0.out.trans (hb.mono HB0.out.size))
    have g0 := B1.out.cell 0 _ rfl
    have g1 := B1.out.cell 1 _ rfl
    have g2 := B1.out.cell 2 _ rfl
    clear hb
    go_wp2
    go_ret
    exact ⟨by rw [He.out]; rfl, HB1.out⟩
  · skip
    obtain ⟨M1, hM1⟩ : ∃ M, szW M0 n2 = M := ⟨_, rfl⟩
    have hb1 := szW_bd M0 n2 (by omega)
    rw [hM1] at hb1
    have ht1 : szW L (n0 + n2) = M1 := by rw [← hM1, szW_pos ht0 (by omega)]
    have HM1 : Hid (szW M0 (ints.sz x2) = M1) := Lib.hid (by rw [hn2]; exact hM1)
    have He := Lib.hid ht1
    clear hM0 hM1 ht0 ht1 hn0 hn2
    by_cases c1 : M1 < 0
    · obtain rfl : M1 = -1 := by omega
      go_enter Try.func94, Try.ntmps94
      go_wp2_with fail
      generalize w.alloc (Obj.cells #[.slice ax0 x0.length px0, .int .i64 x1, .slice ax2 x2.length px2] 55) = y0 at B0 HB0 ⊢
      refine (szIntS [.slice ax0 x0.length px0] x0 L _ (ints.rd_later Rx0.out HB0.out) (by omega) (by omega)).mono ?_
      rintro e y1 ⟨rfl, hb⟩
      rw [HM0.out]
      have B1 := Lib.hid (B0.out.later hb)
      have HB1 := Lib.hid (HB0.out.trans (hb.mono HB0.out.size))
      have g0 := B1.out.cell 0 _ rfl
      have g1 := B1.out.cell 1 _ rfl
      have g2 := B1.out.cell 2 _ rfl
      clear hb
      go_wp2_with fail
      refine (szIntS [.slice ax2 x2.length px2] x2 M0 _ (ints.rd_later Rx2.out HB1.out) (by omega) (by omega)).mono ?_
      rintro e y2 ⟨rfl, hb⟩
      rw [HM1.out]
      have B2 := Lib.hid (B1.out.later hb)
      have HB2 := Lib.hid (HB1.out.trans (hb.mono HB1.out.size))
      clear g0 g1 g2
      have g0 := B2.out.cell 0 _ rfl
      have g1 := B2.out.cell 1 _ rfl
      have g2 := B2.out.cell 2 _ rfl
      clear hb
      go_wp2
      go_ret
      exact ⟨by rw [He.out]; rfl, HB2.out⟩
    · skip
      go_enter Try.func94, Try.ntmps94
      go_wp2_with fail
      generalize w.alloc (Obj.cells #[.slice ax0 x0.length px0, .int .i64 x1, .slice ax2 x2.length px2] 55) = y0 at B0 HB0 ⊢
      refine (szIntS [.slice ax0 x0.length px0] x0 L _ (ints.rd_later Rx0.out HB0.out) (by omega) (by omega)).mono ?_
      rintro e y1 ⟨rfl, hb⟩
      rw [HM0.out]
      have B1 := Lib.hid (B0.out.later hb)
      have HB1 := Lib.hid (HB0.out.trans (hb.mono HB0.out.size))
      have g0 := B1.out.cell 0 _ rfl
      have g1 := B1.out.cell 1 _ rfl
      have g2 := B1.out.cell 2 _ rfl
      clear hb
      go_wp2_with fail
      refine (szIntS [.slice ax2 x2.length px2] x2 M0 _ (ints.rd_later Rx2.out HB1.out) (by omega) (by omega)).mono ?_
      rintro e y2 ⟨rfl, hb⟩
      rw [HM1.out]
      have B2 := Lib.hid (B1.out.later hb)
      have HB2 := Lib.hid (HB1.out.trans (hb.mono HB1.out.size))
      clear g0 g1 g2
      have g0 := B2.out.cell 0 _ rfl
      have g1 := B2.out.cell 1 _ rfl
      have g2 := B2.out.cell 2 _ rfl
      clear hb
      go_wp2
      go_ret
      exact ⟨by rw [He.out]; rfl, HB2.out⟩
set_option maxRecDepth 100000 in
theorem toDev : ToC devK agg 99 := by
  intro cs x w hs hr
  obtain ⟨x0, x1, x2⟩ := x
  rw [dev_sz] at hs
  obtain ⟨ax0, px0, ax2, px2, rfl, rx0, rx2⟩ := dev_form hr
  have Rx0 := Lib.hid rx0
  have Rx2 := Lib.hid rx2
  clear hr rx0 rx2
  have hsz : ∀ (w : World) o, (w.alloc o).heap.size = w.heap.size + 1 := fun w o => by simp
  have A1 := Lib.hid (((Bx.new 55 #[.slice ax0 x0.length px0, .int .i64 x1, .slice ax2 x2.length px2] w).alloc (Obj.cells #[.slice none 0 0, .int .i64 0, .slice none 0 0] 37)).alloc (Obj.cells #[.slice none 0 0, .int .i64 0, .slice none 0 0] 37))
  have A2 := (Bx.new 37 #[.slice none 0 0, .int .i64 0, .slice none 0 0] (w.alloc (Obj.cells #[.slice ax0 x0.length px0, .int .i64 x1, .slice ax2 x2.length px2] 55))).alloc (Obj.cells #[.slice none 0 0, .int .i64 0, .slice none 0 0] 37)
  have A3 := Bx.new 37 #[.slice none 0 0, .int .i64 0, .slice none 0 0] ((w.alloc (Obj.cells #[.slice ax0 x0.length px0, .int .i64 x1, .slice ax2 x2.length px2] 55)).alloc (Obj.cells #[.slice none 0 0, .int .i64 0, .slice none 0 0] 37))
  rw [hsz] at A2
  rw [hsz, hsz] at A3
  have HA2 := Lib.hid A2
  have HA3 := Lib.hid A3
  have HB0 := Lib.hid ((((Below.refl w.heap.size w).alloc (Nat.le_refl _) (Obj.cells #[.slice ax0 x0.length px0, .int .i64 x1, .slice ax2 x2.length px2] 55)).alloc (by simp) (Obj.cells #[.slice none 0 0, .int .i64 0, .slice none 0 0] 37)).alloc (by simp; omega) (Obj.cells #[.slice none 0 0, .int .i64 0, .slice none 0 0] 37))
  have hn3 := size_alloc3 w (Obj.cells #[.slice ax0 x0.length px0, .int .i64 x1, .slice ax2 x2.length px2] 55) (Obj.cells #[.slice none 0 0, .int .i64 0, .slice none 0 0] 37) (Obj.cells #[.slice none 0 0, .int .i64 0, .slice none 0 0] 37)
  have Hz0 : Hid (w.heap.size + 1 + 1 + 1 ≤ (((w.alloc (Obj.cells #[.slice ax0 x0.length px0, .int .i64 x1, .slice ax2 x2.length px2] 55)).alloc (Obj.cells #[.slice none 0 0, .int .i64 0, .slice none 0 0] 37)).alloc (Obj.cells #[.slice none 0 0, .int .i64 0, .slice none 0 0] 37)).heap.size) := Lib.hid (by rw [hn3]; exact Nat.le_refl _)
  clear A2 A3 hsz hn3
  show Calls _ _ #[.agg #[.slice ax0 x0.length px0, .int .i64 x1, .slice ax2 x2.length px2]] w _
  go_enter Try.func99, Try.ntmps99
  go_wp2_with fail
  have X1_0 := A1
  have X2_0 := HA2
  have X3_0 := HA3
  clear A1 HA2 HA3
  generalize ((w.alloc (Obj.cells #[.slice ax0 x0.length px0, .int .i64 x1, .slice ax2 x2.length px2] 55)).alloc (Obj.cells #[.slice none 0 0, .int .i64 0, .slice none 0 0] 37)).alloc (Obj.cells #[.slice none 0 0, .int .i64 0, .slice none 0 0] 37) = y0 at X1_0 X2_0 X3_0 HB0 Hz0 ⊢
  have HB_0 := HB0
  clear HB0
  refine (toIntS [.slice ax0 x0.length px0] x0 _ (by omega) (ints.rd_later Rx0.out HB_0.out)).mono ?_
  rintro e v1 ⟨us, he, hc, hb⟩
  obtain ⟨bx0, qx0, rfl, _⟩ := ints.cap_rd hc
  obtain rfl : e = .returned (.slice bx0 x0.length qx0) := he
  have Vx0 := Lib.hid (ints.cap_wide (ints.cap_top hc) (G := fun k => y0.heap.size ≤ k ∧ k < v1.heap.size) (fun k _ hk => hk))
  have W1 := Lib.hid (X1_0.out.later hb)
  have W2 := Lib.hid (X2_0.out.later hb)
  have W3 := Lib.hid (X3_0.out.later hb)
  have WB := Lib.hid (HB_0.out.trans (hb.mono HB_0.out.size))
  have Wz := Lib.hid (Nat.le_trans Hz0.out hb.size)
  have Ws := Lib.hid hb.size
  have Wy0 := Lib.hid Hz0.out
  clear hc hb
  have g0 := W3.out.cell 0 _ rfl
  have g1 := W3.out.cell 1 _ rfl
  have g2 := W3.out.cell 2 _ rfl
  have a0 := W1.out.cell 0 _ rfl
  have a1 := W1.out.cell 1 _ rfl
  have a2 := W1.out.cell 2 _ rfl
  have z0 := W3.out.warm 0
  have z1 := W3.out.warm 1
  have z2 := W3.out.warm 2
  have X1_1 := Lib.hid ((W1.out.far (p := ⟨w.heap.size + 1 + 1, 0, none⟩) (by dsimp only; omega) (.slice bx0 x0.length qx0)).far (p := ⟨w.heap.size + 1 + 1, 1, none⟩) (by dsimp only; omega) (.int .i64 x1))
  have X2_1 := Lib.hid ((W2.out.far (p := ⟨w.heap.size + 1 + 1, 0, none⟩) (by dsimp only; omega) (.slice bx0 x0.length qx0)).far (p := ⟨w.heap.size + 1 + 1, 1, none⟩) (by dsimp only; omega) (.int .i64 x1))
  have X3_1 := Lib.hid (show Bx 37 (w.heap.size + 1 + 1) #[.slice bx0 x0.length qx0, .int .i64 x1, .slice none 0 0] (((v1.setCell ⟨w.heap.size + 1 + 1, 0, none⟩ (.slice bx0 x0.length qx0)).setCell ⟨w.heap.size + 1 + 1, 1, none⟩ (.int .i64 x1))) from ((W3.out.set 0 (.slice bx0 x0.length qx0)).set 1 (.int .i64 x1)))
  have HB_1 := Lib.hid ((WB.out.setCell (p := ⟨w.heap.size + 1 + 1, 0, none⟩) (by dsimp only; omega) (.slice bx0 x0.length qx0)).setCell (p := ⟨w.heap.size + 1 + 1, 1, none⟩) (by dsimp only; omega) (.int .i64 x1))
  have Ux0_1 := Lib.hid (ints.cap_set (ints.cap_set Vx0.out (p := ⟨w.heap.size + 1 + 1, 0, none⟩) (fun hk => by have h1 := Wy0.out; have h2 : y0.heap.size ≤ w.heap.size + 1 + 1 := hk.1; omega) (.slice bx0 x0.length qx0)) (p := ⟨w.heap.size + 1 + 1, 1, none⟩) (fun hk => by have h1 := Wy0.out; have h2 : y0.heap.size ≤ w.heap.size + 1 + 1 := hk.1; omega) (.int .i64 x1))
  have Hy1 : Hid (w.heap.size + 1 + 1 + 1 ≤ (((v1.setCell ⟨w.heap.size + 1 + 1, 0, none⟩ (.slice bx0 x0.length qx0)).setCell ⟨w.heap.size + 1 + 1, 1, none⟩ (.int .i64 x1))).heap.size) := Lib.hid (by have := Wz.out; simp [World.setCell]; omega)
  have Hv1_1 : Hid (v1.heap.size ≤ (((v1.setCell ⟨w.heap.size + 1 + 1, 0, none⟩ (.slice bx0 x0.length qx0)).setCell ⟨w.heap.size + 1 + 1, 1, none⟩ (.int .i64 x1))).heap.size) := Lib.hid (by simp [World.setCell])
  clear W1 W2 W3 WB Wz Ws Vx0
  go_wp2_with fail
  clear g0 g1 g2 a0 a1 a2 z0 z1 z2
  generalize ((v1.setCell ⟨w.heap.size + 1 + 1, 0, none⟩ (.slice bx0 x0.length qx0)).setCell ⟨w.heap.size + 1 + 1, 1, none⟩ (.int .i64 x1)) = y1 at X1_1 X2_1 X3_1 HB_1 Hy1 Hv1_1 Ux0_1 ⊢
  refine (toIntS [.slice ax2 x2.length px2] x2 _ (by omega) (ints.rd_later Rx2.out HB_1.out)).mono ?_
  rintro e v2 ⟨us, he, hc, hb⟩
  obtain ⟨bx2, qx2, rfl, _⟩ := ints.cap_rd hc
  obtain rfl : e = .returned (.slice bx2 x2.length qx2) := he
  have Vx0 := Lib.hid (ints.cap_later Ux0_1.out hb)
  have Vx2 := Lib.hid (ints.cap_wide (ints.cap_top hc) (G := fun k => y1.heap.size ≤ k ∧ k < v2.heap.size) (fun k _ hk => hk))
  have W1 := Lib.hid (X1_1.out.later hb)
  have W2 := Lib.hid (X2_1.out.later hb)
  have W3 := Lib.hid (X3_1.out.later hb)
  have WB := Lib.hid (HB_1.out.trans (hb.mono HB_1.out.size))
  have Wz := Lib.hid (Nat.le_trans Hy1.out hb.size)
  have Ws := Lib.hid hb.size
  have Wy1 := Lib.hid Hy1.out
  clear hc hb
  have g0 := W3.out.cell 0 _ rfl
  have g1 := W3.out.cell 1 _ rfl
  have g2 := W3.out.cell 2 _ rfl
  have a0 := W1.out.cell 0 _ rfl
  have a1 := W1.out.cell 1 _ rfl
  have a2 := W1.out.cell 2 _ rfl
  have z0 := W3.out.warm 0
  have z1 := W3.out.warm 1
  have z2 := W3.out.warm 2
  have e0 := W2.out.cell 0 _ rfl
  have e1 := W2.out.cell 1 _ rfl
  have e2 := W2.out.cell 2 _ rfl
  have f0 := W2.out.warm 0
  have f1 := W2.out.warm 1
  have f2 := W2.out.warm 2
  go_wp2_with fail
  have Tx0 : Hid (∀ w2, Turn (fun k => k = w.heap.size + 1 + 1 ∨ k = w.heap.size + 1) v2 w2 → ints.cap (fun k => y0.heap.size ≤ k ∧ k < v1.heap.size) [.slice bx0 x0.length qx0] x0 w2) := Lib.hid (fun w2 ht => ints.cap_turn Vx0.out ht (fun k _ hk he => by have h1 := Wy0.out; have h2 : y0.heap.size ≤ k := hk.1; omega))
  have Tx2 : Hid (∀ w2, Turn (fun k => k = w.heap.size + 1 + 1 ∨ k = w.heap.size + 1) v2 w2 → ints.cap (fun k => y1.heap.size ≤ k ∧ k < v2.heap.size) [.slice bx2 x2.length qx2] x2 w2) := Lib.hid (fun w2 ht => ints.cap_turn Vx2.out ht (fun k _ hk he => by have h1 := Wy1.out; have h2 : y1.heap.size ≤ k := hk.1; omega))
  refine bodyPost_ret (v := .agg #[.slice bx0 x0.length qx0, .int .i64 x1, .slice bx2 x2.length qx2]) (by simp [results, Try.results99, go_sem, e0, e1, e2]) rfl ⟨[.slice bx0 x0.length qx0, .int .i64 x1, .slice bx2 x2.length qx2], rfl, ?_, ?_⟩
  · have ht : ∀ {w2 : World}, Turn (fun k => k = w.heap.size + 1 + 1 ∨ k = w.heap.size + 1) v2 w2 → devK.cap (fun k => w.heap.size ≤ k) [.slice bx0 x0.length qx0, .int .i64 x1, .slice bx2 x2.length qx2] (x0, x1, x2) w2 := fun {w2} ht => by
      have tx0 := Tx0.out w2 ht
      have tx2 := Tx2.out w2 ht
      exact dev_cap tx0 tx2 (fun k hk => by have h1 := Wy0.out; have h2 : y0.heap.size ≤ k := (hk).1; omega) (fun k hk => by have h1 := Wy1.out; have h2 : y1.heap.size ≤ k := (hk).1; omega) (fun k hk hk2 => by have h1 : k < v1.heap.size := (hk).2; have h2 : y1.heap.size ≤ k := (hk2).1; have h3 := Hv1_1.out; omega)
    refine ht ?_
    iterate 4 refine Turn.set ?_ (by simp) _
    exact Turn.refl _ _
  · iterate 4 refine Below.setCell ?_ (by dsimp only; omega) _
    exact WB.out
set_option maxRecDepth 100000 in
theorem eqDev : EqC devK agg 85 := by
  intro cs ds x w hs hr hr2
  obtain ⟨x0, x1, x2⟩ := x
  rw [dev_sz] at hs
  obtain ⟨ax0, px0, ax2, px2, rfl, rx0, rx2⟩ := dev_form hr
  have Rx0 := Lib.hid rx0
  have Rx2 := Lib.hid rx2
  clear hr rx0 rx2
  obtain ⟨bx0, qx0, bx2, qx2, rfl, sx0, sx2⟩ := dev_form hr2
  have Sx0 := Lib.hid sx0
  have Sx2 := Lib.hid sx2
  clear hr2 sx0 sx2
  have hsz : ∀ (w : World) o, (w.alloc o).heap.size = w.heap.size + 1 := fun w o => by simp
  have A0 := Lib.hid ((Bx.new 37 #[.slice ax0 x0.length px0, .int .i64 x1, .slice ax2 x2.length px2] w).alloc (Obj.cells #[.slice bx0 x0.length qx0, .int .i64 x1, .slice bx2 x2.length qx2] 37))
  have B0 := Bx.new 37 #[.slice bx0 x0.length qx0, .int .i64 x1, .slice bx2 x2.length qx2] (w.alloc (Obj.cells #[.slice ax0 x0.length px0, .int .i64 x1, .slice ax2 x2.length px2] 37))
  rw [hsz] at B0
  have X0 := Lib.hid B0
  clear B0 hsz
  have HB0 := Lib.hid (((Below.refl w.heap.size w).alloc (Nat.le_refl _) (Obj.cells #[.slice ax0 x0.length px0, .int .i64 x1, .slice ax2 x2.length px2] 37)).alloc (by simp) (Obj.cells #[.slice bx0 x0.length qx0, .int .i64 x1, .slice bx2 x2.length qx2] 37))
  have nx1 : (x1 != x1) = false := by simp
  show Calls _ _ #[.agg #[.slice ax0 x0.length px0, .int .i64 x1, .slice ax2 x2.length px2], .agg #[.slice bx0 x0.length qx0, .int .i64 x1, .slice bx2 x2.length qx2]] w _
  go_enter Try.func85, Try.ntmps85
  go_wp2_with fail
  generalize (w.alloc (Obj.cells #[.slice ax0 x0.length px0, .int .i64 x1, .slice ax2 x2.length px2] 37)).alloc (Obj.cells #[.slice bx0 x0.length qx0, .int .i64 x1, .slice bx2 x2.length qx2] 37) = y0 at A0 X0 HB0 ⊢
  refine (eqIntS [.slice ax0 x0.length px0] [.slice bx0 x0.length qx0] x0 _ (by omega) (ints.rd_later Rx0.out HB0.out) (ints.rd_later Sx0.out HB0.out)).mono ?_
  rintro e y1 ⟨rfl, hb⟩
  have A1 := Lib.hid (A0.out.later hb)
  have X1 := Lib.hid (X0.out.later hb)
  have HB1 := Lib.hid (HB0.out.trans (hb.mono HB0.out.size))
  clear hb
  have g0 := A1.out.cell 0 _ rfl
  have g1 := A1.out.cell 1 _ rfl
  have g2 := A1.out.cell 2 _ rfl
  have k0 := X1.out.cell 0 _ rfl
  have k1 := X1.out.cell 1 _ rfl
  have k2 := X1.out.cell 2 _ rfl
  go_wp2_with fail
  clear g0 g1 g2 k0 k1 k2
  refine (eqIntS [.slice ax2 x2.length px2] [.slice bx2 x2.length qx2] x2 _ (by omega) (ints.rd_later Rx2.out HB1.out) (ints.rd_later Sx2.out HB1.out)).mono ?_
  rintro e y2 ⟨rfl, hb⟩
  have A2 := Lib.hid (A1.out.later hb)
  have X2 := Lib.hid (X1.out.later hb)
  have HB2 := Lib.hid (HB1.out.trans (hb.mono HB1.out.size))
  clear hb
  have g0 := A2.out.cell 0 _ rfl
  have g1 := A2.out.cell 1 _ rfl
  have g2 := A2.out.cell 2 _ rfl
  have k0 := X2.out.cell 0 _ rfl
  have k1 := X2.out.cell 1 _ rfl
  have k2 := X2.out.cell 2 _ rfl
  go_wp2
  go_ret
  exact ⟨rfl, HB2.out⟩
set_option maxRecDepth 100000 in
theorem markDev : MarkC devK agg 89 := by
  intro F cs x k0 w hs h0 h1 hc
  obtain ⟨x0, x1, x2⟩ := x
  rw [dev_sz] at hs
  rw [dev_cT] at h1 ⊢
  rw [dev_mT]
  obtain ⟨ax0, px0, ax2, px2, Fx0, Fx2, rfl, cx0, cx2, sx0, sx2, ux0_x2⟩ := cap_dev (devK.cap_top hc)
  have Cx0_0 := Lib.hid cx0
  have Sx0 := Lib.hid sx0
  have Cx2_0 := Lib.hid cx2
  have Sx2 := Lib.hid sx2
  have Ux0_x2 := Lib.hid ux0_x2
  clear hc cx0 cx2 sx0 sx2 ux0_x2
  have B0 := Lib.hid (Bx.new 37 #[.slice ax0 x0.length px0, .int .i64 x1, .slice ax2 x2.length px2] w)
  have HA := Lib.hid ((Below.refl w.heap.size w).alloc (Nat.le_refl _) (Obj.cells #[.slice ax0 x0.length px0, .int .i64 x1, .slice ax2 x2.length px2] 37))
  show Calls _ _ #[.agg #[.slice ax0 x0.length px0, .int .i64 x1, .slice ax2 x2.length px2], .int .i64 k0] w _
  go_enter Try.func89, Try.ntmps89
  go_wp2_with fail
  generalize w.alloc (Obj.cells #[.slice ax0 x0.length px0, .int .i64 x1, .slice ax2 x2.length px2] 37) = y0 at B0 HA ⊢
  have HT0 : Hid (Turn F w y0) := Lib.hid (Turn.later HA.out)
  have Dx0_0 := Lib.hid (ints.cap_later Cx0_0.out HA.out)
  have Dx2_0 := Lib.hid (ints.cap_later Cx2_0.out HA.out)
  clear HA Cx0_0 Cx2_0
  refine (markIntS Fx0 [.slice ax0 x0.length px0] x0 k0 _ (by omega) (by omega) (by omega) Dx0_0.out).mono ?_
  rintro e y1 ⟨rfl, hc, ht⟩
  obtain ⟨k1, hk1⟩ : ∃ k, k0 + (ints.cT x0 : Int) = k := ⟨_, rfl⟩
  rw [hk1]
  have B1 : Hid (Bx 37 w.heap.size #[.slice ax0 x0.length px0, .int .i64 x1, .slice ax2 x2.length px2] y1) := Lib.hid ((ht.block _ B0.out.lt (fun h => by have := (Sx0.out _ h).2; omega)).trans B0.out)
  have HT1 := Lib.hid (HT0.out.trans (ht.wide (fun k hk => (Sx0.out k hk).1)))
  have Dx0_1 := Lib.hid hc
  have Dx2_1 := Lib.hid (ints.cap_turn Dx2_0.out ht (fun k _ hf hg => Ux0_x2.out k hg hf))
  clear hc ht Dx0_0 Dx2_0
  have g0 := B1.out.cell 0 _ rfl
  have g1 := B1.out.cell 1 _ rfl
  have g2 := B1.out.cell 2 _ rfl
  go_wp2_with fail
  clear g0 g1 g2
  refine (markIntS Fx2 [.slice ax2 x2.length px2] x2 k1 _ (by omega) (by omega) (by omega) Dx2_1.out).mono ?_
  rintro e y2 ⟨rfl, hc, ht⟩
  obtain ⟨k2, hk2⟩ : ∃ k, k1 + (ints.cT x2 : Int) = k := ⟨_, rfl⟩
  rw [hk2]
  have B2 : Hid (Bx 37 w.heap.size #[.slice ax0 x0.length px0, .int .i64 x1, .slice ax2 x2.length px2] y2) := Lib.hid ((ht.block _ B1.out.lt (fun h => by have := (Sx2.out _ h).2; omega)).trans B1.out)
  have HT2 := Lib.hid (HT1.out.trans (ht.wide (fun k hk => (Sx2.out k hk).1)))
  have Dx0_2 := Lib.hid (ints.cap_turn Dx0_1.out ht (fun k _ hf hg => Ux0_x2.out k hf hg))
  have Dx2_2 := Lib.hid hc
  clear hc ht Dx0_1 Dx2_1
  have g0 := B2.out.cell 0 _ rfl
  have g1 := B2.out.cell 1 _ rfl
  have g2 := B2.out.cell 2 _ rfl
  have He : Hid (k2 = k0 + ((ints.cT x0 + ints.cT x2 : Nat) : Int)) := Lib.hid (by omega)
  have Hk1 := Lib.hid hk1
  have Hk2 := Lib.hid hk2
  clear hk1 hk2
  go_wp2
  go_ret
  refine ⟨by rw [← He.out]; rfl, ?_, HT2.out⟩
  have hk0 : k0 = k0 := rfl
  have E1 : Hid (k0 + (ints.cT x0 : Int) = k1) := Lib.hid (by have h1 := Hk1.out;  omega)
  rw [E1.out]
  exact dev_cap Dx0_2.out Dx2_2.out (fun k hk => (Sx0.out k hk).1) (fun k hk => (Sx2.out k hk).1) Ux0_x2.out
set_option maxRecDepth 100000 in
theorem heldDev : HeldC devK agg 92 := by
  intro cs x k0 w hs h0 h1 hr
  obtain ⟨x0, x1, x2⟩ := x
  rw [dev_sz] at hs
  rw [dev_cT] at h1 ⊢
  rw [dev_mT] at hr
  obtain ⟨k1, hk1⟩ : ∃ k, k0 + (ints.cT x0 : Int) = k := ⟨_, rfl⟩
  rw [hk1] at hr
  obtain ⟨k2, hk2⟩ : ∃ k, k1 + (ints.cT x2 : Int) = k := ⟨_, rfl⟩
  obtain ⟨ax0, px0, ax2, px2, rfl, rx0, rx2⟩ := dev_form hr
  obtain ⟨mx0, hmx0⟩ : ∃ m, (ints.mT x0 (k0)).length = m := ⟨_, rfl⟩
  rw [hmx0] at rx0 ⊢
  have Rx0 := Lib.hid rx0
  clear rx0
  obtain ⟨mx2, hmx2⟩ : ∃ m, (ints.mT x2 (k1)).length = m := ⟨_, rfl⟩
  rw [hmx2] at rx2 ⊢
  have Rx2 := Lib.hid rx2
  clear rx2
  clear hr hmx0 hmx2
  have He : Hid (k2 = k0 + ((ints.cT x0 + ints.cT x2 : Nat) : Int)) := Lib.hid (by omega)
  have B0 := Lib.hid (Bx.new 37 #[.slice ax0 mx0 px0, .int .i64 x1, .slice ax2 mx2 px2] w)
  have HB0 := Lib.hid ((Below.refl w.heap.size w).alloc (Nat.le_refl _) (Obj.cells #[.slice ax0 mx0 px0, .int .i64 x1, .slice ax2 mx2 px2] 37))
  show Calls _ _ #[.agg #[.slice ax0 mx0 px0, .int .i64 x1, .slice ax2 mx2 px2], .int .i64 k0] w _
  have hp1 : ¬ k1 < 0 := by omega
  have hp2 : ¬ k2 < 0 := by omega
  have hq1 : 0 ≤ k1 := by omega
  have hq2 : 0 ≤ k2 := by omega
  have hl0 : k0 + (ints.cT x0 : Int) ≤ 4611686018427387904 := by omega
  have hl1 : k1 + (ints.cT x2 : Int) ≤ 4611686018427387904 := by omega
  have Hl0 := Lib.hid hl0
  have Hl1 := Lib.hid hl1
  have Hk1 := Lib.hid hk1
  have Hk2 := Lib.hid hk2
  clear hk1 hk2 hl0 hl1
  go_enter Try.func92, Try.ntmps92
  go_wp2_with fail
  generalize w.alloc (Obj.cells #[.slice ax0 mx0 px0, .int .i64 x1, .slice ax2 mx2 px2] 37) = y0 at B0 HB0 ⊢
  refine (heldIntS [.slice ax0 mx0 px0] x0 k0 _ (by omega) (by omega) Hl0.out (ints.rd_later Rx0.out HB0.out)).mono ?_
  rintro e y1 ⟨rfl, hb⟩
  rw [Hk1.out]
  have B1 := Lib.hid (B0.out.later hb)
  have HB1 := Lib.hid (HB0.out.trans (hb.mono HB0.out.size))
  clear hb
  have g0 := B1.out.cell 0 _ rfl
  have g1 := B1.out.cell 1 _ rfl
  have g2 := B1.out.cell 2 _ rfl
  go_wp2_with fail
  clear g0 g1 g2
  refine (heldIntS [.slice ax2 mx2 px2] x2 k1 _ (by omega) (by omega) Hl1.out (ints.rd_later Rx2.out HB1.out)).mono ?_
  rintro e y2 ⟨rfl, hb⟩
  rw [Hk2.out]
  have B2 := Lib.hid (B1.out.later hb)
  have HB2 := Lib.hid (HB1.out.trans (hb.mono HB1.out.size))
  clear hb
  have g0 := B2.out.cell 0 _ rfl
  have g1 := B2.out.cell 1 _ rfl
  have g2 := B2.out.cell 2 _ rfl
  go_wp2
  go_ret
  exact ⟨by rw [← He.out]; rfl, HB2.out⟩
end Go.Proofs.Ytdhaelaoackfkaa.KD
