
/-
  Script as data; what the laws' own functions do with it. (Made by wip/gk.py.)
-/
import Derived.Test.YtfpnflhkfpolcaaGreatDoorKPostS
import Derived.Test.YtfpnflhkfpolcaaGreatDoorKdI
import Derived.Test.YtfpnflhkfpolcaaGreatDoorGRow
import Derived.Outline
namespace Go.Proofs.YtfpnflhkfpolcaaGreatDoor.KD
open Go.RowKit Rows3 GR
set_option linter.unusedVariables false

def scriptK : Kn (List (Int × Int × (Bool × Int × Int × Int × Bool × List Int)) × List Int × List Int) := prod postS (prod ints ints)
theorem script_form {cs : List Value} {x0 : List (Int × Int × (Bool × Int × Int × Int × Bool × List Int))} {x1 : List Int} {x2 : List Int} {w : World} (h : scriptK.rd cs (x0, x1, x2) w) :
    ∃ ax0 px0 ax1 px1 ax2 px2, cs = [.slice ax0 x0.length px0, .slice ax1 x1.length px1, .slice ax2 x2.length px2] ∧ postS.rd [.slice ax0 x0.length px0] x0 w ∧ ints.rd [.slice ax1 x1.length px1] x1 w ∧ ints.rd [.slice ax2 x2.length px2] x2 w := by
  obtain ⟨c0, r0, rfl, h0, c1, r1, rfl, h1, h2⟩ := h
  have t0 := h0
  obtain ⟨ax0, px0, rfl, _⟩ := t0
  have t1 := h1
  obtain ⟨ax1, px1, rfl, _⟩ := t1
  have t2 := h2
  obtain ⟨ax2, px2, rfl, _⟩ := t2
  exact ⟨_, _, _, _, _, _, rfl, h0, h1, h2⟩
theorem script_rd {ux0 ux1 ux2 : Value} {x0 : List (Int × Int × (Bool × Int × Int × Int × Bool × List Int))} {x1 : List Int} {x2 : List Int} {w : World} (hx0 : postS.rd [ux0] x0 w) (hx1 : ints.rd [ux1] x1 w) (hx2 : ints.rd [ux2] x2 w) : scriptK.rd [ux0, ux1, ux2] (x0, x1, x2) w :=
  ⟨[ux0], _, rfl, hx0, ⟨[ux1], _, rfl, hx1, hx2⟩⟩
theorem cap_script {F : Foot} {cs : List Value} {x0 : List (Int × Int × (Bool × Int × Int × Int × Bool × List Int))} {x1 : List Int} {x2 : List Int} {w : World} (h : scriptK.cap F cs (x0, x1, x2) w) :
    ∃ ax0 px0 ax1 px1 ax2 px2 Fx0 Fx1 Fx2, cs = [.slice ax0 x0.length px0, .slice ax1 x1.length px1, .slice ax2 x2.length px2] ∧ postS.cap Fx0 [.slice ax0 x0.length px0] x0 w ∧ ints.cap Fx1 [.slice ax1 x1.length px1] x1 w ∧ ints.cap Fx2 [.slice ax2 x2.length px2] x2 w ∧ (∀ k, Fx0 k → F k) ∧ (∀ k, Fx1 k → F k) ∧ (∀ k, Fx2 k → F k) ∧ (∀ k, Fx0 k → ¬ Fx1 k) ∧ (∀ k, Fx0 k → ¬ Fx2 k) ∧ (∀ k, Fx1 k → ¬ Fx2 k) := by
  obtain ⟨c0, r0, G0, D0, rfl, d0, e0, h0, c1, r1, G1, D1, rfl, d1, e1, h1, h2⟩ := h
  have t0 := h0
  obtain ⟨ax0, px0, rfl, _⟩ := t0
  have t1 := h1
  obtain ⟨ax1, px1, rfl, _⟩ := t1
  have t2 := h2
  obtain ⟨ax2, px2, rfl, _⟩ := t2
  exact ⟨_, _, _, _, _, _, G0, G1, D1, rfl, h0, h1, h2, fun k hk => (d0 k hk).1, fun k hk => (e0 k (d1 k hk).1), fun k hk => (e0 k (e1 k hk)), fun k hk hk2 => (d0 k hk).2 ((d1 k hk2).1), fun k hk hk2 => (d0 k hk).2 ((e1 k hk2)), fun k hk hk2 => (d1 k hk).2 (hk2)⟩
theorem script_cap {F Fx0 Fx1 Fx2 : Foot} {ux0 ux1 ux2 : Value} {x0 : List (Int × Int × (Bool × Int × Int × Int × Bool × List Int))} {x1 : List Int} {x2 : List Int} {w : World} (hx0 : postS.cap Fx0 [ux0] x0 w) (hx1 : ints.cap Fx1 [ux1] x1 w) (hx2 : ints.cap Fx2 [ux2] x2 w)
    (sx0 : ∀ k, Fx0 k → F k) (sx1 : ∀ k, Fx1 k → F k) (sx2 : ∀ k, Fx2 k → F k) (ux0_x1 : ∀ k, Fx0 k → ¬ Fx1 k) (ux0_x2 : ∀ k, Fx0 k → ¬ Fx2 k) (ux1_x2 : ∀ k, Fx1 k → ¬ Fx2 k) : scriptK.cap F [ux0, ux1, ux2] (x0, x1, x2) w :=
  ⟨[ux0], _, (fun k => Fx0 k), (fun k => Fx1 k ∨ Fx2 k), rfl, fun k hk => ⟨sx0 k hk, fun hk2 => hk2.elim (fun hk2 => ux0_x1 k hk hk2) (fun hk2 => ux0_x2 k hk hk2)⟩, fun k hk => hk.elim (fun hk => sx1 k hk) (fun hk => sx2 k hk), hx0, ⟨[ux1], _, (fun k => Fx1 k), (fun k => Fx2 k), rfl, fun k hk => ⟨(.inl hk), fun hk2 => ux1_x2 k hk hk2⟩, fun k hk => (.inr hk), hx1, hx2⟩⟩
theorem script_sz (x0 : List (Int × Int × (Bool × Int × Int × Int × Bool × List Int))) (x1 : List Int) (x2 : List Int) : scriptK.sz (x0, x1, x2) = postS.sz x0 + ints.sz x1 + ints.sz x2 := by
  show postS.sz x0 + (ints.sz x1 + ints.sz x2) = _
  omega
theorem script_cT (x0 : List (Int × Int × (Bool × Int × Int × Int × Bool × List Int))) (x1 : List Int) (x2 : List Int) : scriptK.cT (x0, x1, x2) = postS.cT x0 + ints.cT x1 + ints.cT x2 := by
  show postS.cT x0 + (ints.cT x1 + ints.cT x2) = _
  omega
theorem script_mT (x0 : List (Int × Int × (Bool × Int × Int × Int × Bool × List Int))) (x1 : List Int) (x2 : List Int) (k : Int) : scriptK.mT (x0, x1, x2) k = (postS.mT x0 (k), ints.mT x1 (k + (postS.cT x0 : Int)), ints.mT x2 (k + (postS.cT x0 : Int) + (ints.cT x1 : Int))) := by
  show (postS.mT x0 (k), ints.mT x1 (k + (postS.cT x0 : Int)), ints.mT x2 (k + (postS.cT x0 : Int) + (ints.cT x1 : Int))) = _
  simp
set_option maxRecDepth 100000 in
theorem eqScript : EqC scriptK agg 6 := by
  intro cs ds x w hs hr hr2
  obtain ⟨x0, x1, x2⟩ := x
  rw [script_sz] at hs
  obtain ⟨ax0, px0, ax1, px1, ax2, px2, rfl, rx0, rx1, rx2⟩ := script_form hr
  have Rx0 := Lib.hid rx0
  have Rx1 := Lib.hid rx1
  have Rx2 := Lib.hid rx2
  clear hr rx0 rx1 rx2
  obtain ⟨bx0, qx0, bx1, qx1, bx2, qx2, rfl, sx0, sx1, sx2⟩ := script_form hr2
  have Sx0 := Lib.hid sx0
  have Sx1 := Lib.hid sx1
  have Sx2 := Lib.hid sx2
  clear hr2 sx0 sx1 sx2
  have hsz : ∀ (w : World) o, (w.alloc o).heap.size = w.heap.size + 1 := fun w o => by simp
  have A0 := Lib.hid ((Bx.new 25 #[.slice ax0 x0.length px0, .slice ax1 x1.length px1, .slice ax2 x2.length px2] w).alloc (Obj.cells #[.slice bx0 x0.length qx0, .slice bx1 x1.length qx1, .slice bx2 x2.length qx2] 25))
  have B0 := Bx.new 25 #[.slice bx0 x0.length qx0, .slice bx1 x1.length qx1, .slice bx2 x2.length qx2] (w.alloc (Obj.cells #[.slice ax0 x0.length px0, .slice ax1 x1.length px1, .slice ax2 x2.length px2] 25))
  rw [hsz] at B0
  have X0 := Lib.hid B0
  clear B0 hsz
  have HB0 := Lib.hid (((Below.refl w.heap.size w).alloc (Nat.le_refl _) (Obj.cells #[.slice ax0 x0.length px0, .slice ax1 x1.length px1, .slice ax2 x2.length px2] 25)).alloc (by simp) (Obj.cells #[.slice bx0 x0.length qx0, .slice bx1 x1.length qx1, .slice bx2 x2.length qx2] 25))
  show Calls _ _ #[.agg #[.slice ax0 x0.length px0, .slice ax1 x1.length px1, .slice ax2 x2.length px2], .agg #[.slice bx0 x0.length qx0, .slice bx1 x1.length qx1, .slice bx2 x2.length qx2]] w _
  go_enter Tryz.func6, Tryz.ntmps6
  go_wp2_with fail
  generalize (w.alloc (Obj.cells #[.slice ax0 x0.length px0, .slice ax1 x1.length px1, .slice ax2 x2.length px2] 25)).alloc (Obj.cells #[.slice bx0 x0.length qx0, .slice bx1 x1.length qx1, .slice bx2 x2.length qx2] 25) = y0 at A0 X0 HB0 ⊢
  refine (eqPostS [.slice ax0 x0.length px0] [.slice bx0 x0.length qx0] x0 _ (by omega) (postS.rd_later Rx0.out HB0.out) (postS.rd_later Sx0.out HB0.out)).mono ?_
  rintro e y1 ⟨rfl, hb⟩
  have A1 := Lib.hid (A0.out.later hb)
  have X1 := Lib.hid (X0.out.later hb)
  have HB1 := Lib.hid (HB0.out.trans (hb.mono HB0.out.size))
  clear hb
  have g0 := A1.out.cell 0 _ rfl
  have g1 := A1.out.cell 1 _ rfl
  have g2 := A1.out.cell 2 _ rfl
  have k0 := X1.out.cell 0 _ rfl
  have k1 := X1.out.cell 1 _ rfl
  have k2 := X1.out.cell 2 _ rfl
  go_wp2_with fail
  clear g0 g1 g2 k0 k1 k2
  refine (eqIntS [.slice ax1 x1.length px1] [.slice bx1 x1.length qx1] x1 _ (by omega) (ints.rd_later Rx1.out HB1.out) (ints.rd_later Sx1.out HB1.out)).mono ?_
  rintro e y2 ⟨rfl, hb⟩
  have A2 := Lib.hid (A1.out.later hb)
  have X2 := Lib.hid (X1.out.later hb)
  have HB2 := Lib.hid (HB1.out.trans (hb.mono HB1.out.size))
  clear hb
  have g0 := A2.out.cell 0 _ rfl
  have g1 := A2.out.cell 1 _ rfl
  have g2 := A2.out.cell 2 _ rfl
  have k0 := X2.out.cell 0 _ rfl
  have k1 := X2.out.cell 1 _ rfl
  have k2 := X2.out.cell 2 _ rfl
  go_wp2_with fail
  clear g0 g1 g2 k0 k1 k2
  refine (eqIntS [.slice ax2 x2.length px2] [.slice bx2 x2.length qx2] x2 _ (by omega) (ints.rd_later Rx2.out HB2.out) (ints.rd_later Sx2.out HB2.out)).mono ?_
  rintro e y3 ⟨rfl, hb⟩
  have A3 := Lib.hid (A2.out.later hb)
  have X3 := Lib.hid (X2.out.later hb)
  have HB3 := Lib.hid (HB2.out.trans (hb.mono HB2.out.size))
  clear hb
  have g0 := A3.out.cell 0 _ rfl
  have g1 := A3.out.cell 1 _ rfl
  have g2 := A3.out.cell 2 _ rfl
  have k0 := X3.out.cell 0 _ rfl
  have k1 := X3.out.cell 1 _ rfl
  have k2 := X3.out.cell 2 _ rfl
  go_wp2
  go_ret
  exact ⟨rfl, HB3.out⟩
set_option maxRecDepth 100000 in
theorem markScript : MarkC scriptK agg 7 := by
  intro F cs x k0 w hs h0 h1 hc
  obtain ⟨x0, x1, x2⟩ := x
  rw [script_sz] at hs
  rw [script_cT] at h1 ⊢
  rw [script_mT]
  obtain ⟨ax0, px0, ax1, px1, ax2, px2, Fx0, Fx1, Fx2, rfl, cx0, cx1, cx2, sx0, sx1, sx2, ux0_x1, ux0_x2, ux1_x2⟩ := cap_script (scriptK.cap_top hc)
  have Cx0_0 := Lib.hid cx0
  have Sx0 := Lib.hid sx0
  have Cx1_0 := Lib.hid cx1
  have Sx1 := Lib.hid sx1
  have Cx2_0 := Lib.hid cx2
  have Sx2 := Lib.hid sx2
  have Ux0_x1 := Lib.hid ux0_x1
  have Ux0_x2 := Lib.hid ux0_x2
  have Ux1_x2 := Lib.hid ux1_x2
  clear hc cx0 cx1 cx2 sx0 sx1 sx2 ux0_x1 ux0_x2 ux1_x2
  have B0 := Lib.hid (Bx.new 25 #[.slice ax0 x0.length px0, .slice ax1 x1.length px1, .slice ax2 x2.length px2] w)
  have HA := Lib.hid ((Below.refl w.heap.size w).alloc (Nat.le_refl _) (Obj.cells #[.slice ax0 x0.length px0, .slice ax1 x1.length px1, .slice ax2 x2.length px2] 25))
  show Calls _ _ #[.agg #[.slice ax0 x0.length px0, .slice ax1 x1.length px1, .slice ax2 x2.length px2], .int .i64 k0] w _
  go_enter Tryz.func7, Tryz.ntmps7
  go_wp2_with fail
  generalize w.alloc (Obj.cells #[.slice ax0 x0.length px0, .slice ax1 x1.length px1, .slice ax2 x2.length px2] 25) = y0 at B0 HA ⊢
  have HT0 : Hid (Turn F w y0) := Lib.hid (Turn.later HA.out)
  have Dx0_0 := Lib.hid (postS.cap_later Cx0_0.out HA.out)
  have Dx1_0 := Lib.hid (ints.cap_later Cx1_0.out HA.out)
  have Dx2_0 := Lib.hid (ints.cap_later Cx2_0.out HA.out)
  clear HA Cx0_0 Cx1_0 Cx2_0
  refine (markPostS Fx0 [.slice ax0 x0.length px0] x0 k0 _ (by omega) (by omega) (by omega) Dx0_0.out).mono ?_
  rintro e y1 ⟨rfl, hc, ht⟩
  obtain ⟨k1, hk1⟩ : ∃ k, k0 + (postS.cT x0 : Int) = k := ⟨_, rfl⟩
  rw [hk1]
  have B1 : Hid (Bx 25 w.heap.size #[.slice ax0 x0.length px0, .slice ax1 x1.length px1, .slice ax2 x2.length px2] y1) := Lib.hid ((ht.block _ B0.out.lt (fun h => by have := (Sx0.out _ h).2; omega)).trans B0.out)
  have HT1 := Lib.hid (HT0.out.trans (ht.wide (fun k hk => (Sx0.out k hk).1)))
  have Dx0_1 := Lib.hid hc
  have Dx1_1 := Lib.hid (ints.cap_turn Dx1_0.out ht (fun k _ hf hg => Ux0_x1.out k hg hf))
  have Dx2_1 := Lib.hid (ints.cap_turn Dx2_0.out ht (fun k _ hf hg => Ux0_x2.out k hg hf))
  clear hc ht Dx0_0 Dx1_0 Dx2_0
  have g0 := B1.out.cell 0 _ rfl
  have g1 := B1.out.cell 1 _ rfl
  have g2 := B1.out.cell 2 _ rfl
  go_wp2_with fail
  clear g0 g1 g2
  refine (markIntS Fx1 [.slice ax1 x1.length px1] x1 k1 _ (by omega) (by omega) (by omega) Dx1_1.out).mono ?_
  rintro e y2 ⟨rfl, hc, ht⟩
  obtain ⟨k2, hk2⟩ : ∃ k, k1 + (ints.cT x1 : Int) = k := ⟨_, rfl⟩
  rw [hk2]
  have B2 : Hid (Bx 25 w.heap.size #[.slice ax0 x0.length px0, .slice ax1 x1.length px1, .slice ax2 x2.length px2] y2) := Lib.hid ((ht.block _ B1.out.lt (fun h => by have := (Sx1.out _ h).2; omega)).trans B1.out)
  have HT2 := Lib.hid (HT1.out.trans (ht.wide (fun k hk => (Sx1.out k hk).1)))
  have Dx0_2 := Lib.hid (postS.cap_turn Dx0_1.out ht (fun k _ hf hg => Ux0_x1.out k hf hg))
  have Dx1_2 := Lib.hid hc
  have Dx2_2 := Lib.hid (ints.cap_turn Dx2_1.out ht (fun k _ hf hg => Ux1_x2.out k hg hf))
  clear hc ht Dx0_1 Dx1_1 Dx2_1
  have g0 := B2.out.cell 0 _ rfl
  have g1 := B2.out.cell 1 _ rfl
  have g2 := B2.out.cell 2 _ rfl
  go_wp2_with fail
  clear g0 g1 g2
  refine (markIntS Fx2 [.slice ax2 x2.length px2] x2 k2 _ (by omega) (by omega) (by omega) Dx2_2.out).mono ?_
  rintro e y3 ⟨rfl, hc, ht⟩
  obtain ⟨k3, hk3⟩ : ∃ k, k2 + (ints.cT x2 : Int) = k := ⟨_, rfl⟩
  rw [hk3]
  have B3 : Hid (Bx 25 w.heap.size #[.slice ax0 x0.length px0, .slice ax1 x1.length px1, .slice ax2 x2.length px2] y3) := Lib.hid ((ht.block _ B2.out.lt (fun h => by have := (Sx2.out _ h).2; omega)).trans B2.out)
  have HT3 := Lib.hid (HT2.out.trans (ht.wide (fun k hk => (Sx2.out k hk).1)))
  have Dx0_3 := Lib.hid (postS.cap_turn Dx0_2.out ht (fun k _ hf hg => Ux0_x2.out k hf hg))
  have Dx1_3 := Lib.hid (ints.cap_turn Dx1_2.out ht (fun k _ hf hg => Ux1_x2.out k hf hg))
  have Dx2_3 := Lib.hid hc
  clear hc ht Dx0_2 Dx1_2 Dx2_2
  have g0 := B3.out.cell 0 _ rfl
  have g1 := B3.out.cell 1 _ rfl
  have g2 := B3.out.cell 2 _ rfl
  have He : Hid (k3 = k0 + ((postS.cT x0 + ints.cT x1 + ints.cT x2 : Nat) : Int)) := Lib.hid (by omega)
  have Hk1 := Lib.hid hk1
  have Hk2 := Lib.hid hk2
  have Hk3 := Lib.hid hk3
  clear hk1 hk2 hk3
  go_wp2
  go_ret
  refine ⟨by rw [← He.out]; rfl, ?_, HT3.out⟩
  have hk0 : k0 = k0 := rfl
  have E1 : Hid (k0 + (postS.cT x0 : Int) = k1) := Lib.hid (by have h1 := Hk1.out;  omega)
  have E2 : Hid (k0 + (postS.cT x0 : Int) + (ints.cT x1 : Int) = k2) := Lib.hid (by have h1 := Hk2.out; have h3 := Hk1.out; omega)
  rw [E2.out, E1.out]
  exact script_cap Dx0_3.out Dx1_3.out Dx2_3.out (fun k hk => (Sx0.out k hk).1) (fun k hk => (Sx1.out k hk).1) (fun k hk => (Sx2.out k hk).1) Ux0_x1.out Ux0_x2.out Ux1_x2.out
set_option maxRecDepth 100000 in
theorem heldScript : HeldC scriptK agg 8 := by
  intro cs x k0 w hs h0 h1 hr
  obtain ⟨x0, x1, x2⟩ := x
  rw [script_sz] at hs
  rw [script_cT] at h1 ⊢
  rw [script_mT] at hr
  obtain ⟨k1, hk1⟩ : ∃ k, k0 + (postS.cT x0 : Int) = k := ⟨_, rfl⟩
  rw [hk1] at hr
  obtain ⟨k2, hk2⟩ : ∃ k, k1 + (ints.cT x1 : Int) = k := ⟨_, rfl⟩
  rw [hk2] at hr
  obtain ⟨k3, hk3⟩ : ∃ k, k2 + (ints.cT x2 : Int) = k := ⟨_, rfl⟩
  obtain ⟨ax0, px0, ax1, px1, ax2, px2, rfl, rx0, rx1, rx2⟩ := script_form hr
  obtain ⟨mx0, hmx0⟩ : ∃ m, (postS.mT x0 (k0)).length = m := ⟨_, rfl⟩
  rw [hmx0] at rx0 ⊢
  have Rx0 := Lib.hid rx0
  clear rx0
  obtain ⟨mx1, hmx1⟩ : ∃ m, (ints.mT x1 (k1)).length = m := ⟨_, rfl⟩
  rw [hmx1] at rx1 ⊢
  have Rx1 := Lib.hid rx1
  clear rx1
  obtain ⟨mx2, hmx2⟩ : ∃ m, (ints.mT x2 (k2)).length = m := ⟨_, rfl⟩
  rw [hmx2] at rx2 ⊢
  have Rx2 := Lib.hid rx2
  clear rx2
  clear hr hmx0 hmx1 hmx2
  have He : Hid (k3 = k0 + ((postS.cT x0 + ints.cT x1 + ints.cT x2 : Nat) : Int)) := Lib.hid (by omega)
  have B0 := Lib.hid (Bx.new 25 #[.slice ax0 mx0 px0, .slice ax1 mx1 px1, .slice ax2 mx2 px2] w)
  have HB0 := Lib.hid ((Below.refl w.heap.size w).alloc (Nat.le_refl _) (Obj.cells #[.slice ax0 mx0 px0, .slice ax1 mx1 px1, .slice ax2 mx2 px2] 25))
  show Calls _ _ #[.agg #[.slice ax0 mx0 px0, .slice ax1 mx1 px1, .slice ax2 mx2 px2], .int .i64 k0] w _
  have hp1 : ¬ k1 < 0 := by omega
  have hp2 : ¬ k2 < 0 := by omega
  have hp3 : ¬ k3 < 0 := by omega
  have hq1 : 0 ≤ k1 := by omega
  have hq2 : 0 ≤ k2 := by omega
  have hq3 : 0 ≤ k3 := by omega
  have hl0 : k0 + (postS.cT x0 : Int) ≤ 4611686018427387904 := by omega
  have hl1 : k1 + (ints.cT x1 : Int) ≤ 4611686018427387904 := by omega
  have hl2 : k2 + (ints.cT x2 : Int) ≤ 4611686018427387904 := by omega
  have Hl0 := Lib.hid hl0
  have Hl1 := Lib.hid hl1
  have Hl2 := Lib.hid hl2
  have Hk1 := Lib.hid hk1
  have Hk2 := Lib.hid hk2
  have Hk3 := Lib.hid hk3
  clear hk1 hk2 hk3 hl0 hl1 hl2
  go_enter Tryz.func8, Tryz.ntmps8
  go_wp2_with fail
  generalize w.alloc (Obj.cells #[.slice ax0 mx0 px0, .slice ax1 mx1 px1, .slice ax2 mx2 px2] 25) = y0 at B0 HB0 ⊢
  refine (heldPostS [.slice ax0 mx0 px0] x0 k0 _ (by omega) (by omega) Hl0.out (postS.rd_later Rx0.out HB0.out)).mono ?_
  rintro e y1 ⟨rfl, hb⟩
  rw [Hk1.out]
  have B1 := Lib.hid (B0.out.later hb)
  have HB1 := Lib.hid (HB0.out.trans (hb.mono HB0.out.size))
  clear hb
  have g0 := B1.out.cell 0 _ rfl
  have g1 := B1.out.cell 1 _ rfl
  have g2 := B1.out.cell 2 _ rfl
  go_wp2_with fail
  clear g0 g1 g2
  refine (heldIntS [.slice ax1 mx1 px1] x1 k1 _ (by omega) (by omega) Hl1.out (ints.rd_later Rx1.out HB1.out)).mono ?_
  rintro e y2 ⟨rfl, hb⟩
  rw [Hk2.out]
  have B2 := Lib.hid (B1.out.later hb)
  have HB2 := Lib.hid (HB1.out.trans (hb.mono HB1.out.size))
  clear hb
  have g0 := B2.out.cell 0 _ rfl
  have g1 := B2.out.cell 1 _ rfl
  have g2 := B2.out.cell 2 _ rfl
  go_wp2_with fail
  clear g0 g1 g2
  refine (heldIntS [.slice ax2 mx2 px2] x2 k2 _ (by omega) (by omega) Hl2.out (ints.rd_later Rx2.out HB2.out)).mono ?_
  rintro e y3 ⟨rfl, hb⟩
  rw [Hk3.out]
  have B3 := Lib.hid (B2.out.later hb)
  have HB3 := Lib.hid (HB2.out.trans (hb.mono HB2.out.size))
  clear hb
  have g0 := B3.out.cell 0 _ rfl
  have g1 := B3.out.cell 1 _ rfl
  have g2 := B3.out.cell 2 _ rfl
  go_wp2
  go_ret
  exact ⟨by rw [← He.out]; rfl, HB3.out⟩
end Go.Proofs.YtfpnflhkfpolcaaGreatDoor.KD
