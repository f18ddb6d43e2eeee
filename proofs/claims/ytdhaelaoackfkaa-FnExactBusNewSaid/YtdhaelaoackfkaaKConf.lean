
/-
  Conf as data; what the laws' own functions do with it. (Made by wip/gk.py.)
-/
import Derived.Test.YtdhaelaoackfkaaKMConfS
import Derived.Test.YtdhaelaoackfkaaGRow
import Derived.Outline
namespace Go.Proofs.Ytdhaelaoackfkaa.KD
open Go.RowKit Rows3 GR
set_option linter.unusedVariables false

def confK : Kn (List (Int × Bool × Int × Int) × Int × Int × Int × Int × Int) := prod mConfS (prod int (prod int (prod int (prod int int))))
theorem conf_form {cs : List Value} {x0 : List (Int × Bool × Int × Int)} {x1 : Int} {x2 : Int} {x3 : Int} {x4 : Int} {x5 : Int} {w : World} (h : confK.rd cs (x0, x1, x2, x3, x4, x5) w) :
    ∃ ax0 px0, cs = [.slice ax0 x0.length px0, .int .i64 x1, .int .i64 x2, .int .i64 x3, .int .i64 x4, .int .i64 x5] ∧ mConfS.rd [.slice ax0 x0.length px0] x0 w := by
  obtain ⟨c0, r0, rfl, h0, c1, r1, rfl, h1, c2, r2, rfl, h2, c3, r3, rfl, h3, c4, r4, rfl, h4, h5⟩ := h
  have t0 := h0
  obtain ⟨ax0, px0, rfl, _⟩ := t0
  obtain rfl := h1
  obtain rfl := h2
  obtain rfl := h3
  obtain rfl := h4
  obtain rfl := h5
  exact ⟨_, _, rfl, h0⟩
theorem conf_rd {ux0 : Value} {x0 : List (Int × Bool × Int × Int)} {x1 : Int} {x2 : Int} {x3 : Int} {x4 : Int} {x5 : Int} {w : World} (hx0 : mConfS.rd [ux0] x0 w) : confK.rd [ux0, .int .i64 x1, .int .i64 x2, .int .i64 x3, .int .i64 x4, .int .i64 x5] (x0, x1, x2, x3, x4, x5) w :=
  ⟨[ux0], _, rfl, hx0, ⟨[.int .i64 x1], _, rfl, rfl, ⟨[.int .i64 x2], _, rfl, rfl, ⟨[.int .i64 x3], _, rfl, rfl, ⟨[.int .i64 x4], _, rfl, rfl, rfl⟩⟩⟩⟩⟩
theorem cap_conf {F : Foot} {cs : List Value} {x0 : List (Int × Bool × Int × Int)} {x1 : Int} {x2 : Int} {x3 : Int} {x4 : Int} {x5 : Int} {w : World} (h : confK.cap F cs (x0, x1, x2, x3, x4, x5) w) :
    ∃ ax0 px0 Fx0, cs = [.slice ax0 x0.length px0, .int .i64 x1, .int .i64 x2, .int .i64 x3, .int .i64 x4, .int .i64 x5] ∧ mConfS.cap Fx0 [.slice ax0 x0.length px0] x0 w ∧ (∀ k, Fx0 k → F k) := by
  obtain ⟨c0, r0, G0, D0, rfl, d0, e0, h0, c1, r1, G1, D1, rfl, d1, e1, h1, c2, r2, G2, D2, rfl, d2, e2, h2, c3, r3, G3, D3, rfl, d3, e3, h3, c4, r4, G4, D4, rfl, d4, e4, h4, h5⟩ := h
  have t0 := h0
  obtain ⟨ax0, px0, rfl, _⟩ := t0
  obtain rfl := h1
  obtain rfl := h2
  obtain rfl := h3
  obtain rfl := h4
  obtain rfl := h5
  exact ⟨_, _, G0, rfl, h0, fun k hk => (d0 k hk).1⟩
theorem conf_cap {F Fx0 : Foot} {ux0 : Value} {x0 : List (Int × Bool × Int × Int)} {x1 : Int} {x2 : Int} {x3 : Int} {x4 : Int} {x5 : Int} {w : World} (hx0 : mConfS.cap Fx0 [ux0] x0 w)
    (sx0 : ∀ k, Fx0 k → F k)  : confK.cap F [ux0, .int .i64 x1, .int .i64 x2, .int .i64 x3, .int .i64 x4, .int .i64 x5] (x0, x1, x2, x3, x4, x5) w :=
  ⟨[ux0], _, (fun k => Fx0 k), (fun k => False), rfl, fun k hk => ⟨sx0 k hk, fun hk2 => hk2.elim⟩, fun k hk => hk.elim, hx0, ⟨[.int .i64 x1], _, (fun k => False), (fun k => False), rfl, fun k hk => ⟨hk.elim, fun hk2 => hk.elim⟩, fun k hk => hk.elim, rfl, ⟨[.int .i64 x2], _, (fun k => False), (fun k => False), rfl, fun k hk => ⟨hk.elim, fun hk2 => hk.elim⟩, fun k hk => hk.elim, rfl, ⟨[.int .i64 x3], _, (fun k => False), (fun k => False), rfl, fun k hk => ⟨hk.elim, fun hk2 => hk.elim⟩, fun k hk => hk.elim, rfl, ⟨[.int .i64 x4], _, (fun k => False), (fun k => False), rfl, fun k hk => ⟨hk.elim, fun hk2 => hk.elim⟩, fun k hk => hk.elim, rfl, rfl⟩⟩⟩⟩⟩
theorem conf_sz (x0 : List (Int × Bool × Int × Int)) (x1 : Int) (x2 : Int) (x3 : Int) (x4 : Int) (x5 : Int) : confK.sz (x0, x1, x2, x3, x4, x5) = mConfS.sz x0 := by
  show mConfS.sz x0 + (0 + (0 + (0 + (0 + 0)))) = _
  omega
theorem conf_cT (x0 : List (Int × Bool × Int × Int)) (x1 : Int) (x2 : Int) (x3 : Int) (x4 : Int) (x5 : Int) : confK.cT (x0, x1, x2, x3, x4, x5) = mConfS.cT x0 := by
  show mConfS.cT x0 + (0 + (0 + (0 + (0 + 0)))) = _
  omega
theorem conf_mT (x0 : List (Int × Bool × Int × Int)) (x1 : Int) (x2 : Int) (x3 : Int) (x4 : Int) (x5 : Int) (k : Int) : confK.mT (x0, x1, x2, x3, x4, x5) k = (mConfS.mT x0 (k), x1, x2, x3, x4, x5) := by
  show (mConfS.mT x0 (k), x1, x2, x3, x4, x5) = _
  simp
set_option maxRecDepth 100000 in
theorem szConf : SzC confK agg 5 := by
  intro cs x L w hr h0 h1
  obtain ⟨x0, x1, x2, x3, x4, x5⟩ := x
  rw [conf_sz]
  obtain ⟨ax0, px0, rfl, rx0⟩ := conf_form hr
  have Rx0 := Lib.hid rx0
  clear hr rx0
  obtain ⟨n0, hn0⟩ : ∃ n, mConfS.sz x0 = n := ⟨_, rfl⟩
  rw [hn0]
  have B0 := Lib.hid (Bx.new 24 #[.slice ax0 x0.length px0, .int .i64 x1, .int .i64 x2, .int .i64 x3, .int .i64 x4, .int .i64 x5] w)
  have HB0 := Lib.hid ((Below.refl w.heap.size w).alloc (Nat.le_refl _) (Obj.cells #[.slice ax0 x0.length px0, .int .i64 x1, .int .i64 x2, .int .i64 x3, .int .i64 x4, .int .i64 x5] 24))
  show Calls _ _ #[.agg #[.slice ax0 x0.length px0, .int .i64 x1, .int .i64 x2, .int .i64 x3, .int .i64 x4, .int .i64 x5], .int .i64 L] w _
  obtain ⟨M0, hM0⟩ : ∃ M, szW L n0 = M := ⟨_, rfl⟩
  have hb0 := szW_bd L n0 (by omega)
  rw [hM0] at hb0
  have ht0 := hM0
  have HM0 : Hid (szW L (mConfS.sz x0) = M0) := Lib.hid (by rw [hn0]; exact hM0)
  have He := Lib.hid ht0
  clear hM0 ht0 hn0
  by_cases c0 : M0 < 0
  · obtain rfl : M0 = -1 := by omega
    go_enter Try.func5, Try.ntmps5
    go_wp2_with fail
    generalize w.alloc (Obj.cells #[.slice ax0 x0.length px0, .int .i64 x1, .int .i64 x2, .int .i64 x3, .int .i64 x4, .int .i64 x5] 24) = y0 at B0 HB0 ⊢
    refine (szMConfS [.slice ax0 x0.length px0] x0 L _ (mConfS.rd_later Rx0.out HB0.out) (by omega) (by omega)).mono ?_
    rintro e y1 ⟨rfl, hb⟩
    rw [HM0.out]
    have B1 := Lib.hid (B0.out.later hb)
    have HB1 := Lib.hid (HB0.out.trans (hb.mono HB0.out.size))
    have g0 := B1.out.cell 0 _ rfl
    have g1 := B1.out.cell 1 _ rfl
    have g2 := B1.out.cell 2 _ rfl
    have g3 := B1.out.cell 3 _ rfl
    have g4 := B1.out.cell 4 _ rfl
    have g5 := B1.out.cell 5 _ rfl
    clear hb
    go_wp2
    go_ret
    exact ⟨by rw [He.out]; rfl, HB1.out⟩
  · skip
    go_enter Try.func5, Try.ntmps5
    go_wp2_with fail
    generalize w.alloc (Obj.cells #[.slice ax0 x0.length px0, .int .i64 x1, .int .i64 x2, .int .i64 x3, .int .i64 x4, .int .i64 x5] 24) = y0 at B0 HB0 ⊢
    refine (szMConfS [.slice ax0 x0.length px0] x0 L _ (mConfS.rd_later Rx0.out HB0.out) (by omega) (by omega)).mono ?_
    rintro e y1 ⟨rfl, hb⟩
    rw [HM0.out]
    have B1 := Lib.hid (B0.out.later hb)
    have HB1 := Lib.hid (HB0.out.trans (hb.mono HB0.out.size))
    have g0 := B1.out.cell 0 _ rfl
    have g1 := B1.out.cell 1 _ rfl
    have g2 := B1.out.cell 2 _ rfl
    have g3 := B1.out.cell 3 _ rfl
    have g4 := B1.out.cell 4 _ rfl
    have g5 := B1.out.cell 5 _ rfl
    clear hb
    go_wp2
    go_ret
    exact ⟨by rw [He.out]; rfl, HB1.out⟩
set_option maxRecDepth 100000 in
theorem toConf : ToC confK agg 7 := by
  intro cs x w hs hr
  obtain ⟨x0, x1, x2, x3, x4, x5⟩ := x
  rw [conf_sz] at hs
  obtain ⟨ax0, px0, rfl, rx0⟩ := conf_form hr
  have Rx0 := Lib.hid rx0
  clear hr rx0
  have hsz : ∀ (w : World) o, (w.alloc o).heap.size = w.heap.size + 1 := fun w o => by simp
  have A1 := Lib.hid (((Bx.new 24 #[.slice ax0 x0.length px0, .int .i64 x1, .int .i64 x2, .int .i64 x3, .int .i64 x4, .int .i64 x5] w).alloc (Obj.cells #[.slice none 0 0, .int .i64 0, .int .i64 0, .int .i64 0, .int .i64 0, .int .i64 0] 28)).alloc (Obj.cells #[.slice none 0 0, .int .i64 0, .int .i64 0, .int .i64 0, .int .i64 0, .int .i64 0] 28))
  have A2 := (Bx.new 28 #[.slice none 0 0, .int .i64 0, .int .i64 0, .int .i64 0, .int .i64 0, .int .i64 0] (w.alloc (Obj.cells #[.slice ax0 x0.length px0, .int .i64 x1, .int .i64 x2, .int .i64 x3, .int .i64 x4, .int .i64 x5] 24))).alloc (Obj.cells #[.slice none 0 0, .int .i64 0, .int .i64 0, .int .i64 0, .int .i64 0, .int .i64 0] 28)
  have A3 := Bx.new 28 #[.slice none 0 0, .int .i64 0, .int .i64 0, .int .i64 0, .int .i64 0, .int .i64 0] ((w.alloc (Obj.cells #[.slice ax0 x0.length px0, .int .i64 x1, .int .i64 x2, .int .i64 x3, .int .i64 x4, .int .i64 x5] 24)).alloc (Obj.cells #[.slice none 0 0, .int .i64 0, .int .i64 0, .int .i64 0, .int .i64 0, .int .i64 0] 28))
  rw [hsz] at A2
  rw [hsz, hsz] at A3
  have HA2 := Lib.hid A2
  have HA3 := Lib.hid A3
  have HB0 := Lib.hid ((((Below.refl w.heap.size w).alloc (Nat.le_refl _) (Obj.cells #[.slice ax0 x0.length px0, .int .i64 x1, .int .i64 x2, .int .i64 x3, .int .i64 x4, .int .i64 x5] 24)).alloc (by simp) (Obj.cells #[.slice none 0 0, .int .i64 0, .int .i64 0, .int .i64 0, .int .i64 0, .int .i64 0] 28)).alloc (by simp; omega) (Obj.cells #[.slice none 0 0, .int .i64 0, .int .i64 0, .int .i64 0, .int .i64 0, .int .i64 0] 28))
  have hn3 := size_alloc3 w (Obj.cells #[.slice ax0 x0.length px0, .int .i64 x1, .int .i64 x2, .int .i64 x3, .int .i64 x4, .int .i64 x5] 24) (Obj.cells #[.slice none 0 0, .int .i64 0, .int .i64 0, .int .i64 0, .int .i64 0, .int .i64 0] 28) (Obj.cells #[.slice none 0 0, .int .i64 0, .int .i64 0, .int .i64 0, .int .i64 0, .int .i64 0] 28)
  have Hz0 : Hid (w.heap.size + 1 + 1 + 1 ≤ (((w.alloc (Obj.cells #[.slice ax0 x0.length px0, .int .i64 x1, .int .i64 x2, .int .i64 x3, .int .i64 x4, .int .i64 x5] 24)).alloc (Obj.cells #[.slice none 0 0, .int .i64 0, .int .i64 0, .int .i64 0, .int .i64 0, .int .i64 0] 28)).alloc (Obj.cells #[.slice none 0 0, .int .i64 0, .int .i64 0, .int .i64 0, .int .i64 0, .int .i64 0] 28)).heap.size) := Lib.hid (by rw [hn3]; exact Nat.le_refl _)
  clear A2 A3 hsz hn3
  show Calls _ _ #[.agg #[.slice ax0 x0.length px0, .int .i64 x1, .int .i64 x2, .int .i64 x3, .int .i64 x4, .int .i64 x5]] w _
  go_enter Try.func7, Try.ntmps7
  go_wp2_with fail
  have X1_0 := A1
  have X2_0 := HA2
  have X3_0 := HA3
  clear A1 HA2 HA3
  generalize ((w.alloc (Obj.cells #[.slice ax0 x0.length px0, .int .i64 x1, .int .i64 x2, .int .i64 x3, .int .i64 x4, .int .i64 x5] 24)).alloc (Obj.cells #[.slice none 0 0, .int .i64 0, .int .i64 0, .int .i64 0, .int .i64 0, .int .i64 0] 28)).alloc (Obj.cells #[.slice none 0 0, .int .i64 0, .int .i64 0, .int .i64 0, .int .i64 0, .int .i64 0] 28) = y0 at X1_0 X2_0 X3_0 HB0 Hz0 ⊢
  have HB_0 := HB0
  clear HB0
  refine (toMConfS [.slice ax0 x0.length px0] x0 _ (by omega) (mConfS.rd_later Rx0.out HB_0.out)).mono ?_
  rintro e v1 ⟨us, he, hc, hb⟩
  obtain ⟨bx0, qx0, rfl, _⟩ := mConfS.cap_rd hc
  obtain rfl : e = .returned (.slice bx0 x0.length qx0) := he
  have Vx0 := Lib.hid (mConfS.cap_wide (mConfS.cap_top hc) (G := fun k => y0.heap.size ≤ k ∧ k < v1.heap.size) (fun k _ hk => hk))
  have W1 := Lib.hid (X1_0.out.later hb)
  have W2 := Lib.hid (X2_0.out.later hb)
  have W3 := Lib.hid (X3_0.out.later hb)
  have WB := Lib.hid (HB_0.out.trans (hb.mono HB_0.out.size))
  have Wz := Lib.hid (Nat.le_trans Hz0.out hb.size)
  have Ws := Lib.hid hb.size
  have Wy0 := Lib.hid Hz0.out
  clear hc hb
  have g0 := W3.out.cell 0 _ rfl
  have g1 := W3.out.cell 1 _ rfl
  have g2 := W3.out.cell 2 _ rfl
  have g3 := W3.out.cell 3 _ rfl
  have g4 := W3.out.cell 4 _ rfl
  have g5 := W3.out.cell 5 _ rfl
  have a0 := W1.out.cell 0 _ rfl
  have a1 := W1.out.cell 1 _ rfl
  have a2 := W1.out.cell 2 _ rfl
  have a3 := W1.out.cell 3 _ rfl
  have a4 := W1.out.cell 4 _ rfl
  have a5 := W1.out.cell 5 _ rfl
  have z0 := W3.out.warm 0
  have z1 := W3.out.warm 1
  have z2 := W3.out.warm 2
  have z3 := W3.out.warm 3
  have z4 := W3.out.warm 4
  have z5 := W3.out.warm 5
  have e0 := W2.out.cell 0 _ rfl
  have e1 := W2.out.cell 1 _ rfl
  have e2 := W2.out.cell 2 _ rfl
  have e3 := W2.out.cell 3 _ rfl
  have e4 := W2.out.cell 4 _ rfl
  have e5 := W2.out.cell 5 _ rfl
  have f0 := W2.out.warm 0
  have f1 := W2.out.warm 1
  have f2 := W2.out.warm 2
  have f3 := W2.out.warm 3
  have f4 := W2.out.warm 4
  have f5 := W2.out.warm 5
  go_wp2_with fail
  have Tx0 : Hid (∀ w2, Turn (fun k => k = w.heap.size + 1 + 1 ∨ k = w.heap.size + 1) v1 w2 → mConfS.cap (fun k => y0.heap.size ≤ k ∧ k < v1.heap.size) [.slice bx0 x0.length qx0] x0 w2) := Lib.hid (fun w2 ht => mConfS.cap_turn Vx0.out ht (fun k _ hk he => by have h1 := Wy0.out; have h2 : y0.heap.size ≤ k := hk.1; omega))
  refine bodyPost_ret (v := .agg #[.slice bx0 x0.length qx0, .int .i64 x1, .int .i64 x2, .int .i64 x3, .int .i64 x4, .int .i64 x5]) (by simp [results, Try.results7, go_sem, e0, e1, e2, e3, e4, e5]) rfl ⟨[.slice bx0 x0.length qx0, .int .i64 x1, .int .i64 x2, .int .i64 x3, .int .i64 x4, .int .i64 x5], rfl, ?_, ?_⟩
  · have ht : ∀ {w2 : World}, Turn (fun k => k = w.heap.size + 1 + 1 ∨ k = w.heap.size + 1) v1 w2 → confK.cap (fun k => w.heap.size ≤ k) [.slice bx0 x0.length qx0, .int .i64 x1, .int .i64 x2, .int .i64 x3, .int .i64 x4, .int .i64 x5] (x0, x1, x2, x3, x4, x5) w2 := fun {w2} ht => by
      have tx0 := Tx0.out w2 ht
      exact conf_cap tx0 (fun k hk => by have h1 := Wy0.out; have h2 : y0.heap.size ≤ k := (hk).1; omega) 
    refine ht ?_
    iterate 12 refine Turn.set ?_ (by simp) _
    exact Turn.refl _ _
  · iterate 12 refine Below.setCell ?_ (by dsimp only; omega) _
    exact WB.out
set_option maxRecDepth 100000 in
theorem eqConf : EqC confK agg 10 := by
  intro cs ds x w hs hr hr2
  obtain ⟨x0, x1, x2, x3, x4, x5⟩ := x
  rw [conf_sz] at hs
  obtain ⟨ax0, px0, rfl, rx0⟩ := conf_form hr
  have Rx0 := Lib.hid rx0
  clear hr rx0
  obtain ⟨bx0, qx0, rfl, sx0⟩ := conf_form hr2
  have Sx0 := Lib.hid sx0
  clear hr2 sx0
  have hsz : ∀ (w : World) o, (w.alloc o).heap.size = w.heap.size + 1 := fun w o => by simp
  have A0 := Lib.hid ((Bx.new 28 #[.slice ax0 x0.length px0, .int .i64 x1, .int .i64 x2, .int .i64 x3, .int .i64 x4, .int .i64 x5] w).alloc (Obj.cells #[.slice bx0 x0.length qx0, .int .i64 x1, .int .i64 x2, .int .i64 x3, .int .i64 x4, .int .i64 x5] 28))
  have B0 := Bx.new 28 #[.slice bx0 x0.length qx0, .int .i64 x1, .int .i64 x2, .int .i64 x3, .int .i64 x4, .int .i64 x5] (w.alloc (Obj.cells #[.slice ax0 x0.length px0, .int .i64 x1, .int .i64 x2, .int .i64 x3, .int .i64 x4, .int .i64 x5] 28))
  rw [hsz] at B0
  have X0 := Lib.hid B0
  clear B0 hsz
  have HB0 := Lib.hid (((Below.refl w.heap.size w).alloc (Nat.le_refl _) (Obj.cells #[.slice ax0 x0.length px0, .int .i64 x1, .int .i64 x2, .int .i64 x3, .int .i64 x4, .int .i64 x5] 28)).alloc (by simp) (Obj.cells #[.slice bx0 x0.length qx0, .int .i64 x1, .int .i64 x2, .int .i64 x3, .int .i64 x4, .int .i64 x5] 28))
  have nx1 : (x1 != x1) = false := by simp
  have nx2 : (x2 != x2) = false := by simp
  have nx3 : (x3 != x3) = false := by simp
  have nx4 : (x4 != x4) = false := by simp
  have nx5 : (x5 != x5) = false := by simp
  show Calls _ _ #[.agg #[.slice ax0 x0.length px0, .int .i64 x1, .int .i64 x2, .int .i64 x3, .int .i64 x4, .int .i64 x5], .agg #[.slice bx0 x0.length qx0, .int .i64 x1, .int .i64 x2, .int .i64 x3, .int .i64 x4, .int .i64 x5]] w _
  go_enter Try.func10, Try.ntmps10
  go_wp2_with fail
  generalize (w.alloc (Obj.cells #[.slice ax0 x0.length px0, .int .i64 x1, .int .i64 x2, .int .i64 x3, .int .i64 x4, .int .i64 x5] 28)).alloc (Obj.cells #[.slice bx0 x0.length qx0, .int .i64 x1, .int .i64 x2, .int .i64 x3, .int .i64 x4, .int .i64 x5] 28) = y0 at A0 X0 HB0 ⊢
  refine (eqMConfS [.slice ax0 x0.length px0] [.slice bx0 x0.length qx0] x0 _ (by omega) (mConfS.rd_later Rx0.out HB0.out) (mConfS.rd_later Sx0.out HB0.out)).mono ?_
  rintro e y1 ⟨rfl, hb⟩
  have A1 := Lib.hid (A0.out.later hb)
  have X1 := Lib.hid (X0.out.later hb)
  have HB1 := Lib.hid (HB0.out.trans (hb.mono HB0.out.size))
  clear hb
  have g0 := A1.out.cell 0 _ rfl
  have g1 := A1.out.cell 1 _ rfl
  have g2 := A1.out.cell 2 _ rfl
  have g3 := A1.out.cell 3 _ rfl
  have g4 := A1.out.cell 4 _ rfl
  have g5 := A1.out.cell 5 _ rfl
  have k0 := X1.out.cell 0 _ rfl
  have k1 := X1.out.cell 1 _ rfl
  have k2 := X1.out.cell 2 _ rfl
  have k3 := X1.out.cell 3 _ rfl
  have k4 := X1.out.cell 4 _ rfl
  have k5 := X1.out.cell 5 _ rfl
  go_wp2
  go_ret
  exact ⟨rfl, HB1.out⟩
set_option maxRecDepth 100000 in
theorem markConf : MarkC confK agg 11 := by
  intro F cs x k0 w hs h0 h1 hc
  obtain ⟨x0, x1, x2, x3, x4, x5⟩ := x
  rw [conf_sz] at hs
  rw [conf_cT] at h1 ⊢
  rw [conf_mT]
  obtain ⟨ax0, px0, Fx0, rfl, cx0, sx0⟩ := cap_conf (confK.cap_top hc)
  have Cx0_0 := Lib.hid cx0
  have Sx0 := Lib.hid sx0
  clear hc cx0 sx0 
  have B0 := Lib.hid (Bx.new 28 #[.slice ax0 x0.length px0, .int .i64 x1, .int .i64 x2, .int .i64 x3, .int .i64 x4, .int .i64 x5] w)
  have HA := Lib.hid ((Below.refl w.heap.size w).alloc (Nat.le_refl _) (Obj.cells #[.slice ax0 x0.length px0, .int .i64 x1, .int .i64 x2, .int .i64 x3, .int .i64 x4, .int .i64 x5] 28))
  show Calls _ _ #[.agg #[.slice ax0 x0.length px0, .int .i64 x1, .int .i64 x2, .int .i64 x3, .int .i64 x4, .int .i64 x5], .int .i64 k0] w _
  go_enter Try.func11, Try.ntmps11
  go_wp2_with fail
  generalize w.alloc (Obj.cells #[.slice ax0 x0.length px0, .int .i64 x1, .int .i64 x2, .int .i64 x3, .int .i64 x4, .int .i64 x5] 28) = y0 at B0 HA ⊢
  have HT0 : Hid (Turn F w y0) := Lib.hid (Turn.later HA.out)
  have Dx0_0 := Lib.hid (mConfS.cap_later Cx0_0.out HA.out)
  clear HA Cx0_0
  refine (markMConfS Fx0 [.slice ax0 x0.length px0] x0 k0 _ (by omega) (by omega) (by omega) Dx0_0.out).mono ?_
  rintro e y1 ⟨rfl, hc, ht⟩
  obtain ⟨k1, hk1⟩ : ∃ k, k0 + (mConfS.cT x0 : Int) = k := ⟨_, rfl⟩
  rw [hk1]
  have B1 : Hid (Bx 28 w.heap.size #[.slice ax0 x0.length px0, .int .i64 x1, .int .i64 x2, .int .i64 x3, .int .i64 x4, .int .i64 x5] y1) := Lib.hid ((ht.block _ B0.out.lt (fun h => by have := (Sx0.out _ h).2; omega)).trans B0.out)
  have HT1 := Lib.hid (HT0.out.trans (ht.wide (fun k hk => (Sx0.out k hk).1)))
  have Dx0_1 := Lib.hid hc
  clear hc ht Dx0_0
  have g0 := B1.out.cell 0 _ rfl
  have g1 := B1.out.cell 1 _ rfl
  have g2 := B1.out.cell 2 _ rfl
  have g3 := B1.out.cell 3 _ rfl
  have g4 := B1.out.cell 4 _ rfl
  have g5 := B1.out.cell 5 _ rfl
  have He : Hid (k1 = k0 + ((mConfS.cT x0 : Nat) : Int)) := Lib.hid (by omega)
  have Hk1 := Lib.hid hk1
  clear hk1
  go_wp2
  go_ret
  refine ⟨by rw [← He.out]; rfl, ?_, HT1.out⟩
  have hk0 : k0 = k0 := rfl
  exact conf_cap Dx0_1.out (fun k hk => (Sx0.out k hk).1) 
set_option maxRecDepth 100000 in
theorem heldConf : HeldC confK agg 42 := by
  intro cs x k0 w hs h0 h1 hr
  obtain ⟨x0, x1, x2, x3, x4, x5⟩ := x
  rw [conf_sz] at hs
  rw [conf_cT] at h1 ⊢
  rw [conf_mT] at hr
  obtain ⟨k1, hk1⟩ : ∃ k, k0 + (mConfS.cT x0 : Int) = k := ⟨_, rfl⟩
  obtain ⟨ax0, px0, rfl, rx0⟩ := conf_form hr
  obtain ⟨mx0, hmx0⟩ : ∃ m, (mConfS.mT x0 (k0)).length = m := ⟨_, rfl⟩
  rw [hmx0] at rx0 ⊢
  have Rx0 := Lib.hid rx0
  clear rx0
  clear hr hmx0
  have He : Hid (k1 = k0 + ((mConfS.cT x0 : Nat) : Int)) := Lib.hid (by omega)
  have B0 := Lib.hid (Bx.new 28 #[.slice ax0 mx0 px0, .int .i64 x1, .int .i64 x2, .int .i64 x3, .int .i64 x4, .int .i64 x5] w)
  have HB0 := Lib.hid ((Below.refl w.heap.size w).alloc (Nat.le_refl _) (Obj.cells #[.slice ax0 mx0 px0, .int .i64 x1, .int .i64 x2, .int .i64 x3, .int .i64 x4, .int .i64 x5] 28))
  show Calls _ _ #[.agg #[.slice ax0 mx0 px0, .int .i64 x1, .int .i64 x2, .int .i64 x3, .int .i64 x4, .int .i64 x5], .int .i64 k0] w _
  have hp1 : ¬ k1 < 0 := by omega
  have hq1 : 0 ≤ k1 := by omega
  have hl0 : k0 + (mConfS.cT x0 : Int) ≤ 4611686018427387904 := by omega
  have Hl0 := Lib.hid hl0
  have Hk1 := Lib.hid hk1
  clear hk1 hl0
  go_enter Try.func42, Try.ntmps42
  go_wp2_with fail
  generalize w.alloc (Obj.cells #[.slice ax0 mx0 px0, .int .i64 x1, .int .i64 x2, .int .i64 x3, .int .i64 x4, .int .i64 x5] 28) = y0 at B0 HB0 ⊢
  refine (heldMConfS [.slice ax0 mx0 px0] x0 k0 _ (by omega) (by omega) Hl0.out (mConfS.rd_later Rx0.out HB0.out)).mono ?_
  rintro e y1 ⟨rfl, hb⟩
  rw [Hk1.out]
  have B1 := Lib.hid (B0.out.later hb)
  have HB1 := Lib.hid (HB0.out.trans (hb.mono HB0.out.size))
  clear hb
  have g0 := B1.out.cell 0 _ rfl
  have g1 := B1.out.cell 1 _ rfl
  have g2 := B1.out.cell 2 _ rfl
  have g3 := B1.out.cell 3 _ rfl
  have g4 := B1.out.cell 4 _ rfl
  have g5 := B1.out.cell 5 _ rfl
  go_wp2
  go_ret
  exact ⟨by rw [← He.out]; rfl, HB1.out⟩
end Go.Proofs.Ytdhaelaoackfkaa.KD
