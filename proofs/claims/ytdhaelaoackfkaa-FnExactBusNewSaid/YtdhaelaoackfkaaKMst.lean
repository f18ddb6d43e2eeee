
/-
  Mst as data; what the laws' own functions do with it. (Made by wip/gk.py.)
-/
import Derived.Test.YtdhaelaoackfkaaKReqS
import Derived.Test.YtdhaelaoackfkaaGRow
import Derived.Outline
namespace Go.Proofs.Ytdhaelaoackfkaa.KD
open Go.RowKit Rows3 GR
set_option linter.unusedVariables false

def mstK : Kn (List (Bool × Int × Int × Int × Bool × List Int) × Int × Int × Int × Bool × Bool) := prod reqS (prod int (prod int (prod int (prod bool bool))))
theorem mst_form {cs : List Value} {x0 : List (Bool × Int × Int × Int × Bool × List Int)} {x1 : Int} {x2 : Int} {x3 : Int} {x4 : Bool} {x5 : Bool} {w : World} (h : mstK.rd cs (x0, x1, x2, x3, x4, x5) w) :
    ∃ ax0 px0, cs = [.slice ax0 x0.length px0, .int .i64 x1, .int .i64 x2, .int .i64 x3, .bool x4, .bool x5] ∧ reqS.rd [.slice ax0 x0.length px0] x0 w := by
  obtain ⟨c0, r0, rfl, h0, c1, r1, rfl, h1, c2, r2, rfl, h2, c3, r3, rfl, h3, c4, r4, rfl, h4, h5⟩ := h
  have t0 := h0
  obtain ⟨ax0, px0, rfl, _⟩ := t0
  obtain rfl := h1
  obtain rfl := h2
  obtain rfl := h3
  obtain rfl := h4
  obtain rfl := h5
  exact ⟨_, _, rfl, h0⟩
theorem mst_rd {ux0 : Value} {x0 : List (Bool × Int × Int × Int × Bool × List Int)} {x1 : Int} {x2 : Int} {x3 : Int} {x4 : Bool} {x5 : Bool} {w : World} (hx0 : reqS.rd [ux0] x0 w) : mstK.rd [ux0, .int .i64 x1, .int .i64 x2, .int .i64 x3, .bool x4, .bool x5] (x0, x1, x2, x3, x4, x5) w :=
  ⟨[ux0], _, rfl, hx0, ⟨[.int .i64 x1], _, rfl, rfl, ⟨[.int .i64 x2], _, rfl, rfl, ⟨[.int .i64 x3], _, rfl, rfl, ⟨[.bool x4], _, rfl, rfl, rfl⟩⟩⟩⟩⟩
theorem cap_mst {F : Foot} {cs : List Value} {x0 : List (Bool × Int × Int × Int × Bool × List Int)} {x1 : Int} {x2 : Int} {x3 : Int} {x4 : Bool} {x5 : Bool} {w : World} (h : mstK.cap F cs (x0, x1, x2, x3, x4, x5) w) :
    ∃ ax0 px0 Fx0, cs = [.slice ax0 x0.length px0, .int .i64 x1, .int .i64 x2, .int .i64 x3, .bool x4, .bool x5] ∧ reqS.cap Fx0 [.slice ax0 x0.length px0] x0 w ∧ (∀ k, Fx0 k → F k) := by
  obtain ⟨c0, r0, G0, D0, rfl, d0, e0, h0, c1, r1, G1, D1, rfl, d1, e1, h1, c2, r2, G2, D2, rfl, d2, e2, h2, c3, r3, G3, D3, rfl, d3, e3, h3, c4, r4, G4, D4, rfl, d4, e4, h4, h5⟩ := h
  have t0 := h0
  obtain ⟨ax0, px0, rfl, _⟩ := t0
  obtain rfl := h1
  obtain rfl := h2
  obtain rfl := h3
  obtain rfl := h4
  obtain rfl := h5
  exact ⟨_, _, G0, rfl, h0, fun k hk => (d0 k hk).1⟩
theorem mst_cap {F Fx0 : Foot} {ux0 : Value} {x0 : List (Bool × Int × Int × Int × Bool × List Int)} {x1 : Int} {x2 : Int} {x3 : Int} {x4 : Bool} {x5 : Bool} {w : World} (hx0 : reqS.cap Fx0 [ux0] x0 w)
    (sx0 : ∀ k, Fx0 k → F k)  : mstK.cap F [ux0, .int .i64 x1, .int .i64 x2, .int .i64 x3, .bool x4, .bool x5] (x0, x1, x2, x3, x4, x5) w :=
  ⟨[ux0], _, (fun k => Fx0 k), (fun k => False), rfl, fun k hk => ⟨sx0 k hk, fun hk2 => hk2.elim⟩, fun k hk => hk.elim, hx0, ⟨[.int .i64 x1], _, (fun k => False), (fun k => False), rfl, fun k hk => ⟨hk.elim, fun hk2 => hk.elim⟩, fun k hk => hk.elim, rfl, ⟨[.int .i64 x2], _, (fun k => False), (fun k => False), rfl, fun k hk => ⟨hk.elim, fun hk2 => hk.elim⟩, fun k hk => hk.elim, rfl, ⟨[.int .i64 x3], _, (fun k => False), (fun k => False), rfl, fun k hk => ⟨hk.elim, fun hk2 => hk.elim⟩, fun k hk => hk.elim, rfl, ⟨[.bool x4], _, (fun k => False), (fun k => False), rfl, fun k hk => ⟨hk.elim, fun hk2 => hk.elim⟩, fun k hk => hk.elim, rfl, rfl⟩⟩⟩⟩⟩
theorem mst_mI (x0 : List (Bool × Int × Int × Int × Bool × List Int)) (x1 : Int) (x2 : Int) (x3 : Int) (x4 : Bool) (x5 : Bool) (k : Int) : mstK.mI (x0, x1, x2, x3, x4, x5) k = (reqS.mT x0 (k), k + (reqS.cT x0 : Int), k + (reqS.cT x0 : Int) + 1, k + (reqS.cT x0 : Int) + 1 + 1, ((k + (reqS.cT x0 : Int) + 1 + 1 + 1) % 3 == 0), ((k + (reqS.cT x0 : Int) + 1 + 1 + 1 + 1) % 3 == 0)) := rfl
theorem mst_cI (x0 : List (Bool × Int × Int × Int × Bool × List Int)) (x1 : Int) (x2 : Int) (x3 : Int) (x4 : Bool) (x5 : Bool) : mstK.cI (x0, x1, x2, x3, x4, x5) = 5 + reqS.cT x0 := by
  show (reqS.cT x0 + (1 + (1 + (1 + (1 + 1))))) = _
  omega
theorem mst_sz (x0 : List (Bool × Int × Int × Int × Bool × List Int)) (x1 : Int) (x2 : Int) (x3 : Int) (x4 : Bool) (x5 : Bool) : mstK.sz (x0, x1, x2, x3, x4, x5) = reqS.sz x0 := by
  show reqS.sz x0 + (0 + (0 + (0 + (0 + 0)))) = _
  omega
theorem mst_cT (x0 : List (Bool × Int × Int × Int × Bool × List Int)) (x1 : Int) (x2 : Int) (x3 : Int) (x4 : Bool) (x5 : Bool) : mstK.cT (x0, x1, x2, x3, x4, x5) = reqS.cT x0 := by
  show reqS.cT x0 + (0 + (0 + (0 + (0 + 0)))) = _
  omega
theorem mst_mT (x0 : List (Bool × Int × Int × Int × Bool × List Int)) (x1 : Int) (x2 : Int) (x3 : Int) (x4 : Bool) (x5 : Bool) (k : Int) : mstK.mT (x0, x1, x2, x3, x4, x5) k = (reqS.mT x0 (k), x1, x2, x3, x4, x5) := by
  show (reqS.mT x0 (k), x1, x2, x3, x4, x5) = _
  simp
set_option maxRecDepth 100000 in
theorem szMst : SzC mstK agg 93 := by
  intro cs x L w hr h0 h1
  obtain ⟨x0, x1, x2, x3, x4, x5⟩ := x
  rw [mst_sz]
  obtain ⟨ax0, px0, rfl, rx0⟩ := mst_form hr
  have Rx0 := Lib.hid rx0
  clear hr rx0
  obtain ⟨n0, hn0⟩ : ∃ n, reqS.sz x0 = n := ⟨_, rfl⟩
  rw [hn0]
  have B0 := Lib.hid (Bx.new 122 #[.slice ax0 x0.length px0, .int .i64 x1, .int .i64 x2, .int .i64 x3, .bool x4, .bool x5] w)
  have HB0 := Lib.hid ((Below.refl w.heap.size w).alloc (Nat.le_refl _) (Obj.cells #[.slice ax0 x0.length px0, .int .i64 x1, .int .i64 x2, .int .i64 x3, .bool x4, .bool x5] 122))
  show Calls _ _ #[.agg #[.slice ax0 x0.length px0, .int .i64 x1, .int .i64 x2, .int .i64 x3, .bool x4, .bool x5], .int .i64 L] w _
  obtain ⟨M0, hM0⟩ : ∃ M, szW L n0 = M := ⟨_, rfl⟩
  have hb0 := szW_bd L n0 (by omega)
  rw [hM0] at hb0
  have ht0 := hM0
  have HM0 : Hid (szW L (reqS.sz x0) = M0) := Lib.hid (by rw [hn0]; exact hM0)
  have He := Lib.hid ht0
  clear hM0 ht0 hn0
  by_cases c0 : M0 < 0
  · obtain rfl : M0 = -1 := by omega
    go_enter Try.func93, Try.ntmps93
    go_wp2_with fail
    generalize w.alloc (Obj.cells #[.slice ax0 x0.length px0, .int .i64 x1, .int .i64 x2, .int .i64 x3, .bool x4, .bool x5] 122) = y0 at B0 HB0 ⊢
    refine (szReqS [.slice ax0 x0.length px0] x0 L _ (reqS.rd_later Rx0.out HB0.out) (by omega) (by omega)).mono ?_
    rintro e y1 ⟨rfl, hb⟩
    rw [HM0.out]
    have B1 := Lib.hid (B0.out.later hb)
    have HB1 := Lib.hid (HB0.out.trans (hb.mono HB0.out.size))
    have g0 := B1.out.cell 0 _ rfl
    have g1 := B1.out.cell 1 _ rfl
    have g2 := B1.out.cell 2 _ rfl
    have g3 := B1.out.cell 3 _ rfl
    have g4 := B1.out.cell 4 _ rfl
    have g5 := B1.out.cell 5 _ rfl
    clear hb
    go_wp2
    go_ret
    exact ⟨by rw [He.out]; rfl, HB1.out⟩
  · skip
    go_enter Try.func93, Try.ntmps93
    go_wp2_with fail
    generalize w.alloc (Obj.cells #[.slice ax0 x0.length px0, .int .i64 x1, .int .i64 x2, .int .i64 x3, .bool x4, .bool x5] 122) = y0 at B0 HB0 ⊢
    refine (szReqS [.slice ax0 x0.length px0] x0 L _ (reqS.rd_later Rx0.out HB0.out) (by omega) (by omega)).mono ?_
    rintro e y1 ⟨rfl, hb⟩
    rw [HM0.out]
    have B1 := Lib.hid (B0.out.later hb)
    have HB1 := Lib.hid (HB0.out.trans (hb.mono HB0.out.size))
    have g0 := B1.out.cell 0 _ rfl
    have g1 := B1.out.cell 1 _ rfl
    have g2 := B1.out.cell 2 _ rfl
    have g3 := B1.out.cell 3 _ rfl
    have g4 := B1.out.cell 4 _ rfl
    have g5 := B1.out.cell 5 _ rfl
    clear hb
    go_wp2
    go_ret
    exact ⟨by rw [He.out]; rfl, HB1.out⟩
set_option maxRecDepth 100000 in
theorem toMst : ToC mstK agg 97 := by
  intro cs x w hs hr
  obtain ⟨x0, x1, x2, x3, x4, x5⟩ := x
  rw [mst_sz] at hs
  obtain ⟨ax0, px0, rfl, rx0⟩ := mst_form hr
  have Rx0 := Lib.hid rx0
  clear hr rx0
  have hsz : ∀ (w : World) o, (w.alloc o).heap.size = w.heap.size + 1 := fun w o => by simp
  have A1 := Lib.hid (((Bx.new 122 #[.slice ax0 x0.length px0, .int .i64 x1, .int .i64 x2, .int .i64 x3, .bool x4, .bool x5] w).alloc (Obj.cells #[.slice none 0 0, .int .i64 0, .int .i64 0, .int .i64 0, .bool false, .bool false] 70)).alloc (Obj.cells #[.slice none 0 0, .int .i64 0, .int .i64 0, .int .i64 0, .bool false, .bool false] 70))
  have A2 := (Bx.new 70 #[.slice none 0 0, .int .i64 0, .int .i64 0, .int .i64 0, .bool false, .bool false] (w.alloc (Obj.cells #[.slice ax0 x0.length px0, .int .i64 x1, .int .i64 x2, .int .i64 x3, .bool x4, .bool x5] 122))).alloc (Obj.cells #[.slice none 0 0, .int .i64 0, .int .i64 0, .int .i64 0, .bool false, .bool false] 70)
  have A3 := Bx.new 70 #[.slice none 0 0, .int .i64 0, .int .i64 0, .int .i64 0, .bool false, .bool false] ((w.alloc (Obj.cells #[.slice ax0 x0.length px0, .int .i64 x1, .int .i64 x2, .int .i64 x3, .bool x4, .bool x5] 122)).alloc (Obj.cells #[.slice none 0 0, .int .i64 0, .int .i64 0, .int .i64 0, .bool false, .bool false] 70))
  rw [hsz] at A2
  rw [hsz, hsz] at A3
  have HA2 := Lib.hid A2
  have HA3 := Lib.hid A3
  have HB0 := Lib.hid ((((Below.refl w.heap.size w).alloc (Nat.le_refl _) (Obj.cells #[.slice ax0 x0.length px0, .int .i64 x1, .int .i64 x2, .int .i64 x3, .bool x4, .bool x5] 122)).alloc (by simp) (Obj.cells #[.slice none 0 0, .int .i64 0, .int .i64 0, .int .i64 0, .bool false, .bool false] 70)).alloc (by simp; omega) (Obj.cells #[.slice none 0 0, .int .i64 0, .int .i64 0, .int .i64 0, .bool false, .bool false] 70))
  have hn3 := size_alloc3 w (Obj.cells #[.slice ax0 x0.length px0, .int .i64 x1, .int .i64 x2, .int .i64 x3, .bool x4, .bool x5] 122) (Obj.cells #[.slice none 0 0, .int .i64 0, .int .i64 0, .int .i64 0, .bool false, .bool false] 70) (Obj.cells #[.slice none 0 0, .int .i64 0, .int .i64 0, .int .i64 0, .bool false, .bool false] 70)
  have Hz0 : Hid (w.heap.size + 1 + 1 + 1 ≤ (((w.alloc (Obj.cells #[.slice ax0 x0.length px0, .int .i64 x1, .int .i64 x2, .int .i64 x3, .bool x4, .bool x5] 122)).alloc (Obj.cells #[.slice none 0 0, .int .i64 0, .int .i64 0, .int .i64 0, .bool false, .bool false] 70)).alloc (Obj.cells #[.slice none 0 0, .int .i64 0, .int .i64 0, .int .i64 0, .bool false, .bool false] 70)).heap.size) := Lib.hid (by rw [hn3]; exact Nat.le_refl _)
  clear A2 A3 hsz hn3
  show Calls _ _ #[.agg #[.slice ax0 x0.length px0, .int .i64 x1, .int .i64 x2, .int .i64 x3, .bool x4, .bool x5]] w _
  go_enter Try.func97, Try.ntmps97
  go_wp2_with fail
  have X1_0 := A1
  have X2_0 := HA2
  have X3_0 := HA3
  clear A1 HA2 HA3
  generalize ((w.alloc (Obj.cells #[.slice ax0 x0.length px0, .int .i64 x1, .int .i64 x2, .int .i64 x3, .bool x4, .bool x5] 122)).alloc (Obj.cells #[.slice none 0 0, .int .i64 0, .int .i64 0, .int .i64 0, .bool false, .bool false] 70)).alloc (Obj.cells #[.slice none 0 0, .int .i64 0, .int .i64 0, .int .i64 0, .bool false, .bool false] 70) = y0 at X1_0 X2_0 X3_0 HB0 Hz0 ⊢
  have HB_0 := HB0
  clear HB0
  refine (toReqS [.slice ax0 x0.length px0] x0 _ (by omega) (reqS.rd_later Rx0.out HB_0.out)).mono ?_
  rintro e v1 ⟨us, he, hc, hb⟩
  obtain ⟨bx0, qx0, rfl, _⟩ := reqS.cap_rd hc
  obtain rfl : e = .returned (.slice bx0 x0.length qx0) := he
  have Vx0 := Lib.hid (reqS.cap_wide (reqS.cap_top hc) (G := fun k => y0.heap.size ≤ k ∧ k < v1.heap.size) (fun k _ hk => hk))
  have W1 := Lib.hid (X1_0.out.later hb)
  have W2 := Lib.hid (X2_0.out.later hb)
  have W3 := Lib.hid (X3_0.out.later hb)
  have WB := Lib.hid (HB_0.out.trans (hb.mono HB_0.out.size))
  have Wz := Lib.hid (Nat.le_trans Hz0.out hb.size)
  have Ws := Lib.hid hb.size
  have Wy0 := Lib.hid Hz0.out
  clear hc hb
  have g0 := W3.out.cell 0 _ rfl
  have g1 := W3.out.cell 1 _ rfl
  have g2 := W3.out.cell 2 _ rfl
  have g3 := W3.out.cell 3 _ rfl
  have g4 := W3.out.cell 4 _ rfl
  have g5 := W3.out.cell 5 _ rfl
  have a0 := W1.out.cell 0 _ rfl
  have a1 := W1.out.cell 1 _ rfl
  have a2 := W1.out.cell 2 _ rfl
  have a3 := W1.out.cell 3 _ rfl
  have a4 := W1.out.cell 4 _ rfl
  have a5 := W1.out.cell 5 _ rfl
  have z0 := W3.out.warm 0
  have z1 := W3.out.warm 1
  have z2 := W3.out.warm 2
  have z3 := W3.out.warm 3
  have z4 := W3.out.warm 4
  have z5 := W3.out.warm 5
  have e0 := W2.out.cell 0 _ rfl
  have e1 := W2.out.cell 1 _ rfl
  have e2 := W2.out.cell 2 _ rfl
  have e3 := W2.out.cell 3 _ rfl
  have e4 := W2.out.cell 4 _ rfl
  have e5 := W2.out.cell 5 _ rfl
  have f0 := W2.out.warm 0
  have f1 := W2.out.warm 1
  have f2 := W2.out.warm 2
  have f3 := W2.out.warm 3
  have f4 := W2.out.warm 4
  have f5 := W2.out.warm 5
  go_wp2_with fail
  have Tx0 : Hid (∀ w2, Turn (fun k => k = w.heap.size + 1 + 1 ∨ k = w.heap.size + 1) v1 w2 → reqS.cap (fun k => y0.heap.size ≤ k ∧ k < v1.heap.size) [.slice bx0 x0.length qx0] x0 w2) := Lib.hid (fun w2 ht => reqS.cap_turn Vx0.out ht (fun k _ hk he => by have h1 := Wy0.out; have h2 : y0.heap.size ≤ k := hk.1; omega))
  refine bodyPost_ret (v := .agg #[.slice bx0 x0.length qx0, .int .i64 x1, .int .i64 x2, .int .i64 x3, .bool x4, .bool x5]) (by simp [results, Try.results97, go_sem, e0, e1, e2, e3, e4, e5]) rfl ⟨[.slice bx0 x0.length qx0, .int .i64 x1, .int .i64 x2, .int .i64 x3, .bool x4, .bool x5], rfl, ?_, ?_⟩
  · have ht : ∀ {w2 : World}, Turn (fun k => k = w.heap.size + 1 + 1 ∨ k = w.heap.size + 1) v1 w2 → mstK.cap (fun k => w.heap.size ≤ k) [.slice bx0 x0.length qx0, .int .i64 x1, .int .i64 x2, .int .i64 x3, .bool x4, .bool x5] (x0, x1, x2, x3, x4, x5) w2 := fun {w2} ht => by
      have tx0 := Tx0.out w2 ht
      exact mst_cap tx0 (fun k hk => by have h1 := Wy0.out; have h2 : y0.heap.size ≤ k := (hk).1; omega) 
    refine ht ?_
    iterate 12 refine Turn.set ?_ (by simp) _
    exact Turn.refl _ _
  · iterate 12 refine Below.setCell ?_ (by dsimp only; omega) _
    exact WB.out
set_option maxRecDepth 100000 in
theorem eqMst : EqC mstK agg 83 := by
  intro cs ds x w hs hr hr2
  obtain ⟨x0, x1, x2, x3, x4, x5⟩ := x
  rw [mst_sz] at hs
  obtain ⟨ax0, px0, rfl, rx0⟩ := mst_form hr
  have Rx0 := Lib.hid rx0
  clear hr rx0
  obtain ⟨bx0, qx0, rfl, sx0⟩ := mst_form hr2
  have Sx0 := Lib.hid sx0
  clear hr2 sx0
  have hsz : ∀ (w : World) o, (w.alloc o).heap.size = w.heap.size + 1 := fun w o => by simp
  have A0 := Lib.hid ((Bx.new 70 #[.slice ax0 x0.length px0, .int .i64 x1, .int .i64 x2, .int .i64 x3, .bool x4, .bool x5] w).alloc (Obj.cells #[.slice bx0 x0.length qx0, .int .i64 x1, .int .i64 x2, .int .i64 x3, .bool x4, .bool x5] 70))
  have B0 := Bx.new 70 #[.slice bx0 x0.length qx0, .int .i64 x1, .int .i64 x2, .int .i64 x3, .bool x4, .bool x5] (w.alloc (Obj.cells #[.slice ax0 x0.length px0, .int .i64 x1, .int .i64 x2, .int .i64 x3, .bool x4, .bool x5] 70))
  rw [hsz] at B0
  have X0 := Lib.hid B0
  clear B0 hsz
  have HB0 := Lib.hid (((Below.refl w.heap.size w).alloc (Nat.le_refl _) (Obj.cells #[.slice ax0 x0.length px0, .int .i64 x1, .int .i64 x2, .int .i64 x3, .bool x4, .bool x5] 70)).alloc (by simp) (Obj.cells #[.slice bx0 x0.length qx0, .int .i64 x1, .int .i64 x2, .int .i64 x3, .bool x4, .bool x5] 70))
  have nx1 : (x1 != x1) = false := by simp
  have nx2 : (x2 != x2) = false := by simp
  have nx3 : (x3 != x3) = false := by simp
  have nx4 : (x4 != x4) = false := by simp
  have nx5 : (x5 != x5) = false := by simp
  show Calls _ _ #[.agg #[.slice ax0 x0.length px0, .int .i64 x1, .int .i64 x2, .int .i64 x3, .bool x4, .bool x5], .agg #[.slice bx0 x0.length qx0, .int .i64 x1, .int .i64 x2, .int .i64 x3, .bool x4, .bool x5]] w _
  go_enter Try.func83, Try.ntmps83
  go_wp2_with fail
  generalize (w.alloc (Obj.cells #[.slice ax0 x0.length px0, .int .i64 x1, .int .i64 x2, .int .i64 x3, .bool x4, .bool x5] 70)).alloc (Obj.cells #[.slice bx0 x0.length qx0, .int .i64 x1, .int .i64 x2, .int .i64 x3, .bool x4, .bool x5] 70) = y0 at A0 X0 HB0 ⊢
  refine (eqReqS [.slice ax0 x0.length px0] [.slice bx0 x0.length qx0] x0 _ (by omega) (reqS.rd_later Rx0.out HB0.out) (reqS.rd_later Sx0.out HB0.out)).mono ?_
  rintro e y1 ⟨rfl, hb⟩
  have A1 := Lib.hid (A0.out.later hb)
  have X1 := Lib.hid (X0.out.later hb)
  have HB1 := Lib.hid (HB0.out.trans (hb.mono HB0.out.size))
  clear hb
  have g0 := A1.out.cell 0 _ rfl
  have g1 := A1.out.cell 1 _ rfl
  have g2 := A1.out.cell 2 _ rfl
  have g3 := A1.out.cell 3 _ rfl
  have g4 := A1.out.cell 4 _ rfl
  have g5 := A1.out.cell 5 _ rfl
  have k0 := X1.out.cell 0 _ rfl
  have k1 := X1.out.cell 1 _ rfl
  have k2 := X1.out.cell 2 _ rfl
  have k3 := X1.out.cell 3 _ rfl
  have k4 := X1.out.cell 4 _ rfl
  have k5 := X1.out.cell 5 _ rfl
  go_wp2
  go_ret
  exact ⟨rfl, HB1.out⟩
end Go.Proofs.Ytdhaelaoackfkaa.KD
