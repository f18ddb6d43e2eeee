/-
  Several texts in one: KReq, KReqS, KMst, KMstS.
-/
import Derived.Test.YtdhaelaoackfkaaGreatKdI
import Derived.Test.YtdhaelaoackfkaaGreatGRow
import Derived.Outline
import Derived.Test.YtdhaelaoackfkaaGreatKRow
import Derived.Lib.QuietBelow
namespace Go.Proofs.YtdhaelaoackfkaaGreat.KD
open Go.RowKit Rows3 GR
set_option linter.unusedVariables false

def reqK : Kn (Bool × Int × Int × Int × Bool × List Int) := prod bool (prod int (prod int (prod int (prod bool ints))))
theorem req_form {cs : List Value} {x0 : Bool} {x1 : Int} {x2 : Int} {x3 : Int} {x4 : Bool} {x5 : List Int} {w : World} (h : reqK.rd cs (x0, x1, x2, x3, x4, x5) w) :
    ∃ ax5 px5, cs = [.bool x0, .int .i64 x1, .int .i64 x2, .int .i64 x3, .bool x4, .slice ax5 x5.length px5] ∧ ints.rd [.slice ax5 x5.length px5] x5 w := by
  obtain ⟨c0, r0, rfl, h0, c1, r1, rfl, h1, c2, r2, rfl, h2, c3, r3, rfl, h3, c4, r4, rfl, h4, h5⟩ := h
  obtain rfl := h0
  obtain rfl := h1
  obtain rfl := h2
  obtain rfl := h3
  obtain rfl := h4
  have t5 := h5
  obtain ⟨ax5, px5, rfl, _⟩ := t5
  exact ⟨_, _, rfl, h5⟩
theorem req_rd {ux5 : Value} {x0 : Bool} {x1 : Int} {x2 : Int} {x3 : Int} {x4 : Bool} {x5 : List Int} {w : World} (hx5 : ints.rd [ux5] x5 w) : reqK.rd [.bool x0, .int .i64 x1, .int .i64 x2, .int .i64 x3, .bool x4, ux5] (x0, x1, x2, x3, x4, x5) w :=
  ⟨[.bool x0], _, rfl, rfl, ⟨[.int .i64 x1], _, rfl, rfl, ⟨[.int .i64 x2], _, rfl, rfl, ⟨[.int .i64 x3], _, rfl, rfl, ⟨[.bool x4], _, rfl, rfl, hx5⟩⟩⟩⟩⟩
theorem cap_req {F : Foot} {cs : List Value} {x0 : Bool} {x1 : Int} {x2 : Int} {x3 : Int} {x4 : Bool} {x5 : List Int} {w : World} (h : reqK.cap F cs (x0, x1, x2, x3, x4, x5) w) :
    ∃ ax5 px5 Fx5, cs = [.bool x0, .int .i64 x1, .int .i64 x2, .int .i64 x3, .bool x4, .slice ax5 x5.length px5] ∧ ints.cap Fx5 [.slice ax5 x5.length px5] x5 w ∧ (∀ k, Fx5 k → F k) := by
  obtain ⟨c0, r0, G0, D0, rfl, d0, e0, h0, c1, r1, G1, D1, rfl, d1, e1, h1, c2, r2, G2, D2, rfl, d2, e2, h2, c3, r3, G3, D3, rfl, d3, e3, h3, c4, r4, G4, D4, rfl, d4, e4, h4, h5⟩ := h
  obtain rfl := h0
  obtain rfl := h1
  obtain rfl := h2
  obtain rfl := h3
  obtain rfl := h4
  have t5 := h5
  obtain ⟨ax5, px5, rfl, _⟩ := t5
  exact ⟨_, _, D4, rfl, h5, fun k hk => (e0 k (e1 k (e2 k (e3 k (e4 k hk)))))⟩
theorem req_cap {F Fx5 : Foot} {ux5 : Value} {x0 : Bool} {x1 : Int} {x2 : Int} {x3 : Int} {x4 : Bool} {x5 : List Int} {w : World} (hx5 : ints.cap Fx5 [ux5] x5 w)
    (sx5 : ∀ k, Fx5 k → F k)  : reqK.cap F [.bool x0, .int .i64 x1, .int .i64 x2, .int .i64 x3, .bool x4, ux5] (x0, x1, x2, x3, x4, x5) w :=
  ⟨[.bool x0], _, (fun k => False), (fun k => Fx5 k), rfl, fun k hk => ⟨hk.elim, fun hk2 => hk.elim⟩, fun k hk => sx5 k hk, rfl, ⟨[.int .i64 x1], _, (fun k => False), (fun k => Fx5 k), rfl, fun k hk => ⟨hk.elim, fun hk2 => hk.elim⟩, fun k hk => hk, rfl, ⟨[.int .i64 x2], _, (fun k => False), (fun k => Fx5 k), rfl, fun k hk => ⟨hk.elim, fun hk2 => hk.elim⟩, fun k hk => hk, rfl, ⟨[.int .i64 x3], _, (fun k => False), (fun k => Fx5 k), rfl, fun k hk => ⟨hk.elim, fun hk2 => hk.elim⟩, fun k hk => hk, rfl, ⟨[.bool x4], _, (fun k => False), (fun k => Fx5 k), rfl, fun k hk => ⟨hk.elim, fun hk2 => hk.elim⟩, fun k hk => hk, rfl, hx5⟩⟩⟩⟩⟩
theorem req_mI (x0 : Bool) (x1 : Int) (x2 : Int) (x3 : Int) (x4 : Bool) (x5 : List Int) (k : Int) : reqK.mI (x0, x1, x2, x3, x4, x5) k = (((k) % 3 == 0), k + 1, k + 1 + 1, k + 1 + 1 + 1, ((k + 1 + 1 + 1 + 1) % 3 == 0), ints.mT x5 (k + 1 + 1 + 1 + 1 + 1)) := rfl
theorem req_cI (x0 : Bool) (x1 : Int) (x2 : Int) (x3 : Int) (x4 : Bool) (x5 : List Int) : reqK.cI (x0, x1, x2, x3, x4, x5) = 5 + ints.cT x5 := by
  show (1 + (1 + (1 + (1 + (1 + ints.cT x5))))) = _
  omega
theorem req_sz (x0 : Bool) (x1 : Int) (x2 : Int) (x3 : Int) (x4 : Bool) (x5 : List Int) : reqK.sz (x0, x1, x2, x3, x4, x5) = ints.sz x5 := by
  show 0 + (0 + (0 + (0 + (0 + ints.sz x5)))) = _
  omega
theorem req_cT (x0 : Bool) (x1 : Int) (x2 : Int) (x3 : Int) (x4 : Bool) (x5 : List Int) : reqK.cT (x0, x1, x2, x3, x4, x5) = ints.cT x5 := by
  show 0 + (0 + (0 + (0 + (0 + ints.cT x5)))) = _
  omega
theorem req_mT (x0 : Bool) (x1 : Int) (x2 : Int) (x3 : Int) (x4 : Bool) (x5 : List Int) (k : Int) : reqK.mT (x0, x1, x2, x3, x4, x5) k = (x0, x1, x2, x3, x4, ints.mT x5 (k)) := by
  show (x0, x1, x2, x3, x4, ints.mT x5 (k + ((0 : Nat) : Int) + ((0 : Nat) : Int) + ((0 : Nat) : Int) + ((0 : Nat) : Int) + ((0 : Nat) : Int))) = _
  simp
set_option maxRecDepth 100000 in
theorem szReq : SzC reqK agg 106 := by
  intro cs x L w hr h0 h1
  obtain ⟨x0, x1, x2, x3, x4, x5⟩ := x
  rw [req_sz]
  obtain ⟨ax5, px5, rfl, rx5⟩ := req_form hr
  have Rx5 := Lib.hid rx5
  clear hr rx5
  obtain ⟨n5, hn5⟩ : ∃ n, ints.sz x5 = n := ⟨_, rfl⟩
  rw [hn5]
  have B0 := Lib.hid (Bx.new 143 #[.bool x0, .int .i64 x1, .int .i64 x2, .int .i64 x3, .bool x4, .slice ax5 x5.length px5] w)
  have HB0 := Lib.hid ((Below.refl w.heap.size w).alloc (Nat.le_refl _) (Obj.cells #[.bool x0, .int .i64 x1, .int .i64 x2, .int .i64 x3, .bool x4, .slice ax5 x5.length px5] 143))
  show Calls _ _ #[.agg #[.bool x0, .int .i64 x1, .int .i64 x2, .int .i64 x3, .bool x4, .slice ax5 x5.length px5], .int .i64 L] w _
  obtain ⟨M0, hM0⟩ : ∃ M, szW L n5 = M := ⟨_, rfl⟩
  have hb0 := szW_bd L n5 (by omega)
  rw [hM0] at hb0
  have ht0 := hM0
  have HM0 : Hid (szW L (ints.sz x5) = M0) := Lib.hid (by rw [hn5]; exact hM0)
  have He := Lib.hid ht0
  clear hM0 ht0 hn5
  by_cases c0 : M0 < 0
  · obtain rfl : M0 = -1 := by omega
    go_enter Tryz.func106, Tryz.ntmps106
    go_wp2_with fail
    generalize w.alloc (Obj.cells #[.bool x0, .int .i64 x1, .int .i64 x2, .int .i64 x3, .bool x4, .slice ax5 x5.length px5] 143) = y0 at B0 HB0 ⊢
    refine (szIntS [.slice ax5 x5.length px5] x5 L _ (ints.rd_later Rx5.out HB0.out) (by omega) (by omega)).mono ?_
    rintro e y1 ⟨rfl, hb⟩
    rw [HM0.out]
    have B1 := Lib.hid (B0.out.later hb)
    have HB1 := Lib.hid (HB0.out.trans (hb.mono HB0.out.size))
    have g0 := B1.out.cell 0 _ rfl
    have g1 := B1.out.cell 1 _ rfl
    have g2 := B1.out.cell 2 _ rfl
    have g3 := B1.out.cell 3 _ rfl
    have g4 := B1.out.cell 4 _ rfl
    have g5 := B1.out.cell 5 _ rfl
    clear hb
    go_wp2
    go_ret
    exact ⟨by rw [He.out]; rfl, HB1.out⟩
  · skip
    go_enter Tryz.func106, Tryz.ntmps106
    go_wp2_with fail
    generalize w.alloc (Obj.cells #[.bool x0, .int .i64 x1, .int .i64 x2, .int .i64 x3, .bool x4, .slice ax5 x5.length px5] 143) = y0 at B0 HB0 ⊢
    refine (szIntS [.slice ax5 x5.length px5] x5 L _ (ints.rd_later Rx5.out HB0.out) (by omega) (by omega)).mono ?_
    rintro e y1 ⟨rfl, hb⟩
    rw [HM0.out]
    have B1 := Lib.hid (B0.out.later hb)
    have HB1 := Lib.hid (HB0.out.trans (hb.mono HB0.out.size))
    have g0 := B1.out.cell 0 _ rfl
    have g1 := B1.out.cell 1 _ rfl
    have g2 := B1.out.cell 2 _ rfl
    have g3 := B1.out.cell 3 _ rfl
    have g4 := B1.out.cell 4 _ rfl
    have g5 := B1.out.cell 5 _ rfl
    clear hb
    go_wp2
    go_ret
    exact ⟨by rw [He.out]; rfl, HB1.out⟩
set_option maxRecDepth 100000 in
theorem toReq : ToC reqK agg 109 := by
  intro cs x w hs hr
  obtain ⟨x0, x1, x2, x3, x4, x5⟩ := x
  rw [req_sz] at hs
  obtain ⟨ax5, px5, rfl, rx5⟩ := req_form hr
  have Rx5 := Lib.hid rx5
  clear hr rx5
  have hsz : ∀ (w : World) o, (w.alloc o).heap.size = w.heap.size + 1 := fun w o => by simp
  have A1 := Lib.hid (((Bx.new 143 #[.bool x0, .int .i64 x1, .int .i64 x2, .int .i64 x3, .bool x4, .slice ax5 x5.length px5] w).alloc (Obj.cells #[.bool false, .int .i64 0, .int .i64 0, .int .i64 0, .bool false, .slice none 0 0] 107)).alloc (Obj.cells #[.bool x0, .int .i64 x1, .int .i64 x2, .int .i64 x3, .bool x4, .slice none 0 0] 107))
  have A2 := (Bx.new 107 #[.bool false, .int .i64 0, .int .i64 0, .int .i64 0, .bool false, .slice none 0 0] (w.alloc (Obj.cells #[.bool x0, .int .i64 x1, .int .i64 x2, .int .i64 x3, .bool x4, .slice ax5 x5.length px5] 143))).alloc (Obj.cells #[.bool x0, .int .i64 x1, .int .i64 x2, .int .i64 x3, .bool x4, .slice none 0 0] 107)
  have A3 := Bx.new 107 #[.bool x0, .int .i64 x1, .int .i64 x2, .int .i64 x3, .bool x4, .slice none 0 0] ((w.alloc (Obj.cells #[.bool x0, .int .i64 x1, .int .i64 x2, .int .i64 x3, .bool x4, .slice ax5 x5.length px5] 143)).alloc (Obj.cells #[.bool false, .int .i64 0, .int .i64 0, .int .i64 0, .bool false, .slice none 0 0] 107))
  rw [hsz] at A2
  rw [hsz, hsz] at A3
  have HA2 := Lib.hid A2
  have HA3 := Lib.hid A3
  have HB0 := Lib.hid ((((Below.refl w.heap.size w).alloc (Nat.le_refl _) (Obj.cells #[.bool x0, .int .i64 x1, .int .i64 x2, .int .i64 x3, .bool x4, .slice ax5 x5.length px5] 143)).alloc (by simp) (Obj.cells #[.bool false, .int .i64 0, .int .i64 0, .int .i64 0, .bool false, .slice none 0 0] 107)).alloc (by simp; omega) (Obj.cells #[.bool x0, .int .i64 x1, .int .i64 x2, .int .i64 x3, .bool x4, .slice none 0 0] 107))
  have hn3 := size_alloc3 w (Obj.cells #[.bool x0, .int .i64 x1, .int .i64 x2, .int .i64 x3, .bool x4, .slice ax5 x5.length px5] 143) (Obj.cells #[.bool false, .int .i64 0, .int .i64 0, .int .i64 0, .bool false, .slice none 0 0] 107) (Obj.cells #[.bool x0, .int .i64 x1, .int .i64 x2, .int .i64 x3, .bool x4, .slice none 0 0] 107)
  have Hz0 : Hid (w.heap.size + 1 + 1 + 1 ≤ (((w.alloc (Obj.cells #[.bool x0, .int .i64 x1, .int .i64 x2, .int .i64 x3, .bool x4, .slice ax5 x5.length px5] 143)).alloc (Obj.cells #[.bool false, .int .i64 0, .int .i64 0, .int .i64 0, .bool false, .slice none 0 0] 107)).alloc (Obj.cells #[.bool x0, .int .i64 x1, .int .i64 x2, .int .i64 x3, .bool x4, .slice none 0 0] 107)).heap.size) := Lib.hid (by rw [hn3]; exact Nat.le_refl _)
  clear A2 A3 hsz hn3
  show Calls _ _ #[.agg #[.bool x0, .int .i64 x1, .int .i64 x2, .int .i64 x3, .bool x4, .slice ax5 x5.length px5]] w _
  go_enter Tryz.func109, Tryz.ntmps109
  go_wp2_with fail
  have X1_0 := A1
  have X2_0 := HA2
  have X3_0 := HA3
  clear A1 HA2 HA3
  generalize ((w.alloc (Obj.cells #[.bool x0, .int .i64 x1, .int .i64 x2, .int .i64 x3, .bool x4, .slice ax5 x5.length px5] 143)).alloc (Obj.cells #[.bool false, .int .i64 0, .int .i64 0, .int .i64 0, .bool false, .slice none 0 0] 107)).alloc (Obj.cells #[.bool x0, .int .i64 x1, .int .i64 x2, .int .i64 x3, .bool x4, .slice none 0 0] 107) = y0 at X1_0 X2_0 X3_0 HB0 Hz0 ⊢
  have HB_0 := HB0
  clear HB0
  refine (toIntS [.slice ax5 x5.length px5] x5 _ (by omega) (ints.rd_later Rx5.out HB_0.out)).mono ?_
  rintro e v1 ⟨us, he, hc, hb⟩
  obtain ⟨bx5, qx5, rfl, _⟩ := ints.cap_rd hc
  obtain rfl : e = .returned (.slice bx5 x5.length qx5) := he
  have Vx5 := Lib.hid (ints.cap_wide (ints.cap_top hc) (G := fun k => y0.heap.size ≤ k ∧ k < v1.heap.size) (fun k _ hk => hk))
  have W1 := Lib.hid (X1_0.out.later hb)
  have W2 := Lib.hid (X2_0.out.later hb)
  have W3 := Lib.hid (X3_0.out.later hb)
  have WB := Lib.hid (HB_0.out.trans (hb.mono HB_0.out.size))
  have Wz := Lib.hid (Nat.le_trans Hz0.out hb.size)
  have Ws := Lib.hid hb.size
  have Wy0 := Lib.hid Hz0.out
  clear hc hb
  have g0 := W3.out.cell 0 _ rfl
  have g1 := W3.out.cell 1 _ rfl
  have g2 := W3.out.cell 2 _ rfl
  have g3 := W3.out.cell 3 _ rfl
  have g4 := W3.out.cell 4 _ rfl
  have g5 := W3.out.cell 5 _ rfl
  have a0 := W1.out.cell 0 _ rfl
  have a1 := W1.out.cell 1 _ rfl
  have a2 := W1.out.cell 2 _ rfl
  have a3 := W1.out.cell 3 _ rfl
  have a4 := W1.out.cell 4 _ rfl
  have a5 := W1.out.cell 5 _ rfl
  have z0 := W3.out.warm 0
  have z1 := W3.out.warm 1
  have z2 := W3.out.warm 2
  have z3 := W3.out.warm 3
  have z4 := W3.out.warm 4
  have z5 := W3.out.warm 5
  have e0 := W2.out.cell 0 _ rfl
  have e1 := W2.out.cell 1 _ rfl
  have e2 := W2.out.cell 2 _ rfl
  have e3 := W2.out.cell 3 _ rfl
  have e4 := W2.out.cell 4 _ rfl
  have e5 := W2.out.cell 5 _ rfl
  have f0 := W2.out.warm 0
  have f1 := W2.out.warm 1
  have f2 := W2.out.warm 2
  have f3 := W2.out.warm 3
  have f4 := W2.out.warm 4
  have f5 := W2.out.warm 5
  go_wp2_with fail
  have Tx5 : Hid (∀ w2, Turn (fun k => k = w.heap.size + 1 + 1 ∨ k = w.heap.size + 1) v1 w2 → ints.cap (fun k => y0.heap.size ≤ k ∧ k < v1.heap.size) [.slice bx5 x5.length qx5] x5 w2) := Lib.hid (fun w2 ht => ints.cap_turn Vx5.out ht (fun k _ hk he => by have h1 := Wy0.out; have h2 : y0.heap.size ≤ k := hk.1; omega))
  refine bodyPost_ret (v := .agg #[.bool x0, .int .i64 x1, .int .i64 x2, .int .i64 x3, .bool x4, .slice bx5 x5.length qx5]) (by simp [results, Tryz.results109, go_sem, e0, e1, e2, e3, e4, e5]) rfl ⟨[.bool x0, .int .i64 x1, .int .i64 x2, .int .i64 x3, .bool x4, .slice bx5 x5.length qx5], rfl, ?_, ?_⟩
  · have ht : ∀ {w2 : World}, Turn (fun k => k = w.heap.size + 1 + 1 ∨ k = w.heap.size + 1) v1 w2 → reqK.cap (fun k => w.heap.size ≤ k) [.bool x0, .int .i64 x1, .int .i64 x2, .int .i64 x3, .bool x4, .slice bx5 x5.length qx5] (x0, x1, x2, x3, x4, x5) w2 := fun {w2} ht => by
      have tx5 := Tx5.out w2 ht
      exact req_cap tx5 (fun k hk => by have h1 := Wy0.out; have h2 : y0.heap.size ≤ k := (hk).1; omega) 
    refine ht ?_
    iterate 7 refine Turn.set ?_ (by simp) _
    exact Turn.refl _ _
  · iterate 7 refine Below.setCell ?_ (by dsimp only; omega) _
    exact WB.out
set_option maxRecDepth 100000 in
theorem eqReq : EqC reqK agg 117 := by
  intro cs ds x w hs hr hr2
  obtain ⟨x0, x1, x2, x3, x4, x5⟩ := x
  rw [req_sz] at hs
  obtain ⟨ax5, px5, rfl, rx5⟩ := req_form hr
  have Rx5 := Lib.hid rx5
  clear hr rx5
  obtain ⟨bx5, qx5, rfl, sx5⟩ := req_form hr2
  have Sx5 := Lib.hid sx5
  clear hr2 sx5
  have hsz : ∀ (w : World) o, (w.alloc o).heap.size = w.heap.size + 1 := fun w o => by simp
  have A0 := Lib.hid ((Bx.new 107 #[.bool x0, .int .i64 x1, .int .i64 x2, .int .i64 x3, .bool x4, .slice ax5 x5.length px5] w).alloc (Obj.cells #[.bool x0, .int .i64 x1, .int .i64 x2, .int .i64 x3, .bool x4, .slice bx5 x5.length qx5] 107))
  have B0 := Bx.new 107 #[.bool x0, .int .i64 x1, .int .i64 x2, .int .i64 x3, .bool x4, .slice bx5 x5.length qx5] (w.alloc (Obj.cells #[.bool x0, .int .i64 x1, .int .i64 x2, .int .i64 x3, .bool x4, .slice ax5 x5.length px5] 107))
  rw [hsz] at B0
  have X0 := Lib.hid B0
  clear B0 hsz
  have HB0 := Lib.hid (((Below.refl w.heap.size w).alloc (Nat.le_refl _) (Obj.cells #[.bool x0, .int .i64 x1, .int .i64 x2, .int .i64 x3, .bool x4, .slice ax5 x5.length px5] 107)).alloc (by simp) (Obj.cells #[.bool x0, .int .i64 x1, .int .i64 x2, .int .i64 x3, .bool x4, .slice bx5 x5.length qx5] 107))
  have nx0 : (x0 != x0) = false := by simp
  have nx1 : (x1 != x1) = false := by simp
  have nx2 : (x2 != x2) = false := by simp
  have nx3 : (x3 != x3) = false := by simp
  have nx4 : (x4 != x4) = false := by simp
  show Calls _ _ #[.agg #[.bool x0, .int .i64 x1, .int .i64 x2, .int .i64 x3, .bool x4, .slice ax5 x5.length px5], .agg #[.bool x0, .int .i64 x1, .int .i64 x2, .int .i64 x3, .bool x4, .slice bx5 x5.length qx5]] w _
  go_enter Tryz.func117, Tryz.ntmps117
  go_wp2_with fail
  generalize (w.alloc (Obj.cells #[.bool x0, .int .i64 x1, .int .i64 x2, .int .i64 x3, .bool x4, .slice ax5 x5.length px5] 107)).alloc (Obj.cells #[.bool x0, .int .i64 x1, .int .i64 x2, .int .i64 x3, .bool x4, .slice bx5 x5.length qx5] 107) = y0 at A0 X0 HB0 ⊢
  refine (eqIntS [.slice ax5 x5.length px5] [.slice bx5 x5.length qx5] x5 _ (by omega) (ints.rd_later Rx5.out HB0.out) (ints.rd_later Sx5.out HB0.out)).mono ?_
  rintro e y1 ⟨rfl, hb⟩
  have A1 := Lib.hid (A0.out.later hb)
  have X1 := Lib.hid (X0.out.later hb)
  have HB1 := Lib.hid (HB0.out.trans (hb.mono HB0.out.size))
  clear hb
  have g0 := A1.out.cell 0 _ rfl
  have g1 := A1.out.cell 1 _ rfl
  have g2 := A1.out.cell 2 _ rfl
  have g3 := A1.out.cell 3 _ rfl
  have g4 := A1.out.cell 4 _ rfl
  have g5 := A1.out.cell 5 _ rfl
  have k0 := X1.out.cell 0 _ rfl
  have k1 := X1.out.cell 1 _ rfl
  have k2 := X1.out.cell 2 _ rfl
  have k3 := X1.out.cell 3 _ rfl
  have k4 := X1.out.cell 4 _ rfl
  have k5 := X1.out.cell 5 _ rfl
  go_wp2
  go_ret
  exact ⟨rfl, HB1.out⟩
end Go.Proofs.YtdhaelaoackfkaaGreat.KD

namespace Go.Proofs.YtdhaelaoackfkaaGreat.KD
open Go.RowKit Rows3 GR
set_option linter.unusedVariables false

def reqS : Kn (List (Bool × Int × Int × Int × Bool × List Int)) := row reqK (by decide)
set_option maxHeartbeats 4000000 in
set_option maxRecDepth 100000 in
theorem szReqS : SzC reqS one 87 := by
  intro cs l L w hr h0 h1
  obtain ⟨ad, cp, rfl, hl1, hl2⟩ := row_form hr
  have HR := Lib.hid hr
  rw [show reqS.sz l = szL reqK l from rfl]
  obtain ⟨n, hn⟩ : ∃ n, l.length = n := ⟨_, rfl⟩
  have HN := Lib.hid hn
  rw [hn] at hl1
  have hle : n ≤ 9223372036854775807 := by omega
  have hall := szT_all reqK l
  have hTle := szT_le reqK l
  rw [hn] at hall
  obtain ⟨S, hS⟩ : ∃ S, szL reqK l = S := ⟨_, rfl⟩
  rw [hS] at hall hTle ⊢
  have HAll := Lib.hid hall
  have HT := Lib.hid hTle
  rw [hn]
  clear hr hn hall hTle hS hl1 hl2
  show Calls _ _ #[.slice ad n cp, .int .i64 L] w _
  by_cases hL : (n : Int) ≤ L
  · have hneg : ¬ L - (n : Int) < 0 := by omega
    go_enter Tryz.func87, Tryz.ntmps87
    go_wp2
    go_loopw [1, 5] (fun q i wr => ∃ (j : Nat) (M : Int), j ≤ n ∧ i = .int .i64 j ∧ 0 ≤ M ∧ M ≤ 1048576 ∧ Hid (M = L - n - (szT reqK l j : Int)) ∧ q = .int .i64 M ∧ Below w.heap.size w wr) (fun _ i _ => n - (intOf i).toNat)
    case atStart => exact ⟨0, L - n, by omega, rfl, by omega, by omega, Lib.hid (by rw [szT_zero]; omega), rfl, Below.refl _ _⟩
    case round =>
      obtain ⟨j, M, hj, rfl, hM0, hM1, HM, rfl, hb⟩ := hrel
      by_cases hlt : j < n
      · obtain ⟨x, hx⟩ := get_of (l := l) (i := j) (by rw [HN.out]; exact hlt)
        have Hst := Lib.hid (szT_step reqK hx)
        have Hb0 := Lib.hid hb
        obtain ⟨x0, x1, x2, x3, x4, x5⟩ := x
        obtain ⟨b, o, _, es, e, _, _, lt, c, x⟩ := row_rd HR.out hx
        cases e
        have hrx := x
        obtain ⟨ax5, px5, rfl, _⟩ := req_form x
        have g0 : w.cell? ⟨b, o + j * 6, none⟩ = some (.bool x0) := c 0 _ rfl
        have g1 : w.cell? ⟨b, o + j * 6 + 1, none⟩ = some (.int .i64 x1) := c 1 _ rfl
        have g2 : w.cell? ⟨b, o + j * 6 + 2, none⟩ = some (.int .i64 x2) := c 2 _ rfl
        have g3 : w.cell? ⟨b, o + j * 6 + 3, none⟩ = some (.int .i64 x3) := c 3 _ rfl
        have g4 : w.cell? ⟨b, o + j * 6 + 4, none⟩ = some (.bool x4) := c 4 _ rfl
        have g5 : w.cell? ⟨b, o + j * 6 + 5, none⟩ = some (.slice ax5 x5.length px5) := c 5 _ rfl
        rw [← bel_cells hb lt] at g0 g1 g2 g3 g4 g5
        have Hx := Lib.hid (reqK.rd_later hrx hb)
        obtain ⟨z, hz⟩ : ∃ z, reqK.sz (x0, x1, x2, x3, x4, x5) = z := ⟨_, rfl⟩
        have HZ := Lib.hid hz
        obtain ⟨M2, hM2⟩ : ∃ M2, szW M z = M2 := ⟨_, rfl⟩
        have HM2 := Lib.hid hM2
        have hbd := szW_bd M z hM0
        rw [hM2] at hbd
        clear hx hrx c x hz hM2 hb
        by_cases hn2 : M2 < 0
        · obtain rfl : M2 = -1 := by omega
          go_wp2_with fail
          refine (szReq [.bool x0, .int .i64 x1, .int .i64 x2, .int .i64 x3, .bool x4, .slice ax5 x5.length px5] (x0, x1, x2, x3, x4, x5) M _ Hx.out (by omega) (by omega)).mono ?_
          rintro e w2 ⟨rfl, hb2⟩
          rw [HZ.out, HM2.out]
          clear g0 g1 g2 g3 g4 g5
          go_wp2_with fail
          go_ret
          refine ⟨?_, Hb0.out.trans (hb2.mono Hb0.out.size)⟩
          have h1 := HM2.out
          have h2 := HM.out
          have h3 := Hst.out
          have h4 := HT.out (j + 1)
          have h6 := HN.out
          rw [HZ.out] at h3
          rw [szW_no]
          · rfl
          · have h5 : M < (z : Int) := by
              rcases Int.lt_or_le M z with h | h
              · exact h
              · rw [szW_yes h] at h1; omega
            omega
        · skip
          go_wp2_with fail
          refine (szReq [.bool x0, .int .i64 x1, .int .i64 x2, .int .i64 x3, .bool x4, .slice ax5 x5.length px5] (x0, x1, x2, x3, x4, x5) M _ Hx.out (by omega) (by omega)).mono ?_
          rintro e w2 ⟨rfl, hb2⟩
          rw [HZ.out, HM2.out]
          clear g0 g1 g2 g3 g4 g5
          go_wp2_with fail
          go_roundw
          case rel =>
            refine ⟨j + 1, M2, by omega, by go_num, by omega, by omega, Lib.hid ?_, rfl, Hb0.out.trans (hb2.mono Hb0.out.size)⟩
            have h1 := HM2.out
            have h2 := HM.out
            have h3 := Hst.out
            rw [HZ.out] at h3
            have h5 : (z : Int) ≤ M := by
              rcases Int.lt_or_le M z with h | h
              · rw [szW_no h] at h1; omega
              · exact h
            rw [szW_yes h5] at h1
            omega
          case measure => simp [intOf]; omega
      · obtain rfl : j = n := by omega
        have He : Hid (szW L S = M) := Lib.hid (by have h1 := HM.out; have h2 := HAll.out; rw [szW_yes (by omega)]; omega)
        go_wp2
        go_ret
        exact ⟨by rw [He.out]; rfl, hb⟩
  · have hneg : L - (n : Int) < 0 := by omega
    have He := Lib.hid (szW_no (show L < (S : Int) by have h1 := HAll.out; omega))
    go_enter Tryz.func87, Tryz.ntmps87
    go_wp2
    go_ret
    exact ⟨by rw [He.out]; rfl, Below.refl _ _⟩
theorem info_iReq : (Tryz.prog.info? 107).map (fun i => (i.zero, i.size, decide (i.bytes ≤ 1000))) = some (some (.agg #[.bool false, .int .i64 0, .int .i64 0, .int .i64 0, .bool false, .slice none 0 0]), 6, true) := by kernel_rfl
set_option maxHeartbeats 4000000 in
set_option maxRecDepth 100000 in
theorem toReqS : ToC reqS one 94 := by
  intro cs l w hs hr
  obtain ⟨ad, cp, rfl, hl1, hl2⟩ := row_form hr
  have HR := Lib.hid hr
  have hln : l.length ≤ 2000000 := Nat.le_trans (szL_len reqK l) hs
  have HSZ := Lib.hid (show szL reqK l ≤ 2000000 from hs)
  obtain ⟨n, hn⟩ : ∃ n, l.length = n := ⟨_, rfl⟩
  have HN := Lib.hid hn
  rw [hn] at hln ⊢
  obtain ⟨i0, hi, hz0, hz1, hz2⟩ := info_parts' info_iReq
  have hmk := fun W => make_runK (P := Tryz.prog) 68 107 i0 _ Tryz.underlying68 hi hz0 6 hz1 hz2 n hln W
  have Ho0 : Hid (reqS.cap (fun k => w.heap.size ≤ k) [.slice (some ⟨w.heap.size, 0, none⟩) n n] (midT l (false, 0, 0, 0, false, []) 0) (w.alloc (.cells (madeCells #[.bool false, .int .i64 0, .int .i64 0, .int .i64 0, .bool false, .slice none 0 0] (n * 6)) 107))) := Lib.hid (by rw [midT_zero, hn]; exact row_made w n #[.bool false, .int .i64 0, .int .i64 0, .int .i64 0, .bool false, .slice none 0 0] (false, 0, 0, 0, false, []) 107 rfl (fun w => req_cap (row_nil (fun _ => False) w) (fun _ h => h) ) hln)
  clear hr hn hl1 hl2 hi hz0 hz1 hz2 hs
  show Calls _ _ #[.slice ad n cp] w _
  go_enter Tryz.func94, Tryz.ntmps94
  go_wp2
  clear hmk
  go_loopw [4] (fun i wr => ∃ j : Nat, j ≤ n ∧ i = .int .i64 j ∧ reqS.cap (fun k => w.heap.size ≤ k) [.slice (some ⟨w.heap.size, 0, none⟩) n n] (midT l (false, 0, 0, 0, false, []) j) wr ∧ Below w.heap.size w wr) (fun i _ => n - (intOf i).toNat)
  case atStart => exact ⟨0, by omega, rfl, Ho0.out, (Below.refl _ _).alloc (Nat.le_refl _) _⟩
  case round =>
    obtain ⟨j, hj, rfl, hown, hb⟩ := hrel
    have Ho := Lib.hid hown
    clear hown
    by_cases hlt : j < n
    · obtain ⟨x, hx⟩ := get_of (l := l) (i := j) (by rw [HN.out]; exact hlt)
      have hsx : reqK.sz x ≤ 2000000 := Nat.le_trans (szL_mem reqK (List.mem_of_getElem? hx)) HSZ.out
      have Hst := Lib.hid (midT_step (false, 0, 0, 0, false, []) hx)
      have Hb0 := Lib.hid hb
      obtain ⟨x0, x1, x2, x3, x4, x5⟩ := x
      obtain ⟨b, o, _, es, e, _, _, lt, c, x⟩ := row_rd HR.out hx
      cases e
      have hrx := x
      obtain ⟨ax5, px5, rfl, _⟩ := req_form x
      have g0 : w.cell? ⟨b, o + j * 6, none⟩ = some (.bool x0) := c 0 _ rfl
      have g1 : w.cell? ⟨b, o + j * 6 + 1, none⟩ = some (.int .i64 x1) := c 1 _ rfl
      have g2 : w.cell? ⟨b, o + j * 6 + 2, none⟩ = some (.int .i64 x2) := c 2 _ rfl
      have g3 : w.cell? ⟨b, o + j * 6 + 3, none⟩ = some (.int .i64 x3) := c 3 _ rfl
      have g4 : w.cell? ⟨b, o + j * 6 + 4, none⟩ = some (.bool x4) := c 4 _ rfl
      have g5 : w.cell? ⟨b, o + j * 6 + 5, none⟩ = some (.slice ax5 x5.length px5) := c 5 _ rfl
      rw [← bel_cells hb lt] at g0 g1 g2 g3 g4 g5
      have Hx := Lib.hid (reqK.rd_later hrx hb)
      clear hx hrx c x hb
      obtain ⟨g, og, cg, es, E, eg, _, _, hgF, hgl, hes, hseg, _, hE, cont⟩ := row_at Ho.out (midT_at (false, 0, 0, 0, false, []) (by rw [HN.out]; exact hlt))
      rw [midT_len _ (by rw [HN.out]; omega), HN.out] at eg
      simp at eg
      obtain ⟨⟨rfl, rfl⟩, rfl⟩ := eg
      have hoff : 0 + j * reqK.n = j * 6 := by rw [Nat.zero_add]; rfl
      rw [hoff] at hseg cont
      obtain ⟨v0, v1, v2, v3, v4, v5, rfl⟩ : ∃ v0 v1 v2 v3 v4 v5, es = [v0, v1, v2, v3, v4, v5] := by
        match es, (show es.length = 6 from hes) with
        | [v0, v1, v2, v3, v4, v5], _ => exact ⟨_, _, _, _, _, _, rfl⟩
      have Hseg := Lib.hid hseg
      have Cont := Lib.hid cont
      clear hseg cont hE hes
      go_wp2_with fail
      refine (toReq [.bool x0, .int .i64 x1, .int .i64 x2, .int .i64 x3, .bool x4, .slice ax5 x5.length px5] (x0, x1, x2, x3, x4, x5) _ hsx Hx.out).mono ?_
      rintro e w2 ⟨us, he, hc, hb2⟩
      obtain ⟨bx5, qx5, rfl, _⟩ := req_form (reqK.cap_rd hc)
      obtain rfl : e = .returned (.agg #[.bool x0, .int .i64 x1, .int .i64 x2, .int .i64 x3, .bool x4, .slice bx5 x5.length qx5]) := he
      have hs2 := Hseg.out.later hb2
      have f0 := hs2.cell 0 _ rfl (n := j * 6) rfl
      have f1 := hs2.cell 1 _ rfl (n := j * 6 + 1) rfl
      have f2 := hs2.cell 2 _ rfl (n := j * 6 + 2) rfl
      have f3 := hs2.cell 3 _ rfl (n := j * 6 + 3) rfl
      have f4 := hs2.cell 4 _ rfl (n := j * 6 + 4) rfl
      have f5 := hs2.cell 5 _ rfl (n := j * 6 + 5) rfl
      have z0 := hs2.warm (j * 6)
      have z1 := hs2.warm (j * 6 + 1)
      have z2 := hs2.warm (j * 6 + 2)
      have z3 := hs2.warm (j * 6 + 3)
      have z4 := hs2.warm (j * 6 + 4)
      have z5 := hs2.warm (j * 6 + 5)
      have Hch := Lib.hid ((((((((Chg.refl w.heap.size (j * 6) (j * 6 + reqK.n) E wr).later hb2).set (n := j * 6) (by omega) (by show _ < j * 6 + 6; omega) (.bool x0)).set (n := j * 6 + 1) (by omega) (by show _ < j * 6 + 6; omega) (.int .i64 x1)).set (n := j * 6 + 2) (by omega) (by show _ < j * 6 + 6; omega) (.int .i64 x2)).set (n := j * 6 + 3) (by omega) (by show _ < j * 6 + 6; omega) (.int .i64 x3)).set (n := j * 6 + 4) (by omega) (by show _ < j * 6 + 6; omega) (.bool x4)).set (n := j * 6 + 5) (by omega) (by show _ < j * 6 + 6; omega) (.slice bx5 x5.length qx5))
      have Hsg := Lib.hid (((((((hs2.set 0 (.bool x0) (n := j * 6) rfl).set 1 (.int .i64 x1) (n := j * 6 + 1) rfl).set 2 (.int .i64 x2) (n := j * 6 + 2) rfl).set 3 (.int .i64 x3) (n := j * 6 + 3) rfl).set 4 (.bool x4) (n := j * 6 + 4) rfl).set 5 (.slice bx5 x5.length qx5) (n := j * 6 + 5) rfl))
      have Hc := Lib.hid hc
      have Hb2 := Lib.hid hb2
      clear hc hb2 hs2 g0 g1 g2 g3 g4 g5
      go_wp2_with fail
      go_roundw
      case rel =>
        refine ⟨j + 1, by omega, by go_num, ?_, ?_⟩
        · have ht : Turn (fun k => k = w.heap.size) w2 _ := ((((((Turn.refl (fun k => k = w.heap.size) w2).set (p := ⟨w.heap.size, j * 6, none⟩) rfl (.bool x0)).set (p := ⟨w.heap.size, j * 6 + 1, none⟩) rfl (.int .i64 x1)).set (p := ⟨w.heap.size, j * 6 + 2, none⟩) rfl (.int .i64 x2)).set (p := ⟨w.heap.size, j * 6 + 3, none⟩) rfl (.int .i64 x3)).set (p := ⟨w.heap.size, j * 6 + 4, none⟩) rfl (.bool x4)).set (p := ⟨w.heap.size, j * 6 + 5, none⟩) rfl (.slice bx5 x5.length qx5)
          rw [← Hst.out]
          exact reqS.cap_wide (Cont.out _ [.bool x0, .int .i64 x1, .int .i64 x2, .int .i64 x3, .bool x4, .slice bx5 x5.length qx5] (x0, x1, x2, x3, x4, x5) (fun k => wr.heap.size ≤ k) Hch.out Hsg.out rfl (reqK.cap_turn Hc.out ht (fun k _ hk he => by omega)) (fun k hk => .inr hk)) (fun k _ hk => by rcases hk with h | h <;> omega)
        · iterate 6 refine Below.setCell ?_ (by exact Nat.le_refl _) _
          exact Hb0.out.trans (Hb2.out.mono Hb0.out.size)
      case measure => simp [intOf]; omega
    · obtain rfl : j = n := by omega
      go_wp2
      go_ret
      refine ⟨[_], rfl, ?_, hb⟩
      have h := Ho.out
      rw [← HN.out, midT_all] at h
      rw [← HN.out]
      exact h
set_option maxHeartbeats 4000000 in
set_option maxRecDepth 100000 in
theorem eqReqS : EqC reqS one 105 := by
  intro cs ds l w hs hr hr2
  obtain ⟨ad, cp, rfl, hl1, hl2⟩ := row_form hr
  obtain ⟨bd, dp, rfl, _, _⟩ := row_form hr2
  have HR := Lib.hid hr
  have HR2 := Lib.hid hr2
  have hln : l.length ≤ 2000000 := Nat.le_trans (szL_len reqK l) hs
  have HSZ := Lib.hid (show szL reqK l ≤ 2000000 from hs)
  obtain ⟨n, hn⟩ : ∃ n, l.length = n := ⟨_, rfl⟩
  have HN := Lib.hid hn
  rw [hn] at hln ⊢
  clear hr hr2 hn hl1 hl2 hs
  have hne : (((n : Nat) : Int) != ((n : Nat) : Int)) = false := by simp
  show Calls _ _ #[.slice ad n cp, .slice bd n dp] w _
  go_enter Tryz.func105, Tryz.ntmps105
  go_wp2
  go_loopw [5] (fun i wr => ∃ j : Nat, j ≤ n ∧ i = .int .i64 j ∧ Below w.heap.size w wr) (fun i _ => n - (intOf i).toNat)
  case atStart => exact ⟨0, by omega, rfl, Below.refl _ _⟩
  case round =>
    obtain ⟨j, hj, rfl, hb⟩ := hrel
    by_cases hlt : j < n
    · obtain ⟨x, hx⟩ := get_of (l := l) (i := j) (by rw [HN.out]; exact hlt)
      have hsx : reqK.sz x ≤ 2000000 := Nat.le_trans (szL_mem reqK (List.mem_of_getElem? hx)) HSZ.out
      have Hb0 := Lib.hid hb
      obtain ⟨x0, x1, x2, x3, x4, x5⟩ := x
      obtain ⟨lb, lo, _, les, el, _, _, llt, lc, lx⟩ := row_rd HR.out hx
      cases el
      have lr := lx
      obtain ⟨ax5, px5, rfl, _⟩ := req_form lx
      have g0 : w.cell? ⟨lb, lo + j * 6, none⟩ = some (.bool x0) := lc 0 _ rfl
      have g1 : w.cell? ⟨lb, lo + j * 6 + 1, none⟩ = some (.int .i64 x1) := lc 1 _ rfl
      have g2 : w.cell? ⟨lb, lo + j * 6 + 2, none⟩ = some (.int .i64 x2) := lc 2 _ rfl
      have g3 : w.cell? ⟨lb, lo + j * 6 + 3, none⟩ = some (.int .i64 x3) := lc 3 _ rfl
      have g4 : w.cell? ⟨lb, lo + j * 6 + 4, none⟩ = some (.bool x4) := lc 4 _ rfl
      have g5 : w.cell? ⟨lb, lo + j * 6 + 5, none⟩ = some (.slice ax5 x5.length px5) := lc 5 _ rfl
      rw [← bel_cells hb llt] at g0 g1 g2 g3 g4 g5
      obtain ⟨mb, mo, _, mes, em, _, _, mlt, mc, mx⟩ := row_rd HR2.out hx
      cases em
      have mr := mx
      obtain ⟨bx5, qx5, rfl, _⟩ := req_form mx
      have k0 : w.cell? ⟨mb, mo + j * 6, none⟩ = some (.bool x0) := mc 0 _ rfl
      have k1 : w.cell? ⟨mb, mo + j * 6 + 1, none⟩ = some (.int .i64 x1) := mc 1 _ rfl
      have k2 : w.cell? ⟨mb, mo + j * 6 + 2, none⟩ = some (.int .i64 x2) := mc 2 _ rfl
      have k3 : w.cell? ⟨mb, mo + j * 6 + 3, none⟩ = some (.int .i64 x3) := mc 3 _ rfl
      have k4 : w.cell? ⟨mb, mo + j * 6 + 4, none⟩ = some (.bool x4) := mc 4 _ rfl
      have k5 : w.cell? ⟨mb, mo + j * 6 + 5, none⟩ = some (.slice bx5 x5.length qx5) := mc 5 _ rfl
      rw [← bel_cells hb mlt] at k0 k1 k2 k3 k4 k5
      have Hx := Lib.hid (reqK.rd_later lr hb)
      have Hy := Lib.hid (reqK.rd_later mr hb)
      clear hx lr mr lc mc lx mx hb
      replace g0 := fun d os => cell_regrown g0 d os
      replace k0 := fun d os => cell_regrown k0 d os
      replace g1 := fun d os => cell_regrown g1 d os
      replace k1 := fun d os => cell_regrown k1 d os
      replace g2 := fun d os => cell_regrown g2 d os
      replace k2 := fun d os => cell_regrown k2 d os
      replace g3 := fun d os => cell_regrown g3 d os
      replace k3 := fun d os => cell_regrown k3 d os
      replace g4 := fun d os => cell_regrown g4 d os
      replace k4 := fun d os => cell_regrown k4 d os
      replace g5 := fun d os => cell_regrown g5 d os
      replace k5 := fun d os => cell_regrown k5 d os
      go_wp2_with fail
      refine wp_region_quiet_below (by kernel_rfl) (by kernel_rfl) ?_
      repeat (go_big_quiet_step ((go_at_call 117; exact Calls.regrown_of (eqReq [.bool x0, .int .i64 x1, .int .i64 x2, .int .i64 x3, .bool x4, .slice ax5 x5.length px5] [.bool x0, .int .i64 x1, .int .i64 x2, .int .i64 x3, .bool x4, .slice bx5 x5.length qx5] (x0, x1, x2, x3, x4, x5) _ hsx (reqK.rd_later Hx.out (below_regrown wr _ _)) (reqK.rd_later Hy.out (below_regrown wr _ _))))))
      refine wpQuiet_nil ?_
      rintro _ ⟨⟨dq, osq⟩, rfl⟩
      have hbw := below_regrown wr dq osq
      generalize Sort.grow (redrawn wr dq) osq = w2 at hbw
      clear g0 k0 g1 k1 g2 k2 g3 k3 g4 k4 g5 k5
      go_wp2_with fail
      go_roundw
      case rel => exact ⟨j + 1, by omega, by go_num, Hb0.out.trans (hbw.mono Hb0.out.size)⟩
      case measure => simp [intOf]; omega
    · go_wp2
      go_ret
      exact ⟨rfl, hb⟩
end Go.Proofs.YtdhaelaoackfkaaGreat.KD

namespace Go.Proofs.YtdhaelaoackfkaaGreat.KD
open Go.RowKit Rows3 GR
set_option linter.unusedVariables false

def mstK : Kn (List (Bool × Int × Int × Int × Bool × List Int) × Int × Int × Int × Bool × Bool) := prod reqS (prod int (prod int (prod int (prod bool bool))))
theorem mst_form {cs : List Value} {x0 : List (Bool × Int × Int × Int × Bool × List Int)} {x1 : Int} {x2 : Int} {x3 : Int} {x4 : Bool} {x5 : Bool} {w : World} (h : mstK.rd cs (x0, x1, x2, x3, x4, x5) w) :
    ∃ ax0 px0, cs = [.slice ax0 x0.length px0, .int .i64 x1, .int .i64 x2, .int .i64 x3, .bool x4, .bool x5] ∧ reqS.rd [.slice ax0 x0.length px0] x0 w := by
  obtain ⟨c0, r0, rfl, h0, c1, r1, rfl, h1, c2, r2, rfl, h2, c3, r3, rfl, h3, c4, r4, rfl, h4, h5⟩ := h
  have t0 := h0
  obtain ⟨ax0, px0, rfl, _⟩ := t0
  obtain rfl := h1
  obtain rfl := h2
  obtain rfl := h3
  obtain rfl := h4
  obtain rfl := h5
  exact ⟨_, _, rfl, h0⟩
theorem mst_rd {ux0 : Value} {x0 : List (Bool × Int × Int × Int × Bool × List Int)} {x1 : Int} {x2 : Int} {x3 : Int} {x4 : Bool} {x5 : Bool} {w : World} (hx0 : reqS.rd [ux0] x0 w) : mstK.rd [ux0, .int .i64 x1, .int .i64 x2, .int .i64 x3, .bool x4, .bool x5] (x0, x1, x2, x3, x4, x5) w :=
  ⟨[ux0], _, rfl, hx0, ⟨[.int .i64 x1], _, rfl, rfl, ⟨[.int .i64 x2], _, rfl, rfl, ⟨[.int .i64 x3], _, rfl, rfl, ⟨[.bool x4], _, rfl, rfl, rfl⟩⟩⟩⟩⟩
theorem cap_mst {F : Foot} {cs : List Value} {x0 : List (Bool × Int × Int × Int × Bool × List Int)} {x1 : Int} {x2 : Int} {x3 : Int} {x4 : Bool} {x5 : Bool} {w : World} (h : mstK.cap F cs (x0, x1, x2, x3, x4, x5) w) :
    ∃ ax0 px0 Fx0, cs = [.slice ax0 x0.length px0, .int .i64 x1, .int .i64 x2, .int .i64 x3, .bool x4, .bool x5] ∧ reqS.cap Fx0 [.slice ax0 x0.length px0] x0 w ∧ (∀ k, Fx0 k → F k) := by
  obtain ⟨c0, r0, G0, D0, rfl, d0, e0, h0, c1, r1, G1, D1, rfl, d1, e1, h1, c2, r2, G2, D2, rfl, d2, e2, h2, c3, r3, G3, D3, rfl, d3, e3, h3, c4, r4, G4, D4, rfl, d4, e4, h4, h5⟩ := h
  have t0 := h0
  obtain ⟨ax0, px0, rfl, _⟩ := t0
  obtain rfl := h1
  obtain rfl := h2
  obtain rfl := h3
  obtain rfl := h4
  obtain rfl := h5
  exact ⟨_, _, G0, rfl, h0, fun k hk => (d0 k hk).1⟩
theorem mst_cap {F Fx0 : Foot} {ux0 : Value} {x0 : List (Bool × Int × Int × Int × Bool × List Int)} {x1 : Int} {x2 : Int} {x3 : Int} {x4 : Bool} {x5 : Bool} {w : World} (hx0 : reqS.cap Fx0 [ux0] x0 w)
    (sx0 : ∀ k, Fx0 k → F k)  : mstK.cap F [ux0, .int .i64 x1, .int .i64 x2, .int .i64 x3, .bool x4, .bool x5] (x0, x1, x2, x3, x4, x5) w :=
  ⟨[ux0], _, (fun k => Fx0 k), (fun k => False), rfl, fun k hk => ⟨sx0 k hk, fun hk2 => hk2.elim⟩, fun k hk => hk.elim, hx0, ⟨[.int .i64 x1], _, (fun k => False), (fun k => False), rfl, fun k hk => ⟨hk.elim, fun hk2 => hk.elim⟩, fun k hk => hk.elim, rfl, ⟨[.int .i64 x2], _, (fun k => False), (fun k => False), rfl, fun k hk => ⟨hk.elim, fun hk2 => hk.elim⟩, fun k hk => hk.elim, rfl, ⟨[.int .i64 x3], _, (fun k => False), (fun k => False), rfl, fun k hk => ⟨hk.elim, fun hk2 => hk.elim⟩, fun k hk => hk.elim, rfl, ⟨[.bool x4], _, (fun k => False), (fun k => False), rfl, fun k hk => ⟨hk.elim, fun hk2 => hk.elim⟩, fun k hk => hk.elim, rfl, rfl⟩⟩⟩⟩⟩
theorem mst_mI (x0 : List (Bool × Int × Int × Int × Bool × List Int)) (x1 : Int) (x2 : Int) (x3 : Int) (x4 : Bool) (x5 : Bool) (k : Int) : mstK.mI (x0, x1, x2, x3, x4, x5) k = (reqS.mT x0 (k), k + (reqS.cT x0 : Int), k + (reqS.cT x0 : Int) + 1, k + (reqS.cT x0 : Int) + 1 + 1, ((k + (reqS.cT x0 : Int) + 1 + 1 + 1) % 3 == 0), ((k + (reqS.cT x0 : Int) + 1 + 1 + 1 + 1) % 3 == 0)) := rfl
theorem mst_cI (x0 : List (Bool × Int × Int × Int × Bool × List Int)) (x1 : Int) (x2 : Int) (x3 : Int) (x4 : Bool) (x5 : Bool) : mstK.cI (x0, x1, x2, x3, x4, x5) = 5 + reqS.cT x0 := by
  show (reqS.cT x0 + (1 + (1 + (1 + (1 + 1))))) = _
  omega
theorem mst_sz (x0 : List (Bool × Int × Int × Int × Bool × List Int)) (x1 : Int) (x2 : Int) (x3 : Int) (x4 : Bool) (x5 : Bool) : mstK.sz (x0, x1, x2, x3, x4, x5) = reqS.sz x0 := by
  show reqS.sz x0 + (0 + (0 + (0 + (0 + 0)))) = _
  omega
theorem mst_cT (x0 : List (Bool × Int × Int × Int × Bool × List Int)) (x1 : Int) (x2 : Int) (x3 : Int) (x4 : Bool) (x5 : Bool) : mstK.cT (x0, x1, x2, x3, x4, x5) = reqS.cT x0 := by
  show reqS.cT x0 + (0 + (0 + (0 + (0 + 0)))) = _
  omega
theorem mst_mT (x0 : List (Bool × Int × Int × Int × Bool × List Int)) (x1 : Int) (x2 : Int) (x3 : Int) (x4 : Bool) (x5 : Bool) (k : Int) : mstK.mT (x0, x1, x2, x3, x4, x5) k = (reqS.mT x0 (k), x1, x2, x3, x4, x5) := by
  show (reqS.mT x0 (k), x1, x2, x3, x4, x5) = _
  simp
set_option maxRecDepth 100000 in
theorem szMst : SzC mstK agg 52 := by
  intro cs x L w hr h0 h1
  obtain ⟨x0, x1, x2, x3, x4, x5⟩ := x
  rw [mst_sz]
  obtain ⟨ax0, px0, rfl, rx0⟩ := mst_form hr
  have Rx0 := Lib.hid rx0
  clear hr rx0
  obtain ⟨n0, hn0⟩ : ∃ n, reqS.sz x0 = n := ⟨_, rfl⟩
  rw [hn0]
  have B0 := Lib.hid (Bx.new 98 #[.slice ax0 x0.length px0, .int .i64 x1, .int .i64 x2, .int .i64 x3, .bool x4, .bool x5] w)
  have HB0 := Lib.hid ((Below.refl w.heap.size w).alloc (Nat.le_refl _) (Obj.cells #[.slice ax0 x0.length px0, .int .i64 x1, .int .i64 x2, .int .i64 x3, .bool x4, .bool x5] 98))
  show Calls _ _ #[.agg #[.slice ax0 x0.length px0, .int .i64 x1, .int .i64 x2, .int .i64 x3, .bool x4, .bool x5], .int .i64 L] w _
  obtain ⟨M0, hM0⟩ : ∃ M, szW L n0 = M := ⟨_, rfl⟩
  have hb0 := szW_bd L n0 (by omega)
  rw [hM0] at hb0
  have ht0 := hM0
  have HM0 : Hid (szW L (reqS.sz x0) = M0) := Lib.hid (by rw [hn0]; exact hM0)
  have He := Lib.hid ht0
  clear hM0 ht0 hn0
  by_cases c0 : M0 < 0
  · obtain rfl : M0 = -1 := by omega
    go_enter Tryz.func52, Tryz.ntmps52
    go_wp2_with fail
    generalize w.alloc (Obj.cells #[.slice ax0 x0.length px0, .int .i64 x1, .int .i64 x2, .int .i64 x3, .bool x4, .bool x5] 98) = y0 at B0 HB0 ⊢
    refine (szReqS [.slice ax0 x0.length px0] x0 L _ (reqS.rd_later Rx0.out HB0.out) (by omega) (by omega)).mono ?_
    rintro e y1 ⟨rfl, hb⟩
    rw [HM0.out]
    have B1 := Lib.hid (B0.out.later hb)
    have HB1 := Lib.hid (HB0.out.trans (hb.mono HB0.out.size))
    have g0 := B1.out.cell 0 _ rfl
    have g1 := B1.out.cell 1 _ rfl
    have g2 := B1.out.cell 2 _ rfl
    have g3 := B1.out.cell 3 _ rfl
    have g4 := B1.out.cell 4 _ rfl
    have g5 := B1.out.cell 5 _ rfl
    clear hb
    go_wp2
    go_ret
    exact ⟨by rw [He.out]; rfl, HB1.out⟩
  · skip
    go_enter Tryz.func52, Tryz.ntmps52
    go_wp2_with fail
    generalize w.alloc (Obj.cells #[.slice ax0 x0.length px0, .int .i64 x1, .int .i64 x2, .int .i64 x3, .bool x4, .bool x5] 98) = y0 at B0 HB0 ⊢
    refine (szReqS [.slice ax0 x0.length px0] x0 L _ (reqS.rd_later Rx0.out HB0.out) (by omega) (by omega)).mono ?_
    rintro e y1 ⟨rfl, hb⟩
    rw [HM0.out]
    have B1 := Lib.hid (B0.out.later hb)
    have HB1 := Lib.hid (HB0.out.trans (hb.mono HB0.out.size))
    have g0 := B1.out.cell 0 _ rfl
    have g1 := B1.out.cell 1 _ rfl
    have g2 := B1.out.cell 2 _ rfl
    have g3 := B1.out.cell 3 _ rfl
    have g4 := B1.out.cell 4 _ rfl
    have g5 := B1.out.cell 5 _ rfl
    clear hb
    go_wp2
    go_ret
    exact ⟨by rw [He.out]; rfl, HB1.out⟩
set_option maxRecDepth 100000 in
theorem toMst : ToC mstK agg 64 := by
  intro cs x w hs hr
  obtain ⟨x0, x1, x2, x3, x4, x5⟩ := x
  rw [mst_sz] at hs
  obtain ⟨ax0, px0, rfl, rx0⟩ := mst_form hr
  have Rx0 := Lib.hid rx0
  clear hr rx0
  have hsz : ∀ (w : World) o, (w.alloc o).heap.size = w.heap.size + 1 := fun w o => by simp
  have A1 := Lib.hid (((Bx.new 98 #[.slice ax0 x0.length px0, .int .i64 x1, .int .i64 x2, .int .i64 x3, .bool x4, .bool x5] w).alloc (Obj.cells #[.slice none 0 0, .int .i64 0, .int .i64 0, .int .i64 0, .bool false, .bool false] 70)).alloc (Obj.cells #[.slice none 0 0, .int .i64 0, .int .i64 0, .int .i64 0, .bool false, .bool false] 70))
  have A2 := (Bx.new 70 #[.slice none 0 0, .int .i64 0, .int .i64 0, .int .i64 0, .bool false, .bool false] (w.alloc (Obj.cells #[.slice ax0 x0.length px0, .int .i64 x1, .int .i64 x2, .int .i64 x3, .bool x4, .bool x5] 98))).alloc (Obj.cells #[.slice none 0 0, .int .i64 0, .int .i64 0, .int .i64 0, .bool false, .bool false] 70)
  have A3 := Bx.new 70 #[.slice none 0 0, .int .i64 0, .int .i64 0, .int .i64 0, .bool false, .bool false] ((w.alloc (Obj.cells #[.slice ax0 x0.length px0, .int .i64 x1, .int .i64 x2, .int .i64 x3, .bool x4, .bool x5] 98)).alloc (Obj.cells #[.slice none 0 0, .int .i64 0, .int .i64 0, .int .i64 0, .bool false, .bool false] 70))
  rw [hsz] at A2
  rw [hsz, hsz] at A3
  have HA2 := Lib.hid A2
  have HA3 := Lib.hid A3
  have HB0 := Lib.hid ((((Below.refl w.heap.size w).alloc (Nat.le_refl _) (Obj.cells #[.slice ax0 x0.length px0, .int .i64 x1, .int .i64 x2, .int .i64 x3, .bool x4, .bool x5] 98)).alloc (by simp) (Obj.cells #[.slice none 0 0, .int .i64 0, .int .i64 0, .int .i64 0, .bool false, .bool false] 70)).alloc (by simp; omega) (Obj.cells #[.slice none 0 0, .int .i64 0, .int .i64 0, .int .i64 0, .bool false, .bool false] 70))
  have hn3 := size_alloc3 w (Obj.cells #[.slice ax0 x0.length px0, .int .i64 x1, .int .i64 x2, .int .i64 x3, .bool x4, .bool x5] 98) (Obj.cells #[.slice none 0 0, .int .i64 0, .int .i64 0, .int .i64 0, .bool false, .bool false] 70) (Obj.cells #[.slice none 0 0, .int .i64 0, .int .i64 0, .int .i64 0, .bool false, .bool false] 70)
  have Hz0 : Hid (w.heap.size + 1 + 1 + 1 ≤ (((w.alloc (Obj.cells #[.slice ax0 x0.length px0, .int .i64 x1, .int .i64 x2, .int .i64 x3, .bool x4, .bool x5] 98)).alloc (Obj.cells #[.slice none 0 0, .int .i64 0, .int .i64 0, .int .i64 0, .bool false, .bool false] 70)).alloc (Obj.cells #[.slice none 0 0, .int .i64 0, .int .i64 0, .int .i64 0, .bool false, .bool false] 70)).heap.size) := Lib.hid (by rw [hn3]; exact Nat.le_refl _)
  clear A2 A3 hsz hn3
  show Calls _ _ #[.agg #[.slice ax0 x0.length px0, .int .i64 x1, .int .i64 x2, .int .i64 x3, .bool x4, .bool x5]] w _
  go_enter Tryz.func64, Tryz.ntmps64
  go_wp2_with fail
  have X1_0 := A1
  have X2_0 := HA2
  have X3_0 := HA3
  clear A1 HA2 HA3
  generalize ((w.alloc (Obj.cells #[.slice ax0 x0.length px0, .int .i64 x1, .int .i64 x2, .int .i64 x3, .bool x4, .bool x5] 98)).alloc (Obj.cells #[.slice none 0 0, .int .i64 0, .int .i64 0, .int .i64 0, .bool false, .bool false] 70)).alloc (Obj.cells #[.slice none 0 0, .int .i64 0, .int .i64 0, .int .i64 0, .bool false, .bool false] 70) = y0 at X1_0 X2_0 X3_0 HB0 Hz0 ⊢
  have HB_0 := HB0
  clear HB0
  refine (toReqS [.slice ax0 x0.length px0] x0 _ (by omega) (reqS.rd_later Rx0.out HB_0.out)).mono ?_
  rintro e v1 ⟨us, he, hc, hb⟩
  obtain ⟨bx0, qx0, rfl, _⟩ := reqS.cap_rd hc
  obtain rfl : e = .returned (.slice bx0 x0.length qx0) := he
  have Vx0 := Lib.hid (reqS.cap_wide (reqS.cap_top hc) (G := fun k => y0.heap.size ≤ k ∧ k < v1.heap.size) (fun k _ hk => hk))
  have W1 := Lib.hid (X1_0.out.later hb)
  have W2 := Lib.hid (X2_0.out.later hb)
  have W3 := Lib.hid (X3_0.out.later hb)
  have WB := Lib.hid (HB_0.out.trans (hb.mono HB_0.out.size))
  have Wz := Lib.hid (Nat.le_trans Hz0.out hb.size)
  have Ws := Lib.hid hb.size
  have Wy0 := Lib.hid Hz0.out
  clear hc hb
  have g0 := W3.out.cell 0 _ rfl
  have g1 := W3.out.cell 1 _ rfl
  have g2 := W3.out.cell 2 _ rfl
  have g3 := W3.out.cell 3 _ rfl
  have g4 := W3.out.cell 4 _ rfl
  have g5 := W3.out.cell 5 _ rfl
  have a0 := W1.out.cell 0 _ rfl
  have a1 := W1.out.cell 1 _ rfl
  have a2 := W1.out.cell 2 _ rfl
  have a3 := W1.out.cell 3 _ rfl
  have a4 := W1.out.cell 4 _ rfl
  have a5 := W1.out.cell 5 _ rfl
  have z0 := W3.out.warm 0
  have z1 := W3.out.warm 1
  have z2 := W3.out.warm 2
  have z3 := W3.out.warm 3
  have z4 := W3.out.warm 4
  have z5 := W3.out.warm 5
  have e0 := W2.out.cell 0 _ rfl
  have e1 := W2.out.cell 1 _ rfl
  have e2 := W2.out.cell 2 _ rfl
  have e3 := W2.out.cell 3 _ rfl
  have e4 := W2.out.cell 4 _ rfl
  have e5 := W2.out.cell 5 _ rfl
  have f0 := W2.out.warm 0
  have f1 := W2.out.warm 1
  have f2 := W2.out.warm 2
  have f3 := W2.out.warm 3
  have f4 := W2.out.warm 4
  have f5 := W2.out.warm 5
  go_wp2_with fail
  have Tx0 : Hid (∀ w2, Turn (fun k => k = w.heap.size + 1 + 1 ∨ k = w.heap.size + 1) v1 w2 → reqS.cap (fun k => y0.heap.size ≤ k ∧ k < v1.heap.size) [.slice bx0 x0.length qx0] x0 w2) := Lib.hid (fun w2 ht => reqS.cap_turn Vx0.out ht (fun k _ hk he => by have h1 := Wy0.out; have h2 : y0.heap.size ≤ k := hk.1; omega))
  refine bodyPost_ret (v := .agg #[.slice bx0 x0.length qx0, .int .i64 x1, .int .i64 x2, .int .i64 x3, .bool x4, .bool x5]) (by simp [results, Tryz.results64, go_sem, e0, e1, e2, e3, e4, e5]) rfl ⟨[.slice bx0 x0.length qx0, .int .i64 x1, .int .i64 x2, .int .i64 x3, .bool x4, .bool x5], rfl, ?_, ?_⟩
  · have ht : ∀ {w2 : World}, Turn (fun k => k = w.heap.size + 1 + 1 ∨ k = w.heap.size + 1) v1 w2 → mstK.cap (fun k => w.heap.size ≤ k) [.slice bx0 x0.length qx0, .int .i64 x1, .int .i64 x2, .int .i64 x3, .bool x4, .bool x5] (x0, x1, x2, x3, x4, x5) w2 := fun {w2} ht => by
      have tx0 := Tx0.out w2 ht
      exact mst_cap tx0 (fun k hk => by have h1 := Wy0.out; have h2 : y0.heap.size ≤ k := (hk).1; omega) 
    refine ht ?_
    iterate 12 refine Turn.set ?_ (by simp) _
    exact Turn.refl _ _
  · iterate 12 refine Below.setCell ?_ (by dsimp only; omega) _
    exact WB.out
set_option maxRecDepth 100000 in
theorem eqMst : EqC mstK agg 83 := by
  intro cs ds x w hs hr hr2
  obtain ⟨x0, x1, x2, x3, x4, x5⟩ := x
  rw [mst_sz] at hs
  obtain ⟨ax0, px0, rfl, rx0⟩ := mst_form hr
  have Rx0 := Lib.hid rx0
  clear hr rx0
  obtain ⟨bx0, qx0, rfl, sx0⟩ := mst_form hr2
  have Sx0 := Lib.hid sx0
  clear hr2 sx0
  have hsz : ∀ (w : World) o, (w.alloc o).heap.size = w.heap.size + 1 := fun w o => by simp
  have A0 := Lib.hid ((Bx.new 70 #[.slice ax0 x0.length px0, .int .i64 x1, .int .i64 x2, .int .i64 x3, .bool x4, .bool x5] w).alloc (Obj.cells #[.slice bx0 x0.length qx0, .int .i64 x1, .int .i64 x2, .int .i64 x3, .bool x4, .bool x5] 70))
  have B0 := Bx.new 70 #[.slice bx0 x0.length qx0, .int .i64 x1, .int .i64 x2, .int .i64 x3, .bool x4, .bool x5] (w.alloc (Obj.cells #[.slice ax0 x0.length px0, .int .i64 x1, .int .i64 x2, .int .i64 x3, .bool x4, .bool x5] 70))
  rw [hsz] at B0
  have X0 := Lib.hid B0
  clear B0 hsz
  have HB0 := Lib.hid (((Below.refl w.heap.size w).alloc (Nat.le_refl _) (Obj.cells #[.slice ax0 x0.length px0, .int .i64 x1, .int .i64 x2, .int .i64 x3, .bool x4, .bool x5] 70)).alloc (by simp) (Obj.cells #[.slice bx0 x0.length qx0, .int .i64 x1, .int .i64 x2, .int .i64 x3, .bool x4, .bool x5] 70))
  have nx1 : (x1 != x1) = false := by simp
  have nx2 : (x2 != x2) = false := by simp
  have nx3 : (x3 != x3) = false := by simp
  have nx4 : (x4 != x4) = false := by simp
  have nx5 : (x5 != x5) = false := by simp
  show Calls _ _ #[.agg #[.slice ax0 x0.length px0, .int .i64 x1, .int .i64 x2, .int .i64 x3, .bool x4, .bool x5], .agg #[.slice bx0 x0.length qx0, .int .i64 x1, .int .i64 x2, .int .i64 x3, .bool x4, .bool x5]] w _
  go_enter Tryz.func83, Tryz.ntmps83
  go_wp2_with fail
  generalize (w.alloc (Obj.cells #[.slice ax0 x0.length px0, .int .i64 x1, .int .i64 x2, .int .i64 x3, .bool x4, .bool x5] 70)).alloc (Obj.cells #[.slice bx0 x0.length qx0, .int .i64 x1, .int .i64 x2, .int .i64 x3, .bool x4, .bool x5] 70) = y0 at A0 X0 HB0 ⊢
  refine (eqReqS [.slice ax0 x0.length px0] [.slice bx0 x0.length qx0] x0 _ (by omega) (reqS.rd_later Rx0.out HB0.out) (reqS.rd_later Sx0.out HB0.out)).mono ?_
  rintro e y1 ⟨rfl, hb⟩
  have A1 := Lib.hid (A0.out.later hb)
  have X1 := Lib.hid (X0.out.later hb)
  have HB1 := Lib.hid (HB0.out.trans (hb.mono HB0.out.size))
  clear hb
  have g0 := A1.out.cell 0 _ rfl
  have g1 := A1.out.cell 1 _ rfl
  have g2 := A1.out.cell 2 _ rfl
  have g3 := A1.out.cell 3 _ rfl
  have g4 := A1.out.cell 4 _ rfl
  have g5 := A1.out.cell 5 _ rfl
  have k0 := X1.out.cell 0 _ rfl
  have k1 := X1.out.cell 1 _ rfl
  have k2 := X1.out.cell 2 _ rfl
  have k3 := X1.out.cell 3 _ rfl
  have k4 := X1.out.cell 4 _ rfl
  have k5 := X1.out.cell 5 _ rfl
  go_wp2
  go_ret
  exact ⟨rfl, HB1.out⟩
end Go.Proofs.YtdhaelaoackfkaaGreat.KD

namespace Go.Proofs.YtdhaelaoackfkaaGreat.KD
open Go.RowKit Rows3 GR
set_option linter.unusedVariables false

def mstS : Kn (List (List (Bool × Int × Int × Int × Bool × List Int) × Int × Int × Int × Bool × Bool)) := row mstK (by decide)
set_option maxHeartbeats 4000000 in
set_option maxRecDepth 100000 in
theorem szMstS : SzC mstS one 13 := by
  intro cs l L w hr h0 h1
  obtain ⟨ad, cp, rfl, hl1, hl2⟩ := row_form hr
  have HR := Lib.hid hr
  rw [show mstS.sz l = szL mstK l from rfl]
  obtain ⟨n, hn⟩ : ∃ n, l.length = n := ⟨_, rfl⟩
  have HN := Lib.hid hn
  rw [hn] at hl1
  have hle : n ≤ 9223372036854775807 := by omega
  have hall := szT_all mstK l
  have hTle := szT_le mstK l
  rw [hn] at hall
  obtain ⟨S, hS⟩ : ∃ S, szL mstK l = S := ⟨_, rfl⟩
  rw [hS] at hall hTle ⊢
  have HAll := Lib.hid hall
  have HT := Lib.hid hTle
  rw [hn]
  clear hr hn hall hTle hS hl1 hl2
  show Calls _ _ #[.slice ad n cp, .int .i64 L] w _
  by_cases hL : (n : Int) ≤ L
  · have hneg : ¬ L - (n : Int) < 0 := by omega
    go_enter Tryz.func13, Tryz.ntmps13
    go_wp2
    go_loopw [1, 5] (fun q i wr => ∃ (j : Nat) (M : Int), j ≤ n ∧ i = .int .i64 j ∧ 0 ≤ M ∧ M ≤ 1048576 ∧ Hid (M = L - n - (szT mstK l j : Int)) ∧ q = .int .i64 M ∧ Below w.heap.size w wr) (fun _ i _ => n - (intOf i).toNat)
    case atStart => exact ⟨0, L - n, by omega, rfl, by omega, by omega, Lib.hid (by rw [szT_zero]; omega), rfl, Below.refl _ _⟩
    case round =>
      obtain ⟨j, M, hj, rfl, hM0, hM1, HM, rfl, hb⟩ := hrel
      by_cases hlt : j < n
      · obtain ⟨x, hx⟩ := get_of (l := l) (i := j) (by rw [HN.out]; exact hlt)
        have Hst := Lib.hid (szT_step mstK hx)
        have Hb0 := Lib.hid hb
        obtain ⟨x0, x1, x2, x3, x4, x5⟩ := x
        obtain ⟨b, o, _, es, e, _, _, lt, c, x⟩ := row_rd HR.out hx
        cases e
        have hrx := x
        obtain ⟨ax0, px0, rfl, _⟩ := mst_form x
        have g0 : w.cell? ⟨b, o + j * 6, none⟩ = some (.slice ax0 x0.length px0) := c 0 _ rfl
        have g1 : w.cell? ⟨b, o + j * 6 + 1, none⟩ = some (.int .i64 x1) := c 1 _ rfl
        have g2 : w.cell? ⟨b, o + j * 6 + 2, none⟩ = some (.int .i64 x2) := c 2 _ rfl
        have g3 : w.cell? ⟨b, o + j * 6 + 3, none⟩ = some (.int .i64 x3) := c 3 _ rfl
        have g4 : w.cell? ⟨b, o + j * 6 + 4, none⟩ = some (.bool x4) := c 4 _ rfl
        have g5 : w.cell? ⟨b, o + j * 6 + 5, none⟩ = some (.bool x5) := c 5 _ rfl
        rw [← bel_cells hb lt] at g0 g1 g2 g3 g4 g5
        have Hx := Lib.hid (mstK.rd_later hrx hb)
        obtain ⟨z, hz⟩ : ∃ z, mstK.sz (x0, x1, x2, x3, x4, x5) = z := ⟨_, rfl⟩
        have HZ := Lib.hid hz
        obtain ⟨M2, hM2⟩ : ∃ M2, szW M z = M2 := ⟨_, rfl⟩
        have HM2 := Lib.hid hM2
        have hbd := szW_bd M z hM0
        rw [hM2] at hbd
        clear hx hrx c x hz hM2 hb
        by_cases hn2 : M2 < 0
        · obtain rfl : M2 = -1 := by omega
          go_wp2_with fail
          refine (szMst [.slice ax0 x0.length px0, .int .i64 x1, .int .i64 x2, .int .i64 x3, .bool x4, .bool x5] (x0, x1, x2, x3, x4, x5) M _ Hx.out (by omega) (by omega)).mono ?_
          rintro e w2 ⟨rfl, hb2⟩
          rw [HZ.out, HM2.out]
          clear g0 g1 g2 g3 g4 g5
          go_wp2_with fail
          go_ret
          refine ⟨?_, Hb0.out.trans (hb2.mono Hb0.out.size)⟩
          have h1 := HM2.out
          have h2 := HM.out
          have h3 := Hst.out
          have h4 := HT.out (j + 1)
          have h6 := HN.out
          rw [HZ.out] at h3
          rw [szW_no]
          · rfl
          · have h5 : M < (z : Int) := by
              rcases Int.lt_or_le M z with h | h
              · exact h
              · rw [szW_yes h] at h1; omega
            omega
        · skip
          go_wp2_with fail
          refine (szMst [.slice ax0 x0.length px0, .int .i64 x1, .int .i64 x2, .int .i64 x3, .bool x4, .bool x5] (x0, x1, x2, x3, x4, x5) M _ Hx.out (by omega) (by omega)).mono ?_
          rintro e w2 ⟨rfl, hb2⟩
          rw [HZ.out, HM2.out]
          clear g0 g1 g2 g3 g4 g5
          go_wp2_with fail
          go_roundw
          case rel =>
            refine ⟨j + 1, M2, by omega, by go_num, by omega, by omega, Lib.hid ?_, rfl, Hb0.out.trans (hb2.mono Hb0.out.size)⟩
            have h1 := HM2.out
            have h2 := HM.out
            have h3 := Hst.out
            rw [HZ.out] at h3
            have h5 : (z : Int) ≤ M := by
              rcases Int.lt_or_le M z with h | h
              · rw [szW_no h] at h1; omega
              · exact h
            rw [szW_yes h5] at h1
            omega
          case measure => simp [intOf]; omega
      · obtain rfl : j = n := by omega
        have He : Hid (szW L S = M) := Lib.hid (by have h1 := HM.out; have h2 := HAll.out; rw [szW_yes (by omega)]; omega)
        go_wp2
        go_ret
        exact ⟨by rw [He.out]; rfl, hb⟩
  · have hneg : L - (n : Int) < 0 := by omega
    have He := Lib.hid (szW_no (show L < (S : Int) by have h1 := HAll.out; omega))
    go_enter Tryz.func13, Tryz.ntmps13
    go_wp2
    go_ret
    exact ⟨by rw [He.out]; rfl, Below.refl _ _⟩
theorem info_iMst : (Tryz.prog.info? 70).map (fun i => (i.zero, i.size, decide (i.bytes ≤ 1000))) = some (some (.agg #[.slice none 0 0, .int .i64 0, .int .i64 0, .int .i64 0, .bool false, .bool false]), 6, true) := by kernel_rfl
set_option maxHeartbeats 4000000 in
set_option maxRecDepth 100000 in
theorem toMstS : ToC mstS one 29 := by
  intro cs l w hs hr
  obtain ⟨ad, cp, rfl, hl1, hl2⟩ := row_form hr
  have HR := Lib.hid hr
  have hln : l.length ≤ 2000000 := Nat.le_trans (szL_len mstK l) hs
  have HSZ := Lib.hid (show szL mstK l ≤ 2000000 from hs)
  obtain ⟨n, hn⟩ : ∃ n, l.length = n := ⟨_, rfl⟩
  have HN := Lib.hid hn
  rw [hn] at hln ⊢
  obtain ⟨i0, hi, hz0, hz1, hz2⟩ := info_parts' info_iMst
  have hmk := fun W => make_runK (P := Tryz.prog) 44 70 i0 _ Tryz.underlying44 hi hz0 6 hz1 hz2 n hln W
  have Ho0 : Hid (mstS.cap (fun k => w.heap.size ≤ k) [.slice (some ⟨w.heap.size, 0, none⟩) n n] (midT l ([], 0, 0, 0, false, false) 0) (w.alloc (.cells (madeCells #[.slice none 0 0, .int .i64 0, .int .i64 0, .int .i64 0, .bool false, .bool false] (n * 6)) 70))) := Lib.hid (by rw [midT_zero, hn]; exact row_made w n #[.slice none 0 0, .int .i64 0, .int .i64 0, .int .i64 0, .bool false, .bool false] ([], 0, 0, 0, false, false) 70 rfl (fun w => mst_cap (row_nil (fun _ => False) w) (fun _ h => h) ) hln)
  clear hr hn hl1 hl2 hi hz0 hz1 hz2 hs
  show Calls _ _ #[.slice ad n cp] w _
  go_enter Tryz.func29, Tryz.ntmps29
  go_wp2
  clear hmk
  go_loopw [4] (fun i wr => ∃ j : Nat, j ≤ n ∧ i = .int .i64 j ∧ mstS.cap (fun k => w.heap.size ≤ k) [.slice (some ⟨w.heap.size, 0, none⟩) n n] (midT l ([], 0, 0, 0, false, false) j) wr ∧ Below w.heap.size w wr) (fun i _ => n - (intOf i).toNat)
  case atStart => exact ⟨0, by omega, rfl, Ho0.out, (Below.refl _ _).alloc (Nat.le_refl _) _⟩
  case round =>
    obtain ⟨j, hj, rfl, hown, hb⟩ := hrel
    have Ho := Lib.hid hown
    clear hown
    by_cases hlt : j < n
    · obtain ⟨x, hx⟩ := get_of (l := l) (i := j) (by rw [HN.out]; exact hlt)
      have hsx : mstK.sz x ≤ 2000000 := Nat.le_trans (szL_mem mstK (List.mem_of_getElem? hx)) HSZ.out
      have Hst := Lib.hid (midT_step ([], 0, 0, 0, false, false) hx)
      have Hb0 := Lib.hid hb
      obtain ⟨x0, x1, x2, x3, x4, x5⟩ := x
      obtain ⟨b, o, _, es, e, _, _, lt, c, x⟩ := row_rd HR.out hx
      cases e
      have hrx := x
      obtain ⟨ax0, px0, rfl, _⟩ := mst_form x
      have g0 : w.cell? ⟨b, o + j * 6, none⟩ = some (.slice ax0 x0.length px0) := c 0 _ rfl
      have g1 : w.cell? ⟨b, o + j * 6 + 1, none⟩ = some (.int .i64 x1) := c 1 _ rfl
      have g2 : w.cell? ⟨b, o + j * 6 + 2, none⟩ = some (.int .i64 x2) := c 2 _ rfl
      have g3 : w.cell? ⟨b, o + j * 6 + 3, none⟩ = some (.int .i64 x3) := c 3 _ rfl
      have g4 : w.cell? ⟨b, o + j * 6 + 4, none⟩ = some (.bool x4) := c 4 _ rfl
      have g5 : w.cell? ⟨b, o + j * 6 + 5, none⟩ = some (.bool x5) := c 5 _ rfl
      rw [← bel_cells hb lt] at g0 g1 g2 g3 g4 g5
      have Hx := Lib.hid (mstK.rd_later hrx hb)
      clear hx hrx c x hb
      obtain ⟨g, og, cg, es, E, eg, _, _, hgF, hgl, hes, hseg, _, hE, cont⟩ := row_at Ho.out (midT_at ([], 0, 0, 0, false, false) (by rw [HN.out]; exact hlt))
      rw [midT_len _ (by rw [HN.out]; omega), HN.out] at eg
      simp at eg
      obtain ⟨⟨rfl, rfl⟩, rfl⟩ := eg
      have hoff : 0 + j * mstK.n = j * 6 := by rw [Nat.zero_add]; rfl
      rw [hoff] at hseg cont
      obtain ⟨v0, v1, v2, v3, v4, v5, rfl⟩ : ∃ v0 v1 v2 v3 v4 v5, es = [v0, v1, v2, v3, v4, v5] := by
        match es, (show es.length = 6 from hes) with
        | [v0, v1, v2, v3, v4, v5], _ => exact ⟨_, _, _, _, _, _, rfl⟩
      have Hseg := Lib.hid hseg
      have Cont := Lib.hid cont
      clear hseg cont hE hes
      go_wp2_with fail
      refine (toMst [.slice ax0 x0.length px0, .int .i64 x1, .int .i64 x2, .int .i64 x3, .bool x4, .bool x5] (x0, x1, x2, x3, x4, x5) _ hsx Hx.out).mono ?_
      rintro e w2 ⟨us, he, hc, hb2⟩
      obtain ⟨bx0, qx0, rfl, _⟩ := mst_form (mstK.cap_rd hc)
      obtain rfl : e = .returned (.agg #[.slice bx0 x0.length qx0, .int .i64 x1, .int .i64 x2, .int .i64 x3, .bool x4, .bool x5]) := he
      have hs2 := Hseg.out.later hb2
      have f0 := hs2.cell 0 _ rfl (n := j * 6) rfl
      have f1 := hs2.cell 1 _ rfl (n := j * 6 + 1) rfl
      have f2 := hs2.cell 2 _ rfl (n := j * 6 + 2) rfl
      have f3 := hs2.cell 3 _ rfl (n := j * 6 + 3) rfl
      have f4 := hs2.cell 4 _ rfl (n := j * 6 + 4) rfl
      have f5 := hs2.cell 5 _ rfl (n := j * 6 + 5) rfl
      have z0 := hs2.warm (j * 6)
      have z1 := hs2.warm (j * 6 + 1)
      have z2 := hs2.warm (j * 6 + 2)
      have z3 := hs2.warm (j * 6 + 3)
      have z4 := hs2.warm (j * 6 + 4)
      have z5 := hs2.warm (j * 6 + 5)
      have Hch := Lib.hid ((((((((Chg.refl w.heap.size (j * 6) (j * 6 + mstK.n) E wr).later hb2).set (n := j * 6) (by omega) (by show _ < j * 6 + 6; omega) (.slice bx0 x0.length qx0)).set (n := j * 6 + 1) (by omega) (by show _ < j * 6 + 6; omega) (.int .i64 x1)).set (n := j * 6 + 2) (by omega) (by show _ < j * 6 + 6; omega) (.int .i64 x2)).set (n := j * 6 + 3) (by omega) (by show _ < j * 6 + 6; omega) (.int .i64 x3)).set (n := j * 6 + 4) (by omega) (by show _ < j * 6 + 6; omega) (.bool x4)).set (n := j * 6 + 5) (by omega) (by show _ < j * 6 + 6; omega) (.bool x5))
      have Hsg := Lib.hid (((((((hs2.set 0 (.slice bx0 x0.length qx0) (n := j * 6) rfl).set 1 (.int .i64 x1) (n := j * 6 + 1) rfl).set 2 (.int .i64 x2) (n := j * 6 + 2) rfl).set 3 (.int .i64 x3) (n := j * 6 + 3) rfl).set 4 (.bool x4) (n := j * 6 + 4) rfl).set 5 (.bool x5) (n := j * 6 + 5) rfl))
      have Hc := Lib.hid hc
      have Hb2 := Lib.hid hb2
      clear hc hb2 hs2 g0 g1 g2 g3 g4 g5
      go_wp2_with fail
      go_roundw
      case rel =>
        refine ⟨j + 1, by omega, by go_num, ?_, ?_⟩
        · have ht : Turn (fun k => k = w.heap.size) w2 _ := ((((((Turn.refl (fun k => k = w.heap.size) w2).set (p := ⟨w.heap.size, j * 6, none⟩) rfl (.slice bx0 x0.length qx0)).set (p := ⟨w.heap.size, j * 6 + 1, none⟩) rfl (.int .i64 x1)).set (p := ⟨w.heap.size, j * 6 + 2, none⟩) rfl (.int .i64 x2)).set (p := ⟨w.heap.size, j * 6 + 3, none⟩) rfl (.int .i64 x3)).set (p := ⟨w.heap.size, j * 6 + 4, none⟩) rfl (.bool x4)).set (p := ⟨w.heap.size, j * 6 + 5, none⟩) rfl (.bool x5)
          rw [← Hst.out]
          exact mstS.cap_wide (Cont.out _ [.slice bx0 x0.length qx0, .int .i64 x1, .int .i64 x2, .int .i64 x3, .bool x4, .bool x5] (x0, x1, x2, x3, x4, x5) (fun k => wr.heap.size ≤ k) Hch.out Hsg.out rfl (mstK.cap_turn Hc.out ht (fun k _ hk he => by omega)) (fun k hk => .inr hk)) (fun k _ hk => by rcases hk with h | h <;> omega)
        · iterate 6 refine Below.setCell ?_ (by exact Nat.le_refl _) _
          exact Hb0.out.trans (Hb2.out.mono Hb0.out.size)
      case measure => simp [intOf]; omega
    · obtain rfl : j = n := by omega
      go_wp2
      go_ret
      refine ⟨[_], rfl, ?_, hb⟩
      have h := Ho.out
      rw [← HN.out, midT_all] at h
      rw [← HN.out]
      exact h
set_option maxHeartbeats 4000000 in
set_option maxRecDepth 100000 in
theorem eqMstS : EqC mstS one 44 := by
  intro cs ds l w hs hr hr2
  obtain ⟨ad, cp, rfl, hl1, hl2⟩ := row_form hr
  obtain ⟨bd, dp, rfl, _, _⟩ := row_form hr2
  have HR := Lib.hid hr
  have HR2 := Lib.hid hr2
  have hln : l.length ≤ 2000000 := Nat.le_trans (szL_len mstK l) hs
  have HSZ := Lib.hid (show szL mstK l ≤ 2000000 from hs)
  obtain ⟨n, hn⟩ : ∃ n, l.length = n := ⟨_, rfl⟩
  have HN := Lib.hid hn
  rw [hn] at hln ⊢
  clear hr hr2 hn hl1 hl2 hs
  have hne : (((n : Nat) : Int) != ((n : Nat) : Int)) = false := by simp
  show Calls _ _ #[.slice ad n cp, .slice bd n dp] w _
  go_enter Tryz.func44, Tryz.ntmps44
  go_wp2
  go_loopw [5] (fun i wr => ∃ j : Nat, j ≤ n ∧ i = .int .i64 j ∧ Below w.heap.size w wr) (fun i _ => n - (intOf i).toNat)
  case atStart => exact ⟨0, by omega, rfl, Below.refl _ _⟩
  case round =>
    obtain ⟨j, hj, rfl, hb⟩ := hrel
    by_cases hlt : j < n
    · obtain ⟨x, hx⟩ := get_of (l := l) (i := j) (by rw [HN.out]; exact hlt)
      have hsx : mstK.sz x ≤ 2000000 := Nat.le_trans (szL_mem mstK (List.mem_of_getElem? hx)) HSZ.out
      have Hb0 := Lib.hid hb
      obtain ⟨x0, x1, x2, x3, x4, x5⟩ := x
      obtain ⟨lb, lo, _, les, el, _, _, llt, lc, lx⟩ := row_rd HR.out hx
      cases el
      have lr := lx
      obtain ⟨ax0, px0, rfl, _⟩ := mst_form lx
      have g0 : w.cell? ⟨lb, lo + j * 6, none⟩ = some (.slice ax0 x0.length px0) := lc 0 _ rfl
      have g1 : w.cell? ⟨lb, lo + j * 6 + 1, none⟩ = some (.int .i64 x1) := lc 1 _ rfl
      have g2 : w.cell? ⟨lb, lo + j * 6 + 2, none⟩ = some (.int .i64 x2) := lc 2 _ rfl
      have g3 : w.cell? ⟨lb, lo + j * 6 + 3, none⟩ = some (.int .i64 x3) := lc 3 _ rfl
      have g4 : w.cell? ⟨lb, lo + j * 6 + 4, none⟩ = some (.bool x4) := lc 4 _ rfl
      have g5 : w.cell? ⟨lb, lo + j * 6 + 5, none⟩ = some (.bool x5) := lc 5 _ rfl
      rw [← bel_cells hb llt] at g0 g1 g2 g3 g4 g5
      obtain ⟨mb, mo, _, mes, em, _, _, mlt, mc, mx⟩ := row_rd HR2.out hx
      cases em
      have mr := mx
      obtain ⟨bx0, qx0, rfl, _⟩ := mst_form mx
      have k0 : w.cell? ⟨mb, mo + j * 6, none⟩ = some (.slice bx0 x0.length qx0) := mc 0 _ rfl
      have k1 : w.cell? ⟨mb, mo + j * 6 + 1, none⟩ = some (.int .i64 x1) := mc 1 _ rfl
      have k2 : w.cell? ⟨mb, mo + j * 6 + 2, none⟩ = some (.int .i64 x2) := mc 2 _ rfl
      have k3 : w.cell? ⟨mb, mo + j * 6 + 3, none⟩ = some (.int .i64 x3) := mc 3 _ rfl
      have k4 : w.cell? ⟨mb, mo + j * 6 + 4, none⟩ = some (.bool x4) := mc 4 _ rfl
      have k5 : w.cell? ⟨mb, mo + j * 6 + 5, none⟩ = some (.bool x5) := mc 5 _ rfl
      rw [← bel_cells hb mlt] at k0 k1 k2 k3 k4 k5
      have Hx := Lib.hid (mstK.rd_later lr hb)
      have Hy := Lib.hid (mstK.rd_later mr hb)
      clear hx lr mr lc mc lx mx hb
      replace g0 := fun d os => cell_regrown g0 d os
      replace k0 := fun d os => cell_regrown k0 d os
      replace g1 := fun d os => cell_regrown g1 d os
      replace k1 := fun d os => cell_regrown k1 d os
      replace g2 := fun d os => cell_regrown g2 d os
      replace k2 := fun d os => cell_regrown k2 d os
      replace g3 := fun d os => cell_regrown g3 d os
      replace k3 := fun d os => cell_regrown k3 d os
      replace g4 := fun d os => cell_regrown g4 d os
      replace k4 := fun d os => cell_regrown k4 d os
      replace g5 := fun d os => cell_regrown g5 d os
      replace k5 := fun d os => cell_regrown k5 d os
      go_wp2_with fail
      refine wp_region_quiet_below (by kernel_rfl) (by kernel_rfl) ?_
      repeat (go_big_quiet_step ((go_at_call 83; exact Calls.regrown_of (eqMst [.slice ax0 x0.length px0, .int .i64 x1, .int .i64 x2, .int .i64 x3, .bool x4, .bool x5] [.slice bx0 x0.length qx0, .int .i64 x1, .int .i64 x2, .int .i64 x3, .bool x4, .bool x5] (x0, x1, x2, x3, x4, x5) _ hsx (mstK.rd_later Hx.out (below_regrown wr _ _)) (mstK.rd_later Hy.out (below_regrown wr _ _))))))
      refine wpQuiet_nil ?_
      rintro _ ⟨⟨dq, osq⟩, rfl⟩
      have hbw := below_regrown wr dq osq
      generalize Sort.grow (redrawn wr dq) osq = w2 at hbw
      clear g0 k0 g1 k1 g2 k2 g3 k3 g4 k4 g5 k5
      go_wp2_with fail
      go_roundw
      case rel => exact ⟨j + 1, by omega, by go_num, Hb0.out.trans (hbw.mono Hb0.out.size)⟩
      case measure => simp [intOf]; omega
    · go_wp2
      go_ret
      exact ⟨rfl, hb⟩
end Go.Proofs.YtdhaelaoackfkaaGreat.KD
