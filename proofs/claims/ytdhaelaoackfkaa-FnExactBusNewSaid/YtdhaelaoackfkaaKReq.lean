
/-
  Req as data; what the laws' own functions do with it. (Made by wip/gk.py.)
-/
import Derived.Test.YtdhaelaoackfkaaKdI
import Derived.Test.YtdhaelaoackfkaaGRow
import Derived.Outline
namespace Go.Proofs.Ytdhaelaoackfkaa.KD
open Go.RowKit Rows3 GR
set_option linter.unusedVariables false

def reqK : Kn (Bool × Int × Int × Int × Bool × List Int) := prod bool (prod int (prod int (prod int (prod bool ints))))
theorem req_form {cs : List Value} {x0 : Bool} {x1 : Int} {x2 : Int} {x3 : Int} {x4 : Bool} {x5 : List Int} {w : World} (h : reqK.rd cs (x0, x1, x2, x3, x4, x5) w) :
    ∃ ax5 px5, cs = [.bool x0, .int .i64 x1, .int .i64 x2, .int .i64 x3, .bool x4, .slice ax5 x5.length px5] ∧ ints.rd [.slice ax5 x5.length px5] x5 w := by
  obtain ⟨c0, r0, rfl, h0, c1, r1, rfl, h1, c2, r2, rfl, h2, c3, r3, rfl, h3, c4, r4, rfl, h4, h5⟩ := h
  obtain rfl := h0
  obtain rfl := h1
  obtain rfl := h2
  obtain rfl := h3
  obtain rfl := h4
  have t5 := h5
  obtain ⟨ax5, px5, rfl, _⟩ := t5
  exact ⟨_, _, rfl, h5⟩
theorem req_rd {ux5 : Value} {x0 : Bool} {x1 : Int} {x2 : Int} {x3 : Int} {x4 : Bool} {x5 : List Int} {w : World} (hx5 : ints.rd [ux5] x5 w) : reqK.rd [.bool x0, .int .i64 x1, .int .i64 x2, .int .i64 x3, .bool x4, ux5] (x0, x1, x2, x3, x4, x5) w :=
  ⟨[.bool x0], _, rfl, rfl, ⟨[.int .i64 x1], _, rfl, rfl, ⟨[.int .i64 x2], _, rfl, rfl, ⟨[.int .i64 x3], _, rfl, rfl, ⟨[.bool x4], _, rfl, rfl, hx5⟩⟩⟩⟩⟩
theorem cap_req {F : Foot} {cs : List Value} {x0 : Bool} {x1 : Int} {x2 : Int} {x3 : Int} {x4 : Bool} {x5 : List Int} {w : World} (h : reqK.cap F cs (x0, x1, x2, x3, x4, x5) w) :
    ∃ ax5 px5 Fx5, cs = [.bool x0, .int .i64 x1, .int .i64 x2, .int .i64 x3, .bool x4, .slice ax5 x5.length px5] ∧ ints.cap Fx5 [.slice ax5 x5.length px5] x5 w ∧ (∀ k, Fx5 k → F k) := by
  obtain ⟨c0, r0, G0, D0, rfl, d0, e0, h0, c1, r1, G1, D1, rfl, d1, e1, h1, c2, r2, G2, D2, rfl, d2, e2, h2, c3, r3, G3, D3, rfl, d3, e3, h3, c4, r4, G4, D4, rfl, d4, e4, h4, h5⟩ := h
  obtain rfl := h0
  obtain rfl := h1
  obtain rfl := h2
  obtain rfl := h3
  obtain rfl := h4
  have t5 := h5
  obtain ⟨ax5, px5, rfl, _⟩ := t5
  exact ⟨_, _, D4, rfl, h5, fun k hk => (e0 k (e1 k (e2 k (e3 k (e4 k hk)))))⟩
theorem req_cap {F Fx5 : Foot} {ux5 : Value} {x0 : Bool} {x1 : Int} {x2 : Int} {x3 : Int} {x4 : Bool} {x5 : List Int} {w : World} (hx5 : ints.cap Fx5 [ux5] x5 w)
    (sx5 : ∀ k, Fx5 k → F k)  : reqK.cap F [.bool x0, .int .i64 x1, .int .i64 x2, .int .i64 x3, .bool x4, ux5] (x0, x1, x2, x3, x4, x5) w :=
  ⟨[.bool x0], _, (fun k => False), (fun k => Fx5 k), rfl, fun k hk => ⟨hk.elim, fun hk2 => hk.elim⟩, fun k hk => sx5 k hk, rfl, ⟨[.int .i64 x1], _, (fun k => False), (fun k => Fx5 k), rfl, fun k hk => ⟨hk.elim, fun hk2 => hk.elim⟩, fun k hk => hk, rfl, ⟨[.int .i64 x2], _, (fun k => False), (fun k => Fx5 k), rfl, fun k hk => ⟨hk.elim, fun hk2 => hk.elim⟩, fun k hk => hk, rfl, ⟨[.int .i64 x3], _, (fun k => False), (fun k => Fx5 k), rfl, fun k hk => ⟨hk.elim, fun hk2 => hk.elim⟩, fun k hk => hk, rfl, ⟨[.bool x4], _, (fun k => False), (fun k => Fx5 k), rfl, fun k hk => ⟨hk.elim, fun hk2 => hk.elim⟩, fun k hk => hk, rfl, hx5⟩⟩⟩⟩⟩
theorem req_mI (x0 : Bool) (x1 : Int) (x2 : Int) (x3 : Int) (x4 : Bool) (x5 : List Int) (k : Int) : reqK.mI (x0, x1, x2, x3, x4, x5) k = (((k) % 3 == 0), k + 1, k + 1 + 1, k + 1 + 1 + 1, ((k + 1 + 1 + 1 + 1) % 3 == 0), ints.mT x5 (k + 1 + 1 + 1 + 1 + 1)) := rfl
theorem req_cI (x0 : Bool) (x1 : Int) (x2 : Int) (x3 : Int) (x4 : Bool) (x5 : List Int) : reqK.cI (x0, x1, x2, x3, x4, x5) = 5 + ints.cT x5 := by
  show (1 + (1 + (1 + (1 + (1 + ints.cT x5))))) = _
  omega
theorem req_sz (x0 : Bool) (x1 : Int) (x2 : Int) (x3 : Int) (x4 : Bool) (x5 : List Int) : reqK.sz (x0, x1, x2, x3, x4, x5) = ints.sz x5 := by
  show 0 + (0 + (0 + (0 + (0 + ints.sz x5)))) = _
  omega
theorem req_cT (x0 : Bool) (x1 : Int) (x2 : Int) (x3 : Int) (x4 : Bool) (x5 : List Int) : reqK.cT (x0, x1, x2, x3, x4, x5) = ints.cT x5 := by
  show 0 + (0 + (0 + (0 + (0 + ints.cT x5)))) = _
  omega
theorem req_mT (x0 : Bool) (x1 : Int) (x2 : Int) (x3 : Int) (x4 : Bool) (x5 : List Int) (k : Int) : reqK.mT (x0, x1, x2, x3, x4, x5) k = (x0, x1, x2, x3, x4, ints.mT x5 (k)) := by
  show (x0, x1, x2, x3, x4, ints.mT x5 (k + ((0 : Nat) : Int) + ((0 : Nat) : Int) + ((0 : Nat) : Int) + ((0 : Nat) : Int) + ((0 : Nat) : Int))) = _
  simp
set_option maxRecDepth 100000 in
theorem szReq : SzC reqK agg 111 := by
  intro cs x L w hr h0 h1
  obtain ⟨x0, x1, x2, x3, x4, x5⟩ := x
  rw [req_sz]
  obtain ⟨ax5, px5, rfl, rx5⟩ := req_form hr
  have Rx5 := Lib.hid rx5
  clear hr rx5
  obtain ⟨n5, hn5⟩ : ∃ n, ints.sz x5 = n := ⟨_, rfl⟩
  rw [hn5]
  have B0 := Lib.hid (Bx.new 138 #[.bool x0, .int .i64 x1, .int .i64 x2, .int .i64 x3, .bool x4, .slice ax5 x5.length px5] w)
  have HB0 := Lib.hid ((Below.refl w.heap.size w).alloc (Nat.le_refl _) (Obj.cells #[.bool x0, .int .i64 x1, .int .i64 x2, .int .i64 x3, .bool x4, .slice ax5 x5.length px5] 138))
  show Calls _ _ #[.agg #[.bool x0, .int .i64 x1, .int .i64 x2, .int .i64 x3, .bool x4, .slice ax5 x5.length px5], .int .i64 L] w _
  obtain ⟨M0, hM0⟩ : ∃ M, szW L n5 = M := ⟨_, rfl⟩
  have hb0 := szW_bd L n5 (by omega)
  rw [hM0] at hb0
  have ht0 := hM0
  have HM0 : Hid (szW L (ints.sz x5) = M0) := Lib.hid (by rw [hn5]; exact hM0)
  have He := Lib.hid ht0
  clear hM0 ht0 hn5
  by_cases c0 : M0 < 0
  · obtain rfl : M0 = -1 := by omega
    go_enter Try.func111, Try.ntmps111
    go_wp2_with fail
    generalize w.alloc (Obj.cells #[.bool x0, .int .i64 x1, .int .i64 x2, .int .i64 x3, .bool x4, .slice ax5 x5.length px5] 138) = y0 at B0 HB0 ⊢
    refine (szIntS [.slice ax5 x5.length px5] x5 L _ (ints.rd_later Rx5.out HB0.out) (by omega) (by omega)).mono ?_
    rintro e y1 ⟨rfl, hb⟩
    rw [HM0.out]
    have B1 := Lib.hid (B0.out.later hb)
    have HB1 := Lib.hid (HB0.out.trans (hb.mono HB0.out.size))
    have g0 := B1.out.cell 0 _ rfl
    have g1 := B1.out.cell 1 _ rfl
    have g2 := B1.out.cell 2 _ rfl
    have g3 := B1.out.cell 3 _ rfl
    have g4 := B1.out.cell 4 _ rfl
    have g5 := B1.out.cell 5 _ rfl
    clear hb
    go_wp2
    go_ret
    exact ⟨by rw [He.out]; rfl, HB1.out⟩
  · skip
    go_enter Try.func111, Try.ntmps111
    go_wp2_with fail
    generalize w.alloc (Obj.cells #[.bool x0, .int .i64 x1, .int .i64 x2, .int .i64 x3, .bool x4, .slice ax5 x5.length px5] 138) = y0 at B0 HB0 ⊢
    refine (szIntS [.slice ax5 x5.length px5] x5 L _ (ints.rd_later Rx5.out HB0.out) (by omega) (by omega)).mono ?_
    rintro e y1 ⟨rfl, hb⟩
    rw [HM0.out]
    have B1 := Lib.hid (B0.out.later hb)
    have HB1 := Lib.hid (HB0.out.trans (hb.mono HB0.out.size))
    have g0 := B1.out.cell 0 _ rfl
    have g1 := B1.out.cell 1 _ rfl
    have g2 := B1.out.cell 2 _ rfl
    have g3 := B1.out.cell 3 _ rfl
    have g4 := B1.out.cell 4 _ rfl
    have g5 := B1.out.cell 5 _ rfl
    clear hb
    go_wp2
    go_ret
    exact ⟨by rw [He.out]; rfl, HB1.out⟩
set_option maxRecDepth 100000 in
theorem toReq : ToC reqK agg 112 := by
  intro cs x w hs hr
  obtain ⟨x0, x1, x2, x3, x4, x5⟩ := x
  rw [req_sz] at hs
  obtain ⟨ax5, px5, rfl, rx5⟩ := req_form hr
  have Rx5 := Lib.hid rx5
  clear hr rx5
  have hsz : ∀ (w : World) o, (w.alloc o).heap.size = w.heap.size + 1 := fun w o => by simp
  have A1 := Lib.hid (((Bx.new 138 #[.bool x0, .int .i64 x1, .int .i64 x2, .int .i64 x3, .bool x4, .slice ax5 x5.length px5] w).alloc (Obj.cells #[.bool false, .int .i64 0, .int .i64 0, .int .i64 0, .bool false, .slice none 0 0] 126)).alloc (Obj.cells #[.bool x0, .int .i64 x1, .int .i64 x2, .int .i64 x3, .bool x4, .slice none 0 0] 126))
  have A2 := (Bx.new 126 #[.bool false, .int .i64 0, .int .i64 0, .int .i64 0, .bool false, .slice none 0 0] (w.alloc (Obj.cells #[.bool x0, .int .i64 x1, .int .i64 x2, .int .i64 x3, .bool x4, .slice ax5 x5.length px5] 138))).alloc (Obj.cells #[.bool x0, .int .i64 x1, .int .i64 x2, .int .i64 x3, .bool x4, .slice none 0 0] 126)
  have A3 := Bx.new 126 #[.bool x0, .int .i64 x1, .int .i64 x2, .int .i64 x3, .bool x4, .slice none 0 0] ((w.alloc (Obj.cells #[.bool x0, .int .i64 x1, .int .i64 x2, .int .i64 x3, .bool x4, .slice ax5 x5.length px5] 138)).alloc (Obj.cells #[.bool false, .int .i64 0, .int .i64 0, .int .i64 0, .bool false, .slice none 0 0] 126))
  rw [hsz] at A2
  rw [hsz, hsz] at A3
  have HA2 := Lib.hid A2
  have HA3 := Lib.hid A3
  have HB0 := Lib.hid ((((Below.refl w.heap.size w).alloc (Nat.le_refl _) (Obj.cells #[.bool x0, .int .i64 x1, .int .i64 x2, .int .i64 x3, .bool x4, .slice ax5 x5.length px5] 138)).alloc (by simp) (Obj.cells #[.bool false, .int .i64 0, .int .i64 0, .int .i64 0, .bool false, .slice none 0 0] 126)).alloc (by simp; omega) (Obj.cells #[.bool x0, .int .i64 x1, .int .i64 x2, .int .i64 x3, .bool x4, .slice none 0 0] 126))
  have hn3 := size_alloc3 w (Obj.cells #[.bool x0, .int .i64 x1, .int .i64 x2, .int .i64 x3, .bool x4, .slice ax5 x5.length px5] 138) (Obj.cells #[.bool false, .int .i64 0, .int .i64 0, .int .i64 0, .bool false, .slice none 0 0] 126) (Obj.cells #[.bool x0, .int .i64 x1, .int .i64 x2, .int .i64 x3, .bool x4, .slice none 0 0] 126)
  have Hz0 : Hid (w.heap.size + 1 + 1 + 1 ≤ (((w.alloc (Obj.cells #[.bool x0, .int .i64 x1, .int .i64 x2, .int .i64 x3, .bool x4, .slice ax5 x5.length px5] 138)).alloc (Obj.cells #[.bool false, .int .i64 0, .int .i64 0, .int .i64 0, .bool false, .slice none 0 0] 126)).alloc (Obj.cells #[.bool x0, .int .i64 x1, .int .i64 x2, .int .i64 x3, .bool x4, .slice none 0 0] 126)).heap.size) := Lib.hid (by rw [hn3]; exact Nat.le_refl _)
  clear A2 A3 hsz hn3
  show Calls _ _ #[.agg #[.bool x0, .int .i64 x1, .int .i64 x2, .int .i64 x3, .bool x4, .slice ax5 x5.length px5]] w _
  go_enter Try.func112, Try.ntmps112
  go_wp2_with fail
  have X1_0 := A1
  have X2_0 := HA2
  have X3_0 := HA3
  clear A1 HA2 HA3
  generalize ((w.alloc (Obj.cells #[.bool x0, .int .i64 x1, .int .i64 x2, .int .i64 x3, .bool x4, .slice ax5 x5.length px5] 138)).alloc (Obj.cells #[.bool false, .int .i64 0, .int .i64 0, .int .i64 0, .bool false, .slice none 0 0] 126)).alloc (Obj.cells #[.bool x0, .int .i64 x1, .int .i64 x2, .int .i64 x3, .bool x4, .slice none 0 0] 126) = y0 at X1_0 X2_0 X3_0 HB0 Hz0 ⊢
  have HB_0 := HB0
  clear HB0
  refine (toIntS [.slice ax5 x5.length px5] x5 _ (by omega) (ints.rd_later Rx5.out HB_0.out)).mono ?_
  rintro e v1 ⟨us, he, hc, hb⟩
  obtain ⟨bx5, qx5, rfl, _⟩ := ints.cap_rd hc
  obtain rfl : e = .returned (.slice bx5 x5.length qx5) := he
  have Vx5 := Lib.hid (ints.cap_wide (ints.cap_top hc) (G := fun k => y0.heap.size ≤ k ∧ k < v1.heap.size) (fun k _ hk => hk))
  have W1 := Lib.hid (X1_0.out.later hb)
  have W2 := Lib.hid (X2_0.out.later hb)
  have W3 := Lib.hid (X3_0.out.later hb)
  have WB := Lib.hid (HB_0.out.trans (hb.mono HB_0.out.size))
  have Wz := Lib.hid (Nat.le_trans Hz0.out hb.size)
  have Ws := Lib.hid hb.size
  have Wy0 := Lib.hid Hz0.out
  clear hc hb
  have g0 := W3.out.cell 0 _ rfl
  have g1 := W3.out.cell 1 _ rfl
  have g2 := W3.out.cell 2 _ rfl
  have g3 := W3.out.cell 3 _ rfl
  have g4 := W3.out.cell 4 _ rfl
  have g5 := W3.out.cell 5 _ rfl
  have a0 := W1.out.cell 0 _ rfl
  have a1 := W1.out.cell 1 _ rfl
  have a2 := W1.out.cell 2 _ rfl
  have a3 := W1.out.cell 3 _ rfl
  have a4 := W1.out.cell 4 _ rfl
  have a5 := W1.out.cell 5 _ rfl
  have z0 := W3.out.warm 0
  have z1 := W3.out.warm 1
  have z2 := W3.out.warm 2
  have z3 := W3.out.warm 3
  have z4 := W3.out.warm 4
  have z5 := W3.out.warm 5
  have e0 := W2.out.cell 0 _ rfl
  have e1 := W2.out.cell 1 _ rfl
  have e2 := W2.out.cell 2 _ rfl
  have e3 := W2.out.cell 3 _ rfl
  have e4 := W2.out.cell 4 _ rfl
  have e5 := W2.out.cell 5 _ rfl
  have f0 := W2.out.warm 0
  have f1 := W2.out.warm 1
  have f2 := W2.out.warm 2
  have f3 := W2.out.warm 3
  have f4 := W2.out.warm 4
  have f5 := W2.out.warm 5
  go_wp2_with fail
  have Tx5 : Hid (∀ w2, Turn (fun k => k = w.heap.size + 1 + 1 ∨ k = w.heap.size + 1) v1 w2 → ints.cap (fun k => y0.heap.size ≤ k ∧ k < v1.heap.size) [.slice bx5 x5.length qx5] x5 w2) := Lib.hid (fun w2 ht => ints.cap_turn Vx5.out ht (fun k _ hk he => by have h1 := Wy0.out; have h2 : y0.heap.size ≤ k := hk.1; omega))
  refine bodyPost_ret (v := .agg #[.bool x0, .int .i64 x1, .int .i64 x2, .int .i64 x3, .bool x4, .slice bx5 x5.length qx5]) (by simp [results, Try.results112, go_sem, e0, e1, e2, e3, e4, e5]) rfl ⟨[.bool x0, .int .i64 x1, .int .i64 x2, .int .i64 x3, .bool x4, .slice bx5 x5.length qx5], rfl, ?_, ?_⟩
  · have ht : ∀ {w2 : World}, Turn (fun k => k = w.heap.size + 1 + 1 ∨ k = w.heap.size + 1) v1 w2 → reqK.cap (fun k => w.heap.size ≤ k) [.bool x0, .int .i64 x1, .int .i64 x2, .int .i64 x3, .bool x4, .slice bx5 x5.length qx5] (x0, x1, x2, x3, x4, x5) w2 := fun {w2} ht => by
      have tx5 := Tx5.out w2 ht
      exact req_cap tx5 (fun k hk => by have h1 := Wy0.out; have h2 : y0.heap.size ≤ k := (hk).1; omega) 
    refine ht ?_
    iterate 7 refine Turn.set ?_ (by simp) _
    exact Turn.refl _ _
  · iterate 7 refine Below.setCell ?_ (by dsimp only; omega) _
    exact WB.out
set_option maxRecDepth 100000 in
theorem eqReq : EqC reqK agg 110 := by
  intro cs ds x w hs hr hr2
  obtain ⟨x0, x1, x2, x3, x4, x5⟩ := x
  rw [req_sz] at hs
  obtain ⟨ax5, px5, rfl, rx5⟩ := req_form hr
  have Rx5 := Lib.hid rx5
  clear hr rx5
  obtain ⟨bx5, qx5, rfl, sx5⟩ := req_form hr2
  have Sx5 := Lib.hid sx5
  clear hr2 sx5
  have hsz : ∀ (w : World) o, (w.alloc o).heap.size = w.heap.size + 1 := fun w o => by simp
  have A0 := Lib.hid ((Bx.new 126 #[.bool x0, .int .i64 x1, .int .i64 x2, .int .i64 x3, .bool x4, .slice ax5 x5.length px5] w).alloc (Obj.cells #[.bool x0, .int .i64 x1, .int .i64 x2, .int .i64 x3, .bool x4, .slice bx5 x5.length qx5] 126))
  have B0 := Bx.new 126 #[.bool x0, .int .i64 x1, .int .i64 x2, .int .i64 x3, .bool x4, .slice bx5 x5.length qx5] (w.alloc (Obj.cells #[.bool x0, .int .i64 x1, .int .i64 x2, .int .i64 x3, .bool x4, .slice ax5 x5.length px5] 126))
  rw [hsz] at B0
  have X0 := Lib.hid B0
  clear B0 hsz
  have HB0 := Lib.hid (((Below.refl w.heap.size w).alloc (Nat.le_refl _) (Obj.cells #[.bool x0, .int .i64 x1, .int .i64 x2, .int .i64 x3, .bool x4, .slice ax5 x5.length px5] 126)).alloc (by simp) (Obj.cells #[.bool x0, .int .i64 x1, .int .i64 x2, .int .i64 x3, .bool x4, .slice bx5 x5.length qx5] 126))
  have nx0 : (x0 != x0) = false := by simp
  have nx1 : (x1 != x1) = false := by simp
  have nx2 : (x2 != x2) = false := by simp
  have nx3 : (x3 != x3) = false := by simp
  have nx4 : (x4 != x4) = false := by simp
  show Calls _ _ #[.agg #[.bool x0, .int .i64 x1, .int .i64 x2, .int .i64 x3, .bool x4, .slice ax5 x5.length px5], .agg #[.bool x0, .int .i64 x1, .int .i64 x2, .int .i64 x3, .bool x4, .slice bx5 x5.length qx5]] w _
  go_enter Try.func110, Try.ntmps110
  go_wp2_with fail
  generalize (w.alloc (Obj.cells #[.bool x0, .int .i64 x1, .int .i64 x2, .int .i64 x3, .bool x4, .slice ax5 x5.length px5] 126)).alloc (Obj.cells #[.bool x0, .int .i64 x1, .int .i64 x2, .int .i64 x3, .bool x4, .slice bx5 x5.length qx5] 126) = y0 at A0 X0 HB0 ⊢
  refine (eqIntS [.slice ax5 x5.length px5] [.slice bx5 x5.length qx5] x5 _ (by omega) (ints.rd_later Rx5.out HB0.out) (ints.rd_later Sx5.out HB0.out)).mono ?_
  rintro e y1 ⟨rfl, hb⟩
  have A1 := Lib.hid (A0.out.later hb)
  have X1 := Lib.hid (X0.out.later hb)
  have HB1 := Lib.hid (HB0.out.trans (hb.mono HB0.out.size))
  clear hb
  have g0 := A1.out.cell 0 _ rfl
  have g1 := A1.out.cell 1 _ rfl
  have g2 := A1.out.cell 2 _ rfl
  have g3 := A1.out.cell 3 _ rfl
  have g4 := A1.out.cell 4 _ rfl
  have g5 := A1.out.cell 5 _ rfl
  have k0 := X1.out.cell 0 _ rfl
  have k1 := X1.out.cell 1 _ rfl
  have k2 := X1.out.cell 2 _ rfl
  have k3 := X1.out.cell 3 _ rfl
  have k4 := X1.out.cell 4 _ rfl
  have k5 := X1.out.cell 5 _ rfl
  go_wp2
  go_ret
  exact ⟨rfl, HB1.out⟩
end Go.Proofs.Ytdhaelaoackfkaa.KD
