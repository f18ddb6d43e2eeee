
/-
  Req as data; what the laws' own functions do with it. (Made by wip/gk.py.)
-/
import Derived.Test.YtfpnflhkfpolcaaGreatDoorKdI
import Derived.Test.YtfpnflhkfpolcaaGreatDoorGRow
import Derived.Outline
namespace Go.Proofs.YtfpnflhkfpolcaaGreatDoor.KD
open Go.RowKit Rows3 GR
set_option linter.unusedVariables false

def reqK : Kn (Bool × Int × Int × Int × Bool × List Int) := prod bool (prod int (prod int (prod int (prod bool ints))))
theorem req_form {cs : List Value} {x0 : Bool} {x1 : Int} {x2 : Int} {x3 : Int} {x4 : Bool} {x5 : List Int} {w : World} (h : reqK.rd cs (x0, x1, x2, x3, x4, x5) w) :
    ∃ ax5 px5, cs = [.bool x0, .int .i64 x1, .int .i64 x2, .int .i64 x3, .bool x4, .slice ax5 x5.length px5] ∧ ints.rd [.slice ax5 x5.length px5] x5 w := by
  obtain ⟨c0, r0, rfl, h0, c1, r1, rfl, h1, c2, r2, rfl, h2, c3, r3, rfl, h3, c4, r4, rfl, h4, h5⟩ := h
  obtain rfl := h0
  obtain rfl := h1
  obtain rfl := h2
  obtain rfl := h3
  obtain rfl := h4
  have t5 := h5
  obtain ⟨ax5, px5, rfl, _⟩ := t5
  exact ⟨_, _, rfl, h5⟩
theorem req_rd {ux5 : Value} {x0 : Bool} {x1 : Int} {x2 : Int} {x3 : Int} {x4 : Bool} {x5 : List Int} {w : World} (hx5 : ints.rd [ux5] x5 w) : reqK.rd [.bool x0, .int .i64 x1, .int .i64 x2, .int .i64 x3, .bool x4, ux5] (x0, x1, x2, x3, x4, x5) w :=
  ⟨[.bool x0], _, rfl, rfl, ⟨[.int .i64 x1], _, rfl, rfl, ⟨[.int .i64 x2], _, rfl, rfl, ⟨[.int .i64 x3], _, rfl, rfl, ⟨[.bool x4], _, rfl, rfl, hx5⟩⟩⟩⟩⟩
theorem cap_req {F : Foot} {cs : List Value} {x0 : Bool} {x1 : Int} {x2 : Int} {x3 : Int} {x4 : Bool} {x5 : List Int} {w : World} (h : reqK.cap F cs (x0, x1, x2, x3, x4, x5) w) :
    ∃ ax5 px5 Fx5, cs = [.bool x0, .int .i64 x1, .int .i64 x2, .int .i64 x3, .bool x4, .slice ax5 x5.length px5] ∧ ints.cap Fx5 [.slice ax5 x5.length px5] x5 w ∧ (∀ k, Fx5 k → F k) := by
  obtain ⟨c0, r0, G0, D0, rfl, d0, e0, h0, c1, r1, G1, D1, rfl, d1, e1, h1, c2, r2, G2, D2, rfl, d2, e2, h2, c3, r3, G3, D3, rfl, d3, e3, h3, c4, r4, G4, D4, rfl, d4, e4, h4, h5⟩ := h
  obtain rfl := h0
  obtain rfl := h1
  obtain rfl := h2
  obtain rfl := h3
  obtain rfl := h4
  have t5 := h5
  obtain ⟨ax5, px5, rfl, _⟩ := t5
  exact ⟨_, _, D4, rfl, h5, fun k hk => (e0 k (e1 k (e2 k (e3 k (e4 k hk)))))⟩
theorem req_cap {F Fx5 : Foot} {ux5 : Value} {x0 : Bool} {x1 : Int} {x2 : Int} {x3 : Int} {x4 : Bool} {x5 : List Int} {w : World} (hx5 : ints.cap Fx5 [ux5] x5 w)
    (sx5 : ∀ k, Fx5 k → F k)  : reqK.cap F [.bool x0, .int .i64 x1, .int .i64 x2, .int .i64 x3, .bool x4, ux5] (x0, x1, x2, x3, x4, x5) w :=
  ⟨[.bool x0], _, (fun k => False), (fun k => Fx5 k), rfl, fun k hk => ⟨hk.elim, fun hk2 => hk.elim⟩, fun k hk => sx5 k hk, rfl, ⟨[.int .i64 x1], _, (fun k => False), (fun k => Fx5 k), rfl, fun k hk => ⟨hk.elim, fun hk2 => hk.elim⟩, fun k hk => hk, rfl, ⟨[.int .i64 x2], _, (fun k => False), (fun k => Fx5 k), rfl, fun k hk => ⟨hk.elim, fun hk2 => hk.elim⟩, fun k hk => hk, rfl, ⟨[.int .i64 x3], _, (fun k => False), (fun k => Fx5 k), rfl, fun k hk => ⟨hk.elim, fun hk2 => hk.elim⟩, fun k hk => hk, rfl, ⟨[.bool x4], _, (fun k => False), (fun k => Fx5 k), rfl, fun k hk => ⟨hk.elim, fun hk2 => hk.elim⟩, fun k hk => hk, rfl, hx5⟩⟩⟩⟩⟩
theorem req_mI (x0 : Bool) (x1 : Int) (x2 : Int) (x3 : Int) (x4 : Bool) (x5 : List Int) (k : Int) : reqK.mI (x0, x1, x2, x3, x4, x5) k = (((k) % 3 == 0), k + 1, k + 1 + 1, k + 1 + 1 + 1, ((k + 1 + 1 + 1 + 1) % 3 == 0), ints.mT x5 (k + 1 + 1 + 1 + 1 + 1)) := rfl
theorem req_cI (x0 : Bool) (x1 : Int) (x2 : Int) (x3 : Int) (x4 : Bool) (x5 : List Int) : reqK.cI (x0, x1, x2, x3, x4, x5) = 5 + ints.cT x5 := by
  show (1 + (1 + (1 + (1 + (1 + ints.cT x5))))) = _
  omega
theorem req_sz (x0 : Bool) (x1 : Int) (x2 : Int) (x3 : Int) (x4 : Bool) (x5 : List Int) : reqK.sz (x0, x1, x2, x3, x4, x5) = ints.sz x5 := by
  show 0 + (0 + (0 + (0 + (0 + ints.sz x5)))) = _
  omega
theorem req_cT (x0 : Bool) (x1 : Int) (x2 : Int) (x3 : Int) (x4 : Bool) (x5 : List Int) : reqK.cT (x0, x1, x2, x3, x4, x5) = ints.cT x5 := by
  show 0 + (0 + (0 + (0 + (0 + ints.cT x5)))) = _
  omega
theorem req_mT (x0 : Bool) (x1 : Int) (x2 : Int) (x3 : Int) (x4 : Bool) (x5 : List Int) (k : Int) : reqK.mT (x0, x1, x2, x3, x4, x5) k = (x0, x1, x2, x3, x4, ints.mT x5 (k)) := by
  show (x0, x1, x2, x3, x4, ints.mT x5 (k + ((0 : Nat) : Int) + ((0 : Nat) : Int) + ((0 : Nat) : Int) + ((0 : Nat) : Int) + ((0 : Nat) : Int))) = _
  simp
set_option maxRecDepth 100000 in
theorem eqReq : EqC reqK agg 38 := by
  intro cs ds x w hs hr hr2
  obtain ⟨x0, x1, x2, x3, x4, x5⟩ := x
  rw [req_sz] at hs
  obtain ⟨ax5, px5, rfl, rx5⟩ := req_form hr
  have Rx5 := Lib.hid rx5
  clear hr rx5
  obtain ⟨bx5, qx5, rfl, sx5⟩ := req_form hr2
  have Sx5 := Lib.hid sx5
  clear hr2 sx5
  have hsz : ∀ (w : World) o, (w.alloc o).heap.size = w.heap.size + 1 := fun w o => by simp
  have A0 := Lib.hid ((Bx.new 35 #[.bool x0, .int .i64 x1, .int .i64 x2, .int .i64 x3, .bool x4, .slice ax5 x5.length px5] w).alloc (Obj.cells #[.bool x0, .int .i64 x1, .int .i64 x2, .int .i64 x3, .bool x4, .slice bx5 x5.length qx5] 35))
  have B0 := Bx.new 35 #[.bool x0, .int .i64 x1, .int .i64 x2, .int .i64 x3, .bool x4, .slice bx5 x5.length qx5] (w.alloc (Obj.cells #[.bool x0, .int .i64 x1, .int .i64 x2, .int .i64 x3, .bool x4, .slice ax5 x5.length px5] 35))
  rw [hsz] at B0
  have X0 := Lib.hid B0
  clear B0 hsz
  have HB0 := Lib.hid (((Below.refl w.heap.size w).alloc (Nat.le_refl _) (Obj.cells #[.bool x0, .int .i64 x1, .int .i64 x2, .int .i64 x3, .bool x4, .slice ax5 x5.length px5] 35)).alloc (by simp) (Obj.cells #[.bool x0, .int .i64 x1, .int .i64 x2, .int .i64 x3, .bool x4, .slice bx5 x5.length qx5] 35))
  have nx0 : (x0 != x0) = false := by simp
  have nx1 : (x1 != x1) = false := by simp
  have nx2 : (x2 != x2) = false := by simp
  have nx3 : (x3 != x3) = false := by simp
  have nx4 : (x4 != x4) = false := by simp
  show Calls _ _ #[.agg #[.bool x0, .int .i64 x1, .int .i64 x2, .int .i64 x3, .bool x4, .slice ax5 x5.length px5], .agg #[.bool x0, .int .i64 x1, .int .i64 x2, .int .i64 x3, .bool x4, .slice bx5 x5.length qx5]] w _
  go_enter Tryz.func38, Tryz.ntmps38
  go_wp2_with fail
  generalize (w.alloc (Obj.cells #[.bool x0, .int .i64 x1, .int .i64 x2, .int .i64 x3, .bool x4, .slice ax5 x5.length px5] 35)).alloc (Obj.cells #[.bool x0, .int .i64 x1, .int .i64 x2, .int .i64 x3, .bool x4, .slice bx5 x5.length qx5] 35) = y0 at A0 X0 HB0 ⊢
  refine (eqIntS [.slice ax5 x5.length px5] [.slice bx5 x5.length qx5] x5 _ (by omega) (ints.rd_later Rx5.out HB0.out) (ints.rd_later Sx5.out HB0.out)).mono ?_
  rintro e y1 ⟨rfl, hb⟩
  have A1 := Lib.hid (A0.out.later hb)
  have X1 := Lib.hid (X0.out.later hb)
  have HB1 := Lib.hid (HB0.out.trans (hb.mono HB0.out.size))
  clear hb
  have g0 := A1.out.cell 0 _ rfl
  have g1 := A1.out.cell 1 _ rfl
  have g2 := A1.out.cell 2 _ rfl
  have g3 := A1.out.cell 3 _ rfl
  have g4 := A1.out.cell 4 _ rfl
  have g5 := A1.out.cell 5 _ rfl
  have k0 := X1.out.cell 0 _ rfl
  have k1 := X1.out.cell 1 _ rfl
  have k2 := X1.out.cell 2 _ rfl
  have k3 := X1.out.cell 3 _ rfl
  have k4 := X1.out.cell 4 _ rfl
  have k5 := X1.out.cell 5 _ rfl
  go_wp2
  go_ret
  exact ⟨rfl, HB1.out⟩
end Go.Proofs.YtfpnflhkfpolcaaGreatDoor.KD
