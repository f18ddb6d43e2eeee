
/-
  Post as data; what the laws' own functions do with it. (Made by wip/gk.py.)
-/
import Derived.Test.YtfpnflhkfpolcaaGreatDoorKReq
import Derived.Test.YtfpnflhkfpolcaaGreatDoorGRow
import Derived.Outline
namespace Go.Proofs.YtfpnflhkfpolcaaGreatDoor.KD
open Go.RowKit Rows3 GR
set_option linter.unusedVariables false

def postK : Kn (Int × Int × (Bool × Int × Int × Int × Bool × List Int)) := prod int (prod int reqK)
theorem post_form {cs : List Value} {x0 : Int} {x1 : Int} {x20 : Bool} {x21 : Int} {x22 : Int} {x23 : Int} {x24 : Bool} {x25 : List Int} {w : World} (h : postK.rd cs (x0, x1, (x20, x21, x22, x23, x24, x25)) w) :
    ∃ ax25 px25, cs = [.int .i64 x0, .int .i64 x1, .bool x20, .int .i64 x21, .int .i64 x22, .int .i64 x23, .bool x24, .slice ax25 x25.length px25] ∧ ints.rd [.slice ax25 x25.length px25] x25 w := by
  obtain ⟨c0, r0, rfl, h0, c1, r1, rfl, h1, h2⟩ := h
  obtain rfl := h0
  obtain rfl := h1
  obtain ⟨ax25, px25, rfl, qx25⟩ := req_form h2
  exact ⟨_, _, rfl, qx25⟩
theorem post_rd {ux25 : Value} {x0 : Int} {x1 : Int} {x20 : Bool} {x21 : Int} {x22 : Int} {x23 : Int} {x24 : Bool} {x25 : List Int} {w : World} (hx25 : ints.rd [ux25] x25 w) : postK.rd [.int .i64 x0, .int .i64 x1, .bool x20, .int .i64 x21, .int .i64 x22, .int .i64 x23, .bool x24, ux25] (x0, x1, (x20, x21, x22, x23, x24, x25)) w :=
  ⟨[.int .i64 x0], _, rfl, rfl, ⟨[.int .i64 x1], _, rfl, rfl, req_rd hx25⟩⟩
theorem cap_post {F : Foot} {cs : List Value} {x0 : Int} {x1 : Int} {x20 : Bool} {x21 : Int} {x22 : Int} {x23 : Int} {x24 : Bool} {x25 : List Int} {w : World} (h : postK.cap F cs (x0, x1, (x20, x21, x22, x23, x24, x25)) w) :
    ∃ ax25 px25 Fx25, cs = [.int .i64 x0, .int .i64 x1, .bool x20, .int .i64 x21, .int .i64 x22, .int .i64 x23, .bool x24, .slice ax25 x25.length px25] ∧ ints.cap Fx25 [.slice ax25 x25.length px25] x25 w ∧ (∀ k, Fx25 k → F k) := by
  obtain ⟨c0, r0, G0, D0, rfl, d0, e0, h0, c1, r1, G1, D1, rfl, d1, e1, h1, h2⟩ := h
  obtain rfl := h0
  obtain rfl := h1
  obtain ⟨ax25, px25, Fx25, rfl, qx25, sx25⟩ := cap_req h2
  exact ⟨_, _, Fx25, rfl, qx25, fun k hk => (e0 k (e1 k (sx25 k hk)))⟩
theorem post_cap {F Fx25 : Foot} {ux25 : Value} {x0 : Int} {x1 : Int} {x20 : Bool} {x21 : Int} {x22 : Int} {x23 : Int} {x24 : Bool} {x25 : List Int} {w : World} (hx25 : ints.cap Fx25 [ux25] x25 w)
    (sx25 : ∀ k, Fx25 k → F k)  : postK.cap F [.int .i64 x0, .int .i64 x1, .bool x20, .int .i64 x21, .int .i64 x22, .int .i64 x23, .bool x24, ux25] (x0, x1, (x20, x21, x22, x23, x24, x25)) w :=
  ⟨[.int .i64 x0], _, (fun k => False), (fun k => Fx25 k), rfl, fun k hk => ⟨hk.elim, fun hk2 => hk.elim⟩, fun k hk => sx25 k hk, rfl, ⟨[.int .i64 x1], _, (fun k => False), (fun k => Fx25 k), rfl, fun k hk => ⟨hk.elim, fun hk2 => hk.elim⟩, fun k hk => hk, rfl, req_cap hx25 (fun k hk => hk) ⟩⟩
theorem post_mI (x0 : Int) (x1 : Int) (x20 : Bool) (x21 : Int) (x22 : Int) (x23 : Int) (x24 : Bool) (x25 : List Int) (k : Int) : postK.mI (x0, x1, (x20, x21, x22, x23, x24, x25)) k = (k, k + 1, (((k + 1 + 1) % 3 == 0), k + 1 + 1 + 1, k + 1 + 1 + 1 + 1, k + 1 + 1 + 1 + 1 + 1, ((k + 1 + 1 + 1 + 1 + 1 + 1) % 3 == 0), ints.mT x25 (k + 1 + 1 + 1 + 1 + 1 + 1 + 1))) := rfl
theorem post_cI (x0 : Int) (x1 : Int) (x20 : Bool) (x21 : Int) (x22 : Int) (x23 : Int) (x24 : Bool) (x25 : List Int) : postK.cI (x0, x1, (x20, x21, x22, x23, x24, x25)) = 7 + ints.cT x25 := by
  show (1 + (1 + (1 + (1 + (1 + (1 + (1 + ints.cT x25))))))) = _
  omega
theorem post_sz (x0 : Int) (x1 : Int) (x20 : Bool) (x21 : Int) (x22 : Int) (x23 : Int) (x24 : Bool) (x25 : List Int) : postK.sz (x0, x1, (x20, x21, x22, x23, x24, x25)) = reqK.sz (x20, x21, x22, x23, x24, x25) := by
  show 0 + (0 + reqK.sz (x20, x21, x22, x23, x24, x25)) = _
  omega
theorem post_cT (x0 : Int) (x1 : Int) (x20 : Bool) (x21 : Int) (x22 : Int) (x23 : Int) (x24 : Bool) (x25 : List Int) : postK.cT (x0, x1, (x20, x21, x22, x23, x24, x25)) = reqK.cT (x20, x21, x22, x23, x24, x25) := by
  show 0 + (0 + reqK.cT (x20, x21, x22, x23, x24, x25)) = _
  omega
theorem post_mT (x0 : Int) (x1 : Int) (x20 : Bool) (x21 : Int) (x22 : Int) (x23 : Int) (x24 : Bool) (x25 : List Int) (k : Int) : postK.mT (x0, x1, (x20, x21, x22, x23, x24, x25)) k = (x0, x1, reqK.mT (x20, x21, x22, x23, x24, x25) (k)) := by
  show (x0, x1, reqK.mT (x20, x21, x22, x23, x24, x25) (k + ((0 : Nat) : Int) + ((0 : Nat) : Int))) = _
  simp
set_option maxRecDepth 100000 in
theorem eqPost : EqC postK agg 30 := by
  intro cs ds x w hs hr hr2
  obtain ⟨x0, x1, ⟨x20, x21, x22, x23, x24, x25⟩⟩ := x
  rw [post_sz] at hs
  obtain ⟨ax25, px25, rfl, rx25⟩ := post_form hr
  have Rx25 := Lib.hid rx25
  clear hr rx25
  obtain ⟨bx25, qx25, rfl, sx25⟩ := post_form hr2
  have Sx25 := Lib.hid sx25
  clear hr2 sx25
  have hsz : ∀ (w : World) o, (w.alloc o).heap.size = w.heap.size + 1 := fun w o => by simp
  have A0 := Lib.hid ((Bx.new 39 #[.int .i64 x0, .int .i64 x1, .bool x20, .int .i64 x21, .int .i64 x22, .int .i64 x23, .bool x24, .slice ax25 x25.length px25] w).alloc (Obj.cells #[.int .i64 x0, .int .i64 x1, .bool x20, .int .i64 x21, .int .i64 x22, .int .i64 x23, .bool x24, .slice bx25 x25.length qx25] 39))
  have B0 := Bx.new 39 #[.int .i64 x0, .int .i64 x1, .bool x20, .int .i64 x21, .int .i64 x22, .int .i64 x23, .bool x24, .slice bx25 x25.length qx25] (w.alloc (Obj.cells #[.int .i64 x0, .int .i64 x1, .bool x20, .int .i64 x21, .int .i64 x22, .int .i64 x23, .bool x24, .slice ax25 x25.length px25] 39))
  rw [hsz] at B0
  have X0 := Lib.hid B0
  clear B0 hsz
  have HB0 := Lib.hid (((Below.refl w.heap.size w).alloc (Nat.le_refl _) (Obj.cells #[.int .i64 x0, .int .i64 x1, .bool x20, .int .i64 x21, .int .i64 x22, .int .i64 x23, .bool x24, .slice ax25 x25.length px25] 39)).alloc (by simp) (Obj.cells #[.int .i64 x0, .int .i64 x1, .bool x20, .int .i64 x21, .int .i64 x22, .int .i64 x23, .bool x24, .slice bx25 x25.length qx25] 39))
  have nx0 : (x0 != x0) = false := by simp
  have nx1 : (x1 != x1) = false := by simp
  have nx20 : (x20 != x20) = false := by simp
  have nx21 : (x21 != x21) = false := by simp
  have nx22 : (x22 != x22) = false := by simp
  have nx23 : (x23 != x23) = false := by simp
  have nx24 : (x24 != x24) = false := by simp
  show Calls _ _ #[.agg #[.int .i64 x0, .int .i64 x1, .bool x20, .int .i64 x21, .int .i64 x22, .int .i64 x23, .bool x24, .slice ax25 x25.length px25], .agg #[.int .i64 x0, .int .i64 x1, .bool x20, .int .i64 x21, .int .i64 x22, .int .i64 x23, .bool x24, .slice bx25 x25.length qx25]] w _
  go_enter Tryz.func30, Tryz.ntmps30
  go_wp2_with fail
  generalize (w.alloc (Obj.cells #[.int .i64 x0, .int .i64 x1, .bool x20, .int .i64 x21, .int .i64 x22, .int .i64 x23, .bool x24, .slice ax25 x25.length px25] 39)).alloc (Obj.cells #[.int .i64 x0, .int .i64 x1, .bool x20, .int .i64 x21, .int .i64 x22, .int .i64 x23, .bool x24, .slice bx25 x25.length qx25] 39) = y0 at A0 X0 HB0 ⊢
  refine (eqReq [.bool x20, .int .i64 x21, .int .i64 x22, .int .i64 x23, .bool x24, .slice ax25 x25.length px25] [.bool x20, .int .i64 x21, .int .i64 x22, .int .i64 x23, .bool x24, .slice bx25 x25.length qx25] (x20, x21, x22, x23, x24, x25) _ (by omega) (req_rd (ints.rd_later Rx25.out HB0.out)) (req_rd (ints.rd_later Sx25.out HB0.out))).mono ?_
  rintro e y1 ⟨rfl, hb⟩
  have A1 := Lib.hid (A0.out.later hb)
  have X1 := Lib.hid (X0.out.later hb)
  have HB1 := Lib.hid (HB0.out.trans (hb.mono HB0.out.size))
  clear hb
  have g0 := A1.out.cell 0 _ rfl
  have g1 := A1.out.cell 1 _ rfl
  have g2 := A1.out.cell 2 _ rfl
  have g3 := A1.out.cell 3 _ rfl
  have g4 := A1.out.cell 4 _ rfl
  have g5 := A1.out.cell 5 _ rfl
  have g6 := A1.out.cell 6 _ rfl
  have g7 := A1.out.cell 7 _ rfl
  have k0 := X1.out.cell 0 _ rfl
  have k1 := X1.out.cell 1 _ rfl
  have k2 := X1.out.cell 2 _ rfl
  have k3 := X1.out.cell 3 _ rfl
  have k4 := X1.out.cell 4 _ rfl
  have k5 := X1.out.cell 5 _ rfl
  have k6 := X1.out.cell 6 _ rfl
  have k7 := X1.out.cell 7 _ rfl
  go_wp2
  go_ret
  exact ⟨rfl, HB1.out⟩
end Go.Proofs.YtfpnflhkfpolcaaGreatDoor.KD
