
/-
  A request as the laws hand it on: its copy, its size; are two the same.
-/
import Derived.Test.YtfpnflhkfpolcaaGreatDoorLane2
import Derived.Test.YtfpnflhkfpolcaaGreatDoorBurst3
namespace Go.Proofs.YtfpnflhkfpolcaaGreatDoor.Num
open Go.RowKit Rows3

/-- what szReq leaves of 2^20. -/
def szW (n : Nat) : Int := if n ≤ 1048576 then 1048576 - (n : Int) else -1
theorem szW_yes {n : Nat} (h : n ≤ 1048576) : szW n = 1048576 - (n : Int) := if_pos h
theorem szW_no {n : Nat} (h : 1048576 < n) : szW n = -1 := if_neg (by omega)
/-- block b holds these six cells, none of them frozen. -/
def Blk (T : TypeId) (b : Nat) (c0 c1 c2 c3 c4 c5 : Value) (w : World) : Prop := w.heap[b]? = some (.cells #[c0, c1, c2, c3, c4, c5] T)
theorem Blk.new (T : TypeId) (c0 c1 c2 c3 c4 c5 : Value) (w : World) : Blk T w.heap.size c0 c1 c2 c3 c4 c5 (w.alloc (.cells #[c0, c1, c2, c3, c4, c5] T)) := heap_alloc_new w _
theorem Blk.below {T : TypeId} {b B : Nat} {c0 c1 c2 c3 c4 c5 : Value} {w w' : World} (h : Blk T b c0 c1 c2 c3 c4 c5 w) (hb : Below B w w') (hB : b < B) : Blk T b c0 c1 c2 c3 c4 c5 w' := by
  unfold Blk at h ⊢; rw [hb.block b hB]; exact h
theorem Blk.lt {T : TypeId} {b : Nat} {c0 c1 c2 c3 c4 c5 : Value} {w : World} (h : Blk T b c0 c1 c2 c3 c4 c5 w) : b < w.heap.size := (Array.getElem?_eq_some_iff.1 h).1
theorem Blk.later {T : TypeId} {b : Nat} {c0 c1 c2 c3 c4 c5 : Value} {w w' : World} (h : Blk T b c0 c1 c2 c3 c4 c5 w) (hb : Below w.heap.size w w') : Blk T b c0 c1 c2 c3 c4 c5 w' := h.below hb h.lt
theorem Blk.cells {T : TypeId} {b : Nat} {c0 c1 c2 c3 c4 c5 : Value} {w : World} (h : Blk T b c0 c1 c2 c3 c4 c5 w) :
    w.cell? ⟨b, 0, none⟩ = some c0 ∧ w.cell? ⟨b, 1, none⟩ = some c1 ∧ w.cell? ⟨b, 2, none⟩ = some c2 ∧ w.cell? ⟨b, 3, none⟩ = some c3 ∧ w.cell? ⟨b, 4, none⟩ = some c4 ∧ w.cell? ⟨b, 5, none⟩ = some c5 := by
  unfold Blk at h; simp [World.cell?, h]
theorem Blk.warm {T : TypeId} {b : Nat} {c0 c1 c2 c3 c4 c5 : Value} {w : World} (h : Blk T b c0 c1 c2 c3 c4 c5 w) :
    w.frozen? ⟨b, 0, none⟩ = false ∧ w.frozen? ⟨b, 1, none⟩ = false ∧ w.frozen? ⟨b, 2, none⟩ = false ∧ w.frozen? ⟨b, 3, none⟩ = false ∧ w.frozen? ⟨b, 4, none⟩ = false ∧ w.frozen? ⟨b, 5, none⟩ = false := by
  unfold Blk at h; simp [World.frozen?, h]
theorem rdI_alloc {v : Value} {l : List Int} {w : World} (h : RdI v l w) (o : Obj) : RdI v l (w.alloc o) := h.below ((Below.refl _ _).alloc (Nat.le_refl _) o)
theorem below_alloc1 {B : Nat} {a w w' : World} {o : Obj} (h : Below B a w) (hB : B ≤ w.heap.size) (hb : Below (w.alloc o).heap.size (w.alloc o) w') : Below B a w' :=
  (h.alloc hB o).trans (hb.mono (by simp; omega))
theorem setBelow {B : Nat} {v : Value} {l : List Int} {w : World} (h : OwnI B v l w) {a : Addr} (ha : a.block < B) (u : Value) : OwnI B v l (w.setCell a u) := ownsRow_setCell_below h ha u
set_option maxRecDepth 100000 in
theorem eqReq_same (q : Bool) (x y z : Int) (k : Bool) (v u : Value) (l : List Int) (hl : l.length ≤ 2000000) (w : World) (hv : RdI v l w) (hu : RdI u l w) :
    Calls Tryz.prog 38 #[.agg #[.bool q, .int .i64 x, .int .i64 y, .int .i64 z, .bool k, v], .agg #[.bool q, .int .i64 x, .int .i64 y, .int .i64 z, .bool k, u]] w fun e w' => e = .returned (.bool true) ∧ Below w.heap.size w w' := by
  have Hv := Lib.hid hv
  have Hu := Lib.hid hu
  obtain ⟨ad, cap, rfl, hr⟩ := hv
  obtain ⟨bd, cbp, rfl, hr'⟩ := hu
  clear hr hr'
  have hx : (x != x) = false := by simp
  have hy : (y != y) = false := by simp
  have hz : (z != z) = false := by simp
  have hq : (q != q) = false := by simp
  have hk : (k != k) = false := by simp
  go_enter Tryz.func38, Tryz.ntmps38
  go_wp2_with fail
  refine (eqI_same _ _ l hl _ (rdI_alloc (rdI_alloc Hv.out _) _) (rdI_alloc (rdI_alloc Hu.out _) _)).mono ?_
  rintro e w1 ⟨rfl, hb⟩
  go_wp2
  go_ret
  exact ⟨rfl, below_alloc1 ((Below.refl _ _).alloc (Nat.le_refl _) _) (by simp) hb⟩
end Go.Proofs.YtfpnflhkfpolcaaGreatDoor.Num
