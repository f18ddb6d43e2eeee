
/-
  A request as the laws hand it on: its copy, its size; are two the same.
-/
import Derived.Test.YtijilhaoknpeeaaLane2
import Derived.Test.YtijilhaoknpeeaaBurst3
namespace Go.Proofs.Ytijilhaoknpeeaa.Num
open Go.RowKit Rows3

/-- what szReq leaves of 2^20. -/
def szW (n : Nat) : Int := if n ≤ 1048576 then 1048576 - (n : Int) else -1
theorem szW_yes {n : Nat} (h : n ≤ 1048576) : szW n = 1048576 - (n : Int) := if_pos h
theorem szW_no {n : Nat} (h : 1048576 < n) : szW n = -1 := if_neg (by omega)
theorem szI_any (v : Value) (n : Nat) (w : World) (hv : ∃ ad cap, v = .slice ad n cap) (hl : n ≤ 9223372036854775807) :
    Calls Try.prog 73 #[v, .int .i64 1048576] w fun e w' => e = .returned (.int .i64 (szW n)) ∧ w = w' := by
  obtain ⟨ad, cap, rfl⟩ := hv
  by_cases h : n ≤ 1048576
  · have He := Lib.hid (szW_yes h)
    go_enter Try.func73, Try.ntmps73
    go_wp2
    go_ret
    exact ⟨by rw [He.out]; rfl, rfl⟩
  · have He := Lib.hid (szW_no (by omega : 1048576 < n))
    go_enter Try.func73, Try.ntmps73
    go_wp2
    go_ret
    exact ⟨by rw [He.out]; rfl, rfl⟩
theorem szReq_any (q : Bool) (x y z : Int) (k : Bool) (v : Value) (n : Nat) (w : World) (hv : ∃ ad cap, v = .slice ad n cap) (hl : n ≤ 9223372036854775807) :
    Calls Try.prog 46 #[.agg #[.bool q, .int .i64 x, .int .i64 y, .int .i64 z, .bool k, v], .int .i64 1048576] w fun e w' => e = .returned (.int .i64 (szW n)) ∧ Below w.heap.size w w' := by
  obtain ⟨ad, cap, rfl⟩ := hv
  obtain ⟨m, hm⟩ : ∃ m : Int, szW n = m := ⟨_, rfl⟩
  have hm0 : -1 ≤ m := by rw [← hm]; unfold szW; split <;> omega
  have hm1 : m ≤ 1048576 := by rw [← hm]; unfold szW; split <;> omega
  have Hm := Lib.hid hm
  rw [hm]
  clear hm
  by_cases h : m < 0
  · obtain rfl : m = -1 := by omega
    go_enter Try.func46, Try.ntmps46
    go_wp2_with (go_at_call 73; refine (szI_any _ n _ ⟨_, _, rfl⟩ hl).mono ?_; rintro e w' ⟨rfl, rfl⟩; rw [Hm.out])
    go_ret
    exact ⟨rfl, (Below.refl _ _).alloc (Nat.le_refl _) _⟩
  · go_enter Try.func46, Try.ntmps46
    go_wp2_with (go_at_call 73; refine (szI_any _ n _ ⟨_, _, rfl⟩ hl).mono ?_; rintro e w' ⟨rfl, rfl⟩; rw [Hm.out])
    go_ret
    exact ⟨rfl, (Below.refl _ _).alloc (Nat.le_refl _) _⟩
/-- block b holds these six cells, none of them frozen. -/
def Blk (T : TypeId) (b : Nat) (c0 c1 c2 c3 c4 c5 : Value) (w : World) : Prop := w.heap[b]? = some (.cells #[c0, c1, c2, c3, c4, c5] T)
theorem Blk.new (T : TypeId) (c0 c1 c2 c3 c4 c5 : Value) (w : World) : Blk T w.heap.size c0 c1 c2 c3 c4 c5 (w.alloc (.cells #[c0, c1, c2, c3, c4, c5] T)) := heap_alloc_new w _
theorem Blk.below {T : TypeId} {b B : Nat} {c0 c1 c2 c3 c4 c5 : Value} {w w' : World} (h : Blk T b c0 c1 c2 c3 c4 c5 w) (hb : Below B w w') (hB : b < B) : Blk T b c0 c1 c2 c3 c4 c5 w' := by
  unfold Blk at h ⊢; rw [hb.block b hB]; exact h
theorem Blk.lt {T : TypeId} {b : Nat} {c0 c1 c2 c3 c4 c5 : Value} {w : World} (h : Blk T b c0 c1 c2 c3 c4 c5 w) : b < w.heap.size := (Array.getElem?_eq_some_iff.1 h).1
theorem Blk.later {T : TypeId} {b : Nat} {c0 c1 c2 c3 c4 c5 : Value} {w w' : World} (h : Blk T b c0 c1 c2 c3 c4 c5 w) (hb : Below w.heap.size w w') : Blk T b c0 c1 c2 c3 c4 c5 w' := h.below hb h.lt
theorem Blk.cells {T : TypeId} {b : Nat} {c0 c1 c2 c3 c4 c5 : Value} {w : World} (h : Blk T b c0 c1 c2 c3 c4 c5 w) :
    w.cell? ⟨b, 0, none⟩ = some c0 ∧ w.cell? ⟨b, 1, none⟩ = some c1 ∧ w.cell? ⟨b, 2, none⟩ = some c2 ∧ w.cell? ⟨b, 3, none⟩ = some c3 ∧ w.cell? ⟨b, 4, none⟩ = some c4 ∧ w.cell? ⟨b, 5, none⟩ = some c5 := by
  unfold Blk at h; simp [World.cell?, h]
theorem Blk.warm {T : TypeId} {b : Nat} {c0 c1 c2 c3 c4 c5 : Value} {w : World} (h : Blk T b c0 c1 c2 c3 c4 c5 w) :
    w.frozen? ⟨b, 0, none⟩ = false ∧ w.frozen? ⟨b, 1, none⟩ = false ∧ w.frozen? ⟨b, 2, none⟩ = false ∧ w.frozen? ⟨b, 3, none⟩ = false ∧ w.frozen? ⟨b, 4, none⟩ = false ∧ w.frozen? ⟨b, 5, none⟩ = false := by
  unfold Blk at h; simp [World.frozen?, h]
theorem rdI_alloc {v : Value} {l : List Int} {w : World} (h : RdI v l w) (o : Obj) : RdI v l (w.alloc o) := h.below ((Below.refl _ _).alloc (Nat.le_refl _) o)
theorem below_alloc1 {B : Nat} {a w w' : World} {o : Obj} (h : Below B a w) (hB : B ≤ w.heap.size) (hb : Below (w.alloc o).heap.size (w.alloc o) w') : Below B a w' :=
  (h.alloc hB o).trans (hb.mono (by simp; omega))
theorem setBelow {B : Nat} {v : Value} {l : List Int} {w : World} (h : OwnI B v l w) {a : Addr} (ha : a.block < B) (u : Value) : OwnI B v l (w.setCell a u) := ownsRow_setCell_below h ha u
set_option maxRecDepth 100000 in
theorem toReq_any (q : Bool) (x y z : Int) (k : Bool) (v : Value) (l : List Int) (hl : l.length ≤ 2000000) (w : World) (hv : RdI v l w) :
    Calls Try.prog 47 #[.agg #[.bool q, .int .i64 x, .int .i64 y, .int .i64 z, .bool k, v]] w fun e w' =>
      ∃ u, e = .returned (.agg #[.bool q, .int .i64 x, .int .i64 y, .int .i64 z, .bool k, u]) ∧ OwnI w.heap.size u l w' ∧ Below w.heap.size w w' := by
  have Hv := Lib.hid hv
  obtain ⟨ad, cap, rfl, hr⟩ := hv
  clear hr
  go_enter Try.func47, Try.ntmps47
  go_wp2_with fail
  refine (toInts_any _ l hl _ (rdI_alloc (rdI_alloc (rdI_alloc Hv.out _) _) _)).mono ?_
  rintro e w1 ⟨u, rfl, ho, hb⟩
  obtain ⟨ad1, cap1, rfl⟩ := ho.slice
  have B2 := (Blk.new 35 (.bool false) (.int .i64 0) (.int .i64 0) (.int .i64 0) (.bool false) (.slice none 0 0) (w.alloc (Obj.cells #[.bool q, .int .i64 x, .int .i64 y, .int .i64 z, .bool k, .slice ad l.length cap] 70))).later (((Below.refl _ _).alloc (Nat.le_refl _) (Obj.cells #[.bool q, .int .i64 x, .int .i64 y, .int .i64 z, .bool k, .slice none 0 0] 35)))
  have B3 := (Blk.new 35 (.bool q) (.int .i64 x) (.int .i64 y) (.int .i64 z) (.bool k) (.slice none 0 0) ((w.alloc (Obj.cells #[.bool q, .int .i64 x, .int .i64 y, .int .i64 z, .bool k, .slice ad l.length cap] 70)).alloc (Obj.cells #[.bool false, .int .i64 0, .int .i64 0, .int .i64 0, .bool false, .slice none 0 0] 35))).later hb
  replace B2 := B2.later hb
  have Ho := Lib.hid ho
  have Hb := Lib.hid (hb.mono (B' := w.heap.size) (by simp; omega))
  have hsz : ∀ (w : World) o, (w.alloc o).heap.size = w.heap.size + 1 := fun w o => by simp
  rw [hsz] at B2
  rw [hsz, hsz] at B3
  clear hsz
  obtain ⟨f20, f21, f22, f23, f24, f25⟩ := B2.warm
  obtain ⟨g20, g21, g22, g23, g24, g25⟩ := B2.cells
  obtain ⟨-, -, -, -, -, f35⟩ := B3.warm
  obtain ⟨g30, g31, g32, g33, g34, g35⟩ := B3.cells
  clear B2 B3 ho hb
  go_wp2_with fail
  refine bodyPost_ret (v := .agg #[.bool q, .int .i64 x, .int .i64 y, .int .i64 z, .bool k, .slice ad1 l.length cap1]) (by simp [results, Try.results47, go_sem, g20, g21, g22, g23, g24, g25]) rfl ⟨_, rfl, ?_, ?_⟩
  · have h7 := setBelow (setBelow (setBelow (setBelow (setBelow (setBelow (setBelow Ho.out (a := ⟨w.heap.size + 1 + 1, 5, none⟩) (by simp) (.slice ad1 l.length cap1)) (a := ⟨w.heap.size + 1, 0, none⟩) (by simp) (.bool q)) (a := ⟨w.heap.size + 1, 1, none⟩) (by simp) (.int .i64 x)) (a := ⟨w.heap.size + 1, 2, none⟩) (by simp) (.int .i64 y)) (a := ⟨w.heap.size + 1, 3, none⟩) (by simp) (.int .i64 z)) (a := ⟨w.heap.size + 1, 4, none⟩) (by simp) (.bool k)) (a := ⟨w.heap.size + 1, 5, none⟩) (by simp) (.slice ad1 l.length cap1)
    exact h7.mono (by simp; omega)
  · have h0 := (((Below.refl w.heap.size w).alloc (Nat.le_refl _) (Obj.cells #[.bool q, .int .i64 x, .int .i64 y, .int .i64 z, .bool k, .slice ad l.length cap] 70)).alloc (by simp) (Obj.cells #[.bool false, .int .i64 0, .int .i64 0, .int .i64 0, .bool false, .slice none 0 0] 35)).alloc (by simp; omega) (Obj.cells #[.bool q, .int .i64 x, .int .i64 y, .int .i64 z, .bool k, .slice none 0 0] 35)
    exact (((((((h0.trans Hb.out).setCell (by simp; omega) _).setCell (by simp) _).setCell (by simp) _).setCell (by simp) _).setCell (by simp) _).setCell (by simp) _).setCell (by simp) _
set_option maxRecDepth 100000 in
theorem eqReq_same (q : Bool) (x y z : Int) (k : Bool) (v u : Value) (l : List Int) (hl : l.length ≤ 2000000) (w : World) (hv : RdI v l w) (hu : RdI u l w) :
    Calls Try.prog 48 #[.agg #[.bool q, .int .i64 x, .int .i64 y, .int .i64 z, .bool k, v], .agg #[.bool q, .int .i64 x, .int .i64 y, .int .i64 z, .bool k, u]] w fun e w' => e = .returned (.bool true) ∧ Below w.heap.size w w' := by
  have Hv := Lib.hid hv
  have Hu := Lib.hid hu
  obtain ⟨ad, cap, rfl, hr⟩ := hv
  obtain ⟨bd, cbp, rfl, hr'⟩ := hu
  clear hr hr'
  have hx : (x != x) = false := by simp
  have hy : (y != y) = false := by simp
  have hz : (z != z) = false := by simp
  have hq : (q != q) = false := by simp
  have hk : (k != k) = false := by simp
  go_enter Try.func48, Try.ntmps48
  go_wp2_with fail
  refine (eqI_same _ _ l hl _ (rdI_alloc (rdI_alloc Hv.out _) _) (rdI_alloc (rdI_alloc Hu.out _) _)).mono ?_
  rintro e w1 ⟨rfl, hb⟩
  go_wp2
  go_ret
  exact ⟨rfl, below_alloc1 ((Below.refl _ _).alloc (Nat.le_refl _) _) (by simp) hb⟩
end Go.Proofs.Ytijilhaoknpeeaa.Num
