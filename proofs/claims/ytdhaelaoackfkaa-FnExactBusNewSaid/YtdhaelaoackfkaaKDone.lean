
/-
  Done as data; what the laws' own functions do with it. (Made by wip/gk.py.)
-/
import Derived.Test.YtdhaelaoackfkaaKdI
import Derived.Test.YtdhaelaoackfkaaGRow
import Derived.Outline
namespace Go.Proofs.Ytdhaelaoackfkaa.KD
open Go.RowKit Rows3 GR
set_option linter.unusedVariables false

def doneK : Kn (Int × Int × Bool × Int × Int × Int × Int) := prod int (prod int (prod bool (prod int (prod int (prod int int)))))
theorem done_form {cs : List Value} {x0 : Int} {x1 : Int} {x2 : Bool} {x3 : Int} {x4 : Int} {x5 : Int} {x6 : Int} {w : World} (h : doneK.rd cs (x0, x1, x2, x3, x4, x5, x6) w) :
    cs = [.int .i64 x0, .int .i64 x1, .bool x2, .int .i64 x3, .int .i64 x4, .int .i64 x5, .int .i64 x6] := by
  obtain ⟨c0, r0, rfl, h0, c1, r1, rfl, h1, c2, r2, rfl, h2, c3, r3, rfl, h3, c4, r4, rfl, h4, c5, r5, rfl, h5, h6⟩ := h
  obtain rfl := h0
  obtain rfl := h1
  obtain rfl := h2
  obtain rfl := h3
  obtain rfl := h4
  obtain rfl := h5
  obtain rfl := h6
  rfl
theorem done_rd  {x0 : Int} {x1 : Int} {x2 : Bool} {x3 : Int} {x4 : Int} {x5 : Int} {x6 : Int} {w : World}  : doneK.rd [.int .i64 x0, .int .i64 x1, .bool x2, .int .i64 x3, .int .i64 x4, .int .i64 x5, .int .i64 x6] (x0, x1, x2, x3, x4, x5, x6) w :=
  ⟨[.int .i64 x0], _, rfl, rfl, ⟨[.int .i64 x1], _, rfl, rfl, ⟨[.bool x2], _, rfl, rfl, ⟨[.int .i64 x3], _, rfl, rfl, ⟨[.int .i64 x4], _, rfl, rfl, ⟨[.int .i64 x5], _, rfl, rfl, rfl⟩⟩⟩⟩⟩⟩
theorem done_capz (F : Foot) (x0 : Int) (x1 : Int) (x2 : Bool) (x3 : Int) (x4 : Int) (x5 : Int) (x6 : Int) (w : World) : doneK.cap F [.int .i64 x0, .int .i64 x1, .bool x2, .int .i64 x3, .int .i64 x4, .int .i64 x5, .int .i64 x6] (x0, x1, x2, x3, x4, x5, x6) w :=
  ⟨[.int .i64 x0], _, fun _ => False, fun _ => False, rfl, fun _ h => h.elim, fun _ h => h.elim, rfl, ⟨[.int .i64 x1], _, fun _ => False, fun _ => False, rfl, fun _ h => h.elim, fun _ h => h.elim, rfl, ⟨[.bool x2], _, fun _ => False, fun _ => False, rfl, fun _ h => h.elim, fun _ h => h.elim, rfl, ⟨[.int .i64 x3], _, fun _ => False, fun _ => False, rfl, fun _ h => h.elim, fun _ h => h.elim, rfl, ⟨[.int .i64 x4], _, fun _ => False, fun _ => False, rfl, fun _ h => h.elim, fun _ h => h.elim, rfl, ⟨[.int .i64 x5], _, fun _ => False, fun _ => False, rfl, fun _ h => h.elim, fun _ h => h.elim, rfl, rfl⟩⟩⟩⟩⟩⟩
theorem done_mI (x0 : Int) (x1 : Int) (x2 : Bool) (x3 : Int) (x4 : Int) (x5 : Int) (x6 : Int) (k : Int) : doneK.mI (x0, x1, x2, x3, x4, x5, x6) k = (k, k + 1, ((k + 1 + 1) % 3 == 0), k + 1 + 1 + 1, k + 1 + 1 + 1 + 1, k + 1 + 1 + 1 + 1 + 1, k + 1 + 1 + 1 + 1 + 1 + 1) := rfl
theorem done_cI (x0 : Int) (x1 : Int) (x2 : Bool) (x3 : Int) (x4 : Int) (x5 : Int) (x6 : Int) : doneK.cI (x0, x1, x2, x3, x4, x5, x6) = 7 := by
  show (1 + (1 + (1 + (1 + (1 + (1 + 1)))))) = _
  omega
set_option maxRecDepth 100000 in
theorem toDone : ToC doneK agg 100 := by
  intro cs x w hs hr
  obtain ⟨x0, x1, x2, x3, x4, x5, x6⟩ := x
  obtain rfl := done_form hr
  have hsz : ∀ (w : World) o, (w.alloc o).heap.size = w.heap.size + 1 := fun w o => by simp
  have A1 := ((Bx.new 132 #[.int .i64 x0, .int .i64 x1, .bool x2, .int .i64 x3, .int .i64 x4, .int .i64 x5, .int .i64 x6] w).alloc (Obj.cells #[.int .i64 0, .int .i64 0, .bool false, .int .i64 0, .int .i64 0, .int .i64 0, .int .i64 0] 105)).alloc (Obj.cells #[.int .i64 x0, .int .i64 x1, .bool x2, .int .i64 x3, .int .i64 x4, .int .i64 x5, .int .i64 x6] 105)
  have A0 := ((Bx.new 132 #[.int .i64 x0, .int .i64 x1, .bool x2, .int .i64 x3, .int .i64 x4, .int .i64 x5, .int .i64 x6] w).alloc (Obj.cells #[.int .i64 0, .int .i64 0, .bool false, .int .i64 0, .int .i64 0, .int .i64 0, .int .i64 0] 105)).alloc (Obj.cells #[.int .i64 0, .int .i64 0, .bool false, .int .i64 0, .int .i64 0, .int .i64 0, .int .i64 0] 105)
  have A2 := (Bx.new 105 #[.int .i64 0, .int .i64 0, .bool false, .int .i64 0, .int .i64 0, .int .i64 0, .int .i64 0] (w.alloc (Obj.cells #[.int .i64 x0, .int .i64 x1, .bool x2, .int .i64 x3, .int .i64 x4, .int .i64 x5, .int .i64 x6] 132))).alloc (Obj.cells #[.int .i64 x0, .int .i64 x1, .bool x2, .int .i64 x3, .int .i64 x4, .int .i64 x5, .int .i64 x6] 105)
  have A3 := Bx.new 105 #[.int .i64 x0, .int .i64 x1, .bool x2, .int .i64 x3, .int .i64 x4, .int .i64 x5, .int .i64 x6] ((w.alloc (Obj.cells #[.int .i64 x0, .int .i64 x1, .bool x2, .int .i64 x3, .int .i64 x4, .int .i64 x5, .int .i64 x6] 132)).alloc (Obj.cells #[.int .i64 0, .int .i64 0, .bool false, .int .i64 0, .int .i64 0, .int .i64 0, .int .i64 0] 105))
  rw [hsz] at A2
  rw [hsz, hsz] at A3
  have g0 := A1.cell 0 _ rfl
  have h0 := A0.cell 0 _ rfl
  have k0 := A2.cell 0 _ rfl
  have z0 := A2.warm 0
  have m0 := A3.cell 0 _ rfl
  have g1 := A1.cell 1 _ rfl
  have h1 := A0.cell 1 _ rfl
  have k1 := A2.cell 1 _ rfl
  have z1 := A2.warm 1
  have m1 := A3.cell 1 _ rfl
  have g2 := A1.cell 2 _ rfl
  have h2 := A0.cell 2 _ rfl
  have k2 := A2.cell 2 _ rfl
  have z2 := A2.warm 2
  have m2 := A3.cell 2 _ rfl
  have g3 := A1.cell 3 _ rfl
  have h3 := A0.cell 3 _ rfl
  have k3 := A2.cell 3 _ rfl
  have z3 := A2.warm 3
  have m3 := A3.cell 3 _ rfl
  have g4 := A1.cell 4 _ rfl
  have h4 := A0.cell 4 _ rfl
  have k4 := A2.cell 4 _ rfl
  have z4 := A2.warm 4
  have m4 := A3.cell 4 _ rfl
  have g5 := A1.cell 5 _ rfl
  have h5 := A0.cell 5 _ rfl
  have k5 := A2.cell 5 _ rfl
  have z5 := A2.warm 5
  have m5 := A3.cell 5 _ rfl
  have g6 := A1.cell 6 _ rfl
  have h6 := A0.cell 6 _ rfl
  have k6 := A2.cell 6 _ rfl
  have z6 := A2.warm 6
  have m6 := A3.cell 6 _ rfl
  clear A1 A0 A2 A3 hsz hr hs
  show Calls _ _ #[.agg #[.int .i64 x0, .int .i64 x1, .bool x2, .int .i64 x3, .int .i64 x4, .int .i64 x5, .int .i64 x6]] w _
  go_enter Try.func100, Try.ntmps100
  go_wp2_with fail
  refine bodyPost_ret (v := .agg #[.int .i64 x0, .int .i64 x1, .bool x2, .int .i64 x3, .int .i64 x4, .int .i64 x5, .int .i64 x6]) (by simp [results, Try.results100, go_sem]) rfl ⟨[.int .i64 x0, .int .i64 x1, .bool x2, .int .i64 x3, .int .i64 x4, .int .i64 x5, .int .i64 x6], rfl, done_capz _ x0 x1 x2 x3 x4 x5 x6 _, ?_⟩
  exact (((Below.refl w.heap.size w).alloc (Nat.le_refl _) _).alloc (by simp) _).alloc (by simp; omega) _
set_option maxRecDepth 100000 in
theorem eqDone : EqC doneK agg 86 := by
  intro cs ds x w hs hr hr2
  obtain ⟨x0, x1, x2, x3, x4, x5, x6⟩ := x
  obtain rfl := done_form hr
  obtain rfl := done_form hr2
  have hsz : ∀ (w : World) o, (w.alloc o).heap.size = w.heap.size + 1 := fun w o => by simp
  have A0 := (Bx.new 105 #[.int .i64 x0, .int .i64 x1, .bool x2, .int .i64 x3, .int .i64 x4, .int .i64 x5, .int .i64 x6] w).alloc (Obj.cells #[.int .i64 x0, .int .i64 x1, .bool x2, .int .i64 x3, .int .i64 x4, .int .i64 x5, .int .i64 x6] 105)
  have B0 := Bx.new 105 #[.int .i64 x0, .int .i64 x1, .bool x2, .int .i64 x3, .int .i64 x4, .int .i64 x5, .int .i64 x6] (w.alloc (Obj.cells #[.int .i64 x0, .int .i64 x1, .bool x2, .int .i64 x3, .int .i64 x4, .int .i64 x5, .int .i64 x6] 105))
  rw [hsz] at B0
  have g0 := A0.cell 0 _ rfl
  have k0 := B0.cell 0 _ rfl
  have g1 := A0.cell 1 _ rfl
  have k1 := B0.cell 1 _ rfl
  have g2 := A0.cell 2 _ rfl
  have k2 := B0.cell 2 _ rfl
  have g3 := A0.cell 3 _ rfl
  have k3 := B0.cell 3 _ rfl
  have g4 := A0.cell 4 _ rfl
  have k4 := B0.cell 4 _ rfl
  have g5 := A0.cell 5 _ rfl
  have k5 := B0.cell 5 _ rfl
  have g6 := A0.cell 6 _ rfl
  have k6 := B0.cell 6 _ rfl
  have HB := Lib.hid (((Below.refl w.heap.size w).alloc (Nat.le_refl _) (Obj.cells #[.int .i64 x0, .int .i64 x1, .bool x2, .int .i64 x3, .int .i64 x4, .int .i64 x5, .int .i64 x6] 105)).alloc (by simp) (Obj.cells #[.int .i64 x0, .int .i64 x1, .bool x2, .int .i64 x3, .int .i64 x4, .int .i64 x5, .int .i64 x6] 105))
  clear A0 B0 hsz hr hr2 hs
  have nx0 : (x0 != x0) = false := by simp
  have nx1 : (x1 != x1) = false := by simp
  have nx2 : (x2 != x2) = false := by simp
  have nx3 : (x3 != x3) = false := by simp
  have nx4 : (x4 != x4) = false := by simp
  have nx5 : (x5 != x5) = false := by simp
  have nx6 : (x6 != x6) = false := by simp
  show Calls _ _ #[.agg #[.int .i64 x0, .int .i64 x1, .bool x2, .int .i64 x3, .int .i64 x4, .int .i64 x5, .int .i64 x6], .agg #[.int .i64 x0, .int .i64 x1, .bool x2, .int .i64 x3, .int .i64 x4, .int .i64 x5, .int .i64 x6]] w _
  go_enter Try.func86, Try.ntmps86
  go_wp2
  go_ret
  exact ⟨rfl, HB.out⟩
end Go.Proofs.Ytdhaelaoackfkaa.KD
