
/-
  Wrr as data; what the laws' own functions do with it. (Made by wip/gk.py.)
-/
import Derived.Test.YtdhaelaoackfkaaKdI
import Derived.Test.YtdhaelaoackfkaaGRow
import Derived.Outline
namespace Go.Proofs.Ytdhaelaoackfkaa.KD
open Go.RowKit Rows3 GR
set_option linter.unusedVariables false

def wrrK : Kn (Int × Int) := prod int int
theorem wrr_form {cs : List Value} {x0 : Int} {x1 : Int} {w : World} (h : wrrK.rd cs (x0, x1) w) :
    cs = [.int .i64 x0, .int .i64 x1] := by
  obtain ⟨c0, r0, rfl, h0, h1⟩ := h
  obtain rfl := h0
  obtain rfl := h1
  rfl
theorem wrr_rd  {x0 : Int} {x1 : Int} {w : World}  : wrrK.rd [.int .i64 x0, .int .i64 x1] (x0, x1) w :=
  ⟨[.int .i64 x0], _, rfl, rfl, rfl⟩
theorem wrr_capz (F : Foot) (x0 : Int) (x1 : Int) (w : World) : wrrK.cap F [.int .i64 x0, .int .i64 x1] (x0, x1) w :=
  ⟨[.int .i64 x0], _, fun _ => False, fun _ => False, rfl, fun _ h => h.elim, fun _ h => h.elim, rfl, rfl⟩
set_option maxRecDepth 100000 in
theorem toWrr : ToC wrrK agg 59 := by
  intro cs x w hs hr
  obtain ⟨x0, x1⟩ := x
  obtain rfl := wrr_form hr
  have hsz : ∀ (w : World) o, (w.alloc o).heap.size = w.heap.size + 1 := fun w o => by simp
  have A1 := ((Bx.new 52 #[.int .i64 x0, .int .i64 x1] w).alloc (Obj.cells #[.int .i64 0, .int .i64 0] 31)).alloc (Obj.cells #[.int .i64 x0, .int .i64 x1] 31)
  have A0 := ((Bx.new 52 #[.int .i64 x0, .int .i64 x1] w).alloc (Obj.cells #[.int .i64 0, .int .i64 0] 31)).alloc (Obj.cells #[.int .i64 0, .int .i64 0] 31)
  have A2 := (Bx.new 31 #[.int .i64 0, .int .i64 0] (w.alloc (Obj.cells #[.int .i64 x0, .int .i64 x1] 52))).alloc (Obj.cells #[.int .i64 x0, .int .i64 x1] 31)
  have A3 := Bx.new 31 #[.int .i64 x0, .int .i64 x1] ((w.alloc (Obj.cells #[.int .i64 x0, .int .i64 x1] 52)).alloc (Obj.cells #[.int .i64 0, .int .i64 0] 31))
  rw [hsz] at A2
  rw [hsz, hsz] at A3
  have g0 := A1.cell 0 _ rfl
  have h0 := A0.cell 0 _ rfl
  have k0 := A2.cell 0 _ rfl
  have z0 := A2.warm 0
  have m0 := A3.cell 0 _ rfl
  have g1 := A1.cell 1 _ rfl
  have h1 := A0.cell 1 _ rfl
  have k1 := A2.cell 1 _ rfl
  have z1 := A2.warm 1
  have m1 := A3.cell 1 _ rfl
  clear A1 A0 A2 A3 hsz hr hs
  show Calls _ _ #[.agg #[.int .i64 x0, .int .i64 x1]] w _
  go_enter Try.func59, Try.ntmps59
  go_wp2_with fail
  refine bodyPost_ret (v := .agg #[.int .i64 x0, .int .i64 x1]) (by simp [results, Try.results59, go_sem]) rfl ⟨[.int .i64 x0, .int .i64 x1], rfl, wrr_capz _ x0 x1 _, ?_⟩
  exact (((Below.refl w.heap.size w).alloc (Nat.le_refl _) _).alloc (by simp) _).alloc (by simp; omega) _
set_option maxRecDepth 100000 in
theorem eqWrr : EqC wrrK agg 29 := by
  intro cs ds x w hs hr hr2
  obtain ⟨x0, x1⟩ := x
  obtain rfl := wrr_form hr
  obtain rfl := wrr_form hr2
  have hsz : ∀ (w : World) o, (w.alloc o).heap.size = w.heap.size + 1 := fun w o => by simp
  have A0 := (Bx.new 31 #[.int .i64 x0, .int .i64 x1] w).alloc (Obj.cells #[.int .i64 x0, .int .i64 x1] 31)
  have B0 := Bx.new 31 #[.int .i64 x0, .int .i64 x1] (w.alloc (Obj.cells #[.int .i64 x0, .int .i64 x1] 31))
  rw [hsz] at B0
  have g0 := A0.cell 0 _ rfl
  have k0 := B0.cell 0 _ rfl
  have g1 := A0.cell 1 _ rfl
  have k1 := B0.cell 1 _ rfl
  have HB := Lib.hid (((Below.refl w.heap.size w).alloc (Nat.le_refl _) (Obj.cells #[.int .i64 x0, .int .i64 x1] 31)).alloc (by simp) (Obj.cells #[.int .i64 x0, .int .i64 x1] 31))
  clear A0 B0 hsz hr hr2 hs
  have nx0 : (x0 != x0) = false := by simp
  have nx1 : (x1 != x1) = false := by simp
  show Calls _ _ #[.agg #[.int .i64 x0, .int .i64 x1], .agg #[.int .i64 x0, .int .i64 x1]] w _
  go_enter Try.func29, Try.ntmps29
  go_wp2
  go_ret
  exact ⟨rfl, HB.out⟩
end Go.Proofs.Ytdhaelaoackfkaa.KD
