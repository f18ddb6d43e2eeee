
/-
  MConf as data; what the laws' own functions do with it. (Made by wip/gk.py.)
-/
import Derived.Test.YtdhaelaoackfkaaKdI
import Derived.Test.YtdhaelaoackfkaaGRow
import Derived.Outline
namespace Go.Proofs.Ytdhaelaoackfkaa.KD
open Go.RowKit Rows3 GR
set_option linter.unusedVariables false

def mConfK : Kn (Int × Bool × Int × Int) := prod int (prod bool (prod int int))
theorem mConf_form {cs : List Value} {x0 : Int} {x1 : Bool} {x2 : Int} {x3 : Int} {w : World} (h : mConfK.rd cs (x0, x1, x2, x3) w) :
    cs = [.int .i64 x0, .bool x1, .int .i64 x2, .int .i64 x3] := by
  obtain ⟨c0, r0, rfl, h0, c1, r1, rfl, h1, c2, r2, rfl, h2, h3⟩ := h
  obtain rfl := h0
  obtain rfl := h1
  obtain rfl := h2
  obtain rfl := h3
  rfl
theorem mConf_rd  {x0 : Int} {x1 : Bool} {x2 : Int} {x3 : Int} {w : World}  : mConfK.rd [.int .i64 x0, .bool x1, .int .i64 x2, .int .i64 x3] (x0, x1, x2, x3) w :=
  ⟨[.int .i64 x0], _, rfl, rfl, ⟨[.bool x1], _, rfl, rfl, ⟨[.int .i64 x2], _, rfl, rfl, rfl⟩⟩⟩
theorem mConf_capz (F : Foot) (x0 : Int) (x1 : Bool) (x2 : Int) (x3 : Int) (w : World) : mConfK.cap F [.int .i64 x0, .bool x1, .int .i64 x2, .int .i64 x3] (x0, x1, x2, x3) w :=
  ⟨[.int .i64 x0], _, fun _ => False, fun _ => False, rfl, fun _ h => h.elim, fun _ h => h.elim, rfl, ⟨[.bool x1], _, fun _ => False, fun _ => False, rfl, fun _ h => h.elim, fun _ h => h.elim, rfl, ⟨[.int .i64 x2], _, fun _ => False, fun _ => False, rfl, fun _ h => h.elim, fun _ h => h.elim, rfl, rfl⟩⟩⟩
theorem mConf_mI (x0 : Int) (x1 : Bool) (x2 : Int) (x3 : Int) (k : Int) : mConfK.mI (x0, x1, x2, x3) k = (k, ((k + 1) % 3 == 0), k + 1 + 1, k + 1 + 1 + 1) := rfl
theorem mConf_cI (x0 : Int) (x1 : Bool) (x2 : Int) (x3 : Int) : mConfK.cI (x0, x1, x2, x3) = 4 := by
  show (1 + (1 + (1 + 1))) = _
  omega
set_option maxRecDepth 100000 in
theorem toMConf : ToC mConfK agg 76 := by
  intro cs x w hs hr
  obtain ⟨x0, x1, x2, x3⟩ := x
  obtain rfl := mConf_form hr
  have hsz : ∀ (w : World) o, (w.alloc o).heap.size = w.heap.size + 1 := fun w o => by simp
  have A1 := ((Bx.new 110 #[.int .i64 x0, .bool x1, .int .i64 x2, .int .i64 x3] w).alloc (Obj.cells #[.int .i64 0, .bool false, .int .i64 0, .int .i64 0] 75)).alloc (Obj.cells #[.int .i64 x0, .bool x1, .int .i64 x2, .int .i64 x3] 75)
  have A0 := ((Bx.new 110 #[.int .i64 x0, .bool x1, .int .i64 x2, .int .i64 x3] w).alloc (Obj.cells #[.int .i64 0, .bool false, .int .i64 0, .int .i64 0] 75)).alloc (Obj.cells #[.int .i64 0, .bool false, .int .i64 0, .int .i64 0] 75)
  have A2 := (Bx.new 75 #[.int .i64 0, .bool false, .int .i64 0, .int .i64 0] (w.alloc (Obj.cells #[.int .i64 x0, .bool x1, .int .i64 x2, .int .i64 x3] 110))).alloc (Obj.cells #[.int .i64 x0, .bool x1, .int .i64 x2, .int .i64 x3] 75)
  have A3 := Bx.new 75 #[.int .i64 x0, .bool x1, .int .i64 x2, .int .i64 x3] ((w.alloc (Obj.cells #[.int .i64 x0, .bool x1, .int .i64 x2, .int .i64 x3] 110)).alloc (Obj.cells #[.int .i64 0, .bool false, .int .i64 0, .int .i64 0] 75))
  rw [hsz] at A2
  rw [hsz, hsz] at A3
  have g0 := A1.cell 0 _ rfl
  have h0 := A0.cell 0 _ rfl
  have k0 := A2.cell 0 _ rfl
  have z0 := A2.warm 0
  have m0 := A3.cell 0 _ rfl
  have g1 := A1.cell 1 _ rfl
  have h1 := A0.cell 1 _ rfl
  have k1 := A2.cell 1 _ rfl
  have z1 := A2.warm 1
  have m1 := A3.cell 1 _ rfl
  have g2 := A1.cell 2 _ rfl
  have h2 := A0.cell 2 _ rfl
  have k2 := A2.cell 2 _ rfl
  have z2 := A2.warm 2
  have m2 := A3.cell 2 _ rfl
  have g3 := A1.cell 3 _ rfl
  have h3 := A0.cell 3 _ rfl
  have k3 := A2.cell 3 _ rfl
  have z3 := A2.warm 3
  have m3 := A3.cell 3 _ rfl
  clear A1 A0 A2 A3 hsz hr hs
  show Calls _ _ #[.agg #[.int .i64 x0, .bool x1, .int .i64 x2, .int .i64 x3]] w _
  go_enter Try.func76, Try.ntmps76
  go_wp2_with fail
  refine bodyPost_ret (v := .agg #[.int .i64 x0, .bool x1, .int .i64 x2, .int .i64 x3]) (by simp [results, Try.results76, go_sem]) rfl ⟨[.int .i64 x0, .bool x1, .int .i64 x2, .int .i64 x3], rfl, mConf_capz _ x0 x1 x2 x3 _, ?_⟩
  exact (((Below.refl w.heap.size w).alloc (Nat.le_refl _) _).alloc (by simp) _).alloc (by simp; omega) _
set_option maxRecDepth 100000 in
theorem eqMConf : EqC mConfK agg 87 := by
  intro cs ds x w hs hr hr2
  obtain ⟨x0, x1, x2, x3⟩ := x
  obtain rfl := mConf_form hr
  obtain rfl := mConf_form hr2
  have hsz : ∀ (w : World) o, (w.alloc o).heap.size = w.heap.size + 1 := fun w o => by simp
  have A0 := (Bx.new 75 #[.int .i64 x0, .bool x1, .int .i64 x2, .int .i64 x3] w).alloc (Obj.cells #[.int .i64 x0, .bool x1, .int .i64 x2, .int .i64 x3] 75)
  have B0 := Bx.new 75 #[.int .i64 x0, .bool x1, .int .i64 x2, .int .i64 x3] (w.alloc (Obj.cells #[.int .i64 x0, .bool x1, .int .i64 x2, .int .i64 x3] 75))
  rw [hsz] at B0
  have g0 := A0.cell 0 _ rfl
  have k0 := B0.cell 0 _ rfl
  have g1 := A0.cell 1 _ rfl
  have k1 := B0.cell 1 _ rfl
  have g2 := A0.cell 2 _ rfl
  have k2 := B0.cell 2 _ rfl
  have g3 := A0.cell 3 _ rfl
  have k3 := B0.cell 3 _ rfl
  have HB := Lib.hid (((Below.refl w.heap.size w).alloc (Nat.le_refl _) (Obj.cells #[.int .i64 x0, .bool x1, .int .i64 x2, .int .i64 x3] 75)).alloc (by simp) (Obj.cells #[.int .i64 x0, .bool x1, .int .i64 x2, .int .i64 x3] 75))
  clear A0 B0 hsz hr hr2 hs
  have nx0 : (x0 != x0) = false := by simp
  have nx1 : (x1 != x1) = false := by simp
  have nx2 : (x2 != x2) = false := by simp
  have nx3 : (x3 != x3) = false := by simp
  show Calls _ _ #[.agg #[.int .i64 x0, .bool x1, .int .i64 x2, .int .i64 x3], .agg #[.int .i64 x0, .bool x1, .int .i64 x2, .int .i64 x3]] w _
  go_enter Try.func87, Try.ntmps87
  go_wp2
  go_ret
  exact ⟨rfl, HB.out⟩
end Go.Proofs.Ytdhaelaoackfkaa.KD
