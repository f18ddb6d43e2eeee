
/-
  What Dec returns, for the program and for its model, in every world in which the library's table of powers of ten reads as its text lays it.
-/
import Derived.Test.YtfpnflhkfpolcaaGreatDoorSDec
import Derived.Test.YtfpnflhkfpolcaaGreatDoorShelfS
import Derived.Lib.AppendIntMem
import Derived.Lib.LaidTab
import Derived.WalkSmall
namespace Go.Proofs.YtfpnflhkfpolcaaGreatDoor.Num
open Go.RowKit Bytes

/-- the library's table of powers of ten. -/
def Pow (w : World) : Prop := Lib.TabIs Tryz.prog w "internal/strconv.uint64pow10" .u64 Lib.pow10Tab
theorem gPow : Tryz.prog.globalNamed "internal/strconv.uint64pow10" = some 5 := by kernel_rfl
theorem Pow.lt {w : World} (h : Pow w) : 5 < w.heap.size := World.block_lt_of_cell? _ _ (Lib.TabIs.cell h gPow 0 (by decide))
theorem Pow.below {w w' : World} (h : Pow w) (hb : Below w.heap.size w w') : Pow w' := var?_below hb gPow h.lt h
theorem Pow.belowB {w w' : World} {B : Nat} (h : Pow w) (hb : Below B w w') (hB : 5 < B) : Pow w' := var?_below hb gPow hB h

theorem implDec_any (n : Int) (h0 : -9223372036854775808 ≤ n) (h1 : n ≤ 9223372036854775807) (w : World) (htab : Pow w) :
    Calls Tryz.prog 48 #[.int .i64 n] w fun e w' => e = .returned (.string ⟨(Lib.itoa n).toArray⟩) ∧ Below w.heap.size w w' := by
  go_enter Tryz.func48, Tryz.ntmps48
  go_wp2_with fail
  refine (Tryz.strconv_Itoa n h0 h1 _ htab).mono ?_
  rintro e w' ⟨rfl, k, os, rfl⟩
  go_wp2
  go_ret
  exact ⟨rfl, Lib.below_grow _ _ (Nat.le_refl _) _ _⟩
end Go.Proofs.YtfpnflhkfpolcaaGreatDoor.Num
