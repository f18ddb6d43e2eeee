
/-
  isMaster of the program: is a number a master of a configuration.
-/
import Derived.Test.YtdhaelaoackfkaaGreatGConf13
namespace Go.Proofs.YtdhaelaoackfkaaGreat.Num
open Go.RowKit GR

set_option maxRecDepth 100000 in
theorem isMaster_is {who : Int} {n : Nat} {b : Bool} (h : inB who 0 ((n : Int) - 1) = b) (hn : n ≤ 2000000) (ad : Option Addr) (cap : Nat) (q mw mr ms lm : Int) (w : World) :
    Calls Tryz.prog 71 #[.int .i64 who, .agg #[.slice ad n cap, .int .i64 q, .int .i64 mw, .int .i64 mr, .int .i64 ms, .int .i64 lm]] w fun e w' => e = .returned (.bool b) ∧ Below w.heap.size w w' := by
  have H := Lib.hid h
  clear h
  have A := Bx.new 43 #[.slice ad n cap, .int .i64 q, .int .i64 mw, .int .i64 mr, .int .i64 ms, .int .i64 lm] w
  have Hb := Lib.hid ((Below.refl w.heap.size w).alloc (Nat.le_refl _) (Obj.cells #[.slice ad n cap, .int .i64 q, .int .i64 mw, .int .i64 mr, .int .i64 ms, .int .i64 lm] 43))
  go_enter Tryz.func71, Tryz.ntmps71
  go_wp2_with (go_at_call 69; ((with_reducible refine (within_is H.out _).mono ?_); rintro e w' ⟨rfl, rfl⟩))
  go_ret
  exact ⟨rfl, Hb.out⟩
end Go.Proofs.YtdhaelaoackfkaaGreat.Num
