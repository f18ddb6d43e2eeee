
/-
  Is a script one: ScriptOk, for the program.
-/
import Derived.Test.YtijilhaoknpeeaaScript0
import Derived.Test.YtijilhaoknpeeaaPost2
import Derived.Test.YtijilhaoknpeeaaIsM
namespace Go.Proofs.Ytijilhaoknpeeaa.Num
open Go.RowKit GR Rows3

theorem getD_map {lv : List (PC × Value)} {l : List PC} {k : Nat} {x : PC × Value} (h : lv.map (·.1) = l) (hx : lv[k]? = some x) : l.getD k pc0 = x.1 := by
  rw [← h, List.getD_eq_getElem?_getD, List.getElem?_map, hx]; rfl
theorem implReqOk_is {q : Bool} {x y z : Int} {k : Bool} {v : Value} {l : List Int} {b : Bool} (h : okR q x y z l = b) (hl : l.length ≤ 2000000) (w : World) (hv : RdI v l w) :
    Calls Try.prog 67 #[.agg #[.bool q, .int .i64 x, .int .i64 y, .int .i64 z, .bool k, v]] w fun e w' => e = .returned (.bool b) ∧ Below w.heap.size w w' := by rw [← h]; exact implReqOk q x y z k v l hl w hv
end Go.Proofs.Ytijilhaoknpeeaa.Num
