
/-
  Chapter 4's draws: some memory, some address, some size, some number.
-/
import Derived.Test.YtklcelcmbepbpaaCurD
import Derived.Test.YtklcelcmbepbpaaLane
import Derived.Test.YtklcelcmbepbpaaEq
namespace Go.Proofs.Ytklcelcmbepbpaa.Cur
open Go.RowKit Bytes Rows3 Num

theorem Only.grown {c : Nat} {w w' : World} (h : Only c w w') : w.grownBy w' (some c) := ⟨h.os, h.tape, h.output, h.size, fun k hk hne => h.block k hk (fun e => hne (by rw [e]))⟩
theorem ownI_only {B c : Nat} {v : Value} {l : List Int} {w w' : World} (h : OwnI B v l w) (hO : Only c w w') (hc : c < B) : OwnI B v l w' :=
  h.far hO.grown (fun k hk e => by have := (World.ownsRow.lt h k hk).1; cases e; omega)
theorem results4 {fn : Func} {t u v x : Tmp} (h : fn.results = #[.tmp t, .tmp u, .tmp v, .tmp x]) (tmps : Array Value) (P : Program) (w : World) :
    (results fn tmps).run P w = .ok (.tuple #[tmps.getD t undef, tmps.getD u undef, tmps.getD v undef, tmps.getD x undef]) w := by simp [results, h]

/-- some memory of at most 20 numbers. -/
def SomeMem (D c : Nat) (w : World) (e : Ending) (w' : World) : Prop := ∃ (v : Value) (l : List Int), e = .returned v ∧ l.length ≤ 20 ∧ OwnI w.heap.size v l w' ∧ CuD D c w' ∧ Only c w w'
def FourM (w : World) (e : Ending) (w' : World) : Prop := ∃ (v : Value) (l : List Int) (x y z : Int), e = .returned (.tuple #[v, .int .i64 x, .int .i64 y, .int .i64 z]) ∧ l.length ≤ 20 ∧ OwnI w.heap.size v l w' ∧ Below w.heap.size w w'
def FourI (w : World) (e : Ending) (w' : World) : Prop := ∃ x y z u : Int, e = .returned (.tuple #[.int .i64 x, .int .i64 y, .int .i64 z, .int .i64 u]) ∧ Below w.heap.size w w'
end Go.Proofs.Ytklcelcmbepbpaa.Cur
