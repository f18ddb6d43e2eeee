
/-
  The arbiter of chapter 11 as plain functions.
-/
import Derived.Test.YtdhaelaoackfkaaGreatGConf13
import Derived.Test.YtdhaelaoackfkaaGreatKWrr
import Derived.Test.YtdhaelaoackfkaaGreatGB13
namespace Go.Proofs.YtdhaelaoackfkaaGreat.KD
open Go.RowKit Rows3 GR Num
set_option linter.unusedVariables false

/-- how many beats a master has in one turn. -/
def turnW (c : ConfX) (who : Int) : Int := if okX c = true ∧ 0 ≤ who ∧ who < c.1.length then (c.1.getD who.toNat (0, false, 0, 0)).1 * c.2.1 else 0
/-- is it an arbiter of the configuration. -/
def okWr (a k : Int) (c : ConfX) : Bool := okX c && (inB a 0 ((c.1.length : Int) - 1) && inB k 0 (turnW c a))
/-- the first that wants, from the j-th behind a on, n of them left. -/
def firstR (a : Int) (wants : List Bool) : Nat → Int → Option Int
  | 0, _ => none
  | n + 1, j => if wants.getD ((a + j) % wants.length).toNat false then some ((a + j) % wants.length) else firstR a wants n (j + 1)
/-- who has the next beat. -/
def pickR (a k : Int) (c : ConfX) (wants : List Bool) : (Int × Int) × Int :=
  if okWr a k c = true ∧ wants.length = c.1.length then
    if 0 < k ∧ wants.getD a.toNat false = true then ((a, k - 1), a)
    else match firstR a wants wants.length 1 with
      | some i => ((i, turnW c i - 1), i)
      | none => ((a, 0), -1)
  else ((a, k), -1)
/-- given back what was had for nothing. -/
def backR (a k : Int) (c : ConfX) (who : Int) : Int × Int := if okWr a k c = true ∧ a = who then (a, if turnW c who < k + 1 then turnW c who else k + 1) else (a, k)
/-- an arbiter as a result. -/
def NewWrr (d : Int × Int) (w : World) (e : Ending) (w' : World) : Prop := ∃ us, e = .returned (agg us) ∧ wrrK.cap (fun k => w.heap.size ≤ k) us d w' ∧ Below w.heap.size w w'
def NewPick (d : (Int × Int) × Int) (w : World) (e : Ending) (w' : World) : Prop := ∃ us, e = .returned (.tuple #[agg us, .int .i64 d.2]) ∧ wrrK.cap (fun k => w.heap.size ≤ k) us d.1 w' ∧ Below w.heap.size w w'
end Go.Proofs.YtdhaelaoackfkaaGreat.KD
