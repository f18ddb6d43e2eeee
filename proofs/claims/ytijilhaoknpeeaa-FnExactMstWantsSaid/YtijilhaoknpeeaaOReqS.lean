
/-
  A slice of Req that comes in, as data. (Made by wip/gk.py.)
-/
import Derived.Test.YtijilhaoknpeeaaKReqS
import Derived.Test.YtijilhaoknpeeaaOReq
import Derived.Test.YtijilhaoknpeeaaORow
namespace Go.Proofs.Ytijilhaoknpeeaa.KD
open Go.RowKit Go.Joins Go.WideShapes Go.ChangeShapes Go.Deep Rows3 GR
set_option linter.unusedVariables false

theorem trod_reqS {H : Type} {enc : TypeId × Value → H} {w : World} {base : Nat} {sp : Nat → Bool} {held : Bool} {fuel : Nat} {v : Value} {y : DataW H × List MemPlace} (hsp : ∀ b, sp b = true)
    (h : DataW.trod enc Try.prog w base sp held fuel 54 [v] = some y) : ∃ l, reqS.rd [v] l w :=
  trod_row hsp Try.underlying54 (by kernel_rfl : Try.prog.cellsOf 70 = 6) (by decide) (fun hl hh => trod_req hsp hl hh) h
end Go.Proofs.Ytijilhaoknpeeaa.KD
