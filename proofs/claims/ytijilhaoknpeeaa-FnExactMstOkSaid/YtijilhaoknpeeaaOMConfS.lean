
/-
  A slice of MConf that comes in, as data. (Made by wip/gk.py.)
-/
import Derived.Test.YtijilhaoknpeeaaKMConfS
import Derived.Test.YtijilhaoknpeeaaOMConf
import Derived.Test.YtijilhaoknpeeaaORow
namespace Go.Proofs.Ytijilhaoknpeeaa.KD
open Go.RowKit Go.Joins Go.WideShapes Go.ChangeShapes Go.Deep Rows3 GR
set_option linter.unusedVariables false

theorem trod_mConfS {H : Type} {enc : TypeId × Value → H} {w : World} {base : Nat} {sp : Nat → Bool} {held : Bool} {fuel : Nat} {v : Value} {y : DataW H × List MemPlace} (hsp : ∀ b, sp b = true)
    (h : DataW.trod enc Try.prog w base sp held fuel 57 [v] = some y) : ∃ l, mConfS.rd [v] l w :=
  trod_row hsp Try.underlying57 (by kernel_rfl : Try.prog.cellsOf 123 = 4) (by decide) (fun hl hh => trod_mConf hsp hl hh) h
end Go.Proofs.Ytijilhaoknpeeaa.KD
