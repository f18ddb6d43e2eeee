
/-
  A list of truth values that comes in, as data.
-/
import Derived.Test.YtddbhokfjdgabaaKdO
import Derived.Test.YtddbhokfjdgabaaORow
namespace Go.Proofs.Ytddbhokfjdgabaa.KD
open Go.RowKit Go.Joins Go.WideShapes Go.ChangeShapes Go.Deep Rows3
set_option linter.unusedVariables false

theorem trod_boolC {H : Type} {enc : TypeId × Value → H} {w : World} {base : Nat} {sp : Nat → Bool} {held : Bool} {fuel : Nat} {cs : List Value} {y : DataW H × List MemPlace} (hln : cs.length = 1)
    (h : DataW.trod enc Try.prog w base sp held fuel 4 cs = some y) : ∃ x, bool.rd cs x w := by
  match cs, hln with
  | [c0], _ =>
    obtain ⟨x, g, _⟩ := DataW.trod_bool Try.underlying4 h
    exact ⟨x, by show [c0] = [Value.bool x]; simpa using g⟩
theorem trod_bools {H : Type} {enc : TypeId × Value → H} {w : World} {base : Nat} {sp : Nat → Bool} {held : Bool} {fuel : Nat} {v : Value} {y : DataW H × List MemPlace} (hsp : ∀ b, sp b = true)
    (h : DataW.trod enc Try.prog w base sp held fuel 29 [v] = some y) : ∃ l, bools.rd [v] l w :=
  trod_row hsp Try.underlying29 (by kernel_rfl : Try.prog.cellsOf 4 = 1) (by decide) (fun hl hh => trod_boolC hl hh) h
set_option maxRecDepth 100000 in
theorem open_bools {H : Type} {enc : TypeId × Value → H} {w : World} {base : Nat} {held : Bool} {r : Reach} {b0 : Nat} {v : Value} {d : DataW H} {p : List MemPlace}
    (hv : Value.okWide Try.prog w r b0 29 v) (h : DataW.Trod enc Try.prog w base (fun _ => true) held 29 v d p) : ∃ (u : List Value) (x : List Bool), v = one u ∧ bools.rd u x w := by
  obtain ⟨ad, len, cap, rfl⟩ := okWide_slice Try.underlying29 hv
  obtain ⟨fuel, hf⟩ := h
  obtain ⟨x, hx⟩ := trod_bools (fun _ => rfl) (show DataW.trod enc Try.prog w base (fun _ => true) held fuel 29 [.slice ad len cap] = some (d, p) from hf)
  exact ⟨_, x, rfl, hx⟩
end Go.Proofs.Ytddbhokfjdgabaa.KD
