
/-
  A Model that comes in, as data. (Made by wip/gk.py.)
-/
import Derived.Test.YtbhmfjblmcppbaaKModel
import Derived.Test.YtbhmfjblmcppbaaODev
import Derived.Test.YtbhmfjblmcppbaaOInts
import Derived.Lib.SmallJoins
import Derived.Deep.Slices
import Derived.Deep.Fields
import Derived.ChangeSame
namespace Go.Proofs.Ytbhmfjblmcppbaa.KD
open Go.RowKit Go.Joins Go.WideShapes Go.ChangeShapes Go.Deep Rows3 GR
set_option linter.unusedVariables false

set_option maxRecDepth 100000 in
theorem trod_model {H : Type} {enc : TypeId × Value → H} {w : World} {base : Nat} {sp : Nat → Bool} {held : Bool} {fuel : Nat} {cs : List Value} {y : DataW H × List MemPlace} (hsp : ∀ b, sp b = true) (hln : cs.length = 4)
    (h : DataW.trod enc Try.prog w base sp held fuel 43 cs = some y) : ∃ x, modelK.rd cs x w := by
  match cs, hln with
  | [c0, c1, c2, c3], _ =>
    obtain ⟨xs, n, _, _, _, hl, hx⟩ := DataW.trod_struct Try.underlying43 h
    have hs0 : Try.prog.cellsOf 24 = 1 := by kernel_rfl
    have hs1 : Try.prog.cellsOf 41 = 3 := by kernel_rfl
    have f0 := hx 0 _ rfl
    have f1 := hx 1 _ rfl
    simp [hs0, hs1] at f0 f1
    match xs, (show xs.length = 2 from hl) with
    | [y0, y1], _ =>
      simp at f0 f1
      obtain ⟨x0, rx0⟩ := trod_ints hsp f0
      obtain ⟨⟨x10, x11, x12⟩, hx1⟩ := trod_dev hsp rfl f1
      exact ⟨(x0, (x10, x11, x12)), ⟨[c0], _, rfl, rx0, hx1⟩⟩
theorem open_model {H : Type} {enc : TypeId × Value → H} {w : World} {base : Nat} {held : Bool} {r : Reach} {b0 : Nat} {v : Value} {d : DataW H} {p : List MemPlace}
    (hv : Value.okWide Try.prog w r b0 43 v) (h : DataW.Trod enc Try.prog w base (fun _ => true) held 43 v d p) : ∃ (u : List Value) (x : List Int × (List Int × Int × List Int)), v = .agg u.toArray ∧ modelK.rd u x w := by
  obtain ⟨cs, rfl, hsz⟩ := okWide_struct Try.underlying43 hv
  obtain ⟨fuel, hf⟩ := h
  obtain ⟨x, hx⟩ := trod_model (cs := cs.toList) (fun _ => rfl) (by rw [Array.length_toList]; exact hsz.trans (by kernel_rfl : Try.prog.cellsOf 43 = 4)) (by simpa [Value.cells] using hf)
  exact ⟨cs.toList, x, rfl, hx⟩
end Go.Proofs.Ytbhmfjblmcppbaa.KD
