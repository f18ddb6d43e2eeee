
/-
  A Dev that comes in, as data. (Made by wip/gk.py.)
-/
import Derived.Test.YtbhmfjblmcppbaaKDev
import Derived.Test.YtbhmfjblmcppbaaOInts
import Derived.Lib.SmallJoins
import Derived.Deep.Slices
import Derived.Deep.Fields
import Derived.ChangeSame
namespace Go.Proofs.Ytbhmfjblmcppbaa.KD
open Go.RowKit Go.Joins Go.WideShapes Go.ChangeShapes Go.Deep Rows3 GR
set_option linter.unusedVariables false

set_option maxRecDepth 100000 in
theorem trod_dev {H : Type} {enc : TypeId × Value → H} {w : World} {base : Nat} {sp : Nat → Bool} {held : Bool} {fuel : Nat} {cs : List Value} {y : DataW H × List MemPlace} (hsp : ∀ b, sp b = true) (hln : cs.length = 3)
    (h : DataW.trod enc Try.prog w base sp held fuel 41 cs = some y) : ∃ x, devK.rd cs x w := by
  match cs, hln with
  | [c0, c1, c2], _ =>
    obtain ⟨xs, n, _, _, _, hl, hx⟩ := DataW.trod_struct Try.underlying41 h
    have hs0 : Try.prog.cellsOf 24 = 1 := by kernel_rfl
    have hs1 : Try.prog.cellsOf 3 = 1 := by kernel_rfl
    have f0 := hx 0 _ rfl
    have f1 := hx 1 _ rfl
    have f2 := hx 2 _ rfl
    simp [hs0, hs1] at f0 f1 f2
    match xs, (show xs.length = 3 from hl) with
    | [y0, y1, y2], _ =>
      simp at f0 f1 f2
      obtain ⟨x0, rx0⟩ := trod_ints hsp f0
      obtain ⟨x1, g1, _, _⟩ := DataW.trod_int Try.underlying3 f1
      simp at g1
      subst g1
      obtain ⟨x2, rx2⟩ := trod_ints hsp f2
      exact ⟨(x0, x1, x2), ⟨[c0], _, rfl, rx0, ⟨[.int .i64 x1], _, rfl, rfl, rx2⟩⟩⟩
theorem open_dev {H : Type} {enc : TypeId × Value → H} {w : World} {base : Nat} {held : Bool} {r : Reach} {b0 : Nat} {v : Value} {d : DataW H} {p : List MemPlace}
    (hv : Value.okWide Try.prog w r b0 41 v) (h : DataW.Trod enc Try.prog w base (fun _ => true) held 41 v d p) : ∃ (u : List Value) (x : List Int × Int × List Int), v = .agg u.toArray ∧ devK.rd u x w := by
  obtain ⟨cs, rfl, hsz⟩ := okWide_struct Try.underlying41 hv
  obtain ⟨fuel, hf⟩ := h
  obtain ⟨x, hx⟩ := trod_dev (cs := cs.toList) (fun _ => rfl) (by rw [Array.length_toList]; exact hsz.trans (by kernel_rfl : Try.prog.cellsOf 41 = 3)) (by simpa [Value.cells] using hf)
  exact ⟨cs.toList, x, rfl, hx⟩
end Go.Proofs.Ytbhmfjblmcppbaa.KD
