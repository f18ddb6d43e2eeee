
/-
  A Wrr that comes in, as data. (Made by wip/gk.py.)
-/
import Derived.Test.YtddbhokfjdgabaaKWrr
import Derived.Test.YtddbhokfjdgabaaOInts
import Derived.Lib.SmallJoins
import Derived.Deep.Slices
import Derived.Deep.Fields
import Derived.ChangeSame
namespace Go.Proofs.Ytddbhokfjdgabaa.KD
open Go.RowKit Go.Joins Go.WideShapes Go.ChangeShapes Go.Deep Rows3 GR
set_option linter.unusedVariables false

set_option maxRecDepth 100000 in
theorem trod_wrr {H : Type} {enc : TypeId × Value → H} {w : World} {base : Nat} {sp : Nat → Bool} {held : Bool} {fuel : Nat} {cs : List Value} {y : DataW H × List MemPlace} (hsp : ∀ b, sp b = true) (hln : cs.length = 2)
    (h : DataW.trod enc Try.prog w base sp held fuel 36 cs = some y) : ∃ x, wrrK.rd cs x w := by
  match cs, hln with
  | [c0, c1], _ =>
    obtain ⟨xs, n, _, _, _, hl, hx⟩ := DataW.trod_struct Try.underlying36 h
    have hs0 : Try.prog.cellsOf 3 = 1 := by kernel_rfl
    have f0 := hx 0 _ rfl
    have f1 := hx 1 _ rfl
    simp [hs0] at f0 f1
    match xs, (show xs.length = 2 from hl) with
    | [y0, y1], _ =>
      simp at f0 f1
      obtain ⟨x0, g0, _, _⟩ := DataW.trod_int Try.underlying3 f0
      simp at g0
      subst g0
      obtain ⟨x1, g1, _, _⟩ := DataW.trod_int Try.underlying3 f1
      simp at g1
      subst g1
      exact ⟨(x0, x1), ⟨[.int .i64 x0], _, rfl, rfl, rfl⟩⟩
set_option maxRecDepth 100000 in
theorem open_wrr {H : Type} {enc : TypeId × Value → H} {w : World} {base : Nat} {held : Bool} {r : Reach} {b0 : Nat} {v : Value} {d : DataW H} {p : List MemPlace}
    (hv : Value.okWide Try.prog w r b0 36 v) (h : DataW.Trod enc Try.prog w base (fun _ => true) held 36 v d p) : ∃ (u : List Value) (x : Int × Int), v = .agg u.toArray ∧ wrrK.rd u x w := by
  obtain ⟨cs, rfl, hsz⟩ := okWide_struct Try.underlying36 hv
  obtain ⟨fuel, hf⟩ := h
  obtain ⟨x, hx⟩ := trod_wrr (cs := cs.toList) (fun _ => rfl) (by rw [Array.length_toList]; exact hsz.trans (by kernel_rfl : Try.prog.cellsOf 36 = 2)) (by simpa [Value.cells] using hf)
  exact ⟨cs.toList, x, rfl, hx⟩
end Go.Proofs.Ytddbhokfjdgabaa.KD
