
/-
  A Req that comes in, as data. (Made by wip/gk.py.)
-/
import Derived.Test.YtijilhaoknpeeaaKReq
import Derived.Test.YtijilhaoknpeeaaOInts
import Derived.Lib.SmallJoins
import Derived.Deep.Slices
import Derived.Deep.Fields
import Derived.ChangeSame
namespace Go.Proofs.Ytijilhaoknpeeaa.KD
open Go.RowKit Go.Joins Go.WideShapes Go.ChangeShapes Go.Deep Rows3 GR
set_option linter.unusedVariables false

set_option maxRecDepth 100000 in
theorem trod_req {H : Type} {enc : TypeId × Value → H} {w : World} {base : Nat} {sp : Nat → Bool} {held : Bool} {fuel : Nat} {cs : List Value} {y : DataW H × List MemPlace} (hsp : ∀ b, sp b = true) (hln : cs.length = 6)
    (h : DataW.trod enc Try.prog w base sp held fuel 70 cs = some y) : ∃ x, reqK.rd cs x w := by
  match cs, hln with
  | [c0, c1, c2, c3, c4, c5], _ =>
    obtain ⟨xs, n, _, _, _, hl, hx⟩ := DataW.trod_struct Try.underlying70 h
    have hs0 : Try.prog.cellsOf 4 = 1 := by kernel_rfl
    have hs1 : Try.prog.cellsOf 3 = 1 := by kernel_rfl
    have hs2 : Try.prog.cellsOf 33 = 1 := by kernel_rfl
    have f0 := hx 0 _ rfl
    have f1 := hx 1 _ rfl
    have f2 := hx 2 _ rfl
    have f3 := hx 3 _ rfl
    have f4 := hx 4 _ rfl
    have f5 := hx 5 _ rfl
    simp [hs0, hs1, hs2] at f0 f1 f2 f3 f4 f5
    match xs, (show xs.length = 6 from hl) with
    | [y0, y1, y2, y3, y4, y5], _ =>
      simp at f0 f1 f2 f3 f4 f5
      obtain ⟨x0, g0, _⟩ := DataW.trod_bool Try.underlying4 f0
      simp at g0
      subst g0
      obtain ⟨x1, g1, _, _⟩ := DataW.trod_int Try.underlying3 f1
      simp at g1
      subst g1
      obtain ⟨x2, g2, _, _⟩ := DataW.trod_int Try.underlying3 f2
      simp at g2
      subst g2
      obtain ⟨x3, g3, _, _⟩ := DataW.trod_int Try.underlying3 f3
      simp at g3
      subst g3
      obtain ⟨x4, g4, _⟩ := DataW.trod_bool Try.underlying4 f4
      simp at g4
      subst g4
      obtain ⟨x5, rx5⟩ := trod_ints hsp f5
      exact ⟨(x0, x1, x2, x3, x4, x5), ⟨[.bool x0], _, rfl, rfl, ⟨[.int .i64 x1], _, rfl, rfl, ⟨[.int .i64 x2], _, rfl, rfl, ⟨[.int .i64 x3], _, rfl, rfl, ⟨[.bool x4], _, rfl, rfl, rx5⟩⟩⟩⟩⟩⟩
set_option maxRecDepth 100000 in
theorem open_req {H : Type} {enc : TypeId × Value → H} {w : World} {base : Nat} {held : Bool} {r : Reach} {b0 : Nat} {v : Value} {d : DataW H} {p : List MemPlace}
    (hv : Value.okWide Try.prog w r b0 70 v) (h : DataW.Trod enc Try.prog w base (fun _ => true) held 70 v d p) : ∃ (u : List Value) (x : Bool × Int × Int × Int × Bool × List Int), v = .agg u.toArray ∧ reqK.rd u x w := by
  obtain ⟨cs, rfl, hsz⟩ := okWide_struct Try.underlying70 hv
  obtain ⟨fuel, hf⟩ := h
  obtain ⟨x, hx⟩ := trod_req (cs := cs.toList) (fun _ => rfl) (by rw [Array.length_toList]; exact hsz.trans (by kernel_rfl : Try.prog.cellsOf 70 = 6)) (by simpa [Value.cells] using hf)
  exact ⟨cs.toList, x, rfl, hx⟩
end Go.Proofs.Ytijilhaoknpeeaa.KD
