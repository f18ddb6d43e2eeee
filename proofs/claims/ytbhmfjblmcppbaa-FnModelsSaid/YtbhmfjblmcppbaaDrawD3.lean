
/-
  What FnDevices draws: spec.DrawDevDo.
-/
import Derived.Test.YtbhmfjblmcppbaaDrawD2
namespace Go.Proofs.Ytbhmfjblmcppbaa.Cur
open Go.RowKit Bytes Num GR KD Rows3
set_option linter.unusedVariables false

theorem AnyD.form {B : Nat} {us : List Value} {w : World} (h : AnyD B us w) : ∃ a0 n0 p0 t a2 n2 p2, us = [.slice a0 n0 p0, .int .i64 t, .slice a2 n2 p2] := by
  obtain ⟨r, t, f, hr, hf, hc⟩ := h
  obtain ⟨a0, p0, a2, p2, rfl, _, _⟩ := dev_form (devK.cap_rd hc)
  exact ⟨a0, _, p0, t, a2, _, p2, rfl⟩
theorem AnyD.only {B c : Nat} {us : List Value} {w w' : World} (h : AnyD B us w) (hO : Only c w w') (hc : c < B) : AnyD B us w' := by
  obtain ⟨r, t, f, hr, hf, h⟩ := h; exact ⟨r, t, f, hr, hf, cap_only devK h hO (by omega)⟩
theorem AnyD.set {B : Nat} {us : List Value} {w : World} (h : AnyD B us w) {p : Addr} (hp : p.block < B) (u : Value) : AnyD B us (w.setCell p u) := by
  obtain ⟨r, t, f, hr, hf, h⟩ := h; exact ⟨r, t, f, hr, hf, devK.cap_set h (by omega) u⟩
theorem AnyD.mono {B B' : Nat} {us : List Value} {w : World} (h : AnyD B us w) (hB : B' ≤ B) : AnyD B' us w := by
  obtain ⟨r, t, f, hr, hf, hc⟩ := h; exact ⟨r, t, f, hr, hf, devK.cap_wide hc (fun _ _ hk => Nat.le_trans hB hk)⟩
/-- a device, a truth value, two numbers. -/
def DrewDo (w : World) (e : Ending) (w' : World) : Prop := ∃ us b x y, e = .returned (.tuple #[agg us, .bool b, .int .i64 x, .int .i64 y]) ∧ AnyD w.heap.size us w' ∧ Below w.heap.size w w'
end Go.Proofs.Ytbhmfjblmcppbaa.Cur
