
/-
  What FnDevices draws: spec.DrawDevDo.
-/
import Derived.Test.YtkopiogehmfioaaDrawD2
namespace Go.Proofs.Ytkopiogehmfioaa.Cur
open Go.RowKit Bytes Num GR KD Rows3
set_option linter.unusedVariables false

theorem AnyD.form {B : Nat} {us : List Value} {w : World} (h : AnyD B us w) : ∃ a0 n0 p0 t a2 n2 p2, us = [.slice a0 n0 p0, .int .i64 t, .slice a2 n2 p2] := by
  obtain ⟨r, t, f, hr, hf, hc⟩ := h
  obtain ⟨a0, p0, a2, p2, rfl, _, _⟩ := dev_form (devK.cap_rd hc)
  exact ⟨a0, _, p0, t, a2, _, p2, rfl⟩
theorem AnyD.only {B c : Nat} {us : List Value} {w w' : World} (h : AnyD B us w) (hO : Only c w w') (hc : c < B) : AnyD B us w' := by
  obtain ⟨r, t, f, hr, hf, h⟩ := h; exact ⟨r, t, f, hr, hf, cap_only devK h hO (by omega)⟩
theorem AnyD.set {B : Nat} {us : List Value} {w : World} (h : AnyD B us w) {p : Addr} (hp : p.block < B) (u : Value) : AnyD B us (w.setCell p u) := by
  obtain ⟨r, t, f, hr, hf, h⟩ := h; exact ⟨r, t, f, hr, hf, devK.cap_set h (by omega) u⟩
theorem AnyD.mono {B B' : Nat} {us : List Value} {w : World} (h : AnyD B us w) (hB : B' ≤ B) : AnyD B' us w := by
  obtain ⟨r, t, f, hr, hf, hc⟩ := h; exact ⟨r, t, f, hr, hf, devK.cap_wide hc (fun _ _ hk => Nat.le_trans hB hk)⟩
/-- a device, a truth value, two numbers. -/
def DrewDo (w : World) (e : Ending) (w' : World) : Prop := ∃ us b x y, e = .returned (.tuple #[agg us, .bool b, .int .i64 x, .int .i64 y]) ∧ AnyD w.heap.size us w' ∧ Below w.heap.size w w'
set_option maxHeartbeats 4000000 in
set_option maxRecDepth 100000 in
theorem drawDo_any (a : Option Addr) (len cap : Nat) (z : List Int) (w : World) (h : CodeIn a len z w) : Calls Try.prog 9 #[.slice a len cap] w (DrewDo w) := by
  have B0 := Bx.new 26 #[.slice none 0 0, .int .i64 0, .slice none 0 0] w
  have hb0 := (Below.refl w.heap.size w).alloc (Nat.le_refl _) (.cells #[.slice none 0 0, .int .i64 0, .slice none 0 0] 26)
  have hC0 := h.below hb0
  go_enter Try.func9, Try.ntmps9
  go_wp2_with fail
  refine (newC a len cap z _ hC0).mono ?_
  rintro e w1 ⟨c, rfl, hc, hC1, hb1⟩
  have hc0 : w.heap.size < c := by simp at hc; omega
  have hcw := hC1.lt
  have R1 := B0.later hb1
  have hb01 := hb0.trans (hb1.mono hb0.size)
  clear hb1 B0 hC0 hb0 h hc
  go_wp2_with fail
  refine (any_any _ c _ hC1).mono ?_
  rintro e w2 ⟨us, he, hS2, hC2, hO2⟩
  obtain ⟨a0, n0, p0, t, a2, n2, p2, rfl⟩ := hS2.form
  obtain rfl : e = .returned (.agg #[.slice a0 n0 p0, .int .i64 t, .slice a2 n2 p2]) := he
  have R2 := bx_only R1 hO2 (by omega)
  clear R1 hC1
  go_wp2_with fail
  refine (onceC _ c 2 (by omega) (by omega) _ hC2).mono ?_
  rintro e w3 ⟨b, rfl, hC3, hO3⟩
  have S3 := hS2.only hO3 hcw
  have R3 := bx_only R2 hO3 (by omega)
  have N3 := hO2.trans hO3
  clear R2 hC2 hS2 hO2 hO3
  go_wp2_with fail
  refine (pickLit _ c [0, 4, 12, 16, 16, 20, 20, 24, -4, 2] 10 rfl (by omega) (by omega) _ hC3 _ rfl).mono ?_
  rintro e w4 ⟨x, hx, rfl, hC4, hO4⟩
  clear hx
  have S4 := S3.only hO4 hcw
  have R4 := bx_only R3 hO4 (by omega)
  have N4 := N3.trans hO4
  clear R3 hC3 S3 N3 hO4
  go_wp2_with fail
  refine (value_any _ c _ _ hC4).mono ?_
  rintro e w5 ⟨y, _, rfl, hC5, hO5⟩
  have S5 := Lib.hid (S4.only hO5 hcw)
  have R5 := Lib.hid (bx_only R4 hO5 (by omega))
  have N5 := Lib.hid (N4.trans hO5)
  have hs1 := Lib.hid hb01.size
  have hs2 := Lib.hid (show w.heap.size < w1.heap.size by have := hcw; omega)
  clear R4 hC4 S4 N4 hO5 hC5
  have z0 := R5.out.warm 0
  have z1 := R5.out.warm 1
  have z2 := R5.out.warm 2
  obtain ⟨k0, k1, k2⟩ := cells3 R5.out
  obtain ⟨e0, e1, e2⟩ := cells3 (Bx.three R5.out (.slice a0 n0 p0) (.int .i64 t) (.slice a2 n2 p2))
  go_wp2_with fail
  refine bodyPost_ret (v := .tuple #[.agg #[.slice a0 n0 p0, .int .i64 t, .slice a2 n2 p2], .bool b, .int .i64 x, .int .i64 y]) (by simp [results, Try.results9, go_sem, e0, e1, e2]) rfl ⟨_, _, _, _, rfl, ?_, ?_⟩
  · exact (((S5.out.set (p := ⟨w.heap.size, 0, none⟩) (hs2.out) _).set (p := ⟨w.heap.size, 1, none⟩) (hs2.out) _).set (p := ⟨w.heap.size, 2, none⟩) (hs2.out) _).mono (Nat.le_of_lt hs2.out)
  · iterate 3 refine Below.setCell ?_ (by exact Nat.le_refl _) _
    exact Only.below hb01 (Nat.le_of_lt hc0) N5.out
end Go.Proofs.Ytkopiogehmfioaa.Cur
