
/-
  What FnModels draws: spec.DrawModelDo.
-/
import Derived.Test.YtbhmfjblmcppbaaDrawM2
namespace Go.Proofs.Ytbhmfjblmcppbaa.Cur
open Go.RowKit Bytes Num GR KD Rows3
set_option linter.unusedVariables false

theorem AnyM.form {B : Nat} {us : List Value} {w : World} (h : AnyM B us w) : ∃ a0 n0 p0 a1 n1 p1 t a2 n2 p2, us = [.slice a0 n0 p0, .slice a1 n1 p1, .int .i64 t, .slice a2 n2 p2] := by
  obtain ⟨l, r, t, f, hl, hr, hf, h⟩ := h
  obtain ⟨a0, p0, a1, p1, a2, p2, rfl, _⟩ := model_form (modelK.cap_rd h)
  exact ⟨a0, _, p0, a1, _, p1, t, a2, _, p2, rfl⟩
theorem AnyM.only {B c : Nat} {us : List Value} {w w' : World} (h : AnyM B us w) (hO : Only c w w') (hc : c < B) : AnyM B us w' := by
  obtain ⟨l, r, t, f, hl, hr, hf, h⟩ := h; exact ⟨l, r, t, f, hl, hr, hf, cap_only modelK h hO (by omega)⟩
theorem AnyM.set {B : Nat} {us : List Value} {w : World} (h : AnyM B us w) {p : Addr} (hp : p.block < B) (u : Value) : AnyM B us (w.setCell p u) := by
  obtain ⟨l, r, t, f, hl, hr, hf, h⟩ := h; exact ⟨l, r, t, f, hl, hr, hf, modelK.cap_set h (by omega) u⟩
theorem AnyM.mono {B B' : Nat} {us : List Value} {w : World} (h : AnyM B us w) (hB : B' ≤ B) : AnyM B' us w := by
  obtain ⟨l, r, t, f, hl, hr, hf, h⟩ := h; exact ⟨l, r, t, f, hl, hr, hf, modelK.cap_wide h (fun _ _ hk => Nat.le_trans hB hk)⟩
/-- a model, a truth value, three numbers. -/
def DrewMo (w : World) (e : Ending) (w' : World) : Prop := ∃ us b x y z, e = .returned (.tuple #[agg us, .bool b, .int .i64 x, .int .i64 y, .int .i64 z]) ∧ AnyM w.heap.size us w' ∧ Below w.heap.size w w'
set_option maxHeartbeats 4000000 in
set_option maxRecDepth 100000 in
theorem drawMo_any (a : Option Addr) (len cap : Nat) (z : List Int) (w : World) (h : CodeIn a len z w) : Calls Try.prog 10 #[.slice a len cap] w (DrewMo w) := by
  have B0 := Bx.new 28 #[.slice none 0 0, .slice none 0 0, .int .i64 0, .slice none 0 0] w
  have hb0 := (Below.refl w.heap.size w).alloc (Nat.le_refl _) (.cells #[.slice none 0 0, .slice none 0 0, .int .i64 0, .slice none 0 0] 28)
  have hC0 := h.below hb0
  go_enter Try.func10, Try.ntmps10
  go_wp2_with fail
  refine (newC a len cap z _ hC0).mono ?_
  rintro e w1 ⟨c, rfl, hc, hC1, hb1⟩
  have hc0 : w.heap.size < c := by simp at hc; omega
  have hcw := hC1.lt
  have R1 := B0.later hb1
  have hb01 := hb0.trans (hb1.mono hb0.size)
  clear hb1 B0 hC0 hb0 h hc
  go_wp2_with fail
  refine (pickLit _ c [2, 2, 1, 0, 3] 5 rfl (by omega) (by omega) _ hC1 _ rfl).mono ?_
  rintro e w2 ⟨sz, _, rfl, hC2, hO2⟩
  have R2 := bx_only R1 hO2 (by omega)
  clear R1 hC1
  go_wp2_with fail
  refine (belowC _ c 128 (by omega) (by omega) _ hC2).mono ?_
  rintro e w3 ⟨x1, ⟨h10, h11⟩, rfl, hC3, hO3⟩
  have R3 := bx_only R2 hO3 (by omega)
  have N3 := hO2.trans hO3
  clear R2 hC2 hO2 hO3
  go_wp2_with fail
  refine (belowC _ c 64 (by omega) (by omega) _ hC3).mono ?_
  rintro e w4 ⟨x2, ⟨h20, h21⟩, rfl, hC4, hO4⟩
  have R4 := bx_only R3 hO4 (by omega)
  have N4 := N3.trans hO4
  clear R3 hC3 N3 hO4
  go_wp2_with fail
  refine (belowC _ c 32 (by omega) (by omega) _ hC4).mono ?_
  rintro e w5 ⟨x3, ⟨h30, h31⟩, rfl, hC5, hO5⟩
  have R5 := bx_only R4 hO5 (by omega)
  have N5 := N4.trans hO5
  clear R4 hC4 N4 hO5
  go_wp2_with fail
  refine (belowC _ c 32 (by omega) (by omega) _ hC5).mono ?_
  rintro e w6 ⟨x4, ⟨h40, h41⟩, rfl, hC6, hO6⟩
  have R6 := bx_only R5 hO6 (by omega)
  have N6 := N5.trans hO6
  clear R5 hC5 N5 hO6
  go_wp2_with fail
  refine (pickLit _ c [x1, 128 + x2, 192 + x3, 192 + x4, 224, -1] 6 rfl (by omega) (by omega) _ hC6 _ rfl).mono ?_
  rintro e w7 ⟨ad, had, rfl, hC7, hO7⟩
  have R7 := bx_only R6 hO7 (by omega)
  have N7 := N6.trans hO7
  have had2 : -1 ≤ ad ∧ ad ≤ 224 := by
    simp at had
    omega
  clear R6 hC6 N6 hO7 had
  go_wp2_with fail
  refine (onceC _ c 8 (by omega) (by omega) _ hC7).mono ?_
  rintro e w8 ⟨q, rfl, hC8, hO8⟩
  have R8 := bx_only R7 hO8 (by omega)
  have N8 := N7.trans hO8
  clear R7 hC7 N7 hO8
  cases q with
  | true =>
    go_wp2_with fail
    refine (anyM_any _ c _ hC8).mono ?_
    rintro e w9 ⟨us, he, hS9, hC9, hO9⟩
    obtain ⟨a0, n0, p0, a1, n1, p1, t, a2, n2, p2, rfl⟩ := hS9.form
    obtain rfl : e = .returned (.agg #[.slice a0 n0 p0, .slice a1 n1 p1, .int .i64 t, .slice a2 n2 p2]) := he
    have R9 := bx_only R8 hO9 (by omega)
    have N9 := N8.trans hO9
    have hcw8 : c < w8.heap.size := Nat.lt_of_lt_of_le hcw N8.size
    clear R8 hC8 N8 hO9
    go_wp2_with fail
    refine (onceC _ c 2 (by omega) (by omega) _ hC9).mono ?_
    rintro e wa ⟨b, rfl, hCa, hOa⟩
    have Sa := hS9.only hOa hcw8
    have Ra := bx_only R9 hOa (by omega)
    have Na := N9.trans hOa
    clear R9 hC9 hS9 N9 hOa
    go_wp2_with fail
    refine (value_any _ c _ _ hCa).mono ?_
    rintro e wb ⟨y, _, rfl, hCb, hOb⟩
    have Sb := Lib.hid (Sa.only hOb hcw8)
    have Rb := Lib.hid (bx_only Ra hOb (by omega))
    have Nb := Lib.hid (Na.trans hOb)
    have hs1 := Lib.hid hb01.size
    have hs2 := Lib.hid (show w.heap.size < w8.heap.size by omega)
    clear Ra hCa Sa Na hOb hCb
    obtain ⟨z0, z1, z2, z3⟩ := warm4 Rb.out
    obtain ⟨k0, k1, k2, k3⟩ := cells4 Rb.out
    obtain ⟨e0, e1, e2, e3⟩ := cells4 (Bx.four Rb.out (.slice a0 n0 p0) (.slice a1 n1 p1) (.int .i64 t) (.slice a2 n2 p2))
    go_wp2_with fail
    refine bodyPost_ret (v := .tuple #[.agg #[.slice a0 n0 p0, .slice a1 n1 p1, .int .i64 t, .slice a2 n2 p2], .bool b, .int .i64 (ad), .int .i64 sz, .int .i64 y]) (by simp [results, Try.results10, go_sem, e0, e1, e2, e3]) rfl ⟨_, _, _, _, _, rfl, ?_, ?_⟩
    · refine AnyM.mono (B := w8.heap.size) ?_ (Nat.le_of_lt hs2.out)
      iterate 4 refine AnyM.set ?_ (by exact hs2.out) _
      exact Sb.out
    · iterate 4 refine Below.setCell ?_ (by exact Nat.le_refl _) _
      exact Only.below hb01 (Nat.le_of_lt hc0) Nb.out
  | false =>
  by_cases hm : ad = -1
  · subst hm
    go_wp2_with fail
    refine (anyM_any _ c _ hC8).mono ?_
    rintro e w9 ⟨us, he, hS9, hC9, hO9⟩
    obtain ⟨a0, n0, p0, a1, n1, p1, t, a2, n2, p2, rfl⟩ := hS9.form
    obtain rfl : e = .returned (.agg #[.slice a0 n0 p0, .slice a1 n1 p1, .int .i64 t, .slice a2 n2 p2]) := he
    have R9 := bx_only R8 hO9 (by omega)
    have N9 := N8.trans hO9
    have hcw8 : c < w8.heap.size := Nat.lt_of_lt_of_le hcw N8.size
    clear R8 hC8 N8 hO9
    go_wp2_with fail
    refine (onceC _ c 2 (by omega) (by omega) _ hC9).mono ?_
    rintro e wa ⟨b, rfl, hCa, hOa⟩
    have Sa := hS9.only hOa hcw8
    have Ra := bx_only R9 hOa (by omega)
    have Na := N9.trans hOa
    clear R9 hC9 hS9 N9 hOa
    go_wp2_with fail
    refine (value_any _ c _ _ hCa).mono ?_
    rintro e wb ⟨y, _, rfl, hCb, hOb⟩
    have Sb := Lib.hid (Sa.only hOb hcw8)
    have Rb := Lib.hid (bx_only Ra hOb (by omega))
    have Nb := Lib.hid (Na.trans hOb)
    have hs1 := Lib.hid hb01.size
    have hs2 := Lib.hid (show w.heap.size < w8.heap.size by omega)
    clear Ra hCa Sa Na hOb hCb
    obtain ⟨z0, z1, z2, z3⟩ := warm4 Rb.out
    obtain ⟨k0, k1, k2, k3⟩ := cells4 Rb.out
    obtain ⟨e0, e1, e2, e3⟩ := cells4 (Bx.four Rb.out (.slice a0 n0 p0) (.slice a1 n1 p1) (.int .i64 t) (.slice a2 n2 p2))
    go_wp2_with fail
    refine bodyPost_ret (v := .tuple #[.agg #[.slice a0 n0 p0, .slice a1 n1 p1, .int .i64 t, .slice a2 n2 p2], .bool b, .int .i64 (0), .int .i64 sz, .int .i64 y]) (by simp [results, Try.results10, go_sem, e0, e1, e2, e3]) rfl ⟨_, _, _, _, _, rfl, ?_, ?_⟩
    · refine AnyM.mono (B := w8.heap.size) ?_ (Nat.le_of_lt hs2.out)
      iterate 4 refine AnyM.set ?_ (by exact hs2.out) _
      exact Sb.out
    · iterate 4 refine Below.setCell ?_ (by exact Nat.le_refl _) _
      exact Only.below hb01 (Nat.le_of_lt hc0) Nb.out
  · have hq : Int.tdiv ad 4 = ad / 4 := Int.tdiv_eq_ediv_of_nonneg (by omega)
    have hq2 : ad / 4 * 4 ≤ 224 := by omega
    have hq3 : 0 ≤ ad / 4 * 4 := by omega
    go_wp2_with fail
    refine (anyM_any _ c _ hC8).mono ?_
    rintro e w9 ⟨us, he, hS9, hC9, hO9⟩
    obtain ⟨a0, n0, p0, a1, n1, p1, t, a2, n2, p2, rfl⟩ := hS9.form
    obtain rfl : e = .returned (.agg #[.slice a0 n0 p0, .slice a1 n1 p1, .int .i64 t, .slice a2 n2 p2]) := he
    have R9 := bx_only R8 hO9 (by omega)
    have N9 := N8.trans hO9
    have hcw8 : c < w8.heap.size := Nat.lt_of_lt_of_le hcw N8.size
    clear R8 hC8 N8 hO9
    go_wp2_with fail
    refine (onceC _ c 2 (by omega) (by omega) _ hC9).mono ?_
    rintro e wa ⟨b, rfl, hCa, hOa⟩
    have Sa := hS9.only hOa hcw8
    have Ra := bx_only R9 hOa (by omega)
    have Na := N9.trans hOa
    clear R9 hC9 hS9 N9 hOa
    go_wp2_with fail
    refine (value_any _ c _ _ hCa).mono ?_
    rintro e wb ⟨y, _, rfl, hCb, hOb⟩
    have Sb := Lib.hid (Sa.only hOb hcw8)
    have Rb := Lib.hid (bx_only Ra hOb (by omega))
    have Nb := Lib.hid (Na.trans hOb)
    have hs1 := Lib.hid hb01.size
    have hs2 := Lib.hid (show w.heap.size < w8.heap.size by omega)
    clear Ra hCa Sa Na hOb hCb
    obtain ⟨z0, z1, z2, z3⟩ := warm4 Rb.out
    obtain ⟨k0, k1, k2, k3⟩ := cells4 Rb.out
    obtain ⟨e0, e1, e2, e3⟩ := cells4 (Bx.four Rb.out (.slice a0 n0 p0) (.slice a1 n1 p1) (.int .i64 t) (.slice a2 n2 p2))
    go_wp2_with fail
    refine bodyPost_ret (v := .tuple #[.agg #[.slice a0 n0 p0, .slice a1 n1 p1, .int .i64 t, .slice a2 n2 p2], .bool b, .int .i64 (ad / 4 * 4), .int .i64 sz, .int .i64 y]) (by simp [results, Try.results10, go_sem, e0, e1, e2, e3]) rfl ⟨_, _, _, _, _, rfl, ?_, ?_⟩
    · refine AnyM.mono (B := w8.heap.size) ?_ (Nat.le_of_lt hs2.out)
      iterate 4 refine AnyM.set ?_ (by exact hs2.out) _
      exact Sb.out
    · iterate 4 refine Below.setCell ?_ (by exact Nat.le_refl _) _
      exact Only.below hb01 (Nat.le_of_lt hc0) Nb.out
end Go.Proofs.Ytbhmfjblmcppbaa.Cur
