
/-
  A request that comes in: its fields, its list of numbers.
-/
import Derived.Test.YtijilhaoknpeeaaIntRow
import Derived.Lib.SmallJoins
namespace Go.Proofs.Ytijilhaoknpeeaa.Rows3
open Go.RowKit Go.Joins Go.WideShapes

theorem array6 {α : Type} {cs : Array α} (h : cs.size = 6) : ∃ c0 c1 c2 c3 c4 c5, cs = #[c0, c1, c2, c3, c4, c5] := by
  obtain ⟨l⟩ := cs
  match l, h with
  | [c0, c1, c2, c3, c4, c5], _ => exact ⟨c0, c1, c2, c3, c4, c5, rfl⟩
/-- the list as it lies in memory. -/
def IsRowQ (w : World) (a : Option Addr) (len cap : Nat) (zs : List Int) : Prop :=
  (a = none ∧ len = 0 ∧ cap = 0 ∧ zs = []) ∨
  ∃ x, a = some x ∧ len ≤ cap ∧ cap ≤ maxLen ∧ zs.length = cap ∧ (∀ i, i < zs.length → w.cell? (x.add i) = some (.int .i64 (zs.getD i 0))) ∧ ∀ n ∈ zs, (Lit.int .i64 n).wf = true
theorem IsRowQ.len {w : World} {a : Option Addr} {len cap : Nat} {zs : List Int} (h : IsRowQ w a len cap zs) : len ≤ 9223372036854775807 := by
  rcases h with ⟨_, h, _, _⟩ | ⟨x, _, h1, h2, _⟩
  · omega
  · unfold maxLen at h2; omega
set_option maxRecDepth 100000 in
theorem open_req {H : Type} {enc : TypeId × Value → H} {w : World} {base : Nat} {held : Bool} {r : Reach} {b0 : Nat} {v : Value} {d : DataW H} {p : List MemPlace}
    (hv : Value.okWide Try.prog w r b0 70 v) (h : DataW.Trod enc Try.prog w base (fun _ => true) held 70 v d p) :
    ∃ (q : Bool) (x y z : Int) (k : Bool) (a : Option Addr) (len cap : Nat) (zs : List Int), v = .agg #[.bool q, .int .i64 x, .int .i64 y, .int .i64 z, .bool k, .slice a len cap] ∧ IsRowQ w a len cap zs ∧
      (Lit.int .i64 x).wf = true ∧ (Lit.int .i64 y).wf = true ∧ (Lit.int .i64 z).wf = true := by
  obtain ⟨cs, rfl, hsz⟩ := okWide_struct Try.underlying70 hv
  obtain ⟨c0, c1, c2, c3, c4, c5, rfl⟩ := array6 (hsz.trans (by kernel_rfl : Try.prog.cellsOf 70 = 6))
  obtain ⟨fuel, hf⟩ := h
  obtain ⟨xs, n, _, _, _, hlen, hx⟩ := DataW.trod_struct Try.underlying70 hf
  have hb : Try.prog.cellsOf 4 = 1 := by kernel_rfl
  have hi : Try.prog.cellsOf 3 = 1 := by kernel_rfl
  have hs : Try.prog.cellsOf 33 = 1 := by kernel_rfl
  have f0 := hx 0 _ rfl
  have f1 := hx 1 _ rfl
  have f2 := hx 2 _ rfl
  have f3 := hx 3 _ rfl
  have f4 := hx 4 _ rfl
  have f5 := hx 5 _ rfl
  simp [Value.cells, hb, hi, hs] at f0 f1 f2 f3 f4 f5
  have hln : xs.length = 6 := hlen
  obtain ⟨y0, e0⟩ : ∃ y, xs[0]? = some y := ⟨xs[0], by simp [hln]⟩
  obtain ⟨y1, e1⟩ : ∃ y, xs[1]? = some y := ⟨xs[1], by simp [hln]⟩
  obtain ⟨y2, e2⟩ : ∃ y, xs[2]? = some y := ⟨xs[2], by simp [hln]⟩
  obtain ⟨y3, e3⟩ : ∃ y, xs[3]? = some y := ⟨xs[3], by simp [hln]⟩
  obtain ⟨y4, e4⟩ : ∃ y, xs[4]? = some y := ⟨xs[4], by simp [hln]⟩
  obtain ⟨y5, e5⟩ : ∃ y, xs[5]? = some y := ⟨xs[5], by simp [hln]⟩
  rw [e0] at f0
  rw [e1] at f1
  rw [e2] at f2
  rw [e3] at f3
  rw [e4] at f4
  rw [e5] at f5
  obtain ⟨q, g0, _⟩ := DataW.trod_bool Try.underlying4 f0
  obtain ⟨x, g1, _, wx⟩ := DataW.trod_int Try.underlying3 f1
  obtain ⟨y, g2, _, wy⟩ := DataW.trod_int Try.underlying3 f2
  obtain ⟨z, g3, _, wz⟩ := DataW.trod_int Try.underlying3 f3
  obtain ⟨k, g4, _⟩ := DataW.trod_bool Try.underlying4 f4
  simp at g0 g1 g2 g3 g4
  subst g0 g1 g2 g3 g4
  rcases ChangeShapes.open_ints Try.underlying33 Try.underlying3 (by kernel_rfl) f5 with ⟨hcs, _⟩ | ⟨a, l, c, zs, hcs, _, hl, hm, hz, _, hcell, hwz⟩
  · simp at hcs
    subst hcs
    exact ⟨q, x, y, z, k, none, 0, 0, [], rfl, .inl ⟨rfl, rfl, rfl, rfl⟩, wx, wy, wz⟩
  · simp at hcs
    subst hcs
    exact ⟨q, x, y, z, k, some a, l, c, zs, rfl, .inr ⟨a, rfl, hl, hm, by simpa using hz, hcell, hwz⟩, wx, wy, wz⟩
end Go.Proofs.Ytijilhaoknpeeaa.Rows3
