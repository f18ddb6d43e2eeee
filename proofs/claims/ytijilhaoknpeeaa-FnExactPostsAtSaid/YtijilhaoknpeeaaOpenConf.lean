
/-
  A configuration that comes in: its fields, its list of masters.
-/
import Derived.Test.YtijilhaoknpeeaaConf1
import Derived.Lib.SmallJoins
import Derived.Deep.Slices
import Derived.Deep.Fields
import Derived.ChangeSame
namespace Go.Proofs.Ytijilhaoknpeeaa.GR
open Go.RowKit Go.Joins Go.WideShapes Go.ChangeShapes Go.Deep Num

section
variable {H : Type} {enc : TypeId × Value → H} {P : Program} {w : World} {base : Nat} {spare : Nat → Bool} {held : Bool}
/-- An argument that is a slice of structs of one-cell fields, element by element, field by field. -/
theorem open_rows {t e : TypeId} {fs : Array Field} {fuel : Nat} {cs : List Value} {x : DataW H × List MemPlace} (ht : P.underlying t = some (.slice e)) (he : P.underlying e = some (.struct fs))
    (hone : oneCellFields P fs = true) (hC : P.cellsOf e = fs.size) (h : DataW.trod enc P w base spare held fuel t cs = some x) :
    cs = [.slice none 0 0] ∨
    ∃ (a : Addr) (len cap : Nat), cs = [.slice (some a) len cap] ∧ len ≤ cap ∧ cap ≤ maxLen ∧
      ∀ i, i < len → ∃ (n : Nat), ∀ (j : Nat) (f : Field), fs[j]? = some f → ∃ (v : Value) (y : DataW H × List MemPlace), w.cell? (a.add (i * fs.size + j)) = some v ∧ DataW.trod enc P w base spare held n f.type [v] = some y := by
  rcases open_slice ht h with h0 | ⟨a, len, cap, m, n, D, Pl, hcs, hb, hl, hm, hmm, hx, hi⟩
  · exact .inl h0.1
  · refine .inr ⟨a, len, cap, hcs, hl, hm, fun i him => ?_⟩
    have him' : i < m := by rw [hmm]; split <;> omega
    obtain ⟨cs', hc, ht'⟩ := hi i him'
    rw [hC] at hc
    obtain ⟨ys, n', hn', hy, hlen, hyl, hf⟩ := DataW.trod_struct he ht'
    obtain ⟨_, hcl, hat⟩ := World.cells?_some hc
    refine ⟨n', fun j f hj => ?_⟩
    obtain ⟨ho, hk⟩ := hone_of hone j f hj
    have hjl : j < fs.size := (Array.getElem?_eq_some_iff.1 hj).1
    have hcell := hat j hjl
    have hv : cs'[j]? = some (cs'[j]'(by omega)) := List.getElem?_eq_getElem (by omega)
    have h1 := hf j f hj
    rw [ho, hk] at h1
    have hone' : (cs'.drop j).take 1 = [cs'[j]'(by omega)] := by
      rw [List.drop_eq_getElem_cons (by omega)]
      rfl
    rw [hone'] at h1
    have hys : ys[j]? = some (ys[j]'(by omega)) := List.getElem?_eq_getElem (by omega)
    refine ⟨_, _, ?_, h1.trans hys⟩
    rw [← Go.Deep.add_add, hcell, hv]
theorem addr_of {w : World} {a : Addr} {v : Value} (h : w.cell? (a.add 0) = some v) : a = ⟨a.block, a.off, none⟩ := by
  obtain ⟨b, o, spot⟩ := a
  have hs := World.cell?_spot h
  simp [Addr.add] at hs
  subst hs; rfl
theorem addr_add (b o i : Nat) : (⟨b, o, none⟩ : Addr).add i = ⟨b, o + i, none⟩ := by unfold Addr.add; split <;> simp_all
theorem list_of {α : Type} (n : Nat) (Q : Nat → α → Prop) (h : ∀ i, i < n → ∃ x, Q i x) : ∃ l : List α, l.length = n ∧ ∀ i x, l[i]? = some x → Q i x := by
  induction n with
  | zero => exact ⟨[], rfl, fun i x h => by simp at h⟩
  | succ n ih =>
    obtain ⟨l, hl, hq⟩ := ih (fun i hi => h i (by omega))
    obtain ⟨x, hx⟩ := h n (by omega)
    refine ⟨l ++ [x], by simp [hl], fun i y hy => ?_⟩
    rcases Nat.lt_or_ge i n with hi | hi
    · exact hq i y (by rwa [List.getElem?_append_left (by omega)] at hy)
    · rw [List.getElem?_append_right (by omega)] at hy
      have h0 : i = n := by
        have := (List.getElem?_eq_some_iff.1 hy).1
        simp at this; omega
      subst h0
      rw [hl, Nat.sub_self] at hy
      obtain rfl : x = y := by simpa using hy
      exact hx
end
/-- a slice of masters that comes in. -/
theorem open_masters {H : Type} {enc : TypeId × Value → H} {w : World} {base : Nat} {sp : Nat → Bool} {held : Bool} {fuel : Nat} {v : Value} {x : DataW H × List MemPlace}
    (h : DataW.trod enc Try.prog w base sp held fuel 57 [v] = some x) : ∃ l : List MC, Rd mcK v l w ∧ l.length ≤ 9223372036854775807 := by
  rcases open_rows Try.underlying57 Try.underlying123 (by kernel_rfl) (by kernel_rfl) h with h0 | ⟨a, len, cap, hcs, hl, hm, hi⟩
  · obtain rfl : v = .slice none 0 0 := by simpa using h0
    exact ⟨[], Rd.nil _ _, by simp⟩
  · obtain rfl : v = .slice (some a) len cap := by simpa using hcs
    obtain ⟨l, hlen, hq⟩ := list_of len (fun i m => ∀ j u, (mcK.enc m)[j]? = some u → w.cell? (a.add (i * 4 + j)) = some u) (fun i hil => by
      obtain ⟨n, hf⟩ := hi i hil
      obtain ⟨v0, y0, k0, t0⟩ := hf 0 _ rfl
      obtain ⟨v1, y1, k1, t1⟩ := hf 1 _ rfl
      obtain ⟨v2, y2, k2, t2⟩ := hf 2 _ rfl
      obtain ⟨v3, y3, k3, t3⟩ := hf 3 _ rfl
      obtain ⟨x0, g0, _, _⟩ := DataW.trod_int Try.underlying3 t0
      obtain ⟨x1, g1, _⟩ := DataW.trod_bool Try.underlying4 t1
      obtain ⟨x2, g2, _, _⟩ := DataW.trod_int Try.underlying3 t2
      obtain ⟨x3, g3, _, _⟩ := DataW.trod_int Try.underlying3 t3
      simp at g0 g1 g2 g3
      subst g0 g1 g2 g3
      refine ⟨⟨x0, x1, x2, x3⟩, fun j u hu => ?_⟩
      match j, hu with
      | 0, hu => cases hu; exact k0
      | 1, hu => cases hu; exact k1
      | 2, hu => cases hu; exact k2
      | 3, hu => cases hu; exact k3)
    refine ⟨l, ⟨some a, cap, by rw [hlen], fun i m him => ?_⟩, by unfold maxLen at hm; omega⟩
    have h1 := hq i m him
    obtain ⟨m0, hm0⟩ := get_of (l := l) (i := 0) (by have := (List.getElem?_eq_some_iff.1 him).1; omega)
    have ha := addr_of (hq 0 m0 hm0 0 _ rfl)
    have hc : ∀ j u, (mcK.enc m)[j]? = some u → w.cell? ⟨a.block, a.off + (i * 4 + j), none⟩ = some u := fun j u hu => by
      have := h1 j u hu
      rw [ha, addr_add] at this
      exact this
    refine ⟨a.block, a.off, by rw [← ha], World.block_lt_of_cell? _ ⟨a.block, a.off + (i * 4 + 0), none⟩ (hc 0 _ rfl), fun j u hu => ?_⟩
    rw [size_mc, Nat.add_assoc]; exact hc j u hu
set_option maxRecDepth 100000 in
theorem open_conf {H : Type} {enc : TypeId × Value → H} {w : World} {base : Nat} {held : Bool} {r : Reach} {b0 : Nat} {v : Value} {d : DataW H} {p : List MemPlace}
    (hv : Value.okWide Try.prog w r b0 59 v) (h : DataW.Trod enc Try.prog w base (fun _ => true) held 59 v d p) :
    ∃ (u : Value) (l : List MC) (q mw mr ms lm : Int), v = .agg #[u, .int .i64 q, .int .i64 mw, .int .i64 mr, .int .i64 ms, .int .i64 lm] ∧ Rd mcK u l w ∧ l.length ≤ 9223372036854775807 := by
  obtain ⟨cs, rfl, hsz⟩ := okWide_struct Try.underlying59 hv
  obtain ⟨ls⟩ := cs
  match ls, hsz.trans (by kernel_rfl : Try.prog.cellsOf 59 = 6) with
  | [c0, c1, c2, c3, c4, c5], _ =>
    obtain ⟨fuel, hf⟩ := h
    obtain ⟨xs, n, _, _, _, hlen, hx⟩ := DataW.trod_struct Try.underlying59 hf
    have hi : Try.prog.cellsOf 3 = 1 := by kernel_rfl
    have hs : Try.prog.cellsOf 57 = 1 := by kernel_rfl
    have f0 := hx 0 _ rfl
    have f1 := hx 1 _ rfl
    have f2 := hx 2 _ rfl
    have f3 := hx 3 _ rfl
    have f4 := hx 4 _ rfl
    have f5 := hx 5 _ rfl
    simp [Value.cells, hi, hs] at f0 f1 f2 f3 f4 f5
    have hln : xs.length = 6 := hlen
    match xs, hln with
    | [y0, y1, y2, y3, y4, y5], _ =>
      simp at f0 f1 f2 f3 f4 f5
      obtain ⟨l, hR, hL⟩ := open_masters f0
      obtain ⟨x1, g1, _, _⟩ := DataW.trod_int Try.underlying3 f1
      obtain ⟨x2, g2, _, _⟩ := DataW.trod_int Try.underlying3 f2
      obtain ⟨x3, g3, _, _⟩ := DataW.trod_int Try.underlying3 f3
      obtain ⟨x4, g4, _, _⟩ := DataW.trod_int Try.underlying3 f4
      obtain ⟨x5, g5, _, _⟩ := DataW.trod_int Try.underlying3 f5
      simp at g1 g2 g3 g4 g5
      subst g1 g2 g3 g4 g5
      exact ⟨c0, l, x1, x2, x3, x4, x5, rfl, hR, hL⟩
end Go.Proofs.Ytijilhaoknpeeaa.GR
