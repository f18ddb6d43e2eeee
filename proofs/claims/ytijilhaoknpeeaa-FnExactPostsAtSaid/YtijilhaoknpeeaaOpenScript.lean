
/-
  A script that comes in: its posts, its two lists of numbers.
-/
import Derived.Test.YtijilhaoknpeeaaPost1
import Derived.Test.YtijilhaoknpeeaaOpenConf
import Derived.Test.YtijilhaoknpeeaaOpenReq
namespace Go.Proofs.Ytijilhaoknpeeaa.GR
open Go.RowKit Go.Joins Go.WideShapes Go.ChangeShapes Go.Deep Num Rows3

/-- a list of numbers that comes in. -/
theorem open_nums {H : Type} {enc : TypeId × Value → H} {w : World} {base : Nat} {sp : Nat → Bool} {held : Bool} {fuel : Nat} {v : Value} {x : DataW H × List MemPlace} (hsp : ∀ b, sp b = true)
    (h : DataW.trod enc Try.prog w base sp held fuel 33 [v] = some x) : ∃ l : List Int, RdI v l w ∧ l.length ≤ 9223372036854775807 := by
  rcases ChangeShapes.open_ints Try.underlying33 Try.underlying3 (by kernel_rfl) h with ⟨hcs, _⟩ | ⟨a, l, c, zs, hcs, _, hl, hm, hz, _, hcell, hwz⟩
  · obtain rfl : v = .slice none 0 0 := by simpa using hcs
    exact ⟨[], ⟨none, 0, rfl, fun i hi => by simp at hi⟩, by simp⟩
  · obtain rfl : v = .slice (some a) l c := by simpa using hcs
    obtain ⟨m, h1, h2⟩ := rdIn (w := w) (a := some a) (len := l) (cap := c) (zs := zs) (.inr ⟨a, rfl, hl, hm, by rw [hz, if_pos (hsp _)], hcell, hwz⟩)
    exact ⟨m, h2, by unfold maxLen at hm; omega⟩
/-- a slice of posts that comes in. -/
theorem open_posts {H : Type} {enc : TypeId × Value → H} {w : World} {base : Nat} {sp : Nat → Bool} {held : Bool} {fuel : Nat} {v : Value} {x : DataW H × List MemPlace} (hsp : ∀ b, sp b = true)
    (h : DataW.trod enc Try.prog w base sp held fuel 40 [v] = some x) : ∃ l : List PC, RdP v l w ∧ l.length ≤ 9223372036854775807 ∧ ∀ y ∈ l, y.da.length ≤ 9223372036854775807 := by
  rcases open_slice Try.underlying40 h with h0 | ⟨a, len, cap, m, n, D, Pl, hcs, hb, hl, hm, hmm, hx, hi⟩
  · obtain rfl : v = .slice none 0 0 := by simpa using h0.1
    exact ⟨[], ⟨[], rfl, Rd.nil _ _, fun x hx => by cases hx⟩, by simp, by simp⟩
  · obtain rfl : v = .slice (some a) len cap := by simpa using hcs
    have hP : Try.prog.cellsOf 117 = 8 := by kernel_rfl
    have hR : Try.prog.cellsOf 70 = 6 := by kernel_rfl
    have hB : Try.prog.cellsOf 4 = 1 := by kernel_rfl
    have hI : Try.prog.cellsOf 3 = 1 := by kernel_rfl
    have hS : Try.prog.cellsOf 33 = 1 := by kernel_rfl
    obtain ⟨lv, hlen, hq⟩ := list_of len (fun i (y : PC × Value) => (RdI y.2 y.1.da w ∧ y.1.da.length ≤ 9223372036854775807) ∧ ∀ j u, (pvK.enc y)[j]? = some u → w.cell? (a.add (i * 8 + j)) = some u) (fun i hil => by
      have him' : i < m := by rw [hmm, hsp]; simp; omega
      obtain ⟨cs', hc, ht'⟩ := hi i him'
      rw [hP] at hc
      obtain ⟨_, hcl, hat⟩ := World.cells?_some hc
      match cs', hcl with
      | [c0, c1, c2, c3, c4, c5, c6, c7], _ =>
        have hcell : ∀ j u, [c0, c1, c2, c3, c4, c5, c6, c7][j]? = some u → w.cell? (a.add (i * 8 + j)) = some u := fun j u hu => by
          rw [← Go.Deep.add_add, hat j (by have := (List.getElem?_eq_some_iff.1 hu).1; simpa using this), hu]
        obtain ⟨ys, n', _, _, _, hyl, hf⟩ := DataW.trod_struct Try.underlying117 ht'
        have f0 := hf 0 _ rfl
        have f1 := hf 1 _ rfl
        have f2 := hf 2 _ rfl
        simp [hI, hR] at f0 f1 f2
        match ys, (show ys.length = 3 from hyl) with
        | [y0, y1, y2], _ =>
          simp at f0 f1 f2
          obtain ⟨zs, n2, _, _, _, hzl, hz⟩ := DataW.trod_struct Try.underlying70 f2
          have k0 := hz 0 _ rfl
          have k1 := hz 1 _ rfl
          have k2 := hz 2 _ rfl
          have k3 := hz 3 _ rfl
          have k4 := hz 4 _ rfl
          have k5 := hz 5 _ rfl
          simp [hI, hB, hS] at k0 k1 k2 k3 k4 k5
          match zs, (show zs.length = 6 from hzl) with
          | [z0, z1, z2, z3, z4, z5], _ =>
            simp at k0 k1 k2 k3 k4 k5
            obtain ⟨x0, g0, _, _⟩ := DataW.trod_int Try.underlying3 f0
            obtain ⟨x1, g1, _, _⟩ := DataW.trod_int Try.underlying3 f1
            obtain ⟨x2, g2, _⟩ := DataW.trod_bool Try.underlying4 k0
            obtain ⟨x3, g3, _, _⟩ := DataW.trod_int Try.underlying3 k1
            obtain ⟨x4, g4, _, _⟩ := DataW.trod_int Try.underlying3 k2
            obtain ⟨x5, g5, _, _⟩ := DataW.trod_int Try.underlying3 k3
            obtain ⟨x6, g6, _⟩ := DataW.trod_bool Try.underlying4 k4
            obtain ⟨l, hr, hrl⟩ := open_nums hsp k5
            simp at g0 g1 g2 g3 g4 g5 g6
            subst g0 g1 g2 g3 g4 g5 g6
            exact ⟨(⟨x0, x1, x2, x3, x4, x5, x6, l⟩, c7), ⟨hr, hrl⟩, hcell⟩)
    refine ⟨lv.map (·.1), ⟨lv, rfl, ⟨some a, cap, by rw [hlen], fun i y hiy => ?_⟩, fun y hy => ?_⟩, by rw [List.length_map, hlen]; unfold maxLen at hm; omega, fun y hy => ?_⟩
    · obtain ⟨_, h1⟩ := hq i y hiy
      obtain ⟨y0, hy0⟩ := get_of (l := lv) (i := 0) (by have := (List.getElem?_eq_some_iff.1 hiy).1; omega)
      have ha := addr_of ((hq 0 y0 hy0).2 0 _ rfl)
      have hc : ∀ j u, (pvK.enc y)[j]? = some u → w.cell? ⟨a.block, a.off + (i * 8 + j), none⟩ = some u := fun j u hu => by
        have := h1 j u hu
        rw [ha, addr_add] at this
        exact this
      refine ⟨a.block, a.off, by rw [← ha], World.block_lt_of_cell? _ ⟨a.block, a.off + (i * 8 + 0), none⟩ (hc 0 _ rfl), fun j u hu => ?_⟩
      rw [size_pv, Nat.add_assoc]; exact hc j u hu
    · obtain ⟨i, hi'⟩ := List.mem_iff_getElem?.1 hy
      exact (hq i y hi').1.1
    · obtain ⟨z, hz, rfl⟩ := List.mem_map.1 hy
      obtain ⟨i, hi'⟩ := List.mem_iff_getElem?.1 hz
      exact (hq i z hi').1.2
set_option maxRecDepth 100000 in
theorem open_script {H : Type} {enc : TypeId × Value → H} {w : World} {base : Nat} {held : Bool} {r : Reach} {b0 : Nat} {v : Value} {d : DataW H} {p : List MemPlace}
    (hv : Value.okWide Try.prog w r b0 42 v) (h : DataW.Trod enc Try.prog w base (fun _ => true) held 42 v d p) :
    ∃ (u s t : Value) (l : List PC) (m k : List Int), v = .agg #[u, s, t] ∧ RdP u l w ∧ RdI s m w ∧ RdI t k w ∧ l.length ≤ 9223372036854775807 ∧ (∀ y ∈ l, y.da.length ≤ 9223372036854775807) ∧ m.length ≤ 9223372036854775807 ∧ k.length ≤ 9223372036854775807 := by
  obtain ⟨cs, rfl, hsz⟩ := okWide_struct Try.underlying42 hv
  obtain ⟨ls⟩ := cs
  match ls, hsz.trans (by kernel_rfl : Try.prog.cellsOf 42 = 3) with
  | [c0, c1, c2], _ =>
    obtain ⟨fuel, hf⟩ := h
    obtain ⟨xs, n, _, _, _, hlen, hx⟩ := DataW.trod_struct Try.underlying42 hf
    have hs : Try.prog.cellsOf 33 = 1 := by kernel_rfl
    have hp : Try.prog.cellsOf 40 = 1 := by kernel_rfl
    have f0 := hx 0 _ rfl
    have f1 := hx 1 _ rfl
    have f2 := hx 2 _ rfl
    simp [Value.cells, hs, hp] at f0 f1 f2
    match xs, (show xs.length = 3 from hlen) with
    | [y0, y1, y2], _ =>
      simp at f0 f1 f2
      obtain ⟨l, hR, hL, hD⟩ := open_posts (fun _ => rfl) f0
      obtain ⟨m, hM, hm⟩ := open_nums (fun _ => rfl) f1
      obtain ⟨k, hK, hk⟩ := open_nums (fun _ => rfl) f2
      exact ⟨c0, c1, c2, l, m, k, rfl, hR, hM, hK, hL, hD, hm, hk⟩
end Go.Proofs.Ytijilhaoknpeeaa.GR
