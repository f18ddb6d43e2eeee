
/-
  append of one number to a row that is the call's own, wherever it begins in its block, with spare room or without.
-/
import Derived.Test.YtbhmfjblmcppbaaEqAny
import Derived.ArgAppend
namespace Go.Proofs.Ytbhmfjblmcppbaa.KD
open Go.RowKit Rows3
set_option linter.unusedVariables false

theorem run_append_raw (t ty : TypeId) (ht : Try.prog.underlying t = some (.slice 3)) (F : Foot) (v : Value) (l : List Int) (x : Int) (w : World) (h : ints.cap F [v] l w) (ad : Addr) (cp : Nat)
    (hn : w.cell? (ad.add 0) = some (.int .i64 x)) (hl : l.length + 1 ≤ 17592186044416) :
    ∃ v' w', (Builtin.append_ #[t, t] ty #[v, .slice (some ad) 1 cp]).run Try.prog w = .ok v' w' ∧ ints.cap (fun k => F k ∨ w.heap.size ≤ k) [v'] (l ++ [x]) w' ∧ Turn F w w' := by
  obtain ⟨i, hi, hz, hsz, hby⟩ := info_parts info_int
  have hnews : ∀ j u, [Value.int .i64 x][j]? = some u → w.cell? (ad.add j) = some u := by
    intro j u hj
    match j, hj with
    | 0, hj => rw [hn]; simpa using hj
  have h1c : ∀ z ∈ [Value.int .i64 x], z.oneCell' = true := fun z hz => by simp at hz; subst hz; rfl
  rcases cap_raw h with ⟨rfl, e⟩ | ⟨g, o, cap, e, hbd, hraw⟩
  · obtain rfl : v = .slice none 0 0 := by simpa using e
    obtain ⟨v', w', h1, h2, h3, _⟩ := run_append_own (P := Try.prog) w w.heap.size t ty 3 i (.int .i64 0) 1 8 ht hi hz hsz hby rfl (by decide) (.slice none 0 0) 0 [] (World.ownsRow_nil w _ _ 1) ad 1 cp [.int .i64 x] rfl hnews h1c (by unfold maxLen; omega) (by omega) (Nat.le_refl _)
    have ho : OwnI w.heap.size v' [x] w' := h2
    exact ⟨v', w', h1, ints.cap_wide (cap_own ho (by simp)) (fun k _ hk => .inr hk), ⟨h3.os, h3.tape, h3.output, h3.size, fun k hk _ => h3.block k hk (by simp [Value.ownBlock])⟩⟩
  · obtain rfl : v = .slice (some ⟨g, o, none⟩) l.length cap := by simpa using e
    obtain ⟨hF, xs, T, hg, hroom, hx⟩ := hraw
    by_cases hr : l.length + 1 ≤ cap
    · have hrun := run_append_room_cells (P := Try.prog) w t ty 3 i ht hi g o l.length cap ad 1 cp [.int .i64 x] (by rw [hsz]; rfl) hnews h1c hr
        (fun j hj => by
          have h0 : j = 0 := by simpa using hj
          subst h0
          rw [hsz, cell_of_row w g _ xs T (0, 0) hg]
          have : o + l.length < xs.size := by omega
          simp [this])
        (fun j hj => by simp [World.frozen?, hg])
      rw [hsz] at hrun
      have hrun2 : (Builtin.append_ #[t, t] ty #[.slice (some ⟨g, o, none⟩) l.length cap, .slice (some ad) 1 cp]).run Try.prog w = .ok (.slice (some ⟨g, o, none⟩) (l.length + 1) cap) (w.setCell ⟨g, o + l.length, none⟩ (.int .i64 x)) := by
        rw [hrun, Nat.mul_one]; rfl
      refine ⟨_, _, hrun2, ?_, (Turn.refl F w).set hF _⟩
      refine RawI.cap (F := fun k => F k ∨ w.heap.size ≤ k) ⟨.inl hF, xs.setIfInBounds (o + l.length) (.int .i64 x), T, by simp [World.setCell, Array.getElem?_modify, hg], by simpa using hroom, fun j y hj => ?_⟩ (by simp) (by omega)
      by_cases hjl : j < l.length
      · rw [List.getElem?_append_left hjl] at hj
        rw [Array.getElem?_setIfInBounds_ne (by omega)]
        exact hx j y hj
      · have hj2 := (List.getElem?_eq_some_iff.1 hj).1
        have h0 : j = l.length := by simp at hj2; omega
        subst h0
        obtain rfl : x = y := by simpa using hj
        have : o + l.length < xs.size := by omega
        simp [this]
    · have holds : ∀ j u, (intCells l)[j]? = some u → w.cell? ((⟨g, o, none⟩ : Addr).add j) = some u := by
        intro j u hj
        simp only [intCells, List.getElem?_map, Option.map_eq_some_iff] at hj
        obtain ⟨z, hz, rfl⟩ := hj
        have e : (⟨g, o, none⟩ : Addr).add j = ⟨g, o + j, none⟩ := by unfold Addr.add; split <;> simp_all
        rw [e, cell_of_row w g _ xs T (0, 0) hg]; exact hx j z hz
      have hrun := run_append_grow (P := Try.prog) w t ty 3 i (.int .i64 0) ht hi hz ⟨g, o, none⟩ l.length cap (intCells l) (by rw [hsz]; simp [intCells_length]) holds ad 1 cp [.int .i64 x] (by rw [hsz]; rfl) hnews (by omega) (by omega) (growslice_fits (by omega) (by rw [hby]; omega))
      have hge := grownCap_ge w (l.length + 1) cap 3
      have hle := grownCap_le_maxLen w (l.length + 1) cap 3 (by unfold maxLen; omega)
      refine ⟨_, _, hrun, ?_, Turn.later ⟨rfl, rfl, rfl, by simp, fun k hk => heap_alloc_old w.drew _ hk⟩⟩
      refine RawI.cap (F := fun k => F k ∨ w.heap.size ≤ k) (o := 0) ⟨.inr (Nat.le_refl _), _, _, heap_alloc_new w.drew _, ?_, fun j y hj => ?_⟩ (by simp) ⟨hge, by unfold maxLen at hle; omega⟩
      · simp [size_zeroCells, intCells_length, Value.cells]; omega
      · have hj2 := (List.getElem?_eq_some_iff.1 hj).1
        have e : (intCells l).toArray ++ [Value.int .i64 x].toArray = (intCells (l ++ [x])).toArray := by simp [intCells]
        rw [e, Nat.zero_add, Array.getElem?_append_left (by simp [intCells] at hj2 ⊢; omega)]
        rw [List.getElem?_toArray]
        simp only [intCells, List.getElem?_map, hj, Option.map_some]
/-- append(s, c), a literal of one. -/
theorem appRaw {ops : Array Oper} {rest : List Oper} {o : Oper} {a : Act} {Q : Exit → Act → World → Prop} (hgd : o.guard = none) (s x : Operand)
    (ho : o.op = .call { callee := .builtin .append, args := #[s, x], argTypes := #[24, 24] })
    (F : Foot) (v : Value) (l : List Int) (w : World) (c : Int) (hs : a.eval s = v) (hx : a.eval x = .slice (some ⟨w.heap.size, 0, none⟩) 1 1)
    (hown : ints.cap F [v] l w) (hF : ∀ k, F k → k < w.heap.size) (hl : l.length + 1 ≤ 17592186044416)
    (h : ∀ v' w', ints.cap (fun k => F k ∨ w.heap.size ≤ k) [v'] (l ++ [c]) w' → Turn F w w' → wpList Try.prog ops Q rest (a.put o.dst v') w') :
    wpList Try.prog ops Q (o :: rest) a (w.alloc (.cells #[.int .i64 c] 3)) := by
  have hb := (Below.refl w.heap.size w).alloc (Nat.le_refl _) (.cells #[.int .i64 c] 3)
  obtain ⟨v', w', hrun, h1, h2⟩ := run_append_raw 24 o.type Try.underlying24 F v l c (w.alloc (.cells #[.int .i64 c] 3)) (ints.cap_later hown hb) ⟨w.heap.size, 0, none⟩ 1 (by
    have e : (⟨w.heap.size, 0, none⟩ : Addr).add 0 = ⟨w.heap.size, 0, none⟩ := by unfold Addr.add; split <;> simp_all
    rw [e, cell_of_row _ w.heap.size 0 _ 3 (0, 0) (heap_alloc_new w _)]; rfl) hl
  refine wpList_plain hgd fun K hK => ?_
  unfold Oper.wp
  simp [execOp, ho, resolve, invoke, builtin, hs, hx, hrun, Result.andThen]
  exact hK _ _ (h v' w' (ints.cap_wide h1 (fun k hk hf => hf.imp id (fun hle => Nat.le_trans hb.size hle))) ((Turn.later hb).trans h2))
end Go.Proofs.Ytbhmfjblmcppbaa.KD
