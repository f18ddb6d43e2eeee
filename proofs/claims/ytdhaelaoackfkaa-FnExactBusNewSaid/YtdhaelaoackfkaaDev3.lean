
/-
  append to an empty row of a literal; the model's own copy of a device.
-/
import Derived.Test.YtdhaelaoackfkaaDev2
import Derived.Deep.RegionHeld3
namespace Go.Proofs.Ytdhaelaoackfkaa.KD
open Go.RowKit Rows3 GR Num
set_option linter.unusedVariables false

theorem cells3 {T : TypeId} {b : Nat} {c0 c1 c2 : Value} {w : World} (h : Bx T b #[c0, c1, c2] w) :
    w.cell? ⟨b, 0, none⟩ = some c0 ∧ w.cell? ⟨b, 1, none⟩ = some c1 ∧ w.cell? ⟨b, 2, none⟩ = some c2 := ⟨h.cell 0 _ rfl, h.cell 1 _ rfl, h.cell 2 _ rfl⟩
theorem new_at {W : World} {o : Obj} {k : Nat} (h : W.heap.size = k) : (W.alloc o).heap[k]? = some o := by subst h; exact heap_alloc_new W o
theorem bx_new {W : World} {xs : Array Value} {T : TypeId} {k : Nat} (h : W.heap.size = k) : Bx T k xs (W.alloc (.cells xs T)) := new_at h
theorem bx_undrew {W : World} {xs : Array Value} {T : TypeId} {k : Nat} (h : Bx T k xs W) : Bx T k xs W.drew := h
/-- append([]int{}, src...): the old block stays as it is. -/
theorem run_append_empty (t ty : TypeId) (ht : Try.prog.underlying t = some (.slice 3)) (g : Nat) (u : Value) (m : List Int) (w : World) (hg : w.heap[g]? = some (.cells #[] 3)) (hu : RdI u m w) (hl : m.length ≤ 17592186044416) :
    ∃ v' w', (Builtin.append_ #[t, t] ty #[.slice (some ⟨g, 0, none⟩) 0 0, u]).run Try.prog w = .ok v' w' ∧ OwnI g v' m w' ∧ Below w.heap.size w w' ∧ ∀ k, v'.ownBlock = some k → k = g ∨ w.heap.size ≤ k := by
  obtain ⟨i, hi, hz, hsz, hby⟩ := info_parts info_int
  have hlt : g < w.heap.size := (Array.getElem?_eq_some_iff.1 hg).1
  have hown : w.ownsRow g 3 1 (.slice (some ⟨g, 0, none⟩) 0 0) 0 [] := ⟨rfl, .inr ⟨g, 0, #[], rfl, Nat.le_refl _, hg, Nat.le_refl _, Nat.zero_le _, rfl, rfl⟩⟩
  have hr := hu
  obtain ⟨ad, cp, rfl, hr⟩ := hr
  by_cases hm : m = []
  · subst hm
    have own : OwnI g (.slice (some ⟨g, 0, none⟩) 0 0) [] w := hown
    cases ad with
    | none => exact ⟨_, w, run_append_none g t ty 3 i 1 ht hi _ 0 cp [] w hown, own, Below.refl _ _, fun k hk => .inl (by simpa [Value.ownBlock] using hk.symm)⟩
    | some ad =>
      have h := run_append_room (P := Try.prog) w t ty 3 i ht hi g 0 0 #[] hg ad 0 cp [] (by simp) (fun j u hj => by simp at hj) (fun u hu => by cases hu) (Nat.le_refl _) (by simp)
      refine ⟨_, _, h, ?_, ?_, fun k hk => .inl (by simpa [Value.ownBlock] using hk.symm)⟩
      · exact ⟨rfl, .inr ⟨g, 0, _, rfl, Nat.le_refl _, setRow_heap w g #[] _ 3 _ hg, Nat.le_refl _, Nat.zero_le _, by simp, by simp [intCells]⟩⟩
      · refine ⟨rfl, rfl, rfl, by simp, fun k hk => ?_⟩
        by_cases hkg : k = g
        · subst hkg
          rw [setRow_heap w k #[] _ 3 _ hg, hg]; simp
        · exact setRow_other w g k _ hkg
  · obtain ⟨b, of, rfl, _, _⟩ := hr 0 (List.length_pos_iff.2 hm)
    have hn : ∀ j y, (intCells m)[j]? = some y → w.cell? ((⟨b, of, none⟩ : Addr).add j) = some y := by
      intro j y hj
      simp only [intCells, List.getElem?_map, Option.map_eq_some_iff] at hj
      obtain ⟨z, hz, rfl⟩ := hj
      obtain ⟨b', o', e, _, hc⟩ := hr j (List.getElem?_eq_some_iff.1 hz).1
      cases e
      rw [getD_some hz] at hc
      have e : (⟨b, of, none⟩ : Addr).add j = ⟨b, of + j, none⟩ := by unfold Addr.add; split <;> simp_all
      rw [e]; exact hc
    have hpos : 0 < m.length := List.length_pos_iff.2 hm
    obtain ⟨v', w', h1, h2, h3, h4⟩ := run_append_own (P := Try.prog) w g t ty 3 i (.int .i64 0) 1 8 ht hi hz hsz hby rfl (by decide) (.slice (some ⟨g, 0, none⟩) 0 0) 0 [] hown ⟨b, of, none⟩ m.length cp (intCells m) (by simp [intCells_length]) hn
      (fun z hz => by simp [intCells] at hz; obtain ⟨y, _, rfl⟩ := hz; rfl) (by unfold maxLen; omega) (by omega) (by omega)
    have hgrow := run_append_grow (P := Try.prog) w t ty 3 i (.int .i64 0) ht hi hz ⟨g, 0, none⟩ 0 0 [] (by simp) (fun j u hj => by simp at hj) ⟨b, of, none⟩ m.length cp (intCells m) (by rw [hsz]; simp [intCells_length]) hn (by omega) (by omega) (growslice_fits (by omega) (by rw [hby]; omega))
    have e := h1.symm.trans hgrow
    injection e with ev ew
    subst ev ew
    refine ⟨_, _, hgrow, ?_, ⟨rfl, rfl, rfl, by simp, fun k hk => heap_alloc_old w.drew _ hk⟩, fun k hk => .inr (by simp [Value.ownBlock] at hk; omega)⟩
    unfold OwnI
    simpa using h2
/-- one step of a region that draws. -/
theorem step_append_empty {ops : Array Oper} {o : Oper} {a : Act} {w : World} {K : Act → World → Prop} {Q : Exit → Act → World → Prop} {E : Prop} (hgd : o.guard = none) (s x : Operand)
    (ho : o.op = .call { callee := .builtin .append, args := #[s, x], argTypes := #[33, 33] }) (g : Nat) (u : Value) (m : List Int)
    (hs : a.eval s = .slice (some ⟨g, 0, none⟩) 0 0) (hx : a.eval x = u) (hg : w.heap[g]? = some (.cells #[] 3)) (hu : RdI u m w) (hl : m.length ≤ 17592186044416)
    (h : ∀ v' w', OwnI g v' m w' → Below w.heap.size w w' → (∀ k, v'.ownBlock = some k → k = g ∨ w.heap.size ≤ k) → K (a.put o.dst v') w') :
    if Region.wanted o (yielded ops a.tmps) = true then Oper.wp Try.prog o a w K Q else E := by
  have hw : Region.wanted o (yielded ops a.tmps) = true := by simp [Region.wanted, hgd]
  rw [if_pos hw]
  obtain ⟨v', w', hrun, h1, h2, h3⟩ := run_append_empty 33 o.type Try.underlying33 g u m w hg hu hl
  unfold Oper.wp
  simp [execOp, ho, resolve, invoke, builtin, hs, hx, hrun, Result.andThen]
  exact h v' w' h1 h2 h3
end Go.Proofs.Ytdhaelaoackfkaa.KD
