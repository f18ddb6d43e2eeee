
/-
  What a word of the device that is read or written leaves; the program's way.
-/
import Derived.Test.YtdhaelaoackfkaaDev3
namespace Go.Proofs.Ytdhaelaoackfkaa.KD
open Go.RowKit Rows3 GR Num
set_option linter.unusedVariables false

abbrev DevX := List Int × Int × List Int
/-- is it the offset of a register. -/
def regB (a : Int) : Bool := alB a 2 && decide (a < 16)
theorem regB_iff (a : Int) : regB a = true ↔ a = 0 ∨ a = 4 ∨ a = 8 ∨ a = 12 := by
  unfold regB
  rw [Bool.and_eq_true, alB_iff, decide_eq_true_iff]
  show (0 < (4 : Int) ∧ 0 ≤ a ∧ a % 4 = 0) ∧ a < 16 ↔ _
  omega
def doW (a v : Int) (r : List Int) (t : Int) (f : List Int) : DevX × Int × Bool :=
  if wordB v = false then ((r, t, f), 0, false)
  else if regB a = true then ((r.set (a / 4).toNat v, t, f), v, true)
  else if a = 16 then ((r, v, f), v, true)
  else if a = 20 ∧ f.length < 4 then ((r, t, f ++ [v]), v, true)
  else ((r, t, f), 0, false)
def doR (a : Int) (r : List Int) (t : Int) (f : List Int) : DevX × Int × Bool :=
  if regB a = true then ((r, t, f), r.getD (a / 4).toNat 0, true)
  else if a = 16 then ((r, (t + 1) % 4294967296, f), t, true)
  else if a = 20 ∧ 0 < f.length then ((r, t, f.tail), f.getD 0 0, true)
  else ((r, t, f), 0, false)
def doD (wr : Bool) (a v : Int) (r : List Int) (t : Int) (f : List Int) : DevX × Int × Bool :=
  if okD r t f = false then ((r, t, f), 0, false) else if wr = true then doW a v r t f else doR a r t f
/-- a device of the call's own, a number, a truth value. -/
def DoPost (B : Nat) (d : DevX × Int × Bool) (w : World) (e : Ending) (w' : World) : Prop :=
  ∃ us, e = .returned (.tuple #[agg us, .int .i64 d.2.1, .bool d.2.2]) ∧ devK.cap (fun k => B ≤ k) us d.1 w' ∧ Below B w w'
/-- where the row lies behind an append: where it lay, or in a new block. -/
theorem run_append_at (t ty : TypeId) (ht : Try.prog.underlying t = some (.slice 3)) (B : Nat) (v : Value) (l m : List Int) (w : World) (hown : OwnI B v l w) (ad : Addr) (cp : Nat)
    (hn : ∀ j u, (intCells m)[j]? = some u → w.cell? (ad.add j) = some u) (hB : B ≤ w.heap.size) (hl : l.length + m.length ≤ 17592186044416) :
    ∃ v' w', (Builtin.append_ #[t, t] ty #[v, .slice (some ad) m.length cp]).run Try.prog w = .ok v' w' ∧ OwnI B v' (l ++ m) w' ∧ w.grownBy w' v.ownBlock ∧ ∀ k, v'.ownBlock = some k → v.ownBlock = some k ∨ w.heap.size ≤ k := by
  obtain ⟨i, hi, hz, hsz, hby⟩ := info_parts info_int
  have h1c : ∀ z ∈ intCells m, z.oneCell' = true := fun z hz => by simp [intCells] at hz; obtain ⟨y, _, rfl⟩ := hz; rfl
  obtain ⟨v', w', h1, h2, h3, _⟩ := run_append_own (P := Try.prog) w B t ty 3 i (.int .i64 0) 1 8 ht hi hz hsz hby rfl (by decide) v l.length (intCells l) hown ad m.length cp (intCells m) (by simp [intCells_length]) hn h1c (by unfold maxLen; omega) (by omega) hB
  have hO : OwnI B v' (l ++ m) w' := by unfold OwnI; rw [intCells_append, List.length_append]; exact h2
  refine ⟨v', w', h1, hO, h3, ?_⟩
  have hml : (intCells m).length = m.length * i.size := by rw [hsz]; simp [intCells_length]
  rcases hown.2 with ⟨rfl, h0⟩ | ⟨g, cap, cur, rfl, hb, hg, hnc, hcm, hcs, htk⟩
  · by_cases hm : m = []
    · subst hm
      have hr : (Builtin.append_ #[t, t] ty #[.slice none 0 0, .slice (some ad) ([] : List Int).length cp]).run Try.prog w = .ok (.slice none 0 0) w := by
        simp [Builtin.append_, run_underlying ht, sizeOf, typeInfo, hi, Builtin.lenOf, Builtin.firstCells, loadCells, loadCellsFrom]
      have e := h1.symm.trans hr
      injection e with ev _
      subst ev
      intro k hk; simp [Value.ownBlock] at hk
    · have hpos : 0 < m.length := List.length_pos_iff.2 hm
      have hr := run_append_nil (P := Try.prog) w t ty 3 i (.int .i64 0) ht hi hz ad m.length cp (intCells m) hml hn (by omega) (by omega) (by rw [hby]; omega)
      have e := h1.symm.trans hr
      injection e with ev _
      subst ev
      intro k hk; simp [Value.ownBlock] at hk; exact .inr (by omega)
  · by_cases hroom : l.length + m.length ≤ cap
    · have hr := run_append_room (P := Try.prog) w t ty 3 i ht hi g l.length cap cur hg ad m.length cp (intCells m) hml hn h1c hroom (by rw [hml, hsz, hcs]; omega)
      have e := h1.symm.trans hr
      injection e with ev _
      subst ev
      intro k hk; simp [Value.ownBlock] at hk; exact .inl (by simp [Value.ownBlock, hk])
    · have hgc : ∀ j u, (intCells l)[j]? = some u → w.cell? ((⟨g, 0, none⟩ : Addr).add j) = some u := World.ownsRow.cells hown (g := g) rfl
      have hr := run_append_grow (P := Try.prog) w t ty 3 i (.int .i64 0) ht hi hz ⟨g, 0, none⟩ l.length cap (intCells l) (by rw [hsz]; simp [intCells_length]) hgc ad m.length cp (intCells m) hml hn (by omega) (by omega) (growslice_fits (by omega) (by rw [hby]; omega))
      have e := h1.symm.trans hr
      injection e with ev _
      subst ev
      intro k hk; simp [Value.ownBlock] at hk; exact .inr (by omega)
/-- append(out, c): what of memory may have turned. -/
theorem appIg {ops : Array Oper} {rest : List Oper} {o : Oper} {a : Act} {Q : Exit → Act → World → Prop} (hgd : o.guard = none) (s x : Operand)
    (ho : o.op = .call { callee := .builtin .append, args := #[s, x], argTypes := #[33, 33] })
    (B : Nat) (v : Value) (l : List Int) (w : World) (c : Int) (hs : a.eval s = v) (hx : a.eval x = .slice (some ⟨w.heap.size, 0, none⟩) 1 1)
    (hown : OwnI B v l w) (hB : B ≤ w.heap.size) (hl : l.length + 1 ≤ 17592186044416)
    (h : ∀ v' w', OwnI B v' (l ++ [c]) w' → w.grownBy w' v.ownBlock → (∀ k, v'.ownBlock = some k → v.ownBlock = some k ∨ w.heap.size ≤ k) → wpList Try.prog ops Q rest (a.put o.dst v') w') :
    wpList Try.prog ops Q (o :: rest) a (w.alloc (.cells #[.int .i64 c] 3)) := by
  have hb := (Below.refl w.heap.size w).alloc (Nat.le_refl _) (.cells #[.int .i64 c] 3)
  obtain ⟨v', w', hrun, h1, hgr, h3⟩ := run_append_at 33 o.type Try.underlying33 B v l [c] (w.alloc (.cells #[.int .i64 c] 3)) (hown.later hb) ⟨w.heap.size, 0, none⟩ 1 (fun j u hj => by
    have e : (⟨w.heap.size, 0, none⟩ : Addr).add j = ⟨w.heap.size, j, none⟩ := by unfold Addr.add; split <;> simp_all
    rw [e, cell_of_row _ w.heap.size j _ 3 (0, 0) (heap_alloc_new w _)]
    simpa [intCells] using hj) (by simp; omega) (by simpa using hl)
  refine wpList_plain hgd fun K hK => ?_
  unfold Oper.wp
  have hrun : (Builtin.append_ #[33, 33] o.type #[v, .slice (some ⟨w.heap.size, 0, none⟩) 1 1]).run Try.prog (w.alloc (.cells #[.int .i64 c] 3)) = .ok v' w' := hrun
  simp [execOp, ho, resolve, invoke, builtin, hs, hx, hrun, Result.andThen]
  exact hK _ _ (h v' w' h1 ⟨hgr.os.trans hb.os, hgr.tape.trans hb.tape, hgr.output.trans hb.output, Nat.le_trans hb.size hgr.size, fun k hk hne => (hgr.block k (Nat.lt_of_lt_of_le hk hb.size) hne).trans (hb.block k hk)⟩ (fun k hk => (h3 k hk).imp id (fun hle => Nat.le_trans hb.size hle)))
end Go.Proofs.Ytdhaelaoackfkaa.KD
