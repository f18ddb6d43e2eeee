
/-
  append, where not all is known of what it leaves.
-/
import Derived.Test.YtddbhokfjdgabaaGRow
import Derived.Test.YtddbhokfjdgabaaFresh
namespace Go.Proofs.Ytddbhokfjdgabaa.GR
open Go.RowKit

/-- append(out, x): one element, from a block that holds it. -/
theorem fresh_app1 {α : Type} {P : Program} {S : Value → World → Prop} {o : Oper} {a : Act} (K : Kd α) (hk : 0 < K.k) (t T : TypeId) (i : TypeInfo) (z : Value) (s x : Operand)
    (ho : o.op = .call { callee := .builtin .append, args := #[s, x], argTypes := #[t, t] }) (ht : P.underlying t = some (.slice T)) (hi : P.info? T = some i) (hz : i.zero = some z) (hsz : i.size = K.k) (hzs : z.cells.size = K.k) (hby : i.bytes ≤ 1000)
    (B g : Nat) (v : Value) (l : List α) (w : World) (c : α) (cs : Array Value) (hcs : cs.toList = K.enc c) (h1 : ∀ u ∈ K.enc c, u.oneCell' = true) (hs : a.eval s = v) (hx : a.eval x = .slice (some ⟨g, 0, none⟩) 1 1) (hg : w.heap[g]? = some (.cells cs T))
    (hown : Own K T B v l w) (hB : B ≤ w.heap.size) (hl : l.length + 1 ≤ 100000000)
    (h : ∀ v' w', Own K T B v' (l ++ [c]) w' → w.grownBy w' v.ownBlock → S v' w') : Fresh.freshUpon P S ((execOp a.eval o).run P w) := by
  obtain ⟨v', w', hrun, h2, h3, _⟩ := run_append_own (P := P) w B t o.type T i z K.k i.bytes ht hi hz hsz rfl hzs hk v l.length (flatE K l) hown ⟨g, 0, none⟩ 1 1 (K.enc c) (by rw [K.len, Nat.one_mul]) (fun j u hu => by
    have hadd : (⟨g, 0, none⟩ : Addr).add j = ⟨g, j, none⟩ := by unfold Addr.add; split <;> simp_all
    rw [hadd, cell_of_row _ g j cs T (0, 0) hg, ← Array.getElem?_toList, hcs, hu]) h1 (by unfold maxLen; omega) (by have := Nat.mul_le_mul hl hby; omega) hB
  unfold execOp
  simp only [ho, resolve, invoke, builtin, Sem.run_bind, Sem.run_pure, Result.andThen_ok, List.map_toArray, List.map_cons, List.map_nil, hs, hx, hrun]
  refine h v' w' ?_ h3
  unfold Own
  rw [flatE_append, List.length_append]
  simpa [flatE] using h2
end Go.Proofs.Ytddbhokfjdgabaa.GR
