
/-
  append of one struct to a row that is the call's own, in a statement that draws its order. (Made by wip/gmst10.py.)
-/
import Derived.Test.YtdhaelaoackfkaaRowApp
import Derived.Test.YtdhaelaoackfkaaGInv13
namespace Go.Proofs.Ytdhaelaoackfkaa.KD
open Go.RowKit Rows3 GR
set_option linter.unusedVariables false

def CJ (F : Foot) (w5 : World) (b : Bool) (w : World) : Prop := if b = true then Turn F w5 w else Below w5.heap.size w5 w
theorem CJ.turn {F : Foot} {w5 w : World} {b : Bool} (h : CJ F w5 b w) : Turn F w5 w := by
  unfold CJ at h; split at h
  · exact h
  · exact Turn.later h
theorem CJ.later {F : Foot} {w5 w w' : World} {b : Bool} (h : CJ F w5 b w) (hb : Below w.heap.size w w') : CJ F w5 b w' := by
  cases b with
  | true =>
    have h' : Turn F w5 w := h
    exact (show Turn F w5 w' from h'.trans (Turn.later hb))
  | false =>
    have h' : Below w5.heap.size w5 w := h
    exact (show Below w5.heap.size w5 w' from h'.trans (hb.mono h'.size))
theorem turnC {F : Foot} {w w' : World} (h : Turn F w w') {b i : Nat} (hb : b < w.heap.size) (hF : ¬ F b) : w'.cell? ⟨b, i, none⟩ = w.cell? ⟨b, i, none⟩ := World.cell?_of_block (a := ⟨b, i, none⟩) (h.block b hb hF)
theorem unlisted {listed : Array Bool} {i : Nat} (h : listed.getD i true = false) : listed.getD i false = false := by rw [getD_both h]
theorem none_at {ops : Array Oper} (n : Nat) (hd : ((List.range n).all fun i => (Inv.dstOf ops i).isSome) = true) (i : Nat) (h : Inv.dstOf ops i = none) : n ≤ i := by
  refine Nat.le_of_not_lt fun hi => ?_
  have := List.all_eq_true.1 hd i (List.mem_range.2 hi)
  rw [h] at this; cases this
theorem appJ {α : Type} {K : Kn α} {hn : K.n ≤ 64} {o : Oper} {a : Act} {K0 : Act → World → Prop} {Q : Exit → Act → World → Prop} (t e : TypeId) (ht : Try.prog.underlying t = some (.slice e)) (hT : ElT K e) (s x : Operand)
    (ho : o.op = .call { callee := .builtin .append, args := #[s, x], argTypes := #[t, t] })
    (F E : Foot) (v : Value) (l : List α) (y : α) (es : Array Value) (g : Nat) (w : World) (hs : a.eval s = v) (hx : a.eval x = .slice (some ⟨g, 0, none⟩) 1 1) (hg : w.heap[g]? = some (.cells es e))
    (hown : (row K hn).cap F [v] l w) (hc : K.cap E es.toList y w) (hE : ∀ k, k < w.heap.size → E k → ¬ F k) (h1c : ∀ u ∈ es.toList, u.oneCell' = true) (hl : l.length + 1 ≤ 4000000)
    (h : ∀ v' w', (row K hn).cap (fun k => F k ∨ E k ∨ w.heap.size ≤ k) [v'] (l ++ [y]) w' → Turn F w w' → K0 (a.put o.dst v') w') :
    o.wp Try.prog a w K0 Q := by
  obtain ⟨i, z, hi, hz, hsz, hzs, hby⟩ := hT
  obtain ⟨v', w', hrun, h1, h2⟩ := run_append_row t o.type e i z ht hi hz hsz hzs hby F E v l y es.toList w hown hc hE ⟨g, 0, none⟩ 1 (fun j u hu => by
      rw [addr_add', cell_of_row _ g _ _ e (0, 0) hg, Nat.zero_add, ← Array.getElem?_toList]; exact hu) h1c hl
  unfold Oper.wp
  simp [execOp, ho, resolve, invoke, builtin, hs, hx, hrun, Result.andThen]
  exact h v' w' h1 h2
end Go.Proofs.Ytdhaelaoackfkaa.KD
