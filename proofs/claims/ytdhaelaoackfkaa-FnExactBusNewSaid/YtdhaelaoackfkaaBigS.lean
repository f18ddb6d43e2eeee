
/-
  Great structs (more cells than the walk should see one by one): a whole struct is loaded and stored behind one name.
-/
import Derived.Test.YtdhaelaoackfkaaKd
import Derived.Test.YtdhaelaoackfkaaGRow
import Derived.Laws.Rows
import Derived.Laws.CopyOwn
namespace Go.Proofs.Ytdhaelaoackfkaa.KD
open Go.RowKit GR
set_option linter.unusedVariables false

theorem bx_row {T b : Nat} {arr brr : Array Value} {w : World} (h : Bx T b arr w) : Bx T b brr (w.setRow b brr) := setRow_heap w b arr brr T (0, 0) h
theorem bx_row_far {T b g : Nat} {arr brr : Array Value} {w : World} (h : Bx T b arr w) (hne : b ≠ g) : Bx T b arr (w.setRow g brr) := (setRow_other w g b brr hne).trans h
theorem bx_turned {T b : Nat} {arr : Array Value} {w w' : World} {G : Foot} (h : Bx T b arr w) (ht : Turn G w w') (hG : ¬ G b) : Bx T b arr w' := (ht.block b h.lt hG).trans h
theorem Turn.row {F : Foot} {w w' : World} {g : Nat} (h : Turn F w w') (hg : F g) (brr : Array Value) : Turn F w (w'.setRow g brr) :=
  ⟨h.os, h.tape, h.output, by rw [size_setRow]; exact h.size, fun k hk hn => by rw [setRow_other w' g k brr (fun e => hn (e ▸ hg))]; exact h.block k hk hn⟩
theorem results_cell {P : Program} {fn : Func} {a : Tmp} {t : TypeId} (h : fn.results = #[.cell a t]) (tmps : Array Value) (w : World) (g : Nat) (v : Value) (ha : tmps.getD a undef = .pointer (some ⟨g, 0, none⟩)) (hrun : (loadVar t ⟨g, 0, none⟩).run P w = .ok v w) : (results fn tmps).run P w = .ok v w := by
  have h2 : (asAddr (.pointer (some ⟨g, 0, none⟩))).run P w = .ok ⟨g, 0, none⟩ w := rfl
  unfold results
  rw [h]
  rw [Array.getD_eq_getD_getElem?] at ha
  simp [Sem.run_bind, ha, h2, hrun]
theorem len_cons {α : Type} {n : Nat} {l : List α} (h : l.length = n + 1) : ∃ a t, l = a :: t ∧ t.length = n := by
  cases l with
  | nil => cases h
  | cons a t => exact ⟨a, t, rfl, by simpa using h⟩
end Go.Proofs.Ytdhaelaoackfkaa.KD
