
/-
  A struct with memory, stored whole into a block that was made ahead of it.
-/
import Derived.Test.YtijilhaoknpeeaaKd
import Derived.Test.YtijilhaoknpeeaaGRow
namespace Go.Proofs.Ytijilhaoknpeeaa.KD
open Go.RowKit GR
set_option linter.unusedVariables false

theorem not_le_alloc (w : World) (o : Obj) : ¬ (w.alloc o).heap.size ≤ w.heap.size := by simp
theorem end_mem6 {α : Type} {K : Kn α} {T b B : Nat} {d0 d1 d2 d3 d4 d5 c0 c1 c2 c3 c4 c5 : Value} {y y5 : World} {F : Foot} {x : α} (alB : Bx T b #[d0, d1, d2, d3, d4, d5] y5) (hb : Below B y y5) (hle : B ≤ b) (hc : K.cap F [c0, c1, c2, c3, c4, c5] x y5) (hF : ¬ F b) :
    Bx T b #[c0, c1, c2, c3, c4, c5] ((((((y5.setCell ⟨b, 0, none⟩ c0).setCell ⟨b, 1, none⟩ c1).setCell ⟨b, 2, none⟩ c2).setCell ⟨b, 3, none⟩ c3).setCell ⟨b, 4, none⟩ c4).setCell ⟨b, 5, none⟩ c5) ∧
    K.rd [c0, c1, c2, c3, c4, c5] x ((((((y5.setCell ⟨b, 0, none⟩ c0).setCell ⟨b, 1, none⟩ c1).setCell ⟨b, 2, none⟩ c2).setCell ⟨b, 3, none⟩ c3).setCell ⟨b, 4, none⟩ c4).setCell ⟨b, 5, none⟩ c5) ∧
    Below B y ((((((y5.setCell ⟨b, 0, none⟩ c0).setCell ⟨b, 1, none⟩ c1).setCell ⟨b, 2, none⟩ c2).setCell ⟨b, 3, none⟩ c3).setCell ⟨b, 4, none⟩ c4).setCell ⟨b, 5, none⟩ c5) := by
  refine ⟨((((((alB.set 0 c0).set 1 c1).set 2 c2).set 3 c3).set 4 c4).set 5 c5), K.cap_rd (K.cap_turn (G := fun k => k = b) hc ?_ (fun k _ h1 h2 => hF (h2 ▸ h1))), ?_⟩
  · iterate 6 refine Turn.set (F := fun k => k = b) ?_ rfl _
    exact Turn.refl _ _
  · iterate 6 refine Below.setCell ?_ hle _
    exact hb
end Go.Proofs.Ytijilhaoknpeeaa.KD
