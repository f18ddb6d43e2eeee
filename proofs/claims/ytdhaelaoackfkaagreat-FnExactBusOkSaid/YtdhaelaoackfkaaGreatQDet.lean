
/-
  A region of a set order, walked as a reading region: calls that end in Below; what is known of the world holds in every grown world.
-/
import Derived.Test.YtdhaelaoackfkaaGreatKRow
import Derived.Lib.QuietBelow
import Derived.BigQuiet
namespace Go.Proofs.YtdhaelaoackfkaaGreat.KD
open Go.RowKit
theorem wpList_of_quiet {P : Program} {ops : Array Oper} {C : World → Prop} {Q : Exit → Act → World → Prop} {l : List Oper} : ∀ {a : Act} {w : World}, C w → wpQuiet P ops C (fun a' => ∀ w', C w' → Q .normal a' w') l a → wpList P ops Q l a w := by
  induction l with
  | nil => intro a w hC h; exact h w hC
  | cons o l ih =>
    intro a w hC h
    unfold wpQuiet at h
    unfold wpList
    split
    · rename_i hw
      simp only [hw, if_true] at h
      exact .inl (Oper.wp_of_quiet hC (fun a' w' hC' hK => ih hC' hK) h)
    · rename_i hw
      simp only [hw] at h
      exact ih hC h
theorem wp_region_det {P : Program} {id : Nat} {Q : Exit → Act → World → Prop} {a : Act} {w : World} {l : List Oper}
    (h : wpQuiet P l.toArray (fun w' => ∃ p : Regrown, w' = Sort.grow (redrawn w p.d) p.os) (fun a' => ∀ w', (∃ p : Regrown, w' = Sort.grow (redrawn w p.d) p.os) → Q .normal a' w') l a) : (Code.region id l.toArray false).wp P Q a w :=
  wp_region_lit (wpList_of_quiet ⟨⟨w.drawn, #[]⟩, by rw [Sort.grow_empty]; rfl⟩ h)
theorem wpList_quiet {P : Program} {ops : Array Oper} {Q : Exit → Act → World → Prop} {l : List Oper} {a : Act} {w : World}
    (h : wpQuiet P ops (fun w' => ∃ p : Regrown, w' = Sort.grow (redrawn w p.d) p.os) (fun a' => ∀ w', (∃ p : Regrown, w' = Sort.grow (redrawn w p.d) p.os) → Q .normal a' w') l a) : wpList P ops Q l a w :=
  wpList_of_quiet ⟨⟨w.drawn, #[]⟩, by rw [Sort.grow_empty]; rfl⟩ h
end Go.Proofs.YtdhaelaoackfkaaGreat.KD
