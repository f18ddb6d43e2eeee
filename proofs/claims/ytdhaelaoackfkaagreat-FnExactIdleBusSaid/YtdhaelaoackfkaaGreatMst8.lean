
/-
  Are two masters the same: SameMst of the model. (Made by wip/genmst8.py.)
-/
import Derived.Test.YtdhaelaoackfkaaGreatGMb13
import Derived.Test.YtdhaelaoackfkaaGreatSameReq
namespace Go.Proofs.YtdhaelaoackfkaaGreat.KD
open Go.RowKit Rows3 GR Num
set_option linter.unusedVariables false

/-- are two requests the same. -/
def sameQ (r s : ReqX) : Bool := sameR r.1 r.2.1 r.2.2.1 r.2.2.2.1 r.2.2.2.2.1 r.2.2.2.2.2 s.1 s.2.1 s.2.2.1 s.2.2.2.1 s.2.2.2.2.1 s.2.2.2.2.2
theorem sameQ_iff (r s : ReqX) : sameQ r s = true ↔ r = s := by
  obtain ⟨a, b, c, d, e, f⟩ := r
  obtain ⟨a', b', c', d', e', f'⟩ := s
  unfold sameQ sameR eqLB
  simp
/-- are two masters the same. -/
noncomputable def sameMst (x y : MstX) : Bool := @decide (x = y) (Classical.propDecidable _)
theorem sameMst_iff (x y : MstX) : sameMst x y = true ↔ x = y := by unfold sameMst; exact @decide_eq_true_iff _ (Classical.propDecidable _)
/-- the first j requests are the same. -/
def qTo (q q' : List ReqX) (j : Nat) : Prop := q.take j = q'.take j
theorem qTo_step {q q' : List ReqX} {j : Nat} {x y : ReqX} (h : qTo q q' j) (hx : q[j]? = some x) (hy : q'[j]? = some y) (hs : sameQ x y = true) : qTo q q' (j + 1) := by
  have e := (sameQ_iff x y).1 hs
  subst e
  unfold qTo at h ⊢
  rw [take_snoc' hx, take_snoc' hy, h]
theorem qTo_bad {q q' : List ReqX} {j : Nat} {x y : ReqX} (hx : q[j]? = some x) (hy : q'[j]? = some y) (hs : sameQ x y = false) : q ≠ q' := by
  rintro rfl
  rw [hx] at hy
  cases hy
  have := (sameQ_iff x x).2 rfl
  rw [hs] at this; cases this
theorem qTo_all {q q' : List ReqX} {n : Nat} (h1 : q.length = n) (h2 : q'.length = n) (h : qTo q q' n) : q = q' := by
  unfold qTo at h
  rwa [List.take_of_length_le (by omega), List.take_of_length_le (by omega)] at h
theorem same_q {q q' : List ReqX} {be dn tr be' dn' tr' : Int} {pa br pa' br' : Bool} (h : q ≠ q') : sameMst (q, be, dn, tr, pa, br) (q', be', dn', tr', pa', br') = false := by
  rw [← Bool.not_eq_true, sameMst_iff]; intro e; exact h (Prod.mk.inj e).1
theorem same_rest {q : List ReqX} {be dn tr be' dn' tr' : Int} {pa br pa' br' : Bool} : sameMst (q, be, dn, tr, pa, br) (q, be', dn', tr', pa', br') = (be == be' && (dn == dn' && (tr == tr' && (pa == pa' && br == br')))) := by
  rw [Bool.eq_iff_iff, sameMst_iff]
  simp [Prod.mk.injEq]
end Go.Proofs.YtdhaelaoackfkaaGreat.KD
