
/-
  A statement that leaves its order open, but for its last operation, which waits for all others.
-/
import Derived.Test.YtijilhaoknpeeaaInv
namespace Go.Proofs.Ytijilhaoknpeeaa.Inv
open Go

variable {P : Program} {ops : Array Oper} {Q : Exit → Act → World → Prop} {md : Region.Mode}

/-- the last operation waits for all others. -/
def waitsAll (ops : Array Oper) (n : Nat) : Bool := (List.range n).all fun i => Region.waitsFor .any ops n i
theorem listed_of_waits {listed : Array Bool} {n i : Nat} {o : Oper} (h : waitsAll ops n = true) (hi : i < n) (ho : ops[n]? = some o) (hw : ∀ e ∈ o.after, Region.binds .any e = true → listed.getD e.on false = true) : listed.getD i false = true := by
  obtain ⟨oj, hoj, e, he, hb, hon⟩ := Region.waitsFor_spec (List.all_eq_true.1 h i (List.mem_range.2 hi))
  obtain rfl : oj = o := Option.some.inj (hoj.symm.trans ho)
  rw [← hon]; exact hw e he hb
/-- The last operation comes last: it is run in the frame written out. -/
theorem region_tail {id : Nat} {a0 : Act} {w0 : World} (n : Nat) (ds : List Tmp) (hm : P.follows .mixedOrders = true) (hB : plainB ops a0.tmps.size = true) (hn : ops.size = n + 1) (hl : waitsAll ops n = true) (hds : dsts (ops.extract 0 n) = ds)
    (C : World → Prop) (Φ : Nat → Value → World → Prop) (R : World → World → Prop)
    (hR : ∀ i v w w', R w w' → Φ i v w → Φ i v w') (hnone : ∀ i v w, dstOf ops i = none → Φ i v w) (h0 : C w0.drew)
    (hstep : ∀ i o, ops[i]? = some o → i < n → ∀ listed a w, St .any ops a0 C Φ listed a w → listed.getD n true = false → listed.getD i true = false → (∀ e ∈ o.after, Region.binds .any e = true → listed.getD e.on false = true) →
      ∀ K : Act → World → Prop, (∀ v w', C w' → R w w' → Φ i v w' → K (a.put o.dst v) w') → o.wp P a w K Q)
    (hend : ∀ (f : Tmp → Value) w o, ops[n]? = some o → C w → (∀ i, i < n → Φ i (match dstOf ops i with | some d => f d | none => undef) w) → o.wp P ⟨setAll a0.tmps f ds, a0.defers⟩ w (fun a' w' => Q .normal a' w') Q) :
    (Code.region id ops true).wp P Q a0 w0 := by
  refine wp_region_any hm ?_
  refine wpAny_inv (fun listed a w => (St .any ops a0 C Φ listed a w ∧ listed.getD n true = false) ∨ ((∀ i, ¬ listed.getD i true = false) ∧ Q .normal a w)) (fun listed a w i s hi => ?_) (fun listed a w s hr => ?_) _ _ _ _ (.inl ⟨⟨by simp, rfl, rfl, ?_, ?_, h0, ?_⟩, by simp [hn]⟩) ?_
  · obtain ⟨hli, o, ho, haft⟩ := mem_ready.1 hi
    rcases s with ⟨s, hln⟩ | ⟨hall, _⟩
    · unfold wpOp
      rw [ho]
      obtain ⟨hg, _, _⟩ := plain_at hB ho
      simp only [Region.wanted, hg, if_true]
      have his : i < ops.size := (Array.getElem?_eq_some_iff.1 ho).1
      by_cases hin : i < n
      · refine .inl (hstep i o ho hin listed a w s hln hli haft _ (fun v w' hC hr hv => .inl ⟨s.put hR hnone hB ho haft hC hr hv, ?_⟩))
        rw [getD_set_ne true (by omega)]; exact hln
      · obtain rfl : i = n := by omega
        have hall : ∀ j, j < i → listed.getD j false = true := fun j hj => listed_of_waits hl hj ho haft
        have h1 := act_put a a0 ds s.defers s.tmps (fun t ht => s.other t (fun j hj hd => ht (by
          rw [← hds]
          have hji : j < i := by
            have hjs : j < ops.size := by
              rcases Nat.lt_or_ge j ops.size with h' | h'
              · exact h'
              · unfold dstOf at hd; rw [Array.getElem?_eq_none h'] at hd; simp at hd
            rcases Nat.lt_or_ge j i with h' | h'
            · exact h'
            · obtain rfl : j = i := by omega
              rw [getD_both hli] at hj; cases hj
          refine mem_dsts (j := j) ?_
          unfold dstOf at hd ⊢
          rw [Array.getElem?_extract]
          rw [if_pos (by omega), Nat.zero_add]
          exact hd)))
        have h2 := hend (fun d => a.tmps.getD d undef) w o ho s.cls (fun j hj => by
          have := s.val j (by omega) (hall j hj)
          unfold valAt at this
          exact this)
        rw [← h1] at h2
        refine .inl (Oper.wp_mono (fun a' w' hq => .inr ⟨fun j hj => ?_, hq⟩) h2)
        have hsz : listed.size = i + 1 := by rw [s.size, hn]
        by_cases hji : i = j
        · subst hji; simp [hsz] at hj
        · rw [getD_set_ne true hji] at hj
          rcases Nat.lt_or_ge j i with h' | h'
          · exact absurd (hall j h') (by rw [getD_both hj]; decide)
          · simp [Array.getElem?_eq_none (show listed.size ≤ j by omega)] at hj
    · exact absurd hli (hall i)
  · rcases s with ⟨s, hln⟩ | ⟨_, hq⟩
    · have hall := all_listed hB s.size hr
      have := hall n (by omega)
      rw [getD_both hln] at this; cases this
    · exact hq
  · intro j oj _ hl
    rw [getD_replicate_false] at hl; cases hl
  · intro t _; rfl
  · intro i _ hl
    rw [getD_replicate_false] at hl; cases hl
  · unfold left
    rw [Array.toList_replicate]
    exact Nat.le_trans (List.countP_le_length) (by simp)
end Go.Proofs.Ytijilhaoknpeeaa.Inv
