
/-
  As region_tail, where one operation (p) turns what others have left: what holds of the world may change when it has run.
-/
import Derived.Test.YtijilhaoknpeeaaInv2
namespace Go.Proofs.Ytijilhaoknpeeaa.Inv
open Go

variable {P : Program} {ops : Array Oper} {Q : Exit → Act → World → Prop} {md : Region.Mode}

theorem St.putJ {a0 : Act} {C : World → Prop} {Φ : Nat → Value → World → Prop} (hnone : ∀ i v w, dstOf ops i = none → Φ i v w)
    (hB : plainB ops a0.tmps.size = true) {listed : Array Bool} {a : Act} {w w' : World} {i : Nat} {o : Oper} {v : Value} (s : St md ops a0 C Φ listed a w) (ho : ops[i]? = some o)
    (hw : ∀ e ∈ o.after, Region.binds md e = true → listed.getD e.on false = true) (hC : C w') (hr : ∀ j u, j ≠ i → Φ j u w → Φ j u w') (hv : Φ i v w') : St md ops a0 C Φ (listed.setIfInBounds i true) (a.put o.dst v) w' := by
  obtain ⟨_, _, hd⟩ := plain_at hB ho
  have hi : i < ops.size := (Array.getElem?_eq_some_iff.1 ho).1
  have hdo : dstOf ops i = o.dst := by unfold dstOf; rw [ho]; rfl
  have hset : (listed.setIfInBounds i true).getD i false = true := by simp [s.size, hi]
  refine ⟨by simp [s.size], by rw [put_defers, s.defers], by rw [put_size, s.tmps], fun j oj hj hl e he hb => ?_, fun t ht => ?_, hC, fun j hj hl => ?_⟩
  · rcases getD_set hl with rfl | hl
    · obtain rfl : oj = o := Option.some.inj (hj.symm.trans ho)
      exact getD_set_true (hw e he hb)
    · exact getD_set_true (s.closed j oj hj hl e he hb)
  · have h1 : a.tmps.getD t undef = a0.tmps.getD t undef := s.other t (fun j hj => ht j (getD_set_true hj))
    cases hod : o.dst with
    | none => exact h1
    | some d =>
      have h2 := ht i hset
      rw [hdo, hod] at h2
      rw [put_getD a d t v (by rw [s.tmps]; exact (hd d hod).1), if_neg (fun e => h2 (by rw [e]))]
      exact h1
  · by_cases hij : j = i
    · subst hij
      cases hod : o.dst with
      | none => exact hnone j _ _ (by rw [hdo, hod])
      | some d =>
        have : valAt ops (a.put (some d) v) j = v := by
          unfold valAt; rw [hdo, hod]; simp only
          rw [put_getD a d d v (by rw [s.tmps]; exact (hd d hod).1), if_pos rfl]
        rw [this]; exact hv
    · rcases getD_set hl with h | hl
      · exact absurd h hij
      · have h1 := hr j _ hij (s.val j hj hl)
        cases hod : o.dst with
        | none => exact h1
        | some d =>
          have : valAt ops (a.put (some d) v) j = valAt ops a j := by
            unfold valAt
            cases hdj : dstOf ops j with
            | none => rfl
            | some d' =>
              simp only
              rw [put_getD a d d' v (by rw [s.tmps]; exact (hd d hod).1), if_neg]
              intro e
              exact (hd d hod).2 j hij (by rw [hdj, e])
          rw [this]; exact h1
theorem region_tailJ {id : Nat} {a0 : Act} {w0 : World} (n p : Nat) (hp : p < n) (ds : List Tmp) (hm : P.follows .mixedOrders = true) (hB : plainB ops a0.tmps.size = true) (hn : ops.size = n + 1) (hl : waitsAll ops n = true) (hds : dsts (ops.extract 0 n) = ds)
    (C : Bool → World → Prop) (Φ : Nat → Value → World → Prop)
    (hnone : ∀ i v w, dstOf ops i = none → Φ i v w) (h0 : C false w0.drew)
    (hstep : ∀ i o, ops[i]? = some o → i < n → ∀ listed a w, St .any ops a0 (fun _ => True) Φ listed a w → C (listed.getD p false) w → listed.getD n true = false → listed.getD i true = false → (∀ e ∈ o.after, Region.binds .any e = true → listed.getD e.on false = true) →
      ∀ K : Act → World → Prop, (∀ v w', C (if i = p then true else listed.getD p false) w' → (∀ j u, j ≠ i → Φ j u w → Φ j u w') → Φ i v w' → K (a.put o.dst v) w') → o.wp P a w K Q)
    (hend : ∀ (f : Tmp → Value) w o, ops[n]? = some o → C true w → (∀ i, i < n → Φ i (match dstOf ops i with | some d => f d | none => undef) w) → o.wp P ⟨setAll a0.tmps f ds, a0.defers⟩ w (fun a' w' => Q .normal a' w') Q) :
    (Code.region id ops true).wp P Q a0 w0 := by
  refine wp_region_any hm ?_
  refine wpAny_inv (fun listed a w => ((St .any ops a0 (fun _ => True) Φ listed a w ∧ C (listed.getD p false) w) ∧ listed.getD n true = false) ∨ ((∀ i, ¬ listed.getD i true = false) ∧ Q .normal a w)) (fun listed a w i s hi => ?_) (fun listed a w s hr => ?_) _ _ _ _ (.inl ⟨⟨⟨by simp, rfl, rfl, ?_, ?_, trivial, ?_⟩, by rw [getD_replicate_false]; exact h0⟩, by simp [hn]⟩) ?_
  · obtain ⟨hli, o, ho, haft⟩ := mem_ready.1 hi
    rcases s with ⟨⟨s, hcl⟩, hln⟩ | ⟨hall, _⟩
    · unfold wpOp
      rw [ho]
      obtain ⟨hg, _, _⟩ := plain_at hB ho
      simp only [Region.wanted, hg, if_true]
      have his : i < ops.size := (Array.getElem?_eq_some_iff.1 ho).1
      by_cases hin : i < n
      · refine .inl (hstep i o ho hin listed a w s hcl hln hli haft _ (fun v w' hC hr hv => .inl ⟨⟨s.putJ hnone hB ho haft trivial hr hv, ?_⟩, ?_⟩))
        · by_cases hip : i = p
          · subst hip; rw [if_pos rfl] at hC; simpa [s.size, his] using hC
          · rw [if_neg hip] at hC; rw [getD_set_ne false hip]; exact hC
        · rw [getD_set_ne true (by omega)]; exact hln
      · obtain rfl : i = n := by omega
        have hall : ∀ j, j < i → listed.getD j false = true := fun j hj => listed_of_waits hl hj ho haft
        have h1 := act_put a a0 ds s.defers s.tmps (fun t ht => s.other t (fun j hj hd => ht (by
          rw [← hds]
          have hji : j < i := by
            have hjs : j < ops.size := by
              rcases Nat.lt_or_ge j ops.size with h' | h'
              · exact h'
              · unfold dstOf at hd; rw [Array.getElem?_eq_none h'] at hd; simp at hd
            rcases Nat.lt_or_ge j i with h' | h'
            · exact h'
            · obtain rfl : j = i := by omega
              rw [getD_both hli] at hj; cases hj
          refine mem_dsts (j := j) ?_
          unfold dstOf at hd ⊢
          rw [Array.getElem?_extract]
          rw [if_pos (by omega), Nat.zero_add]
          exact hd)))
        have h2 := hend (fun d => a.tmps.getD d undef) w o ho (by rw [hall p hp] at hcl; exact hcl) (fun j hj => by
          have := s.val j (by omega) (hall j hj)
          unfold valAt at this
          exact this)
        rw [← h1] at h2
        refine .inl (Oper.wp_mono (fun a' w' hq => .inr ⟨fun j hj => ?_, hq⟩) h2)
        have hsz : listed.size = i + 1 := by rw [s.size, hn]
        by_cases hji : i = j
        · subst hji; simp [hsz] at hj
        · rw [getD_set_ne true hji] at hj
          rcases Nat.lt_or_ge j i with h' | h'
          · exact absurd (hall j h') (by rw [getD_both hj]; decide)
          · simp [Array.getElem?_eq_none (show listed.size ≤ j by omega)] at hj
    · exact absurd hli (hall i)
  · rcases s with ⟨⟨s, _⟩, hln⟩ | ⟨_, hq⟩
    · have hall := all_listed hB s.size hr
      have := hall n (by omega)
      rw [getD_both hln] at this; cases this
    · exact hq
  · intro j oj _ hl
    rw [getD_replicate_false] at hl; cases hl
  · intro t _; rfl
  · intro i _ hl
    rw [getD_replicate_false] at hl; cases hl
  · unfold left
    rw [Array.toList_replicate]
    exact Nat.le_trans (List.countP_le_length) (by simp)
end Go.Proofs.Ytijilhaoknpeeaa.Inv
