
/-
  A statement that leaves its order open, but for its last operation; one operation (p) stores, behind all others but one (late), which only reads.
-/
import Derived.Test.YtfpnflhkfpolcaaGreatDoorInv2
namespace Go.Proofs.YtfpnflhkfpolcaaGreatDoor.Inv
open Go

variable {P : Program} {ops : Array Oper} {Q : Exit → Act → World → Prop}

def plainB4 (ops : Array Oper) (T : Nat) : Bool := (List.range ops.size).all fun i => match ops[i]? with
  | some o => o.guard.isNone && o.after.all (fun e => !(Region.binds .any e) || decide (e.on < i)) && (match o.dst with | some d => decide (d < T) && (List.range ops.size).all (fun j => decide (j = i) || !(dstOf ops j == some d)) | none => true)
  | none => false
theorem plain4_at {T : Nat} (h : plainB4 ops T = true) {i : Nat} {o : Oper} (ho : ops[i]? = some o) :
    o.guard = none ∧ (∀ e ∈ o.after, Region.binds .any e = true → e.on < i) ∧ ∀ d, o.dst = some d → d < T ∧ ∀ j, j ≠ i → dstOf ops j ≠ some d := by
  have hi : i < ops.size := (Array.getElem?_eq_some_iff.1 ho).1
  have h1 := List.all_eq_true.1 h i (List.mem_range.2 hi)
  rw [ho] at h1
  simp only [Bool.and_eq_true] at h1
  obtain ⟨⟨h2, h3⟩, h4⟩ := h1
  refine ⟨by simpa using h2, fun e he hb => by have h5 := Array.all_eq_true'.1 h3 e he; simp only [hb] at h5; simpa using h5, fun d hd => ?_⟩
  rw [hd] at h4
  simp only [Bool.and_eq_true, decide_eq_true_eq] at h4
  refine ⟨h4.1, fun j hj => ?_⟩
  by_cases hjs : j < ops.size
  · have h5 := List.all_eq_true.1 h4.2 j (List.mem_range.2 hjs)
    simp only [Bool.or_eq_true, decide_eq_true_eq] at h5
    rcases h5 with h5 | h5
    · exact absurd h5 hj
    · simpa using h5
  · unfold dstOf; rw [Array.getElem?_eq_none (by omega)]; simp
theorem St.put4 {a0 : Act} {C : World → Prop} {Φ : Nat → Value → World → Prop} (hnone : ∀ i v w, dstOf ops i = none → Φ i v w)
    (hB : plainB4 ops a0.tmps.size = true) {listed : Array Bool} {a : Act} {w w' : World} {i : Nat} {o : Oper} {v : Value} (s : St .any ops a0 C Φ listed a w) (ho : ops[i]? = some o)
    (hw : ∀ e ∈ o.after, Region.binds .any e = true → listed.getD e.on false = true) (hC : C w') (hr : ∀ j u, j ≠ i → Φ j u w → Φ j u w') (hv : Φ i v w') : St .any ops a0 C Φ (listed.setIfInBounds i true) (a.put o.dst v) w' := by
  obtain ⟨_, _, hd⟩ := plain4_at hB ho
  have hi : i < ops.size := (Array.getElem?_eq_some_iff.1 ho).1
  have hdo : dstOf ops i = o.dst := by unfold dstOf; rw [ho]; rfl
  have hset : (listed.setIfInBounds i true).getD i false = true := by simp [s.size, hi]
  refine ⟨by simp [s.size], by rw [put_defers, s.defers], by rw [put_size, s.tmps], fun j oj hj hl e he hb => ?_, fun t ht => ?_, hC, fun j hj hl => ?_⟩
  · rcases getD_set hl with rfl | hl
    · obtain rfl : oj = o := Option.some.inj (hj.symm.trans ho)
      exact getD_set_true (hw e he hb)
    · exact getD_set_true (s.closed j oj hj hl e he hb)
  · have h1 : a.tmps.getD t undef = a0.tmps.getD t undef := s.other t (fun j hj => ht j (getD_set_true hj))
    cases hod : o.dst with
    | none => exact h1
    | some d =>
      have h2 := ht i hset
      rw [hdo, hod] at h2
      rw [put_getD a d t v (by rw [s.tmps]; exact (hd d hod).1), if_neg (fun e => h2 (by rw [e]))]
      exact h1
  · by_cases hij : j = i
    · subst hij
      cases hod : o.dst with
      | none => exact hnone j _ _ (by rw [hdo, hod])
      | some d =>
        have : valAt ops (a.put (some d) v) j = v := by
          unfold valAt; rw [hdo, hod]; simp only
          rw [put_getD a d d v (by rw [s.tmps]; exact (hd d hod).1), if_pos rfl]
        rw [this]; exact hv
    · rcases getD_set hl with h | hl
      · exact absurd h hij
      · have h1 := hr j _ hij (s.val j hj hl)
        cases hod : o.dst with
        | none => exact h1
        | some d =>
          have : valAt ops (a.put (some d) v) j = valAt ops a j := by
            unfold valAt
            cases hdj : dstOf ops j with
            | none => rfl
            | some d' =>
              simp only
              rw [put_getD a d d' v (by rw [s.tmps]; exact (hd d hod).1), if_neg]
              intro e
              exact (hd d hod).2 j hij (by rw [hdj, e])
          rw [this]; exact h1
theorem all_listed4 {listed : Array Bool} {T : Nat} (hB : plainB4 ops T = true) (hs : listed.size = ops.size) (hr : Region.ready .any ops listed = []) : ∀ i, i < ops.size → listed.getD i false = true := by
  intro i
  induction i using Nat.strongRecOn with
  | _ i ih =>
    intro hi
    cases hl : listed.getD i false with
    | true => rfl
    | false =>
      exfalso
      have ho : ops[i]? = some ops[i] := by simp [hi]
      obtain ⟨_, haft, _⟩ := plain4_at hB ho
      have : i ∈ Region.ready .any ops listed := mem_ready.2 ⟨getD_in (by omega) hl, ops[i], ho, fun e he hb => ih e.on (haft e he hb) (by have := haft e he hb; omega)⟩
      rw [hr] at this
      cases this

theorem waits_at {p i : Nat} {listed : Array Bool} {a0 a : Act} {C : World → Prop} {Φ : Nat → Value → World → Prop} {w : World} (s : St .any ops a0 C Φ listed a w) (h : Region.waitsFor .any ops p i = true) (hl : listed.getD p false = true) : listed.getD i false = true := by
  obtain ⟨oj, hoj, e, he, hb, hon⟩ := Region.waitsFor_spec h
  rw [← hon]; exact s.closed p oj hoj hl e he hb
theorem region_tailP {id : Nat} {a0 : Act} {w0 : World} (n p late : Nat) (hp : p < n) (hlt : late < n) (hne : late ≠ p) (ds : List Tmp) (hm : P.follows .mixedOrders = true) (hB : plainB4 ops a0.tmps.size = true) (hn : ops.size = n + 1) (hl : waitsAll ops n = true) (hds : dsts (ops.extract 0 n) = ds)
    (hwp : (List.range n).all (fun i => decide (i = p) || decide (i = late) || Region.waitsFor .any ops p i) = true) (hpd : dstOf ops p = none)
    (C : World → Prop) (Φ : Nat → Value → World → Prop) (R : World → World → Prop) (J : (Tmp → Value) → World → Prop)
    (hR : ∀ i v w w', R w w' → Φ i v w → Φ i v w') (hnone : ∀ i v w, dstOf ops i = none → Φ i v w) (h0 : C w0.drew)
    (hJ : ∀ f f' w, (∀ d, dstOf ops late ≠ some d → f d = f' d) → J f w → J f' w)
    (hstep : ∀ i o, ops[i]? = some o → i < n → i ≠ p → i ≠ late → ∀ listed a w, St .any ops a0 C Φ listed a w → listed.getD i true = false → (∀ e ∈ o.after, Region.binds .any e = true → listed.getD e.on false = true) →
      ∀ K : Act → World → Prop, (∀ v w', C w' → R w w' → Φ i v w' → K (a.put o.dst v) w') → o.wp P a w K Q)
    (hstepP : ∀ o, ops[p]? = some o → ∀ a w, C w → (∀ i, i < n → i ≠ p → i ≠ late → Φ i (valAt ops a i) w) →
      ∀ K : Act → World → Prop, (∀ v w', C w' → J (fun d => a.tmps.getD d undef) w' → (∀ j u, Φ j u w → Φ j u w') → K (a.put o.dst v) w') → o.wp P a w K Q)
    (hlate : ∀ o, ops[late]? = some o → ∀ listed a w, St .any ops a0 C Φ listed a w → (∀ e ∈ o.after, Region.binds .any e = true → listed.getD e.on false = true) →
      ∀ K : Act → World → Prop, (∀ v, Φ late v w → K (a.put o.dst v) w) → o.wp P a w K Q)
    (hend : ∀ (f : Tmp → Value) w o, ops[n]? = some o → C w → (∀ i, i < n → Φ i (match dstOf ops i with | some d => f d | none => undef) w) → J f w → o.wp P ⟨setAll a0.tmps f ds, a0.defers⟩ w (fun a' w' => Q .normal a' w') Q) :
    (Code.region id ops true).wp P Q a0 w0 := by
  refine wp_region_any hm ?_
  refine wpAny_inv (fun listed a w => ((St .any ops a0 C Φ listed a w ∧ (listed.getD p false = true → J (fun d => a.tmps.getD d undef) w)) ∧ listed.getD n true = false) ∨ ((∀ i, ¬ listed.getD i true = false) ∧ Q .normal a w)) (fun listed a w i s hi => ?_) (fun listed a w s hr => ?_) _ _ _ _ (.inl ⟨⟨⟨by simp, rfl, rfl, ?_, ?_, h0, ?_⟩, fun h => by rw [getD_replicate_false] at h; cases h⟩, by simp [hn]⟩) ?_
  · obtain ⟨hli, o, ho, haft⟩ := mem_ready.1 hi
    rcases s with ⟨⟨s, hcl⟩, hln⟩ | ⟨hall, _⟩
    · unfold wpOp
      rw [ho]
      obtain ⟨hg, _, hd⟩ := plain4_at hB ho
      simp only [Region.wanted, hg, if_true]
      have his : i < ops.size := (Array.getElem?_eq_some_iff.1 ho).1
      have hset : ∀ k, k ≠ i → (listed.setIfInBounds i true).getD k true = listed.getD k true := fun k hk => getD_set_ne true (fun e => hk e.symm)
      by_cases hin : i < n
      · by_cases hip : i = p
        · subst hip
          have hdn : o.dst = none := by have := hpd; unfold dstOf at this; rw [ho] at this; exact this
          refine .inl (hstepP o ho a w s.cls (fun j hj hji hjl => ?_) _ (fun v w' hC hj hk => .inl ⟨⟨?_, fun _ => ?_⟩, ?_⟩))
          · have h1 := List.all_eq_true.1 hwp j (List.mem_range.2 hj)
            simp only [Bool.or_eq_true, decide_eq_true_eq] at h1
            rcases h1 with (h1 | h1) | h1
            · exact absurd h1 hji
            · exact absurd h1 hjl
            · obtain ⟨oj, hoj, e, he, hb, hon⟩ := Region.waitsFor_spec h1
              obtain rfl : oj = o := Option.some.inj (hoj.symm.trans ho)
              exact s.val j (by omega) (by rw [← hon]; exact haft e he hb)
          · exact s.put4 hnone hB ho haft hC (fun j u _ h => hk j u h) (hnone i v w' hpd)
          · rw [hdn]; exact hj
          · rw [hset n (by omega)]; exact hln
        · by_cases hil : i = late
          · subst hil
            refine .inl (hlate o ho listed a w s haft _ (fun v hv => .inl ⟨⟨s.put4 hnone hB ho haft s.cls (fun j u _ h => h) hv, fun h => ?_⟩, ?_⟩))
            · rw [getD_set_ne false hip] at h
              refine hJ _ _ w (fun d hdd => ?_) (hcl h)
              cases hod : o.dst with
              | none => rfl
              | some d' =>
                rw [put_getD a d' d v (by rw [s.tmps]; exact (hd d' hod).1), if_neg]
                intro e
                apply hdd
                unfold dstOf; rw [ho]; show o.dst = some d; rw [hod, e]
            · rw [hset n (by omega)]; exact hln
          · refine .inl (hstep i o ho hin hip hil listed a w s hli haft _ (fun v w' hC hr hv => .inl ⟨⟨s.put4 hnone hB ho haft hC (fun j u _ h => hR j u w w' hr h) hv, fun h => ?_⟩, ?_⟩))
            · exfalso
              rw [getD_set_ne false hip] at h
              have h1 := List.all_eq_true.1 hwp i (List.mem_range.2 hin)
              simp only [Bool.or_eq_true, decide_eq_true_eq] at h1
              rcases h1 with (h1 | h1) | h1
              · exact hip h1
              · exact hil h1
              · exact not_both hli (waits_at s h1 h)
            · rw [hset n (by omega)]; exact hln
      · obtain rfl : i = n := by omega
        have hall : ∀ j, j < i → listed.getD j false = true := fun j hj => listed_of_waits hl hj ho haft
        have h1 := act_put a a0 ds s.defers s.tmps (fun t ht => s.other t (fun j hj hd => ht (by
          rw [← hds]
          have hji : j < i := by
            have hjs : j < ops.size := by
              rcases Nat.lt_or_ge j ops.size with h' | h'
              · exact h'
              · unfold dstOf at hd; rw [Array.getElem?_eq_none h'] at hd; simp at hd
            rcases Nat.lt_or_ge j i with h' | h'
            · exact h'
            · obtain rfl : j = i := by omega
              rw [getD_both hli] at hj; cases hj
          refine mem_dsts (j := j) ?_
          unfold dstOf at hd ⊢
          rw [Array.getElem?_extract]
          rw [if_pos (by omega), Nat.zero_add]
          exact hd)))
        have h2 := hend (fun d => a.tmps.getD d undef) w o ho s.cls (fun j hj => by
          have := s.val j (by omega) (hall j hj)
          unfold valAt at this
          exact this) (hcl (hall p hp))
        rw [← h1] at h2
        refine .inl (Oper.wp_mono (fun a' w' hq => .inr ⟨fun j hj => ?_, hq⟩) h2)
        have hsz : listed.size = i + 1 := by rw [s.size, hn]
        by_cases hji : i = j
        · subst hji; simp [hsz] at hj
        · rw [getD_set_ne true hji] at hj
          rcases Nat.lt_or_ge j i with h' | h'
          · exact absurd (hall j h') (by rw [getD_both hj]; decide)
          · simp [Array.getElem?_eq_none (show listed.size ≤ j by omega)] at hj
    · exact absurd hli (hall i)
  · rcases s with ⟨⟨s, _⟩, hln⟩ | ⟨_, hq⟩
    · have hall := all_listed4 hB s.size hr
      have := hall n (by omega)
      rw [getD_both hln] at this; cases this
    · exact hq
  · intro j oj _ hl
    rw [getD_replicate_false] at hl; cases hl
  · intro t _; rfl
  · intro i _ hl
    rw [getD_replicate_false] at hl; cases hl
  · unfold left
    rw [Array.toList_replicate]
    exact Nat.le_trans (List.countP_le_length) (by simp)
end Go.Proofs.YtfpnflhkfpolcaaGreatDoor.Inv
