/-
  Several texts in one: Inv, Inv2, Inv3, Inv5.
-/
import Derived.Test.YtdhaelaoackfkaaProg
import Derived.WalkKit
import Derived.StillTail
namespace Go.Proofs.Ytdhaelaoackfkaa.Inv
open Go

variable {P : Program} {ops : Array Oper} {Q : Exit → Act → World → Prop} {md : Region.Mode}

/-- how many are left. -/
def left (listed : Array Bool) : Nat := listed.toList.countP (fun b => !b)
theorem left_set {listed : Array Bool} {i : Nat} (h : listed.getD i true = false) : left (listed.setIfInBounds i true) + 1 = left listed := by
  have hi : i < listed.size := by
    rcases Nat.lt_or_ge i listed.size with h' | h'
    · exact h'
    · simp [Array.getElem?_eq_none h'] at h
  have hv : listed.toList[i]'(by simpa using hi) = false := by simpa [hi] using h
  unfold left
  rw [Array.toList_setIfInBounds, List.countP_set (by simpa using hi), hv]
  have : 0 < listed.toList.countP (fun b => !b) := by
    rw [List.countP_pos_iff]
    exact ⟨false, by rw [← hv]; exact List.getElem_mem _, rfl⟩
  simp only [Bool.not_false, Bool.not_true, if_true, Bool.false_eq_true, if_false]
  omega
theorem left_zero {listed : Array Bool} (h : left listed = 0) (i : Nat) : ¬ listed.getD i true = false := by
  intro h1
  have := left_set h1
  omega
theorem wpAny_inv (I : Array Bool → Act → World → Prop)
    (hstep : ∀ listed a w i, I listed a w → i ∈ Region.ready md ops listed → wpOp P ops Q i (fun a' w' => I (listed.setIfInBounds i true) a' w') a w)
    (hend : ∀ listed a w, I listed a w → Region.ready md ops listed = [] → Q .normal a w) :
    ∀ fuel listed a w, I listed a w → left listed ≤ fuel → wpAny P md ops Q fuel listed a w
  | 0, listed, a, w, h, hf => by
    have hr : Region.ready md ops listed = [] := by
      rw [List.eq_nil_iff_forall_not_mem]
      intro i hi
      exact left_zero (by omega) i (mem_ready.1 hi).1
    exact ⟨hr, hend _ _ _ h hr⟩
  | fuel + 1, listed, a, w, h, hf => by
    refine ⟨fun hr => hend _ _ _ h hr, fun i hi => ?_⟩
    have h1 := left_set (mem_ready.1 hi).1
    exact wpOp_mono (fun a' w' h' => wpAny_inv I hstep hend fuel _ a' w' h' (by omega)) (hstep _ _ _ i h hi)

def dstOf (ops : Array Oper) (i : Nat) : Option Tmp := (ops[i]?).bind (·.dst)
/-- what operation i has left. -/
def valAt (ops : Array Oper) (a : Act) (i : Nat) : Value := match dstOf ops i with | some d => a.tmps.getD d undef | none => undef
/-- no guards; each waits for earlier ones alone; each has a slot of its own. -/
def plainB (ops : Array Oper) (T : Nat) : Bool := (List.range ops.size).all fun i => match ops[i]? with
  | some o => o.guard.isNone && o.after.all (fun e => decide (e.on < i)) && (match o.dst with | some d => decide (d < T) && (List.range ops.size).all (fun j => decide (j = i) || !(dstOf ops j == some d)) | none => true)
  | none => false

structure St (md : Region.Mode) (ops : Array Oper) (a0 : Act) (C : World → Prop) (Φ : Nat → Value → World → Prop) (listed : Array Bool) (a : Act) (w : World) : Prop where
  size : listed.size = ops.size
  defers : a.defers = a0.defers
  tmps : a.tmps.size = a0.tmps.size
  closed : ∀ j oj, ops[j]? = some oj → listed.getD j false = true → ∀ e ∈ oj.after, Region.binds md e = true → listed.getD e.on false = true
  other : ∀ t, (∀ j, listed.getD j false = true → dstOf ops j ≠ some t) → a.tmps.getD t undef = a0.tmps.getD t undef
  cls : C w
  val : ∀ i, i < ops.size → listed.getD i false = true → Φ i (valAt ops a i) w
theorem plain_at {T : Nat} (h : plainB ops T = true) {i : Nat} {o : Oper} (ho : ops[i]? = some o) :
    o.guard = none ∧ (∀ e ∈ o.after, e.on < i) ∧ ∀ d, o.dst = some d → d < T ∧ ∀ j, j ≠ i → dstOf ops j ≠ some d := by
  have hi : i < ops.size := (Array.getElem?_eq_some_iff.1 ho).1
  have h1 := List.all_eq_true.1 h i (List.mem_range.2 hi)
  rw [ho] at h1
  simp only [Bool.and_eq_true] at h1
  obtain ⟨⟨h2, h3⟩, h4⟩ := h1
  refine ⟨by simpa using h2, fun e he => by simpa using (Array.all_eq_true'.1 h3 e he), fun d hd => ?_⟩
  rw [hd] at h4
  simp only [Bool.and_eq_true, decide_eq_true_eq] at h4
  refine ⟨h4.1, fun j hj => ?_⟩
  by_cases hjs : j < ops.size
  · have h5 := List.all_eq_true.1 h4.2 j (List.mem_range.2 hjs)
    simp only [Bool.or_eq_true, decide_eq_true_eq] at h5
    rcases h5 with h5 | h5
    · exact absurd h5 hj
    · simpa using h5
  · unfold dstOf; rw [Array.getElem?_eq_none (by omega)]; simp
theorem put_getD (a : Act) (d t : Tmp) (v : Value) (hd : d < a.tmps.size) : (a.put (some d) v).tmps.getD t undef = if t = d then v else a.tmps.getD t undef := by
  simp only [Act.put, Array.getD_eq_getD_getElem?, Array.getElem?_setIfInBounds]
  by_cases h : d = t
  · subst h; simp [hd]
  · rw [if_neg h, if_neg (fun e => h e.symm)]
theorem put_size (a : Act) (d : Option Tmp) (v : Value) : (a.put d v).tmps.size = a.tmps.size := by cases d <;> simp [Act.put]
theorem put_defers (a : Act) (d : Option Tmp) (v : Value) : (a.put d v).defers = a.defers := by cases d <;> rfl

theorem getD_set {listed : Array Bool} {i j : Nat} (h : (listed.setIfInBounds i true).getD j false = true) : j = i ∨ listed.getD j false = true := by
  by_cases hj : i = j
  · exact .inl hj.symm
  · right; rwa [getD_set_ne false hj] at h

theorem St.put {a0 : Act} {C : World → Prop} {Φ : Nat → Value → World → Prop} {R : World → World → Prop} (hR : ∀ i v w w', R w w' → Φ i v w → Φ i v w') (hnone : ∀ i v w, dstOf ops i = none → Φ i v w)
    (hB : plainB ops a0.tmps.size = true) {listed : Array Bool} {a : Act} {w w' : World} {i : Nat} {o : Oper} {v : Value} (s : St md ops a0 C Φ listed a w) (ho : ops[i]? = some o)
    (hw : ∀ e ∈ o.after, Region.binds md e = true → listed.getD e.on false = true) (hC : C w') (hr : R w w') (hv : Φ i v w') : St md ops a0 C Φ (listed.setIfInBounds i true) (a.put o.dst v) w' := by
  obtain ⟨_, _, hd⟩ := plain_at hB ho
  have hi : i < ops.size := (Array.getElem?_eq_some_iff.1 ho).1
  have hdo : dstOf ops i = o.dst := by unfold dstOf; rw [ho]; rfl
  have hset : (listed.setIfInBounds i true).getD i false = true := by simp [s.size, hi]
  refine ⟨by simp [s.size], by rw [put_defers, s.defers], by rw [put_size, s.tmps], fun j oj hj hl e he hb => ?_, fun t ht => ?_, hC, fun j hj hl => ?_⟩
  · rcases getD_set hl with rfl | hl
    · obtain rfl : oj = o := Option.some.inj (hj.symm.trans ho)
      exact getD_set_true (hw e he hb)
    · exact getD_set_true (s.closed j oj hj hl e he hb)
  · have h1 : a.tmps.getD t undef = a0.tmps.getD t undef := s.other t (fun j hj => ht j (getD_set_true hj))
    cases hod : o.dst with
    | none => exact h1
    | some d =>
      have h2 := ht i hset
      rw [hdo, hod] at h2
      rw [put_getD a d t v (by rw [s.tmps]; exact (hd d hod).1), if_neg (fun e => h2 (by rw [e]))]
      exact h1
  · by_cases hij : j = i
    · subst hij
      cases hod : o.dst with
      | none => exact hnone j _ _ (by rw [hdo, hod])
      | some d =>
        have : valAt ops (a.put (some d) v) j = v := by
          unfold valAt; rw [hdo, hod]; simp only
          rw [put_getD a d d v (by rw [s.tmps]; exact (hd d hod).1), if_pos rfl]
        rw [this]; exact hv
    · rcases getD_set hl with h | hl
      · exact absurd h hij
      · have h1 := hR j _ w w' hr (s.val j hj hl)
        cases hod : o.dst with
        | none => exact h1
        | some d =>
          have : valAt ops (a.put (some d) v) j = valAt ops a j := by
            unfold valAt
            cases hdj : dstOf ops j with
            | none => rfl
            | some d' =>
              simp only
              rw [put_getD a d d' v (by rw [s.tmps]; exact (hd d hod).1), if_neg]
              intro e
              exact (hd d hod).2 j hij (by rw [hdj, e])
          rw [this]; exact h1

theorem all_listed {listed : Array Bool} {T : Nat} (hB : plainB ops T = true) (hs : listed.size = ops.size) (hr : Region.ready md ops listed = []) : ∀ i, i < ops.size → listed.getD i false = true := by
  intro i
  induction i using Nat.strongRecOn with
  | _ i ih =>
    intro hi
    cases hl : listed.getD i false with
    | true => rfl
    | false =>
      exfalso
      have ho : ops[i]? = some ops[i] := by simp [hi]
      obtain ⟨_, haft, _⟩ := plain_at hB ho
      have : i ∈ Region.ready md ops listed := mem_ready.2 ⟨getD_in (by omega) hl, ops[i], ho, fun e he _ => ih e.on (haft e he) (by have := haft e he; omega)⟩
      rw [hr] at this
      cases this

/-- A region whose operations may come in any order: each is shown to run where those that it waits for have left what they leave. -/
theorem region_inv {id : Nat} {a0 : Act} {w0 : World} (hm : P.follows .mixedOrders = true) (hB : plainB ops a0.tmps.size = true) (C : World → Prop) (Φ : Nat → Value → World → Prop) (R : World → World → Prop)
    (hR : ∀ i v w w', R w w' → Φ i v w → Φ i v w') (hnone : ∀ i v w, dstOf ops i = none → Φ i v w) (h0 : C w0.drew)
    (hstep : ∀ i o, ops[i]? = some o → ∀ listed a w, St .any ops a0 C Φ listed a w → listed.getD i true = false → (∀ e ∈ o.after, Region.binds .any e = true → listed.getD e.on false = true) →
      ∀ K : Act → World → Prop, (∀ v w', C w' → R w w' → Φ i v w' → K (a.put o.dst v) w') → o.wp P a w K Q)
    (hend : ∀ a w, a.defers = a0.defers → a.tmps.size = a0.tmps.size → (∀ t, (∀ j, j < ops.size → dstOf ops j ≠ some t) → a.tmps.getD t undef = a0.tmps.getD t undef) → C w → (∀ i, i < ops.size → Φ i (valAt ops a i) w) → Q .normal a w) :
    (Code.region id ops true).wp P Q a0 w0 := by
  refine wp_region_any hm ?_
  refine wpAny_inv (St .any ops a0 C Φ) (fun listed a w i s hi => ?_) (fun listed a w s hr => ?_) _ _ _ _ ⟨by simp, rfl, rfl, ?_, ?_, h0, ?_⟩ ?_
  · obtain ⟨hl, o, ho, haft⟩ := mem_ready.1 hi
    unfold wpOp
    rw [ho]
    obtain ⟨hg, _, _⟩ := plain_at hB ho
    simp only [Region.wanted, hg, if_true]
    exact .inl (hstep i o ho listed a w s hl haft _ (fun v w' hC hr hv => s.put hR hnone hB ho haft hC hr hv))
  · have hall := all_listed hB s.size hr
    refine hend a w s.defers s.tmps (fun t ht => s.other t (fun j hj => ?_)) s.cls (fun i hi => s.val i hi (hall i hi))
    by_cases hjs : j < ops.size
    · exact ht j hjs
    · unfold dstOf; rw [Array.getElem?_eq_none (by omega)]; simp
  · intro j oj _ hl
    rw [getD_replicate_false] at hl; cases hl
  · intro t _; rfl
  · intro i _ hl
    rw [getD_replicate_false] at hl; cases hl
  · unfold left
    rw [Array.toList_replicate]
    exact Nat.le_trans (List.countP_le_length) (by simp)
/-- the slots ds hold what f says. -/
def setAll (t0 : Array Value) (f : Tmp → Value) : List Tmp → Array Value
  | [] => t0
  | d :: ds => (setAll t0 f ds).setIfInBounds d (f d)
theorem setAll_size (t0 : Array Value) (f : Tmp → Value) (ds : List Tmp) : (setAll t0 f ds).size = t0.size := by
  induction ds with
  | nil => rfl
  | cons d ds ih => simp [setAll, ih]
theorem setAll_getD (t0 : Array Value) (f : Tmp → Value) (ds : List Tmp) (t : Tmp) (ht : t < t0.size) : (setAll t0 f ds).getD t undef = if t ∈ ds then f t else t0.getD t undef := by
  induction ds with
  | nil => rfl
  | cons d ds ih =>
    simp only [setAll, Array.getD_eq_getD_getElem?, Array.getElem?_setIfInBounds, setAll_size, List.mem_cons] at ih ⊢
    by_cases h : d = t
    · subst h; simp [ht]
    · have h' : ¬ t = d := fun e => h e.symm
      rw [if_neg h]
      simp only [h', false_or]
      exact ih
theorem act_put (a a0 : Act) (ds : List Tmp) (hd : a.defers = a0.defers) (hs : a.tmps.size = a0.tmps.size) (h : ∀ t, t ∉ ds → a.tmps.getD t undef = a0.tmps.getD t undef) :
    a = ⟨setAll a0.tmps (fun d => a.tmps.getD d undef) ds, a0.defers⟩ := by
  obtain ⟨tm, df⟩ := a
  simp only at hd hs h
  subst hd
  congr 1
  show tm = setAll a0.tmps (fun d => tm.getD d undef) ds
  obtain ⟨u, hu⟩ : ∃ u, setAll a0.tmps (fun d => tm.getD d undef) ds = u := ⟨_, rfl⟩
  have hus : u.size = a0.tmps.size := by rw [← hu, setAll_size]
  have h3 : ∀ i, i < a0.tmps.size → u.getD i undef = if i ∈ ds then tm.getD i undef else a0.tmps.getD i undef := fun i hi => by rw [← hu]; exact setAll_getD a0.tmps (fun d => tm.getD d undef) ds i hi
  rw [hu]
  clear hu
  apply Array.ext
  · rw [hus, hs]
  · intro i h1 h2
    have e1 : tm.getD i undef = tm[i] := by simp [h1]
    have e2 : u.getD i undef = u[i] := by simp [h2]
    rw [← e1, ← e2, h3 i (by omega)]
    by_cases hm : i ∈ ds
    · rw [if_pos hm]
    · rw [if_neg hm, h i hm]
def dsts (ops : Array Oper) : List Tmp := ops.toList.filterMap (·.dst)
theorem mem_dsts {j : Nat} {t : Tmp} (h : dstOf ops j = some t) : t ∈ dsts ops := by
  unfold dstOf at h
  cases ho : ops[j]? with
  | none => rw [ho] at h; simp at h
  | some o =>
    rw [ho] at h
    unfold dsts
    rw [List.mem_filterMap]
    exact ⟨o, Array.mem_toList_iff.2 (Array.mem_of_getElem? ho), h⟩
/-- The same, the frame behind it written out. -/
theorem region_inv2 {id : Nat} {a0 : Act} {w0 : World} (ds : List Tmp) (hm : P.follows .mixedOrders = true) (hB : plainB ops a0.tmps.size = true) (hds : dsts ops = ds) (C : World → Prop) (Φ : Nat → Value → World → Prop) (R : World → World → Prop)
    (hR : ∀ i v w w', R w w' → Φ i v w → Φ i v w') (hnone : ∀ i v w, dstOf ops i = none → Φ i v w) (h0 : C w0.drew)
    (hstep : ∀ i o, ops[i]? = some o → ∀ listed a w, St .any ops a0 C Φ listed a w → listed.getD i true = false → (∀ e ∈ o.after, Region.binds .any e = true → listed.getD e.on false = true) →
      ∀ K : Act → World → Prop, (∀ v w', C w' → R w w' → Φ i v w' → K (a.put o.dst v) w') → o.wp P a w K Q)
    (hend : ∀ (f : Tmp → Value) w, C w → (∀ i, i < ops.size → Φ i (match dstOf ops i with | some d => f d | none => undef) w) → Q .normal ⟨setAll a0.tmps f ds, a0.defers⟩ w) :
    (Code.region id ops true).wp P Q a0 w0 := by
  refine region_inv hm hB C Φ R hR hnone h0 hstep (fun a w hd hs ho hC hv => ?_)
  have h1 := act_put a a0 ds hd hs (fun t ht => ho t (fun j _ hj => ht (by rw [← hds]; exact mem_dsts hj)))
  have h2 := hend (fun d => a.tmps.getD d undef) w hC (fun i hi => by
    have := hv i hi
    unfold valAt at this
    exact this)
  rw [h1]
  exact h2
def onlyB (ops : Array Oper) (t : Tmp) (i : Nat) : Bool := (List.range ops.size).all fun j => decide (j = i) || !(dstOf ops j == some t)
theorem only_at {t : Tmp} {i : Nat} (h : onlyB ops t i = true) {j : Nat} (hj : dstOf ops j = some t) : j = i := by
  have hjs : j < ops.size := by
    rcases Nat.lt_or_ge j ops.size with h' | h'
    · exact h'
    · unfold dstOf at hj; rw [Array.getElem?_eq_none h'] at hj; simp at hj
  have h1 := List.all_eq_true.1 h j (List.mem_range.2 hjs)
  simp only [Bool.or_eq_true, decide_eq_true_eq] at h1
  rcases h1 with h1 | h1
  · exact h1
  · rw [hj] at h1; simp at h1
def noneB (ops : Array Oper) (t : Tmp) : Bool := (List.range ops.size).all fun j => !(dstOf ops j == some t)
theorem none_at {t : Tmp} (h : noneB ops t = true) {j : Nat} (hj : dstOf ops j = some t) : False := by
  have hjs : j < ops.size := by
    rcases Nat.lt_or_ge j ops.size with h' | h'
    · exact h'
    · unfold dstOf at hj; rw [Array.getElem?_eq_none h'] at hj; simp at hj
  have h1 := List.all_eq_true.1 h j (List.mem_range.2 hjs)
  rw [hj] at h1; simp at h1
def someB (ops : Array Oper) : Bool := (List.range ops.size).all fun i => (dstOf ops i).isSome
theorem none_of {Φ : Nat → Value → World → Prop} (n : Nat) (h : someB ops = true) (hn : ops.size = n) (hbig : ∀ i v w, n ≤ i → Φ i v w) (i : Nat) (v : Value) (w : World) (hi : dstOf ops i = none) : Φ i v w := by
  rcases Nat.lt_or_ge i ops.size with h' | h'
  · have h1 := List.all_eq_true.1 h i (List.mem_range.2 h')
    rw [hi] at h1; cases h1
  · exact hbig i v w (by omega)
theorem not_both {listed : Array Bool} {i : Nat} (h1 : listed.getD i true = false) (h2 : listed.getD i false = true) : False := by
  rw [getD_both h1] at h2; cases h2
end Go.Proofs.Ytdhaelaoackfkaa.Inv

namespace Go.Proofs.Ytdhaelaoackfkaa.Inv
open Go

variable {P : Program} {ops : Array Oper} {Q : Exit → Act → World → Prop} {md : Region.Mode}

/-- the last operation waits for all others. -/
def waitsAll (ops : Array Oper) (n : Nat) : Bool := (List.range n).all fun i => Region.waitsFor .any ops n i
theorem listed_of_waits {listed : Array Bool} {n i : Nat} {o : Oper} (h : waitsAll ops n = true) (hi : i < n) (ho : ops[n]? = some o) (hw : ∀ e ∈ o.after, Region.binds .any e = true → listed.getD e.on false = true) : listed.getD i false = true := by
  obtain ⟨oj, hoj, e, he, hb, hon⟩ := Region.waitsFor_spec (List.all_eq_true.1 h i (List.mem_range.2 hi))
  obtain rfl : oj = o := Option.some.inj (hoj.symm.trans ho)
  rw [← hon]; exact hw e he hb
/-- The last operation comes last: it is run in the frame written out. -/
theorem region_tail {id : Nat} {a0 : Act} {w0 : World} (n : Nat) (ds : List Tmp) (hm : P.follows .mixedOrders = true) (hB : plainB ops a0.tmps.size = true) (hn : ops.size = n + 1) (hl : waitsAll ops n = true) (hds : dsts (ops.extract 0 n) = ds)
    (C : World → Prop) (Φ : Nat → Value → World → Prop) (R : World → World → Prop)
    (hR : ∀ i v w w', R w w' → Φ i v w → Φ i v w') (hnone : ∀ i v w, dstOf ops i = none → Φ i v w) (h0 : C w0.drew)
    (hstep : ∀ i o, ops[i]? = some o → i < n → ∀ listed a w, St .any ops a0 C Φ listed a w → listed.getD n true = false → listed.getD i true = false → (∀ e ∈ o.after, Region.binds .any e = true → listed.getD e.on false = true) →
      ∀ K : Act → World → Prop, (∀ v w', C w' → R w w' → Φ i v w' → K (a.put o.dst v) w') → o.wp P a w K Q)
    (hend : ∀ (f : Tmp → Value) w o, ops[n]? = some o → C w → (∀ i, i < n → Φ i (match dstOf ops i with | some d => f d | none => undef) w) → o.wp P ⟨setAll a0.tmps f ds, a0.defers⟩ w (fun a' w' => Q .normal a' w') Q) :
    (Code.region id ops true).wp P Q a0 w0 := by
  refine wp_region_any hm ?_
  refine wpAny_inv (fun listed a w => (St .any ops a0 C Φ listed a w ∧ listed.getD n true = false) ∨ ((∀ i, ¬ listed.getD i true = false) ∧ Q .normal a w)) (fun listed a w i s hi => ?_) (fun listed a w s hr => ?_) _ _ _ _ (.inl ⟨⟨by simp, rfl, rfl, ?_, ?_, h0, ?_⟩, by simp [hn]⟩) ?_
  · obtain ⟨hli, o, ho, haft⟩ := mem_ready.1 hi
    rcases s with ⟨s, hln⟩ | ⟨hall, _⟩
    · unfold wpOp
      rw [ho]
      obtain ⟨hg, _, _⟩ := plain_at hB ho
      simp only [Region.wanted, hg, if_true]
      have his : i < ops.size := (Array.getElem?_eq_some_iff.1 ho).1
      by_cases hin : i < n
      · refine .inl (hstep i o ho hin listed a w s hln hli haft _ (fun v w' hC hr hv => .inl ⟨s.put hR hnone hB ho haft hC hr hv, ?_⟩))
        rw [getD_set_ne true (by omega)]; exact hln
      · obtain rfl : i = n := by omega
        have hall : ∀ j, j < i → listed.getD j false = true := fun j hj => listed_of_waits hl hj ho haft
        have h1 := act_put a a0 ds s.defers s.tmps (fun t ht => s.other t (fun j hj hd => ht (by
          rw [← hds]
          have hji : j < i := by
            have hjs : j < ops.size := by
              rcases Nat.lt_or_ge j ops.size with h' | h'
              · exact h'
              · unfold dstOf at hd; rw [Array.getElem?_eq_none h'] at hd; simp at hd
            rcases Nat.lt_or_ge j i with h' | h'
            · exact h'
            · obtain rfl : j = i := by omega
              rw [getD_both hli] at hj; cases hj
          refine mem_dsts (j := j) ?_
          unfold dstOf at hd ⊢
          rw [Array.getElem?_extract]
          rw [if_pos (by omega), Nat.zero_add]
          exact hd)))
        have h2 := hend (fun d => a.tmps.getD d undef) w o ho s.cls (fun j hj => by
          have := s.val j (by omega) (hall j hj)
          unfold valAt at this
          exact this)
        rw [← h1] at h2
        refine .inl (Oper.wp_mono (fun a' w' hq => .inr ⟨fun j hj => ?_, hq⟩) h2)
        have hsz : listed.size = i + 1 := by rw [s.size, hn]
        by_cases hji : i = j
        · subst hji; simp [hsz] at hj
        · rw [getD_set_ne true hji] at hj
          rcases Nat.lt_or_ge j i with h' | h'
          · exact absurd (hall j h') (by rw [getD_both hj]; decide)
          · simp [Array.getElem?_eq_none (show listed.size ≤ j by omega)] at hj
    · exact absurd hli (hall i)
  · rcases s with ⟨s, hln⟩ | ⟨_, hq⟩
    · have hall := all_listed hB s.size hr
      have := hall n (by omega)
      rw [getD_both hln] at this; cases this
    · exact hq
  · intro j oj _ hl
    rw [getD_replicate_false] at hl; cases hl
  · intro t _; rfl
  · intro i _ hl
    rw [getD_replicate_false] at hl; cases hl
  · unfold left
    rw [Array.toList_replicate]
    exact Nat.le_trans (List.countP_le_length) (by simp)
end Go.Proofs.Ytdhaelaoackfkaa.Inv

namespace Go.Proofs.Ytdhaelaoackfkaa.Inv
open Go

variable {P : Program} {ops : Array Oper} {Q : Exit → Act → World → Prop} {md : Region.Mode}

theorem St.putJ {a0 : Act} {C : World → Prop} {Φ : Nat → Value → World → Prop} (hnone : ∀ i v w, dstOf ops i = none → Φ i v w)
    (hB : plainB ops a0.tmps.size = true) {listed : Array Bool} {a : Act} {w w' : World} {i : Nat} {o : Oper} {v : Value} (s : St md ops a0 C Φ listed a w) (ho : ops[i]? = some o)
    (hw : ∀ e ∈ o.after, Region.binds md e = true → listed.getD e.on false = true) (hC : C w') (hr : ∀ j u, j ≠ i → Φ j u w → Φ j u w') (hv : Φ i v w') : St md ops a0 C Φ (listed.setIfInBounds i true) (a.put o.dst v) w' := by
  obtain ⟨_, _, hd⟩ := plain_at hB ho
  have hi : i < ops.size := (Array.getElem?_eq_some_iff.1 ho).1
  have hdo : dstOf ops i = o.dst := by unfold dstOf; rw [ho]; rfl
  have hset : (listed.setIfInBounds i true).getD i false = true := by simp [s.size, hi]
  refine ⟨by simp [s.size], by rw [put_defers, s.defers], by rw [put_size, s.tmps], fun j oj hj hl e he hb => ?_, fun t ht => ?_, hC, fun j hj hl => ?_⟩
  · rcases getD_set hl with rfl | hl
    · obtain rfl : oj = o := Option.some.inj (hj.symm.trans ho)
      exact getD_set_true (hw e he hb)
    · exact getD_set_true (s.closed j oj hj hl e he hb)
  · have h1 : a.tmps.getD t undef = a0.tmps.getD t undef := s.other t (fun j hj => ht j (getD_set_true hj))
    cases hod : o.dst with
    | none => exact h1
    | some d =>
      have h2 := ht i hset
      rw [hdo, hod] at h2
      rw [put_getD a d t v (by rw [s.tmps]; exact (hd d hod).1), if_neg (fun e => h2 (by rw [e]))]
      exact h1
  · by_cases hij : j = i
    · subst hij
      cases hod : o.dst with
      | none => exact hnone j _ _ (by rw [hdo, hod])
      | some d =>
        have : valAt ops (a.put (some d) v) j = v := by
          unfold valAt; rw [hdo, hod]; simp only
          rw [put_getD a d d v (by rw [s.tmps]; exact (hd d hod).1), if_pos rfl]
        rw [this]; exact hv
    · rcases getD_set hl with h | hl
      · exact absurd h hij
      · have h1 := hr j _ hij (s.val j hj hl)
        cases hod : o.dst with
        | none => exact h1
        | some d =>
          have : valAt ops (a.put (some d) v) j = valAt ops a j := by
            unfold valAt
            cases hdj : dstOf ops j with
            | none => rfl
            | some d' =>
              simp only
              rw [put_getD a d d' v (by rw [s.tmps]; exact (hd d hod).1), if_neg]
              intro e
              exact (hd d hod).2 j hij (by rw [hdj, e])
          rw [this]; exact h1
theorem region_tailJ {id : Nat} {a0 : Act} {w0 : World} (n p : Nat) (hp : p < n) (ds : List Tmp) (hm : P.follows .mixedOrders = true) (hB : plainB ops a0.tmps.size = true) (hn : ops.size = n + 1) (hl : waitsAll ops n = true) (hds : dsts (ops.extract 0 n) = ds)
    (C : Bool → World → Prop) (Φ : Nat → Value → World → Prop)
    (hnone : ∀ i v w, dstOf ops i = none → Φ i v w) (h0 : C false w0.drew)
    (hstep : ∀ i o, ops[i]? = some o → i < n → ∀ listed a w, St .any ops a0 (fun _ => True) Φ listed a w → C (listed.getD p false) w → listed.getD n true = false → listed.getD i true = false → (∀ e ∈ o.after, Region.binds .any e = true → listed.getD e.on false = true) →
      ∀ K : Act → World → Prop, (∀ v w', C (if i = p then true else listed.getD p false) w' → (∀ j u, j ≠ i → Φ j u w → Φ j u w') → Φ i v w' → K (a.put o.dst v) w') → o.wp P a w K Q)
    (hend : ∀ (f : Tmp → Value) w o, ops[n]? = some o → C true w → (∀ i, i < n → Φ i (match dstOf ops i with | some d => f d | none => undef) w) → o.wp P ⟨setAll a0.tmps f ds, a0.defers⟩ w (fun a' w' => Q .normal a' w') Q) :
    (Code.region id ops true).wp P Q a0 w0 := by
  refine wp_region_any hm ?_
  refine wpAny_inv (fun listed a w => ((St .any ops a0 (fun _ => True) Φ listed a w ∧ C (listed.getD p false) w) ∧ listed.getD n true = false) ∨ ((∀ i, ¬ listed.getD i true = false) ∧ Q .normal a w)) (fun listed a w i s hi => ?_) (fun listed a w s hr => ?_) _ _ _ _ (.inl ⟨⟨⟨by simp, rfl, rfl, ?_, ?_, trivial, ?_⟩, by rw [getD_replicate_false]; exact h0⟩, by simp [hn]⟩) ?_
  · obtain ⟨hli, o, ho, haft⟩ := mem_ready.1 hi
    rcases s with ⟨⟨s, hcl⟩, hln⟩ | ⟨hall, _⟩
    · unfold wpOp
      rw [ho]
      obtain ⟨hg, _, _⟩ := plain_at hB ho
      simp only [Region.wanted, hg, if_true]
      have his : i < ops.size := (Array.getElem?_eq_some_iff.1 ho).1
      by_cases hin : i < n
      · refine .inl (hstep i o ho hin listed a w s hcl hln hli haft _ (fun v w' hC hr hv => .inl ⟨⟨s.putJ hnone hB ho haft trivial hr hv, ?_⟩, ?_⟩))
        · by_cases hip : i = p
          · subst hip; rw [if_pos rfl] at hC; simpa [s.size, his] using hC
          · rw [if_neg hip] at hC; rw [getD_set_ne false hip]; exact hC
        · rw [getD_set_ne true (by omega)]; exact hln
      · obtain rfl : i = n := by omega
        have hall : ∀ j, j < i → listed.getD j false = true := fun j hj => listed_of_waits hl hj ho haft
        have h1 := act_put a a0 ds s.defers s.tmps (fun t ht => s.other t (fun j hj hd => ht (by
          rw [← hds]
          have hji : j < i := by
            have hjs : j < ops.size := by
              rcases Nat.lt_or_ge j ops.size with h' | h'
              · exact h'
              · unfold dstOf at hd; rw [Array.getElem?_eq_none h'] at hd; simp at hd
            rcases Nat.lt_or_ge j i with h' | h'
            · exact h'
            · obtain rfl : j = i := by omega
              rw [getD_both hli] at hj; cases hj
          refine mem_dsts (j := j) ?_
          unfold dstOf at hd ⊢
          rw [Array.getElem?_extract]
          rw [if_pos (by omega), Nat.zero_add]
          exact hd)))
        have h2 := hend (fun d => a.tmps.getD d undef) w o ho (by rw [hall p hp] at hcl; exact hcl) (fun j hj => by
          have := s.val j (by omega) (hall j hj)
          unfold valAt at this
          exact this)
        rw [← h1] at h2
        refine .inl (Oper.wp_mono (fun a' w' hq => .inr ⟨fun j hj => ?_, hq⟩) h2)
        have hsz : listed.size = i + 1 := by rw [s.size, hn]
        by_cases hji : i = j
        · subst hji; simp [hsz] at hj
        · rw [getD_set_ne true hji] at hj
          rcases Nat.lt_or_ge j i with h' | h'
          · exact absurd (hall j h') (by rw [getD_both hj]; decide)
          · simp [Array.getElem?_eq_none (show listed.size ≤ j by omega)] at hj
    · exact absurd hli (hall i)
  · rcases s with ⟨⟨s, _⟩, hln⟩ | ⟨_, hq⟩
    · have hall := all_listed hB s.size hr
      have := hall n (by omega)
      rw [getD_both hln] at this; cases this
    · exact hq
  · intro j oj _ hl
    rw [getD_replicate_false] at hl; cases hl
  · intro t _; rfl
  · intro i _ hl
    rw [getD_replicate_false] at hl; cases hl
  · unfold left
    rw [Array.toList_replicate]
    exact Nat.le_trans (List.countP_le_length) (by simp)
end Go.Proofs.Ytdhaelaoackfkaa.Inv

namespace Go.Proofs.Ytdhaelaoackfkaa.Inv
open Go

variable {P : Program} {ops : Array Oper} {Q : Exit → Act → World → Prop} {md : Region.Mode}

/-- what is new since w is made by operation i. -/
def tagOn (tag : Nat → Nat) (w : World) (i : Nat) : Nat → Nat := fun k => if k < w.heap.size then tag k else i
theorem tagOn_old {tag : Nat → Nat} {w : World} {i k : Nat} (h : k < w.heap.size) : tagOn tag w i k = tag k := if_pos h
theorem tagOn_new {tag : Nat → Nat} {w : World} {i k : Nat} (h : w.heap.size ≤ k) : tagOn tag w i k = i := if_neg (by omega)
theorem region_tag {id : Nat} {a0 : Act} {w0 : World} (n : Nat) (ds : List Tmp) (hm : P.follows .mixedOrders = true) (hB : plainB ops a0.tmps.size = true) (hn : ops.size = n + 1) (hl : waitsAll ops n = true) (hds : dsts (ops.extract 0 n) = ds)
    (C : World → Prop) (Φ : (Nat → Nat) → Nat → Value → World → Prop) (R : World → World → Prop) (hrefl : ∀ w, R w w)
    (hR : ∀ tag tag' i v w w', R w w' → (∀ k, k < w.heap.size → tag' k = tag k) → Φ tag i v w → Φ tag' i v w') (hnone : ∀ tag i v w, dstOf ops i = none → Φ tag i v w) (h0 : C w0.drew)
    (hstep : ∀ i o, ops[i]? = some o → i < n → ∀ tag listed a w, St .any ops a0 C (Φ tag) listed a w → listed.getD n true = false → listed.getD i true = false → (∀ e ∈ o.after, Region.binds .any e = true → listed.getD e.on false = true) →
      ∀ K : Act → World → Prop, (∀ v w', C w' → R w w' → Φ (tagOn tag w i) i v w' → K (a.put o.dst v) w') → o.wp P a w K Q)
    (hend : ∀ tag (f : Tmp → Value) w o, ops[n]? = some o → C w → (∀ i, i < n → Φ tag i (match dstOf ops i with | some d => f d | none => undef) w) → o.wp P ⟨setAll a0.tmps f ds, a0.defers⟩ w (fun a' w' => Q .normal a' w') Q) :
    (Code.region id ops true).wp P Q a0 w0 := by
  refine wp_region_any hm ?_
  refine wpAny_inv (fun listed a w => ((∃ tag, St .any ops a0 C (Φ tag) listed a w) ∧ listed.getD n true = false) ∨ ((∀ i, ¬ listed.getD i true = false) ∧ Q .normal a w)) (fun listed a w i s hi => ?_) (fun listed a w s hr => ?_) _ _ _ _ (.inl ⟨⟨fun _ => 0, by simp, rfl, rfl, ?_, ?_, h0, ?_⟩, by simp [hn]⟩) ?_
  · obtain ⟨hli, o, ho, haft⟩ := mem_ready.1 hi
    rcases s with ⟨⟨tag, s⟩, hln⟩ | ⟨hall, _⟩
    · unfold wpOp
      rw [ho]
      obtain ⟨hg, _, _⟩ := plain_at hB ho
      simp only [Region.wanted, hg, if_true]
      have his : i < ops.size := (Array.getElem?_eq_some_iff.1 ho).1
      by_cases hin : i < n
      · refine .inl (hstep i o ho hin tag listed a w s hln hli haft _ (fun v w' hC hr hv => .inl ⟨⟨tagOn tag w i, ?_⟩, ?_⟩))
        · have s2 : St .any ops a0 C (Φ (tagOn tag w i)) listed a w := ⟨s.size, s.defers, s.tmps, s.closed, s.other, s.cls, fun j hj hlj => hR tag _ j _ w w (hrefl w) (fun k hk => tagOn_old hk) (s.val j hj hlj)⟩
          exact s2.put (R := R) (fun j u w1 w2 h12 h => hR _ _ j u w1 w2 h12 (fun _ _ => rfl) h) (fun j u w1 => hnone _ j u w1) hB ho haft hC hr hv
        · rw [getD_set_ne true (by omega)]; exact hln
      · obtain rfl : i = n := by omega
        have hall : ∀ j, j < i → listed.getD j false = true := fun j hj => listed_of_waits hl hj ho haft
        have h1 := act_put a a0 ds s.defers s.tmps (fun t ht => s.other t (fun j hj hd => ht (by
          rw [← hds]
          have hji : j < i := by
            have hjs : j < ops.size := by
              rcases Nat.lt_or_ge j ops.size with h' | h'
              · exact h'
              · unfold dstOf at hd; rw [Array.getElem?_eq_none h'] at hd; simp at hd
            rcases Nat.lt_or_ge j i with h' | h'
            · exact h'
            · obtain rfl : j = i := by omega
              rw [getD_both hli] at hj; cases hj
          refine mem_dsts (j := j) ?_
          unfold dstOf at hd ⊢
          rw [Array.getElem?_extract]
          rw [if_pos (by omega), Nat.zero_add]
          exact hd)))
        have h2 := hend tag (fun d => a.tmps.getD d undef) w o ho s.cls (fun j hj => by
          have := s.val j (by omega) (hall j hj)
          unfold valAt at this
          exact this)
        rw [← h1] at h2
        refine .inl (Oper.wp_mono (fun a' w' hq => .inr ⟨fun j hj => ?_, hq⟩) h2)
        have hsz : listed.size = i + 1 := by rw [s.size, hn]
        by_cases hji : i = j
        · subst hji; simp [hsz] at hj
        · rw [getD_set_ne true hji] at hj
          rcases Nat.lt_or_ge j i with h' | h'
          · exact absurd (hall j h') (by rw [getD_both hj]; decide)
          · simp [Array.getElem?_eq_none (show listed.size ≤ j by omega)] at hj
    · exact absurd hli (hall i)
  · rcases s with ⟨⟨tag, s⟩, hln⟩ | ⟨_, hq⟩
    · have hall := all_listed hB s.size hr
      have := hall n (by omega)
      rw [getD_both hln] at this; cases this
    · exact hq
  · intro j oj _ hl
    rw [getD_replicate_false] at hl; cases hl
  · intro t _; rfl
  · intro i _ hl
    rw [getD_replicate_false] at hl; cases hl
  · unfold left
    rw [Array.toList_replicate]
    exact Nat.le_trans (List.countP_le_length) (by simp)
end Go.Proofs.Ytdhaelaoackfkaa.Inv
