
/-
  A statement that leaves its order open, walked once, in the order of the text, where some operations (calls; what makes memory) leave a value of which only so much is known.
-/
import Derived.Test.YtdhaelaoackfkaaProg
import Derived.WalkKit
import Derived.Still
import Derived.Deep.Quiet
import Derived.Deep.QuietTactic
import Derived.BigQuiet
import Derived.Below
import Derived.StillTail
import Derived.Lib.QuietBelow
namespace Go.Proofs.Ytdhaelaoackfkaa.Fresh
open Go Go.RowKit

variable {P : Program} {ops : Array Oper} {md : Region.Mode} {C : World → Prop} {R : Nat → World → World → Prop} {p : Nat} {I : World → Prop}

/-- what is known of a value that an operation leaves: of itself; in the world. -/
structure Fr where
  sh : Value → Prop
  ph : Value → World → Prop

/-- an operation that enters no function. -/
def noEnter (o : Oper) : Bool := match o.op with
  | .call c => match c.callee with | .builtin .len => true | _ => false
  | .move _ | .assign _ | .pick _ _ _ | .load _ _ | .binOp _ _ _ _ _ | .unOp _ _ _ | .convert _ _ _ | .fieldAddr _ _ _ | .field _ _ _ | .indexAddr _ _ _ | .index _ _ _ | .extract _ _ | .slice _ _ _ _ _ | .build _ _ => true
  | _ => false
/-- an operation that enters no function, carried out in the world w, yields v, and the world is as it was. -/
def plainUpon (w : World) (v : Value) : Result Next → Prop
  | .ok (.value u) w' => w' = w ∧ u = v
  | .ok .skip w' => w' = w ∧ v = undef
  | _ => False
def freshUpon (P : Program) (S : Value → World → Prop) : Result Next → Prop
  | .ok (.value u) w' => S u w'
  | .ok .skip w' => S undef w'
  | .ok (.enter f args) w' => Calls P f args w' (fun e w'' => ∃ v, e = .returned v ∧ S v w'')
  | _ => False
def After (C : World → Prop) (R : World → World → Prop) (fr : Fr) (w : World) (v : Value) (w' : World) : Prop := fr.sh v ∧ fr.ph v w' ∧ R w w' ∧ C w'

/-- the operations that i waits for, and those that they wait for. -/
def reach (md : Region.Mode) (ops : Array Oper) : Nat → Nat → List Nat
  | 0, _ => []
  | n + 1, i => match ops[i]? with
    | none => []
    | some o => (o.after.toList.filter (Region.binds md)).flatMap fun e => e.on :: reach md ops n e.on
def dep (md : Region.Mode) (ops : Array Oper) (i k : Nat) : Bool := decide (k < i) && (reach md ops ops.size i).contains k

def upd (F : Nat → World → Prop) (i : Nat) (p : World → Prop) : Nat → World → Prop := fun k w => if k = i then p w else F k w
theorem upd_comm {F : Nat → World → Prop} {i k : Nat} {p q : World → Prop} (h : i ≠ k) : upd (upd F i p) k q = upd (upd F k q) i p := by
  funext j w; unfold upd
  by_cases h1 : j = k
  · subst h1; simp [Ne.symm h]
  · by_cases h2 : j = i
    · subst h2; simp [h]
    · simp [h1, h2]

/-- the walk in the text's order. -/
def wpF (P : Program) (md : Region.Mode) (ops : Array Oper) (C : World → Prop) (R : Nat → World → World → Prop) (Φ : Nat → Option Fr) (p : Nat) (I : World → Prop) (Q : Act → World → Prop) : List (Nat × Oper) → Act → (Nat → World → Prop) → Prop
  | [], a, F => ∀ w, C w → (∀ k, F k w) → Q a w
  | (i, o) :: rest, a, F =>
    if Region.wanted o (yielded ops a.tmps) then
      match Φ i with
      | none => noEnter o = true ∧ o.quiet P a C (fun a' => wpF P md ops C R Φ p I Q rest a' F)
      | some fr => (∀ w, C w → (i = p → I w) → (∀ k, dep md ops i k = true → F k w) → freshUpon P (After C (R i) fr w) ((execOp a.eval o).run P w)) ∧ (∃ v, fr.sh v) ∧
          ∀ v, fr.sh v → wpF P md ops C R Φ p I Q rest (a.put o.dst v) (upd F i (fr.ph v))
    else wpF P md ops C R Φ p I Q rest (a.put o.dst undef) F

theorem andThen_no {α : Type} (r : Result α) (g : α → Value) (f : FuncId) (args : Array Value) (w' : World) : (r.andThen fun a w'' => .ok (Next.value (g a)) w'') ≠ .ok (Next.enter f args) w' := by
  cases r <;> simp [Result.andThen]
theorem no_enter_run {o : Oper} (h : noEnter o = true) (ρ : Operand → Value) (w : World) (f : FuncId) (args : Array Value) (w' : World) : (execOp ρ o).run P w ≠ .ok (.enter f args) w' := by
  unfold noEnter at h
  unfold execOp
  intro he
  split at h
  · rename_i c hc
    split at h
    · rename_i hb
      rw [hc] at he
      simp only [resolve, hb, Sem.run_bind, Sem.run_pure, Result.andThen_ok, invoke, builtin] at he
      exact andThen_no _ _ _ _ _ he
    · cases h
  all_goals first
    | (rename_i hc; rw [hc] at he; simp only [Sem.run_bind, Sem.run_pure] at he; first | exact andThen_no _ _ _ _ _ he | cases he)
    | cases h
/-- what a plain operation yields is one thing. -/
theorem quietAt_one {o : Oper} {a : Act} {w : World} {v v' : Value} (hn : noEnter o = true) (h : o.quietAt P a C w v) (h' : o.quietAt P a C w v') : v = v' := by
  unfold Oper.quietAt at h h'
  have hne := no_enter_run (P := P) hn a.eval w
  generalize (execOp a.eval o).run P w = r at h h' hne
  cases r with
  | ok n w' =>
    cases n <;> simp only [Oper.quietUpon] at h h'
    case value u => rw [← h.2, ← h'.2]
    case skip => rw [h.2, h'.2]
    case enter f args => exact absurd rfl (hne f args w')
  | halt x w' => simp only [Oper.quietUpon] at h

/-- two operations of which neither waits for the other have nothing to do with each other. -/
def apartB (md : Region.Mode) (ops : Array Oper) : Bool := (List.range ops.size).all fun k => (List.range ops.size).all fun j => decide (j ≤ k) || match ops[k]?, ops[j]? with
  | some ok, some oj => (oj.after.any fun e => Region.binds md e && decide (e.on = k)) || ok.apart ops oj
  | _, _ => true
/-- each waits for earlier ones alone. -/
def downB (ops : Array Oper) : Bool := (List.range ops.size).all fun i => match ops[i]? with
  | some o => o.after.all fun e => decide (e.on < i)
  | none => true
theorem apart_at {k j : Nat} {ok oj : Oper} (h : apartB md ops = true) (hkj : k < j) (hk : ops[k]? = some ok) (hj : ops[j]? = some oj) (hw : ∀ e ∈ oj.after, Region.binds md e = true → e.on ≠ k) : ok.apart ops oj = true := by
  have hks := (Array.getElem?_eq_some_iff.1 hk).1
  have hjs := (Array.getElem?_eq_some_iff.1 hj).1
  have h1 := List.all_eq_true.1 (List.all_eq_true.1 h k (List.mem_range.2 hks)) j (List.mem_range.2 hjs)
  rw [hk, hj] at h1
  simp only [Bool.or_eq_true, decide_eq_true_eq] at h1
  rcases h1 with h1 | h1 | h1
  · omega
  · rw [Array.any_eq_true'] at h1
    obtain ⟨e, he, h2⟩ := h1
    simp only [Bool.and_eq_true, decide_eq_true_eq] at h2
    exact absurd h2.2 (hw e he h2.1)
  · exact h1
theorem down_at {i : Nat} {o : Oper} (h : downB ops = true) (ho : ops[i]? = some o) : ∀ e ∈ o.after, e.on < i := by
  intro e he
  have hi := (Array.getElem?_eq_some_iff.1 ho).1
  have h1 := List.all_eq_true.1 h i (List.mem_range.2 hi)
  rw [ho] at h1
  exact of_decide_eq_true (Array.all_eq_true'.1 h1 e he)
def Closed (md : Region.Mode) (ops : Array Oper) (listed : Array Bool) : Prop := ∀ j oj, ops[j]? = some oj → listed.getD j false = true → ∀ e ∈ oj.after, Region.binds md e = true → listed.getD e.on false = true
theorem reach_listed {listed : Array Bool} (hc : Closed md ops listed) : ∀ (n i : Nat), (∀ o, ops[i]? = some o → ∀ e ∈ o.after, Region.binds md e = true → listed.getD e.on false = true) → ∀ k ∈ reach md ops n i, listed.getD k false = true := by
  intro n
  induction n with
  | zero => intro i _ k hk; simp [reach] at hk
  | succ n ih =>
    intro i hi k hk
    unfold reach at hk
    cases ho : ops[i]? with
    | none => rw [ho] at hk; simp at hk
    | some o =>
      rw [ho] at hk
      simp only [List.mem_flatMap, List.mem_filter, List.mem_cons] at hk
      obtain ⟨e, ⟨he, hb⟩, hk⟩ := hk
      have h1 := hi o ho e (Array.mem_toList_iff.1 he) hb
      rcases hk with rfl | hk
      · exact h1
      · exact ih e.on (fun oj hj => hc e.on oj hj h1) k hk

theorem dep_lt {i k : Nat} (h : dep md ops i k = true) : k < i := by
  unfold dep at h; rw [Bool.and_eq_true, decide_eq_true_iff] at h; exact h.1
def Took (P : Program) (md : Region.Mode) (ops : Array Oper) (C : World → Prop) (R : Nat → World → World → Prop) (Φ : Nat → Option Fr) (p : Nat) (I : World → Prop) (Q : Act → World → Prop) (i : Nat) (o : Oper) (l : List (Nat × Oper)) (a : Act) (F : Nat → World → Prop) (w : World) : Prop :=
  (Region.wanted o (yielded ops a.tmps) = true ∧ Φ i = none ∧ ∃ v, noEnter o = true ∧ o.quietAt P a C w v ∧ wpF P md ops C R Φ p I Q l (a.put o.dst v) F) ∨
  (Region.wanted o (yielded ops a.tmps) = true ∧ ∃ fr, Φ i = some fr ∧ freshUpon P (After C (R i) fr w) ((execOp a.eval o).run P w) ∧ ∀ v, fr.sh v → wpF P md ops C R Φ p I Q l (a.put o.dst v) (upd F i (fr.ph v))) ∨
  (Region.wanted o (yielded ops a.tmps) = false ∧ wpF P md ops C R Φ p I Q l (a.put o.dst undef) F)

/-- One operation, taken ahead of those before it that it does not wait for. -/
theorem wpF_take {Φ : Nat → Option Fr} {Q : Act → World → Prop} (hsel : ∀ (j : Nat) (o : Oper) cs b, ops[j]? = some o → o.op ≠ .select cs b) {i : Nat} {o : Oper} (hi : ops[i]? = some o) (l2 : List (Nat × Oper)) :
    ∀ (l1 : List (Nat × Oper)) (a : Act) (F : Nat → World → Prop), (∀ x ∈ l1, ops[x.1]? = some x.2 ∧ x.2.apart ops o = true ∧ x.1 < i ∧ dep md ops i x.1 = false) →
      wpF P md ops C R Φ p I Q (l1 ++ (i, o) :: l2) a F → ∀ w, C w → (i = p → I w) → (∀ k, dep md ops i k = true → F k w) → Took P md ops C R Φ p I Q i o (l1 ++ l2) a F w := by
  intro l1
  induction l1 with
  | nil =>
    intro a F _ h w hC hI hF
    simp only [List.nil_append] at h ⊢
    unfold wpF at h
    by_cases hw : Region.wanted o (yielded ops a.tmps) = true
    · rw [if_pos hw] at h
      cases hΦ : Φ i with
      | none =>
        rw [hΦ] at h
        obtain ⟨hn, v, hq, hK⟩ := h
        exact .inl ⟨hw, hΦ, v, hn, hq w hC, hK⟩
      | some fr =>
        rw [hΦ] at h
        obtain ⟨hcl, _, hK⟩ := h
        exact .inr (.inl ⟨hw, fr, hΦ, hcl w hC hI hF, hK⟩)
    · rw [if_neg hw] at h
      exact .inr (.inr ⟨by simpa using hw, h⟩)
  | cons pk l1 ih =>
    obtain ⟨k, ok⟩ := pk
    intro a F hl h w hC hI hF
    obtain ⟨hk, hap, hlt, hdep⟩ := hl (k, ok) (List.mem_cons_self ..)
    obtain ⟨h1, h2, h3⟩ := Oper.apart_spec hap
    have hsk := fun cs b => hsel k ok cs b hk
    have hso := fun cs b => hsel i o cs b hi
    have hl' := fun x hx => hl x (List.mem_cons_of_mem _ hx)
    have hwo : ∀ u, Region.wanted o (yielded ops (a.put ok.dst u).tmps) = Region.wanted o (yielded ops a.tmps) := fun u => wanted_put o a ok.dst u h1
    have hwk : ∀ u, Region.wanted ok (yielded ops (a.put o.dst u).tmps) = Region.wanted ok (yielded ops a.tmps) := fun u => wanted_put ok a o.dst u h3
    have heo : ∀ u, execOp (a.put ok.dst u).eval o = execOp a.eval o := fun u => execOp_put o hso a ok.dst u h1
    have hek : ∀ u, execOp (a.put o.dst u).eval ok = execOp a.eval ok := fun u => execOp_put ok hsk a o.dst u h3
    have hpc : ∀ v u, (a.put ok.dst v).put o.dst u = (a.put o.dst u).put ok.dst v := fun v u => Act.put_comm a v u h2
    have hqo : ∀ {u v}, o.quietAt P (a.put ok.dst u) C w v → o.quietAt P a C w v := fun {u v} hq => by
      unfold Oper.quietAt at hq ⊢; rw [heo u] at hq; exact hq
    simp only [List.cons_append] at h ⊢
    unfold wpF at h
    by_cases hw : Region.wanted ok (yielded ops a.tmps) = true
    · rw [if_pos hw] at h
      cases hΦ : Φ k with
      | none =>
        rw [hΦ] at h
        obtain ⟨hn, vk, hq, hK⟩ := h
        have hT := ih (a.put ok.dst vk) F hl' hK w hC hI hF
        have hB : ∀ u F', wpF P md ops C R Φ p I Q (l1 ++ l2) ((a.put ok.dst vk).put o.dst u) F' → wpF P md ops C R Φ p I Q ((k, ok) :: (l1 ++ l2)) (a.put o.dst u) F' := by
          intro u F' hh
          unfold wpF
          rw [hwk u, if_pos hw, hΦ]
          refine ⟨hn, vk, fun w' hc => ?_, by rw [← hpc]; exact hh⟩
          have := hq w' hc
          unfold Oper.quietAt at this ⊢
          rw [hek u]; exact this
        rcases hT with ⟨hwo', hn', v, ho, hqv, hr⟩ | ⟨hwo', fr, hfr, hcl, hr⟩ | ⟨hwo', hr⟩
        · exact .inl ⟨by rw [← hwo vk]; exact hwo', hn', v, ho, hqo hqv, hB v F hr⟩
        · exact .inr (.inl ⟨by rw [← hwo vk]; exact hwo', fr, hfr, by rw [← heo vk]; exact hcl, fun v hv => hB v _ (hr v hv)⟩)
        · exact .inr (.inr ⟨by rw [← hwo vk]; exact hwo', hB undef F hr⟩)
      | some fk =>
        rw [hΦ] at h
        obtain ⟨hcl, ⟨v0, hv0⟩, hK⟩ := h
        have hT : ∀ vk, fk.sh vk → Took P md ops C R Φ p I Q i o (l1 ++ l2) (a.put ok.dst vk) (upd F k (fk.ph vk)) w := fun vk hvk =>
          ih (a.put ok.dst vk) (upd F k (fk.ph vk)) hl' (hK vk hvk) w hC hI (fun k' hd => by
            have hne : k' ≠ k := by rintro rfl; rw [hdep] at hd; cases hd
            unfold upd; rw [if_neg hne]; exact hF k' hd)
        have hB : ∀ u F', (∀ k', dep md ops k k' = true → ∀ w', F' k' w' → F k' w') → (∀ vk, fk.sh vk → wpF P md ops C R Φ p I Q (l1 ++ l2) ((a.put ok.dst vk).put o.dst u) (upd F' k (fk.ph vk))) → wpF P md ops C R Φ p I Q ((k, ok) :: (l1 ++ l2)) (a.put o.dst u) F' := by
          intro u F' hFF hh
          unfold wpF
          rw [hwk u, if_pos hw, hΦ]
          refine ⟨fun w' hc hi' hf => ?_, ⟨v0, hv0⟩, fun vk hvk => by rw [← hpc]; exact hh vk hvk⟩
          rw [hek u]; exact hcl w' hc hi' (fun k' hd => hFF k' hd w' (hf k' hd))
        rcases hT v0 hv0 with ⟨hwo', hn', v, ho, hqv, hr⟩ | ⟨hwo', fr, hfr, hcl', hr⟩ | ⟨hwo', hr⟩
        · refine .inl ⟨by rw [← hwo v0]; exact hwo', hn', v, ho, hqo hqv, hB v F (fun _ _ _ h => h) (fun vk hvk => ?_)⟩
          rcases hT vk hvk with ⟨_, _, v', _, hqv', hr'⟩ | ⟨_, fr, hfr, _⟩ | ⟨hwf, _⟩
          · rw [quietAt_one ho (hqo hqv) (hqo hqv')]; exact hr'
          · rw [hn'] at hfr; cases hfr
          · rw [hwo] at hwf hwo'; rw [hwf] at hwo'; cases hwo'
        · refine .inr (.inl ⟨by rw [← hwo v0]; exact hwo', fr, hfr, by rw [← heo v0]; exact hcl', fun v hv => hB v _ (fun k' hd w' hf => ?_) (fun vk hvk => ?_)⟩)
          · have := dep_lt hd
            unfold upd at hf; rwa [if_neg (by omega)] at hf
          · rcases hT vk hvk with ⟨_, hn', _⟩ | ⟨_, fr', hfr', _, hr'⟩ | ⟨hwf, _⟩
            · rw [hn'] at hfr; cases hfr
            · rw [hfr] at hfr'; cases hfr'
              rw [upd_comm (by omega : i ≠ k)]; exact hr' v hv
            · rw [hwo] at hwf hwo'; rw [hwf] at hwo'; cases hwo'
        · refine .inr (.inr ⟨by rw [← hwo v0]; exact hwo', hB undef F (fun _ _ _ h => h) (fun vk hvk => ?_)⟩)
          rcases hT vk hvk with ⟨hwf, _⟩ | ⟨hwf, _⟩ | ⟨_, hr'⟩
          · rw [hwo] at hwf hwo'; rw [hwf] at hwo'; cases hwo'
          · rw [hwo] at hwf hwo'; rw [hwf] at hwo'; cases hwo'
          · exact hr'
    · rw [if_neg hw] at h
      have hT := ih (a.put ok.dst undef) F hl' h w hC hI hF
      have hB : ∀ u F', wpF P md ops C R Φ p I Q (l1 ++ l2) ((a.put ok.dst undef).put o.dst u) F' → wpF P md ops C R Φ p I Q ((k, ok) :: (l1 ++ l2)) (a.put o.dst u) F' := by
        intro u F' hh
        unfold wpF
        rw [hwk u, if_neg hw, ← hpc]; exact hh
      rcases hT with ⟨hwo', hn', v, ho, hqv, hr⟩ | ⟨hwo', fr, hfr, hcl, hr⟩ | ⟨hwo', hr⟩
      · exact .inl ⟨by rw [← hwo undef]; exact hwo', hn', v, ho, hqo hqv, hB v F hr⟩
      · exact .inr (.inl ⟨by rw [← hwo undef]; exact hwo', fr, hfr, by rw [← heo undef]; exact hcl, fun v hv => hB v _ (hr v hv)⟩)
      · exact .inr (.inr ⟨by rw [← hwo undef]; exact hwo', hB undef F hr⟩)

theorem wp_of_fresh {S : Value → World → Prop} {o : Oper} {a : Act} {w : World} {K : Act → World → Prop} {Q : Exit → Act → World → Prop} (h : freshUpon P S ((execOp a.eval o).run P w)) (hK : ∀ v w', S v w' → K (a.put o.dst v) w') : o.wp P a w K Q := by
  unfold Oper.wp
  generalize (execOp a.eval o).run P w = r at *
  cases r with
  | ok n w' =>
    cases n <;> simp only [freshUpon] at h <;> simp only [Oper.upon]
    case value u => exact hK _ _ h
    case skip => exact hK _ _ h
    case enter f args => exact h.mono fun e w'' ⟨v, he, hs⟩ => by subst he; exact hK _ _ hs
  | halt x w' => simp only [freshUpon] at h
theorem wp_of_quietAt {o : Oper} {a : Act} {w : World} {v : Value} {K : Act → World → Prop} {Q : Exit → Act → World → Prop} (hn : noEnter o = true) (h : o.quietAt P a C w v) (hK : K (a.put o.dst v) w) : o.wp P a w K Q := by
  have hne := no_enter_run (P := P) hn a.eval w
  unfold Oper.quietAt at h
  unfold Oper.wp
  generalize (execOp a.eval o).run P w = r at *
  cases r with
  | ok n w' =>
    cases n <;> simp only [Oper.quietUpon] at h <;> simp only [Oper.upon]
    case value u => obtain ⟨rfl, rfl⟩ := h; exact hK
    case skip => obtain ⟨rfl, rfl⟩ := h; exact hK
    case enter f args => exact absurd rfl (hne f args w')
  | halt x w' => simp only [Oper.quietUpon] at h
theorem getD_unset {listed : Array Bool} {i j : Nat} (h : (listed.setIfInBounds i true).getD j true = false) : listed.getD j true = false := by
  by_cases hj : i = j
  · subst hj
    rcases Nat.lt_or_ge i listed.size with h' | h'
    · simp [h'] at h
    · simp at h
  · rwa [getD_set_ne true hj] at h
theorem not_both {listed : Array Bool} {i : Nat} (h1 : listed.getD i true = false) (h2 : listed.getD i false = true) : False := by
  rcases Nat.lt_or_ge i listed.size with h' | h'
  · simp [h'] at h1 h2; rw [h1] at h2; cases h2
  · simp [Array.getElem?_eq_none h'] at h2
theorem wpAny_of_wpF {Φ : Nat → Option Fr} {Q : Act → World → Prop} {Q' : Exit → Act → World → Prop} (hsel : ∀ (j : Nat) (o : Oper) cs b, ops[j]? = some o → o.op ≠ .select cs b) (hap : apartB md ops = true) (hdn : downB ops = true)
    (hst : ∀ i k fr, Φ k = some fr → i ≠ k → dep md ops k i = false → ∀ v w w', R i w w' → fr.ph v w → fr.ph v w') (hsI : ∀ i w w', i ≠ p → R i w w' → I w → I w') (hQ : ∀ a w, Q a w → Q' .normal a w) :
    ∀ (fuel : Nat) (listed : Array Bool) (l : List (Nat × Oper)) (a : Act) (F : Nat → World → Prop) (w : World), listed.size = ops.size → Closed md ops listed → l.Pairwise (fun p q => p.1 < q.1) →
      (∀ j o, (j, o) ∈ l ↔ ops[j]? = some o ∧ listed.getD j true = false) → C w → (listed.getD p true = false → I w) → (∀ k, F k w) → (∀ k, (∀ w, F k w) ∨ (listed.getD k false = true ∧ ∃ fr v, Φ k = some fr ∧ F k = fr.ph v)) → l.length ≤ fuel → wpF P md ops C R Φ p I Q l a F → wpAny P md ops Q' fuel listed a w := by
  intro fuel
  have hempty : ∀ (listed : Array Bool) (l : List (Nat × Oper)), l.Pairwise (fun p q => p.1 < q.1) → (∀ j o, (j, o) ∈ l ↔ ops[j]? = some o ∧ listed.getD j true = false) → listed.size = ops.size → Region.ready md ops listed = [] → l = [] := by
    intro listed l hp hm hs hr
    cases l with
    | nil => rfl
    | cons p l =>
      obtain ⟨j, o⟩ := p
      obtain ⟨ho, hu⟩ := (hm j o).1 (List.mem_cons_self ..)
      have hj : j < ops.size := (Array.getElem?_eq_some_iff.1 ho).1
      have : j ∈ Region.ready md ops listed := mem_ready.2 ⟨hu, o, ho, fun e he _ => by
        have hlt := down_at hdn ho e he
        cases hl : listed.getD e.on false with
        | true => rfl
        | false =>
          exfalso
          have h1 : listed.getD e.on true = false := by
            have h3 : e.on < listed.size := by omega
            simp [h3] at hl ⊢; exact hl
          have h2 := (hm e.on ops[e.on]).2 ⟨by simp [show e.on < ops.size by omega], h1⟩
          rcases List.mem_cons.1 h2 with h2 | h2
          · cases h2; omega
          · have := (List.pairwise_cons.1 hp).1 _ h2
            simp only at this; omega⟩
      rw [hr] at this; cases this
  induction fuel with
  | zero =>
    intro listed l a F w hs hc hp hm hC hI hF hR hlen h
    obtain rfl : l = [] := List.eq_nil_of_length_eq_zero (by omega)
    refine ⟨?_, hQ _ _ (h w hC hF)⟩
    rw [List.eq_nil_iff_forall_not_mem]
    intro i hi
    obtain ⟨hu, o, ho, _⟩ := mem_ready.1 hi
    have := (hm i o).2 ⟨ho, hu⟩
    cases this
  | succ fuel ih =>
    intro listed l a F w hs hc hp hm hC hI hF hR hlen h
    refine ⟨fun hr => ?_, fun i hir => ?_⟩
    · obtain rfl := hempty listed l hp hm hs hr
      exact hQ _ _ (h w hC hF)
    · obtain ⟨hu, o, ho, haft⟩ := mem_ready.1 hir
      obtain ⟨l1, l2, rfl⟩ := List.append_of_mem ((hm i o).2 ⟨ho, hu⟩)
      have hi : i < ops.size := (Array.getElem?_eq_some_iff.1 ho).1
      have hl1 : ∀ p ∈ l1, p.1 < i := fun p hpm => (List.pairwise_append.1 hp).2.2 p hpm (i, o) (List.mem_cons_self ..)
      have hl2 : ∀ p ∈ l2, i < p.1 := fun p hpm => (List.pairwise_cons.1 (List.pairwise_append.1 hp).2.1).1 p hpm
      have hT := wpF_take hsel ho l2 l1 a F (fun p hpm => by
        obtain ⟨h1, h2⟩ := (hm p.1 p.2).1 (List.mem_append_left _ hpm)
        refine ⟨h1, apart_at hap (hl1 p hpm) h1 ho (fun e he hb heq => ?_), hl1 p hpm, ?_⟩
        · have := haft e he hb
          rw [heq] at this
          exact not_both h2 this
        · cases hd : dep md ops i p.1 with
          | false => rfl
          | true =>
            exfalso
            unfold dep at hd
            rw [Bool.and_eq_true] at hd
            have hk : p.1 ∈ reach md ops ops.size i := by simpa using hd.2
            exact not_both h2 (reach_listed hc _ i (fun o' ho' e he hb => by rw [ho] at ho'; cases ho'; exact haft e he hb) _ hk)) h w hC (fun e => hI (by rw [← e]; exact hu)) (fun k _ => hF k)
      have hs' : (listed.setIfInBounds i true).size = ops.size := by simp [hs]
      have hc' : Closed md ops (listed.setIfInBounds i true) := by
        intro j oj hj hlj e he hb
        by_cases hji : i = j
        · subst hji
          rw [ho] at hj; cases hj
          exact getD_set_true (haft e he hb)
        · rw [getD_set_ne false hji] at hlj
          exact getD_set_true (hc j oj hj hlj e he hb)
      have hp' : (l1 ++ l2).Pairwise (fun p q => p.1 < q.1) := by
        have h1 := List.pairwise_append.1 hp
        exact List.pairwise_append.2 ⟨h1.1, (List.pairwise_cons.1 h1.2.1).2, fun x hx y hy => h1.2.2 x hx y (List.mem_cons_of_mem _ hy)⟩
      have hm' : ∀ j o', (j, o') ∈ l1 ++ l2 ↔ ops[j]? = some o' ∧ (listed.setIfInBounds i true).getD j true = false := by
        intro j o'
        constructor
        · intro hj
          have hne : i ≠ j := by
            rcases List.mem_append.1 hj with hj | hj
            · have := hl1 _ hj; simp only at this; omega
            · have := hl2 _ hj; simp only at this; omega
          rw [getD_set_ne true hne]
          refine (hm j o').1 ?_
          rcases List.mem_append.1 hj with hj | hj
          · exact List.mem_append_left _ hj
          · exact List.mem_append_right _ (List.mem_cons_of_mem _ hj)
        · rintro ⟨h1, h2⟩
          have hne : i ≠ j := by
            rintro rfl
            simp [hs, hi] at h2
          rw [getD_set_ne true hne] at h2
          have := (hm j o').2 ⟨h1, h2⟩
          rcases List.mem_append.1 this with h3 | h3
          · exact List.mem_append_left _ h3
          · rcases List.mem_cons.1 h3 with h3 | h3
            · cases h3; exact absurd rfl hne
            · exact List.mem_append_right _ h3
      have hlen' : (l1 ++ l2).length ≤ fuel := by simp at hlen ⊢; omega
      unfold wpOp
      rw [ho]
      rcases hT with ⟨hw, hn, v, hno, hq, hr⟩ | ⟨hw, fr, hfr, hcl, hr⟩ | ⟨hw, hr⟩
      · simp only [hw, if_true]
        exact .inl (wp_of_quietAt hno hq (ih _ _ _ F w hs' hc' hp' hm' hC (fun hpu => hI (getD_unset hpu)) hF (fun k => (hR k).imp id fun ⟨hkl, h⟩ => ⟨getD_set_true hkl, h⟩) hlen' hr))
      · simp only [hw, if_true]
        refine .inl (wp_of_fresh hcl (fun v w' hv => ?_))
        obtain ⟨h1, h2, h3, h4⟩ := hv
        refine ih _ _ _ (upd F i (fr.ph v)) w' hs' hc' hp' hm' h4 (fun hpu => ?_) (fun k => ?_) (fun k => ?_) hlen' (hr v h1)
        · have hip : i ≠ p := by
            rintro rfl
            simp [hs, hi] at hpu
          exact hsI i w w' hip h3 (hI (getD_unset hpu))
        · unfold upd; split
          · exact h2
          · rename_i hki
            rcases hR k with hk | ⟨hkl, fk, vk, hfk, hFk⟩
            · exact hk w'
            · have hd : dep md ops k i = false := by
                cases hd : dep md ops k i with
                | false => rfl
                | true =>
                  exfalso
                  unfold dep at hd
                  rw [Bool.and_eq_true] at hd
                  have hk : i ∈ reach md ops ops.size k := by simpa using hd.2
                  exact not_both hu (reach_listed hc _ k (fun o' ho' e he hb => hc k o' ho' hkl e he hb) _ hk)
              rw [hFk]
              exact hst i k fk hfk (fun e => hki e.symm) hd vk w w' h3 (by rw [← hFk]; exact hF k)
        · unfold upd
          by_cases hki : k = i
          · subst hki
            exact .inr ⟨by simp [hs, hi], fr, v, hfr, by funext w1; simp⟩
          · simp only [hki, if_false]
            rcases hR k with hk | ⟨hkl, fk, vk, hfk, hFk⟩
            · exact .inl hk
            · exact .inr ⟨getD_set_true hkl, fk, vk, hfk, hFk⟩
      · simp only [hw]
        exact ih _ _ _ F w hs' hc' hp' hm' hC (fun hpu => hI (getD_unset hpu)) hF (fun k => (hR k).imp id fun ⟨hkl, h⟩ => ⟨getD_set_true hkl, h⟩) hlen' hr
/-- the operations with their numbers. -/
def numbered (n : Nat) : List Oper → List (Nat × Oper)
  | [] => []
  | o :: l => (n, o) :: numbered (n + 1) l
theorem mem_numbered {l : List Oper} : ∀ {n j : Nat} {o : Oper}, (j, o) ∈ numbered n l ↔ n ≤ j ∧ l[j - n]? = some o := by
  induction l with
  | nil => intro n j o; simp [numbered]
  | cons x l ih =>
    intro n j o
    unfold numbered
    rw [List.mem_cons, ih]
    by_cases h : j = n
    · subst h
      rw [Nat.sub_self, List.getElem?_cons_zero]
      constructor
      · rintro (h | ⟨h, _⟩)
        · cases h; exact ⟨Nat.le_refl _, rfl⟩
        · omega
      · rintro ⟨_, h⟩; cases h; exact .inl rfl
    · constructor
      · rintro (h1 | ⟨h1, h2⟩)
        · cases h1; exact absurd rfl h
        · refine ⟨by omega, ?_⟩
          rw [show j - n = (j - (n + 1)) + 1 by omega, List.getElem?_cons_succ]; exact h2
      · rintro ⟨h1, h2⟩
        right
        rw [show j - n = (j - (n + 1)) + 1 by omega, List.getElem?_cons_succ] at h2
        exact ⟨by omega, h2⟩
theorem numbered_pairwise (l : List Oper) : ∀ n, (numbered n l).Pairwise (fun p q => p.1 < q.1) := by
  induction l with
  | nil => intro n; exact List.Pairwise.nil
  | cons x l ih =>
    intro n
    unfold numbered
    refine List.pairwise_cons.2 ⟨fun p hp => ?_, ih (n + 1)⟩
    obtain ⟨j, o⟩ := p
    have := (mem_numbered.1 hp).1
    simp only; omega
theorem numbered_length (l : List Oper) : ∀ n, (numbered n l).length = l.length := by
  induction l with
  | nil => intro n; rfl
  | cons x l ih => intro n; simp [numbered, ih]

/-- ONE WALK OF THE TEXT'S ORDER SERVES EVERY ORDER. C: what holds of the world throughout; R: how an operation may turn it; Φ: what the operations leave of which not all is known. -/
theorem wp_region_fresh {id : Nat} {Q : Exit → Act → World → Prop} {a : Act} {w : World} {l : List Oper} (C : World → Prop) (R : Nat → World → World → Prop) (Φ : Nat → Option Fr) (p : Nat) (I : World → Prop) (hm : P.follows .mixedOrders = true) (hsel : Region.noSelect l.toArray = true) (hap : apartB .any l.toArray = true) (hdn : downB l.toArray = true)
    (hst : ∀ i k fr, Φ k = some fr → i ≠ k → dep .any l.toArray k i = false → ∀ v w w', R i w w' → fr.ph v w → fr.ph v w') (hsI : ∀ i w w', i ≠ p → R i w w' → I w → I w') (hC : C w.drew) (hI : I w.drew)
    (h : wpF P .any l.toArray C R Φ p I (fun a' w' => Q .normal a' w') (numbered 0 l) a (fun _ _ => True)) : (Code.region id l.toArray true).wp P Q a w := by
  refine wp_region_any hm (wpAny_of_wpF (C := C) (R := R) (Φ := Φ) (p := p) (I := I) (Q := fun a' w' => Q .normal a' w') (Region.noSelect_spec hsel) hap hdn hst hsI (fun _ _ h => h) _ _ (numbered 0 l) a (fun _ _ => True) _ (by simp) ?_ (numbered_pairwise l 0) ?_ hC (fun _ => hI) (fun _ => trivial) (fun _ => .inl fun _ => trivial) (by rw [numbered_length]; simp) h)
  · intro j oj _ hl
    rw [getD_replicate_false] at hl; cases hl
  · intro j o
    rw [mem_numbered, Nat.sub_zero]
    have h1 : l.toArray[j]? = l[j]? := by simp
    rw [h1]
    constructor
    · rintro ⟨_, h⟩
      refine ⟨h, ?_⟩
      have := (List.getElem?_eq_some_iff.1 h).1
      simp [this]
    · rintro ⟨h, _⟩
      exact ⟨Nat.zero_le _, h⟩

section
variable {Φ : Nat → Option Fr} {Q : Act → World → Prop} {i : Nat} {o : Oper} {l : List Oper} {a : Act} {F : Nat → World → Prop}
theorem step_plain (hw : Region.wanted o (yielded ops a.tmps) = true) (hΦ : Φ i = none) (hn : noEnter o = true)
    (h : ∀ K : Act → Prop, (∀ a', wpF P md ops C R Φ p I Q (numbered (i + 1) l) a' F → K a') → o.quiet P a C K) : wpF P md ops C R Φ p I Q (numbered i (o :: l)) a F := by
  unfold numbered wpF
  rw [if_pos hw, hΦ]
  exact ⟨hn, h _ fun _ h => h⟩
theorem step_skip (hw : Region.wanted o (yielded ops a.tmps) = false) (h : wpF P md ops C R Φ p I Q (numbered (i + 1) l) (a.put o.dst undef) F) : wpF P md ops C R Φ p I Q (numbered i (o :: l)) a F := by
  unfold numbered wpF
  rw [if_neg (by rw [hw]; simp)]; exact h
theorem step_fresh (fr : Fr) (hw : Region.wanted o (yielded ops a.tmps) = true) (hΦ : Φ i = some fr)
    (hcl : ∀ w, C w → (∀ k, dep md ops i k = true → F k w) → freshUpon P (After C (R i) fr w) ((execOp a.eval o).run P w)) (hex : ∃ v, fr.sh v)
    (h : ∀ v, fr.sh v → wpF P md ops C R Φ p I Q (numbered (i + 1) l) (a.put o.dst v) (upd F i (fr.ph v))) : wpF P md ops C R Φ p I Q (numbered i (o :: l)) a F := by
  unfold numbered wpF
  rw [if_pos hw, hΦ]
  exact ⟨fun w hC _ => hcl w hC, hex, h⟩
theorem step_once (fr : Fr) (hip : i = p) (hw : Region.wanted o (yielded ops a.tmps) = true) (hΦ : Φ i = some fr)
    (hcl : ∀ w, C w → I w → (∀ k, dep md ops i k = true → F k w) → freshUpon P (After C (R i) fr w) ((execOp a.eval o).run P w)) (hex : ∃ v, fr.sh v)
    (h : ∀ v, fr.sh v → wpF P md ops C R Φ p I Q (numbered (i + 1) l) (a.put o.dst v) (upd F i (fr.ph v))) : wpF P md ops C R Φ p I Q (numbered i (o :: l)) a F := by
  unfold numbered wpF
  rw [if_pos hw, hΦ]
  exact ⟨fun w hC hI => hcl w hC (hI hip), hex, h⟩
theorem step_end (h : ∀ w, C w → (∀ k, F k w) → Q a w) : wpF P md ops C R Φ p I Q (numbered i []) a F := h
end
/-- what is known behind a call whose world is one of the class. -/
def Cls (w : World) (w' : World) : Prop := ∃ p : Regrown, w' = Sort.grow (redrawn w p.d) p.os
theorem cls_of {w w' : World} (h : Below w.heap.size w w') : Cls w w' := regrown_of_below h
theorem below_of {w w' : World} (h : Cls w w') : Below w.heap.size w w' := by obtain ⟨p, rfl⟩ := h; exact below_regrown _ _ _
theorem enter_of {S : Value → World → Prop} {f : FuncId} {args : Array Value} {w : World} (h : Calls P f args w (fun e w'' => ∃ v, e = .returned v ∧ S v w'')) : freshUpon P S (.ok (.enter f args) w) := h
theorem value_of {S : Value → World → Prop} {v : Value} {w : World} (h : S v w) : freshUpon P S (.ok (.value v) w) := h
theorem fact_of {F : Nat → World → Prop} {i : Nat} {p : World → Prop} {w : World} (h : upd F i p i w) : p w := by unfold upd at h; rwa [if_pos rfl] at h
theorem fact_on {F : Nat → World → Prop} {i k : Nat} {p : World → Prop} {w : World} (h : upd F i p k w) (hne : k ≠ i) : F k w := by unfold upd at h; rwa [if_neg hne] at h
/-- a call that answers a Bool. -/
def frB (b : Bool) : Fr := ⟨fun v => v = .bool b, fun _ _ => True⟩
theorem frB_stable {b : Bool} {R : World → World → Prop} : ∀ v w w', R w w' → (frB b).ph v w → (frB b).ph v w' := fun _ _ _ _ h => h
/-- a call whose answer is known. -/
def frV (x : Value) : Fr := ⟨fun v => v = x, fun _ _ => True⟩
theorem frV_stable {x : Value} {R : World → World → Prop} : ∀ v w w', R w w' → (frV x).ph v w → (frV x).ph v w' := fun _ _ _ _ h => h
theorem frV_of {x : Value} {C : World → Prop} {R : World → World → Prop} {w w' : World} (hR : R w w') (hC : C w') : After C R (frV x) w x w' := ⟨rfl, trivial, hR, hC⟩
theorem call_frV {x : Value} {f : FuncId} {args : Array Value} {w0 w : World} (hC : ∃ p : Regrown, w = Sort.grow (redrawn w0 p.d) p.os) (h : Calls P f args w fun e w' => e = .returned x ∧ Below w.heap.size w w') :
    freshUpon P (After (fun w' => ∃ p : Regrown, w' = Sort.grow (redrawn w0 p.d) p.os) (fun w' w'' => Below w'.heap.size w' w'') (frV x) w) (.ok (.enter f args) w) :=
  h.mono fun _ _ ⟨he, hb⟩ => ⟨x, he, frV_of hb (cls_of ((below_of hC).trans (hb.mono (below_of hC).size)))⟩

/-- the last operation waits for all others. -/
def lastB (md : Region.Mode) (ops : Array Oper) (n : Nat) : Bool := (List.range n).all fun i => (reach md ops ops.size n).contains i
theorem wpAny_tail {Φ : Nat → Option Fr} {Q : Act → World → Prop} {Q' : Exit → Act → World → Prop} {n : Nat} {ol : Oper} (hn : ops.size = n + 1) (hol : ops[n]? = some ol) (hlast : lastB md ops n = true) (hgl : ol.guard = none) (hsel : ∀ (j : Nat) (o : Oper) cs b, ops[j]? = some o → o.op ≠ .select cs b) (hap : apartB md ops = true) (hdn : downB ops = true)
    (hst : ∀ i k fr, Φ k = some fr → i ≠ k → dep md ops k i = false → ∀ v w w', R i w w' → fr.ph v w → fr.ph v w') (hsI : ∀ i w w', i ≠ p → R i w w' → I w → I w') (hQ : ∀ a w, Q a w → ol.wp P a w (fun a' w' => Q' .normal a' w') Q') :
    ∀ (fuel : Nat) (listed : Array Bool) (l : List (Nat × Oper)) (a : Act) (F : Nat → World → Prop) (w : World), listed.size = ops.size → listed.getD n true = false → Closed md ops listed → l.Pairwise (fun p q => p.1 < q.1) →
      (∀ j o, (j, o) ∈ l ↔ j < n ∧ ops[j]? = some o ∧ listed.getD j true = false) → C w → (listed.getD p true = false → I w) → (∀ k, F k w) → (∀ k, (∀ w, F k w) ∨ (listed.getD k false = true ∧ ∃ fr v, Φ k = some fr ∧ F k = fr.ph v)) → l.length + 1 ≤ fuel → wpF P md ops C R Φ p I Q l a F → wpAny P md ops Q' fuel listed a w := by
  intro fuel
  have hreadyhead : ∀ (listed : Array Bool) (x : Nat × Oper) (l : List (Nat × Oper)), (x :: l).Pairwise (fun p q => p.1 < q.1) → (∀ j o, (j, o) ∈ x :: l ↔ j < n ∧ ops[j]? = some o ∧ listed.getD j true = false) → listed.size = ops.size → x.1 ∈ Region.ready md ops listed := by
    intro listed x l hp hm hs
    obtain ⟨j, o⟩ := x
    obtain ⟨hjn, ho, hu⟩ := (hm j o).1 (List.mem_cons_self ..)
    exact mem_ready.2 ⟨hu, o, ho, fun e he _ => by
      have hlt := down_at hdn ho e he
      cases hl : listed.getD e.on false with
      | true => rfl
      | false =>
        exfalso
        have h1 : listed.getD e.on true = false := by
          have h3 : e.on < listed.size := by omega
          simp [h3] at hl ⊢; exact hl
        have h2 := (hm e.on ops[e.on]).2 ⟨by omega, by simp [show e.on < ops.size by omega], h1⟩
        rcases List.mem_cons.1 h2 with h2 | h2
        · cases h2; omega
        · have := (List.pairwise_cons.1 hp).1 _ h2
          simp only at this; omega⟩
  have hlastready : ∀ (listed : Array Bool), Closed md ops listed → n ∈ Region.ready md ops listed → ∀ j, j < n → listed.getD j false = true := by
    intro listed hc hr j hj
    obtain ⟨_, o, ho, haft⟩ := mem_ready.1 hr
    have h1 := List.all_eq_true.1 hlast j (List.mem_range.2 hj)
    exact reach_listed hc _ n (fun o' ho' e he hb => by rw [ho] at ho'; cases ho'; exact haft e he hb) j (by simpa using h1)
  induction fuel with
  | zero => intro listed l a F w _ _ _ _ _ _ _ _ hlen; omega
  | succ fuel ih =>
    intro listed l a F w hs hu0 hc hp hm hC hI hF hR hlen h
    refine ⟨fun hr => ?_, fun i hir => ?_⟩
    · exfalso
      cases l with
      | cons p l =>
        have := hreadyhead listed p l hp hm hs
        rw [hr] at this; cases this
      | nil =>
        have : n ∈ Region.ready md ops listed := mem_ready.2 ⟨hu0, ol, hol, fun e he _ => by
          have hlt := down_at hdn hol e he
          cases hl : listed.getD e.on false with
          | true => rfl
          | false =>
            exfalso
            have h1 : listed.getD e.on true = false := by
              have h3 : e.on < listed.size := by omega
              simp [h3] at hl ⊢; exact hl
            have h2 := (hm e.on ops[e.on]).2 ⟨hlt, by simp [show e.on < ops.size by omega], h1⟩
            cases h2⟩
        rw [hr] at this; cases this
    · obtain ⟨hu, o, ho, haft⟩ := mem_ready.1 hir
      have hi : i < ops.size := (Array.getElem?_eq_some_iff.1 ho).1
      by_cases hin : i = n
      · subst hin
        rw [hol] at ho; cases ho
        have hall := hlastready listed hc hir
        obtain rfl : l = [] := by
          cases l with
          | nil => rfl
          | cons p l =>
            obtain ⟨j, oj⟩ := p
            obtain ⟨h1, _, h3⟩ := (hm j oj).1 (List.mem_cons_self ..)
            exact absurd (hall j h1) (fun h => not_both h3 h)
        unfold wpOp
        rw [hol]
        simp only [Region.wanted, hgl, if_true]
        refine .inl (Oper.wp_mono (fun a' w' hq => ?_) (hQ _ _ (h w hC hF)))
        have hno : Region.ready md ops (listed.setIfInBounds i true) = [] := by
          rw [List.eq_nil_iff_forall_not_mem]
          intro j hj
          obtain ⟨hju, oj, hoj, _⟩ := mem_ready.1 hj
          have hjs : j < ops.size := (Array.getElem?_eq_some_iff.1 hoj).1
          by_cases hji : i = j
          · subst hji; simp [hs, hi] at hju
          · rw [getD_set_ne true hji] at hju
            exact not_both hju (hall j (by omega))
        cases fuel with
        | zero => exact ⟨hno, hq⟩
        | succ f => exact ⟨fun _ => hq, fun j hj => by rw [hno] at hj; cases hj⟩
      · have hin' : i < n := by omega
        obtain ⟨l1, l2, rfl⟩ := List.append_of_mem ((hm i o).2 ⟨hin', ho, hu⟩)
        have hl1 : ∀ p ∈ l1, p.1 < i := fun p hpm => (List.pairwise_append.1 hp).2.2 p hpm (i, o) (List.mem_cons_self ..)
        have hl2 : ∀ p ∈ l2, i < p.1 := fun p hpm => (List.pairwise_cons.1 (List.pairwise_append.1 hp).2.1).1 p hpm
        have hT := wpF_take hsel ho l2 l1 a F (fun p hpm => by
          obtain ⟨_, h1, h2⟩ := (hm p.1 p.2).1 (List.mem_append_left _ hpm)
          refine ⟨h1, apart_at hap (hl1 p hpm) h1 ho (fun e he hb heq => ?_), hl1 p hpm, ?_⟩
          · have := haft e he hb
            rw [heq] at this
            exact not_both h2 this
          · cases hd : dep md ops i p.1 with
            | false => rfl
            | true =>
              exfalso
              unfold dep at hd
              rw [Bool.and_eq_true] at hd
              have hk : p.1 ∈ reach md ops ops.size i := by simpa using hd.2
              exact not_both h2 (reach_listed hc _ i (fun o' ho' e he hb => by rw [ho] at ho'; cases ho'; exact haft e he hb) _ hk)) h w hC (fun e => hI (by rw [← e]; exact hu)) (fun k _ => hF k)
        have hs' : (listed.setIfInBounds i true).size = ops.size := by simp [hs]
        have hu0' : (listed.setIfInBounds i true).getD n true = false := by rw [getD_set_ne true hin]; exact hu0
        have hc' : Closed md ops (listed.setIfInBounds i true) := by
          intro j oj hj hlj e he hb
          by_cases hji : i = j
          · subst hji
            rw [ho] at hj; cases hj
            exact getD_set_true (haft e he hb)
          · rw [getD_set_ne false hji] at hlj
            exact getD_set_true (hc j oj hj hlj e he hb)
        have hp' : (l1 ++ l2).Pairwise (fun p q => p.1 < q.1) := by
          have h1 := List.pairwise_append.1 hp
          exact List.pairwise_append.2 ⟨h1.1, (List.pairwise_cons.1 h1.2.1).2, fun x hx y hy => h1.2.2 x hx y (List.mem_cons_of_mem _ hy)⟩
        have hm' : ∀ j o', (j, o') ∈ l1 ++ l2 ↔ j < n ∧ ops[j]? = some o' ∧ (listed.setIfInBounds i true).getD j true = false := by
          intro j o'
          constructor
          · intro hj
            have hne : i ≠ j := by
              rcases List.mem_append.1 hj with hj | hj
              · have := hl1 _ hj; simp only at this; omega
              · have := hl2 _ hj; simp only at this; omega
            rw [getD_set_ne true hne]
            refine (hm j o').1 ?_
            rcases List.mem_append.1 hj with hj | hj
            · exact List.mem_append_left _ hj
            · exact List.mem_append_right _ (List.mem_cons_of_mem _ hj)
          · rintro ⟨h0, h1, h2⟩
            have hne : i ≠ j := by
              rintro rfl
              simp [hs, hi] at h2
            rw [getD_set_ne true hne] at h2
            have := (hm j o').2 ⟨h0, h1, h2⟩
            rcases List.mem_append.1 this with h3 | h3
            · exact List.mem_append_left _ h3
            · rcases List.mem_cons.1 h3 with h3 | h3
              · cases h3; exact absurd rfl hne
              · exact List.mem_append_right _ h3
        have hlen' : (l1 ++ l2).length + 1 ≤ fuel := by simp at hlen ⊢; omega
        unfold wpOp
        rw [ho]
        rcases hT with ⟨hw, hn, v, hno, hq, hr⟩ | ⟨hw, fr, hfr, hcl, hr⟩ | ⟨hw, hr⟩
        · simp only [hw, if_true]
          exact .inl (wp_of_quietAt hno hq (ih _ _ _ F w hs' hu0' hc' hp' hm' hC (fun hpu => hI (getD_unset hpu)) hF (fun k => (hR k).imp id fun ⟨hkl, h⟩ => ⟨getD_set_true hkl, h⟩) hlen' hr))
        · simp only [hw, if_true]
          refine .inl (wp_of_fresh hcl (fun v w' hv => ?_))
          obtain ⟨h1, h2, h3, h4⟩ := hv
          refine ih _ _ _ (upd F i (fr.ph v)) w' hs' hu0' hc' hp' hm' h4 (fun hpu => ?_) (fun k => ?_) (fun k => ?_) hlen' (hr v h1)
          · have hip : i ≠ p := by
              rintro rfl
              simp [hs, hi] at hpu
            exact hsI i w w' hip h3 (hI (getD_unset hpu))
          · unfold upd; split
            · exact h2
            · rename_i hki
              rcases hR k with hk | ⟨hkl, fk, vk, hfk, hFk⟩
              · exact hk w'
              · have hd : dep md ops k i = false := by
                  cases hd : dep md ops k i with
                  | false => rfl
                  | true =>
                    exfalso
                    unfold dep at hd
                    rw [Bool.and_eq_true] at hd
                    have hk : i ∈ reach md ops ops.size k := by simpa using hd.2
                    exact not_both hu (reach_listed hc _ k (fun o' ho' e he hb => hc k o' ho' hkl e he hb) _ hk)
                rw [hFk]
                exact hst i k fk hfk (fun e => hki e.symm) hd vk w w' h3 (by rw [← hFk]; exact hF k)
          · unfold upd
            by_cases hki : k = i
            · subst hki
              exact .inr ⟨by simp [hs, hi], fr, v, hfr, by funext w1; simp⟩
            · simp only [hki, if_false]
              rcases hR k with hk | ⟨hkl, fk, vk, hfk, hFk⟩
              · exact .inl hk
              · exact .inr ⟨getD_set_true hkl, fk, vk, hfk, hFk⟩
        · simp only [hw]
          exact ih _ _ _ F w hs' hu0' hc' hp' hm' hC (fun hpu => hI (getD_unset hpu)) hF (fun k => (hR k).imp id fun ⟨hkl, h⟩ => ⟨getD_set_true hkl, h⟩) hlen' hr
/-- The same where the last operation, which waits for all others, may turn whatever it likes. -/
theorem wp_region_fresh_tail {id : Nat} {Q : Exit → Act → World → Prop} {a : Act} {w : World} {l : List Oper} {ol : Oper} (C : World → Prop) (R : Nat → World → World → Prop) (Φ : Nat → Option Fr) (p : Nat) (I : World → Prop) (hm : P.follows .mixedOrders = true) (hsel : Region.noSelect (l ++ [ol]).toArray = true) (hap : apartB .any (l ++ [ol]).toArray = true) (hdn : downB (l ++ [ol]).toArray = true)
    (hlast : lastB .any (l ++ [ol]).toArray l.length = true) (hgl : ol.guard = none)
    (hst : ∀ i k fr, Φ k = some fr → i ≠ k → dep .any (l ++ [ol]).toArray k i = false → ∀ v w w', R i w w' → fr.ph v w → fr.ph v w') (hsI : ∀ i w w', i ≠ p → R i w w' → I w → I w') (hC : C w.drew) (hI : I w.drew)
    (h : wpF P .any (l ++ [ol]).toArray C R Φ p I (fun a' w' => ol.wp P a' w' (fun a'' w'' => Q .normal a'' w'') Q) (numbered 0 l) a (fun _ _ => True)) : (Code.region id (l ++ [ol]).toArray true).wp P Q a w := by
  refine wp_region_any hm (wpAny_tail (C := C) (R := R) (Φ := Φ) (p := p) (I := I) (Q := fun a' w' => ol.wp P a' w' (fun a'' w'' => Q .normal a'' w'') Q) (n := l.length) (ol := ol) (by simp) (by simp) hlast hgl (Region.noSelect_spec hsel) hap hdn hst hsI (fun _ _ h => h) _ _ (numbered 0 l) a (fun _ _ => True) _ (by simp) (by simp) ?_ (numbered_pairwise l 0) ?_ hC (fun _ => hI) (fun _ => trivial) (fun _ => .inl fun _ => trivial) (by rw [numbered_length]; simp) h)
  · intro j oj _ hl
    rw [getD_replicate_false] at hl; cases hl
  · intro j o
    rw [mem_numbered, Nat.sub_zero]
    constructor
    · rintro ⟨_, h⟩
      have hj := (List.getElem?_eq_some_iff.1 h).1
      refine ⟨hj, ?_, ?_⟩
      · rw [List.getElem?_toArray, List.getElem?_append_left hj]; exact h
      · simp [show j < l.length + 1 by omega]
    · rintro ⟨hj, h, _⟩
      rw [List.getElem?_toArray, List.getElem?_append_left hj] at h
      exact ⟨Nat.zero_le _, h⟩
theorem wp_region_fresh_last {id : Nat} {Q : Exit → Act → World → Prop} {a : Act} {w : World} {L : List Oper} (C : World → Prop) (R : Nat → World → World → Prop) (Φ : Nat → Option Fr) (p : Nat) (I : World → Prop) (hne : L ≠ []) (hm : P.follows .mixedOrders = true) (hsel : Region.noSelect L.toArray = true) (hap : apartB .any L.toArray = true) (hdn : downB L.toArray = true)
    (hlast : lastB .any L.toArray (L.length - 1) = true) (hgl : (L.getLast hne).guard = none)
    (hst : ∀ i k fr, Φ k = some fr → i ≠ k → dep .any L.toArray k i = false → ∀ v w w', R i w w' → fr.ph v w → fr.ph v w') (hsI : ∀ i w w', i ≠ p → R i w w' → I w → I w') (hC : C w.drew) (hI : I w.drew)
    (h : wpF P .any L.toArray C R Φ p I (fun a' w' => (L.getLast hne).wp P a' w' (fun a'' w'' => Q .normal a'' w'') Q) (numbered 0 L.dropLast) a (fun _ _ => True)) : (Code.region id L.toArray true).wp P Q a w := by
  have e := List.dropLast_concat_getLast hne
  have hl : L.dropLast.length = L.length - 1 := List.length_dropLast
  have := wp_region_fresh_tail (P := P) (id := id) (Q := Q) (a := a) (w := w) (l := L.dropLast) (ol := L.getLast hne) C R Φ p I hm (by rw [e]; exact hsel) (by rw [e]; exact hap) (by rw [e]; exact hdn) (by rw [e, hl]; exact hlast) hgl (by rw [e]; exact hst) hsI hC hI (by rw [e]; exact h)
  rwa [e] at this
/-- a pointer to a block of its own, from B on. -/
def frP (B : Nat) (T : TypeId) (cs : Array Value) : Fr := ⟨fun v => ∃ b, v = .pointer (some ⟨b, 0, none⟩), fun v w => ∃ b, v = .pointer (some ⟨b, 0, none⟩) ∧ B ≤ b ∧ w.heap[b]? = some (.cells cs T)⟩
theorem frP_stable {B : Nat} {T : TypeId} {cs : Array Value} : ∀ v w w', Below w.heap.size w w' → (frP B T cs).ph v w → (frP B T cs).ph v w' := by
  rintro v w w' hb ⟨b, rfl, hB, h⟩
  exact ⟨b, rfl, hB, by rw [hb.block b (Array.getElem?_eq_some_iff.1 h).1]; exact h⟩
/-- a class of worlds, as simp likes it. -/
structure In (D : World → Prop) where
  w : World
  h : D w
def inC (D : World → Prop) : World → Prop := fun w => D w
theorem in_of {D : World → Prop} {w : World} (h : D w) : ∃ x : In D, w = x.w := ⟨⟨w, h⟩, rfl⟩
theorem of_in {D : World → Prop} {w : World} (h : ∃ x : In D, w = x.w) : D w := by obtain ⟨x, rfl⟩ := h; exact x.h
/-- The two region theorems without what holds till one operation alone. -/
theorem wp_fresh {id : Nat} {Q : Exit → Act → World → Prop} {a : Act} {w : World} {l : List Oper} (C : World → Prop) (R : Nat → World → World → Prop) (Φ : Nat → Option Fr) (hm : P.follows .mixedOrders = true) (hsel : Region.noSelect l.toArray = true) (hap : apartB .any l.toArray = true) (hdn : downB l.toArray = true)
    (hst : ∀ i k fr, Φ k = some fr → i ≠ k → dep .any l.toArray k i = false → ∀ v w w', R i w w' → fr.ph v w → fr.ph v w') (hC : C w.drew)
    (h : wpF P .any l.toArray C R Φ 0 (fun _ => True) (fun a' w' => Q .normal a' w') (numbered 0 l) a (fun _ _ => True)) : (Code.region id l.toArray true).wp P Q a w :=
  wp_region_fresh C R Φ 0 (fun _ => True) hm hsel hap hdn hst (fun _ _ _ _ _ _ => trivial) hC trivial h
theorem wp_fresh_last {id : Nat} {Q : Exit → Act → World → Prop} {a : Act} {w : World} {L : List Oper} (C : World → Prop) (R : Nat → World → World → Prop) (Φ : Nat → Option Fr) (hne : L ≠ []) (hm : P.follows .mixedOrders = true) (hsel : Region.noSelect L.toArray = true) (hap : apartB .any L.toArray = true) (hdn : downB L.toArray = true)
    (hlast : lastB .any L.toArray (L.length - 1) = true) (hgl : (L.getLast hne).guard = none)
    (hst : ∀ i k fr, Φ k = some fr → i ≠ k → dep .any L.toArray k i = false → ∀ v w w', R i w w' → fr.ph v w → fr.ph v w') (hC : C w.drew)
    (h : wpF P .any L.toArray C R Φ 0 (fun _ => True) (fun a' w' => (L.getLast hne).wp P a' w' (fun a'' w'' => Q .normal a'' w'') Q) (numbered 0 L.dropLast) a (fun _ _ => True)) : (Code.region id L.toArray true).wp P Q a w :=
  wp_region_fresh_last C R Φ 0 (fun _ => True) hne hm hsel hap hdn hlast hgl hst (fun _ _ _ _ _ _ => trivial) hC trivial h
end Go.Proofs.Ytdhaelaoackfkaa.Fresh
