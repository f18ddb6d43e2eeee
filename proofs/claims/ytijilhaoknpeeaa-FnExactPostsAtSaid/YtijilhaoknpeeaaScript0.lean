
/-
  Is a script one: what ScriptOk says, in plain numbers.
-/
import Derived.Test.YtijilhaoknpeeaaPost1
import Derived.Test.YtijilhaoknpeeaaConf4
import Derived.Test.YtijilhaoknpeeaaReqOk
namespace Go.Proofs.Ytijilhaoknpeeaa.Num
open Go.RowKit GR Rows3

/-- the time of the post ahead of number i. -/
def prevT (l : List PC) (i : Nat) : Int := if i = 0 then 0 else (l.getD (i - 1) pc0).t
theorem prevT_zero (l : List PC) : prevT l 0 = 0 := rfl
theorem prevT_succ (l : List PC) (i : Nat) : prevT l (i + 1) = (l.getD i pc0).t := by unfold prevT; rw [if_neg (by omega)]; rfl
/-- is a post one that may follow at time e, of n masters. -/
def okEl (n e : Int) (p : PC) : Bool := inB p.t e 4000 && (inB p.who 0 n && okR p.wr p.ad p.sz p.bu p.da)
def okPs (n : Int) (l : List PC) : Bool := (List.range l.length).all fun i => okEl n (prevT l i) (l.getD i pc0)
def OkP (n : Int) (l : List PC) (k : Nat) : Prop := ∀ i, i < k → okEl n (prevT l i) (l.getD i pc0) = true
theorem OkP.zero (n : Int) (l : List PC) : OkP n l 0 := fun i h => by omega
theorem OkP.step {n : Int} {l : List PC} {k : Nat} (h : OkP n l k) (h1 : okEl n (prevT l k) (l.getD k pc0) = true) : OkP n l (k + 1) := by
  intro i hi
  by_cases hk : i = k
  · rw [hk]; exact h1
  · exact h i (by omega)
theorem okPs_yes {n : Int} {l : List PC} (h : OkP n l l.length) : okPs n l = true := by
  unfold okPs
  rw [List.all_eq_true]
  intro i hi
  exact h i (by simpa using hi)
theorem okPs_no {n : Int} {l : List PC} {k : Nat} (hk : k < l.length) (h : okEl n (prevT l k) (l.getD k pc0) = false) : okPs n l = false := by
  unfold okPs
  rw [List.all_eq_false]
  exact ⟨k, by simpa using hk, by rw [h]; decide⟩
theorem okEl_time {n e : Int} {p : PC} (h : inB p.t e 4000 = false) : okEl n e p = false := by unfold okEl; rw [h]; rfl
theorem okEl_who {n e : Int} {p : PC} (h : inB p.who 0 n = false) : okEl n e p = false := by unfold okEl; rw [h]; simp
theorem okEl_req {n e : Int} {p : PC} (h : okR p.wr p.ad p.sz p.bu p.da = false) : okEl n e p = false := by unfold okEl; rw [h]; simp
theorem okEl_yes {n e : Int} {p : PC} (h1 : inB p.t e 4000 = true) (h2 : inB p.who 0 n = true) (h3 : okR p.wr p.ad p.sz p.bu p.da = true) : okEl n e p = true := by unfold okEl; rw [h1, h2, h3]; rfl
/-- the times do not go back, so none is below 0. -/
theorem OkP.time {n : Int} {l : List PC} : ∀ {k : Nat}, OkP n l k → 0 ≤ prevT l k ∧ prevT l k ≤ 4000
  | 0, _ => by rw [prevT_zero]; omega
  | k + 1, h => by
    have h1 := (OkP.time (k := k) (fun i hi => h i (by omega))).1
    have h2 := h k (by omega)
    rw [prevT_succ]
    unfold okEl at h2
    rw [Bool.and_eq_true, inB_iff] at h2
    omega
/-- is a script one. -/
def okS (c : Bool) (n : Int) (l : List PC) (a b : Nat) : Bool := c && (decide (l.length ≤ 20) && (decide (a ≤ 20) && (decide (b ≤ 20) && okPs n l)))
theorem okS_conf {n : Int} {l : List PC} {a b : Nat} : okS false n l a b = false := rfl
theorem okS_posts {c : Bool} {n : Int} {l : List PC} {a b : Nat} (h : ¬ l.length ≤ 20) : okS c n l a b = false := by unfold okS; rw [decide_eq_false h]; simp
theorem okS_waits {c : Bool} {n : Int} {l : List PC} {a b : Nat} (h : ¬ a ≤ 20) : okS c n l a b = false := by unfold okS; rw [decide_eq_false h]; simp
theorem okS_says {c : Bool} {n : Int} {l : List PC} {a b : Nat} (h : ¬ b ≤ 20) : okS c n l a b = false := by unfold okS; rw [decide_eq_false h]; simp
theorem okS_ps {c : Bool} {n : Int} {l : List PC} {a b : Nat} (h : okPs n l = false) : okS c n l a b = false := by unfold okS; rw [h]; simp
theorem okS_yes {c : Bool} {n : Int} {l : List PC} {a b : Nat} (h : okPs n l = true) (h1 : l.length ≤ 20) (h2 : a ≤ 20) (h3 : b ≤ 20) : okS c n l a b = c := by unfold okS; simp [h, h1, h2, h3]
/-- number k of a list that goes round. -/
def atW (l : List Int) (k : Int) : Int := if l.length = 0 ∨ k < 0 then 0 else l.getD (k.toNat % l.length) 0
theorem atW_none {l : List Int} {k : Int} (h : l.length = 0 ∨ k < 0) : atW l k = 0 := if_pos h
theorem atW_some {l : List Int} {k : Int} (h1 : ¬ l.length = 0) (h2 : ¬ k < 0) : atW l k = l.getD (k.toNat % l.length) 0 := if_neg (by omega)
end Go.Proofs.Ytijilhaoknpeeaa.Num
