
/-
  Are two data the same; how == and != answer on structs of numbers and truth values (Wrr, Beat, Bucket, Done). (Made by wip/gbus.py.)
-/
import Derived.Test.YtdhaelaoackfkaaGreatKRow
import Derived.Test.YtdhaelaoackfkaaGreatGRow
import Derived.Laws.StructEq
namespace Go.Proofs.YtdhaelaoackfkaaGreat.KD
open Go.RowKit Rows3 GR Num
set_option linter.unusedVariables false
/-- are two data the same. -/
noncomputable def same {α : Type} (x y : α) : Bool := @decide (x = y) (Classical.propDecidable _)
theorem same_iff {α : Type} (x y : α) : same x y = true ↔ x = y := by unfold same; exact @decide_eq_true_iff _ (Classical.propDecidable _)
theorem same_no {α : Type} {x y : α} (h : x ≠ y) : same x y = false := by rw [← Bool.not_eq_true, same_iff]; exact h
theorem same_yes {α : Type} (x : α) : same x x = true := (same_iff x x).2 rfl
theorem same_ne {α : Type} {x y : α} (h : same x y = false) : x ≠ y := fun e => by rw [(same_iff x y).2 e] at h; cases h
theorem same_eq {α : Type} {x y : α} (h : same x y = true) : x = y := (same_iff x y).1 h
/-- the first j are the same. -/
def upTo {α : Type} (l m : List α) (j : Nat) : Prop := l.take j = m.take j
theorem upTo_step {α : Type} {l m : List α} {j : Nat} {x y : α} (h : upTo l m j) (hx : l[j]? = some x) (hy : m[j]? = some y) (hs : same x y = true) : upTo l m (j + 1) := by
  have e := same_eq hs
  subst e
  obtain ⟨h2, e2⟩ := List.getElem?_eq_some_iff.1 hx
  obtain ⟨h3, e3⟩ := List.getElem?_eq_some_iff.1 hy
  unfold upTo at h ⊢
  rw [List.take_succ_eq_append_getElem h2, List.take_succ_eq_append_getElem h3, h, e2, e3]
theorem upTo_bad {α : Type} {l m : List α} {j : Nat} {x y : α} (hx : l[j]? = some x) (hy : m[j]? = some y) (hs : same x y = false) : l ≠ m := by
  rintro rfl
  rw [hx] at hy
  cases hy
  exact same_ne hs rfl
theorem upTo_all {α : Type} {l m : List α} {n : Nat} (h1 : l.length = n) (h2 : m.length = n) (h : upTo l m n) : l = m := by
  unfold upTo at h
  rwa [List.take_of_length_le (by omega), List.take_of_length_le (by omega)] at h
theorem eqlWrr (x0 : Int) (x1 : Int) (y0 : Int) (y1 : Int) (w : World) : (binOp .eql 45 (.agg #[.int .i64 x0, .int .i64 x1]) (.agg #[.int .i64 y0, .int .i64 y1])).run Tryz.prog w = .ok (.bool (same (x0, x1) (y0, y1))) w := by
  have hS : Tryz.prog.underlying 45 = some (.struct (Tryz.prog.fieldsOf 45)) := by kernel_rfl
  have hp : Tryz.prog.stoodInHeld 45 = false := by kernel_rfl
  rw [show same (x0, x1) (y0, y1) = (x0 == y0 && (x1 == y1)) by rw [Bool.eq_iff_iff, same_iff]; simp]
  rw [run_eql_struct, show (10000 : Nat) = 9999 + 1 from rfl, run_equalIn_agg w 9999 45 _ _ hS hp]
  clear hS hp
  simp only [Program.fieldsOf, Tryz.underlying45]
  go_simp
  repeat' split
  all_goals simp_all
theorem neqWrr (x0 : Int) (x1 : Int) (y0 : Int) (y1 : Int) (w : World) : (binOp .neq 45 (.agg #[.int .i64 x0, .int .i64 x1]) (.agg #[.int .i64 y0, .int .i64 y1])).run Tryz.prog w = .ok (.bool (!same (x0, x1) (y0, y1))) w := by
  have hS : Tryz.prog.underlying 45 = some (.struct (Tryz.prog.fieldsOf 45)) := by kernel_rfl
  have hp : Tryz.prog.stoodInHeld 45 = false := by kernel_rfl
  rw [show same (x0, x1) (y0, y1) = (x0 == y0 && (x1 == y1)) by rw [Bool.eq_iff_iff, same_iff]; simp]
  rw [run_neq_struct, show (10000 : Nat) = 9999 + 1 from rfl, run_equalIn_agg w 9999 45 _ _ hS hp]
  clear hS hp
  simp only [Program.fieldsOf, Tryz.underlying45]
  go_simp
  repeat' split
  all_goals simp_all
theorem guardWrr : Tryz.prog.eqGuardType Tryz.prog.depth 45 = false := by kernel_rfl
theorem eqlBeat (x0 : Bool) (x1 : Int) (x2 : Int) (x3 : Bool) (x4 : Int) (x5 : Int) (x6 : Int) (x7 : Bool) (y0 : Bool) (y1 : Int) (y2 : Int) (y3 : Bool) (y4 : Int) (y5 : Int) (y6 : Int) (y7 : Bool) (w : World) : (binOp .eql 47 (.agg #[.bool x0, .int .i64 x1, .int .i64 x2, .bool x3, .int .i64 x4, .int .i64 x5, .int .i64 x6, .bool x7]) (.agg #[.bool y0, .int .i64 y1, .int .i64 y2, .bool y3, .int .i64 y4, .int .i64 y5, .int .i64 y6, .bool y7])).run Tryz.prog w = .ok (.bool (same (x0, x1, x2, x3, x4, x5, x6, x7) (y0, y1, y2, y3, y4, y5, y6, y7))) w := by
  have hS : Tryz.prog.underlying 47 = some (.struct (Tryz.prog.fieldsOf 47)) := by kernel_rfl
  have hp : Tryz.prog.stoodInHeld 47 = false := by kernel_rfl
  rw [show same (x0, x1, x2, x3, x4, x5, x6, x7) (y0, y1, y2, y3, y4, y5, y6, y7) = (x0 == y0 && (x1 == y1 && (x2 == y2 && (x3 == y3 && (x4 == y4 && (x5 == y5 && (x6 == y6 && (x7 == y7)))))))) by rw [Bool.eq_iff_iff, same_iff]; simp]
  rw [run_eql_struct, show (10000 : Nat) = 9999 + 1 from rfl, run_equalIn_agg w 9999 47 _ _ hS hp]
  clear hS hp
  simp only [Program.fieldsOf, Tryz.underlying47]
  go_simp
  repeat' split
  all_goals simp_all
theorem neqBeat (x0 : Bool) (x1 : Int) (x2 : Int) (x3 : Bool) (x4 : Int) (x5 : Int) (x6 : Int) (x7 : Bool) (y0 : Bool) (y1 : Int) (y2 : Int) (y3 : Bool) (y4 : Int) (y5 : Int) (y6 : Int) (y7 : Bool) (w : World) : (binOp .neq 47 (.agg #[.bool x0, .int .i64 x1, .int .i64 x2, .bool x3, .int .i64 x4, .int .i64 x5, .int .i64 x6, .bool x7]) (.agg #[.bool y0, .int .i64 y1, .int .i64 y2, .bool y3, .int .i64 y4, .int .i64 y5, .int .i64 y6, .bool y7])).run Tryz.prog w = .ok (.bool (!same (x0, x1, x2, x3, x4, x5, x6, x7) (y0, y1, y2, y3, y4, y5, y6, y7))) w := by
  have hS : Tryz.prog.underlying 47 = some (.struct (Tryz.prog.fieldsOf 47)) := by kernel_rfl
  have hp : Tryz.prog.stoodInHeld 47 = false := by kernel_rfl
  rw [show same (x0, x1, x2, x3, x4, x5, x6, x7) (y0, y1, y2, y3, y4, y5, y6, y7) = (x0 == y0 && (x1 == y1 && (x2 == y2 && (x3 == y3 && (x4 == y4 && (x5 == y5 && (x6 == y6 && (x7 == y7)))))))) by rw [Bool.eq_iff_iff, same_iff]; simp]
  rw [run_neq_struct, show (10000 : Nat) = 9999 + 1 from rfl, run_equalIn_agg w 9999 47 _ _ hS hp]
  clear hS hp
  simp only [Program.fieldsOf, Tryz.underlying47]
  go_simp
  repeat' split
  all_goals simp_all
theorem guardBeat : Tryz.prog.eqGuardType Tryz.prog.depth 47 = false := by kernel_rfl
theorem eqlBucket (x0 : Int) (x1 : Int) (y0 : Int) (y1 : Int) (w : World) : (binOp .eql 73 (.agg #[.int .i64 x0, .int .i64 x1]) (.agg #[.int .i64 y0, .int .i64 y1])).run Tryz.prog w = .ok (.bool (same (x0, x1) (y0, y1))) w := by
  have hS : Tryz.prog.underlying 73 = some (.struct (Tryz.prog.fieldsOf 73)) := by kernel_rfl
  have hp : Tryz.prog.stoodInHeld 73 = false := by kernel_rfl
  rw [show same (x0, x1) (y0, y1) = (x0 == y0 && (x1 == y1)) by rw [Bool.eq_iff_iff, same_iff]; simp]
  rw [run_eql_struct, show (10000 : Nat) = 9999 + 1 from rfl, run_equalIn_agg w 9999 73 _ _ hS hp]
  clear hS hp
  simp only [Program.fieldsOf, Tryz.underlying73]
  go_simp
  repeat' split
  all_goals simp_all
theorem neqBucket (x0 : Int) (x1 : Int) (y0 : Int) (y1 : Int) (w : World) : (binOp .neq 73 (.agg #[.int .i64 x0, .int .i64 x1]) (.agg #[.int .i64 y0, .int .i64 y1])).run Tryz.prog w = .ok (.bool (!same (x0, x1) (y0, y1))) w := by
  have hS : Tryz.prog.underlying 73 = some (.struct (Tryz.prog.fieldsOf 73)) := by kernel_rfl
  have hp : Tryz.prog.stoodInHeld 73 = false := by kernel_rfl
  rw [show same (x0, x1) (y0, y1) = (x0 == y0 && (x1 == y1)) by rw [Bool.eq_iff_iff, same_iff]; simp]
  rw [run_neq_struct, show (10000 : Nat) = 9999 + 1 from rfl, run_equalIn_agg w 9999 73 _ _ hS hp]
  clear hS hp
  simp only [Program.fieldsOf, Tryz.underlying73]
  go_simp
  repeat' split
  all_goals simp_all
theorem guardBucket : Tryz.prog.eqGuardType Tryz.prog.depth 73 = false := by kernel_rfl
theorem eqlDone (x0 : Int) (x1 : Int) (x2 : Bool) (x3 : Int) (x4 : Int) (x5 : Int) (x6 : Int) (y0 : Int) (y1 : Int) (y2 : Bool) (y3 : Int) (y4 : Int) (y5 : Int) (y6 : Int) (w : World) : (binOp .eql 109 (.agg #[.int .i64 x0, .int .i64 x1, .bool x2, .int .i64 x3, .int .i64 x4, .int .i64 x5, .int .i64 x6]) (.agg #[.int .i64 y0, .int .i64 y1, .bool y2, .int .i64 y3, .int .i64 y4, .int .i64 y5, .int .i64 y6])).run Tryz.prog w = .ok (.bool (same (x0, x1, x2, x3, x4, x5, x6) (y0, y1, y2, y3, y4, y5, y6))) w := by
  have hS : Tryz.prog.underlying 109 = some (.struct (Tryz.prog.fieldsOf 109)) := by kernel_rfl
  have hp : Tryz.prog.stoodInHeld 109 = false := by kernel_rfl
  rw [show same (x0, x1, x2, x3, x4, x5, x6) (y0, y1, y2, y3, y4, y5, y6) = (x0 == y0 && (x1 == y1 && (x2 == y2 && (x3 == y3 && (x4 == y4 && (x5 == y5 && (x6 == y6))))))) by rw [Bool.eq_iff_iff, same_iff]; simp]
  rw [run_eql_struct, show (10000 : Nat) = 9999 + 1 from rfl, run_equalIn_agg w 9999 109 _ _ hS hp]
  clear hS hp
  simp only [Program.fieldsOf, Tryz.underlying109]
  go_simp
  repeat' split
  all_goals simp_all
theorem neqDone (x0 : Int) (x1 : Int) (x2 : Bool) (x3 : Int) (x4 : Int) (x5 : Int) (x6 : Int) (y0 : Int) (y1 : Int) (y2 : Bool) (y3 : Int) (y4 : Int) (y5 : Int) (y6 : Int) (w : World) : (binOp .neq 109 (.agg #[.int .i64 x0, .int .i64 x1, .bool x2, .int .i64 x3, .int .i64 x4, .int .i64 x5, .int .i64 x6]) (.agg #[.int .i64 y0, .int .i64 y1, .bool y2, .int .i64 y3, .int .i64 y4, .int .i64 y5, .int .i64 y6])).run Tryz.prog w = .ok (.bool (!same (x0, x1, x2, x3, x4, x5, x6) (y0, y1, y2, y3, y4, y5, y6))) w := by
  have hS : Tryz.prog.underlying 109 = some (.struct (Tryz.prog.fieldsOf 109)) := by kernel_rfl
  have hp : Tryz.prog.stoodInHeld 109 = false := by kernel_rfl
  rw [show same (x0, x1, x2, x3, x4, x5, x6) (y0, y1, y2, y3, y4, y5, y6) = (x0 == y0 && (x1 == y1 && (x2 == y2 && (x3 == y3 && (x4 == y4 && (x5 == y5 && (x6 == y6))))))) by rw [Bool.eq_iff_iff, same_iff]; simp]
  rw [run_neq_struct, show (10000 : Nat) = 9999 + 1 from rfl, run_equalIn_agg w 9999 109 _ _ hS hp]
  clear hS hp
  simp only [Program.fieldsOf, Tryz.underlying109]
  go_simp
  repeat' split
  all_goals simp_all
theorem guardDone : Tryz.prog.eqGuardType Tryz.prog.depth 109 = false := by kernel_rfl

end Go.Proofs.YtdhaelaoackfkaaGreat.KD
