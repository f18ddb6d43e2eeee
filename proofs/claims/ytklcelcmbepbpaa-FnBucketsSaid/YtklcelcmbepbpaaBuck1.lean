
/-
  Token buckets: BucketNew and TokensMost, for the program and for its model, at every argument.
-/
import Derived.Test.YtklcelcmbepbpaaKMConf
import Derived.Test.YtklcelcmbepbpaaKBucket
import Derived.Lib.QuietBelow
import Derived.Deep.QuietTactic
import Derived.IntWalk
import Derived.WalkSmall
namespace Go.Proofs.Ytklcelcmbepbpaa.Num
open Go.RowKit Rows3 GR KD
set_option linter.unusedVariables false

/-- is it within bounds. -/
def inB (x lo hi : Int) : Bool := decide (lo ≤ x) && decide (x ≤ hi)
theorem inB_yes {x lo hi : Int} (h1 : lo ≤ x) (h2 : x ≤ hi) : inB x lo hi = true := by simp [inB, h1, h2]
theorem inB_no {x lo hi : Int} (h : x < lo ∨ hi < x) : inB x lo hi = false := by
  unfold inB; rcases h with h | h
  · rw [decide_eq_false (by omega)]; rfl
  · rw [decide_eq_false (p := x ≤ hi) (by omega)]; simp
theorem inB_iff {x lo hi : Int} : inB x lo hi = true ↔ lo ≤ x ∧ x ≤ hi := by simp [inB]
theorem l1In_any (x lo hi : Int) (w : World) :
    Calls Try.prog 30 #[.int .i64 x, .int .i64 lo, .int .i64 hi] w fun e w' => e = .returned (.bool (inB x lo hi)) ∧ w = w' := by
  by_cases h0 : lo ≤ x
  · by_cases h1 : x ≤ hi
    · have He := Lib.hid (inB_yes h0 h1)
      go_enter Try.func30, Try.ntmps30
      go_wp2
      go_ret
      exact ⟨by rw [He.out]; rfl, rfl⟩
    · have He := Lib.hid (inB_no (x := x) (lo := lo) (hi := hi) (by omega))
      go_enter Try.func30, Try.ntmps30
      go_wp2
      go_ret
      exact ⟨by rw [He.out]; rfl, rfl⟩
  · have h0' : x < lo := by omega
    have He := Lib.hid (inB_no (x := x) (lo := lo) (hi := hi) (by omega))
    go_enter Try.func30, Try.ntmps30
    go_wp2
    go_ret
    exact ⟨by rw [He.out]; rfl, rfl⟩
theorem within_any (x lo hi : Int) (w : World) :
    Calls Try.prog 29 #[.int .i64 x, .int .i64 lo, .int .i64 hi] w fun e w' => e = .returned (.bool (inB x lo hi)) ∧ w = w' := by
  by_cases h0 : lo ≤ x
  · by_cases h1 : x ≤ hi
    · have He := Lib.hid (inB_yes h0 h1)
      go_enter Try.func29, Try.ntmps29
      go_wp2
      go_ret
      exact ⟨by rw [He.out]; rfl, rfl⟩
    · have He := Lib.hid (inB_no (x := x) (lo := lo) (hi := hi) (by omega))
      go_enter Try.func29, Try.ntmps29
      go_wp2
      go_ret
      exact ⟨by rw [He.out]; rfl, rfl⟩
  · have h0' : x < lo := by omega
    have He := Lib.hid (inB_no (x := x) (lo := lo) (hi := hi) (by omega))
    go_enter Try.func29, Try.ntmps29
    go_wp2
    go_ret
    exact ⟨by rw [He.out]; rfl, rfl⟩
theorem within_is {x lo hi : Int} {b : Bool} (h : inB x lo hi = b) (w : World) :
    Calls Try.prog 29 #[.int .i64 x, .int .i64 lo, .int .i64 hi] w fun e w' => e = .returned (.bool b) ∧ w = w' := by rw [← h]; exact within_any x lo hi w
theorem l1In_is {x lo hi : Int} {b : Bool} (h : inB x lo hi = b) (w : World) :
    Calls Try.prog 30 #[.int .i64 x, .int .i64 lo, .int .i64 hi] w fun e w' => e = .returned (.bool b) ∧ w = w' := by rw [← h]; exact l1In_any x lo hi w
theorem l1In_isB {x lo hi : Int} {b : Bool} (h : inB x lo hi = b) (w : World) :
    Calls Try.prog 30 #[.int .i64 x, .int .i64 lo, .int .i64 hi] w fun e w' => e = .returned (.bool b) ∧ Below w.heap.size w w' :=
  (l1In_is h w).mono fun _ _ ⟨h1, h2⟩ => ⟨h1, h2 ▸ Below.refl _ _⟩

/-- what a new bucket holds. -/
def newB (p : Bool) (cap : Int) : Int := if p then (if 0 ≤ cap then cap else 0) else 0
theorem newB_no (cap : Int) : newB false cap = 0 := rfl
theorem newB_ge {cap : Int} (h : 0 ≤ cap) : newB true cap = cap := by simp [newB, h]
theorem newB_lt {cap : Int} (h : cap < 0) : newB true cap = 0 := by unfold newB; rw [if_pos rfl, if_neg (by omega)]

theorem newB_le {cap : Int} (h : cap ≤ 0) : newB true cap = 0 := by unfold newB; rw [if_pos rfl]; split <;> omega

set_option maxRecDepth 100000 in
theorem implNew (wt ev cap : Int) (p : Bool) (w : World) :
    Calls Try.prog 14 #[.agg #[.int .i64 wt, .bool p, .int .i64 ev, .int .i64 cap]] w fun e w' => e = .returned (.agg #[.int .i64 (newB p cap), .int .i64 0]) ∧ Below w.heap.size w w' := by
  have A := (Bx.new 27 #[.int .i64 wt, .bool p, .int .i64 ev, .int .i64 cap] w).alloc (Obj.cells #[.int .i64 0, .int .i64 0] 25)
  have g1 := A.cell 1 _ rfl
  have g3 := A.cell 3 _ rfl
  clear A
  cases p with
  | false =>
    go_enter Try.func14, Try.ntmps14
    go_wp2_with fail
    refine bodyPost_ret (v := .agg #[.int .i64 0, .int .i64 0]) (by simp [results, Try.results14, go_sem]) rfl ⟨rfl, ?_⟩
    exact ((Below.refl _ _).alloc (Nat.le_refl _) _).alloc (by simp) _
  | true =>
    by_cases h : 0 ≤ cap
    · rw [newB_ge h]
      go_enter Try.func14, Try.ntmps14
      go_wp2_with fail
      refine bodyPost_ret (v := .agg #[.int .i64 cap, .int .i64 0]) (by simp [results, Try.results14, go_sem]) rfl ⟨rfl, ?_⟩
      exact ((Below.refl _ _).alloc (Nat.le_refl _) _).alloc (by simp) _
    · rw [newB_lt (by omega)]
      go_enter Try.func14, Try.ntmps14
      go_wp2_with fail
      refine bodyPost_ret (v := .agg #[.int .i64 0, .int .i64 0]) (by simp [results, Try.results14, go_sem]) rfl ⟨rfl, ?_⟩
      exact ((Below.refl _ _).alloc (Nat.le_refl _) _).alloc (by simp) _
set_option maxRecDepth 100000 in
theorem specNew (wt ev cap : Int) (p : Bool) (w : World) :
    Calls Try.prog 22 #[.agg #[.int .i64 wt, .bool p, .int .i64 ev, .int .i64 cap]] w fun e w' => e = .returned (.agg #[.int .i64 (newB p cap), .int .i64 0]) ∧ Below w.heap.size w w' := by
  have A := (Bx.new 27 #[.int .i64 wt, .bool p, .int .i64 ev, .int .i64 cap] w).alloc (Obj.cells #[.int .i64 0, .int .i64 0] 25)
  have g1 := A.cell 1 _ rfl
  have g3 := A.cell 3 _ rfl
  clear A
  cases p with
  | false =>
    go_enter Try.func22, Try.ntmps22
    go_wp2_with fail
    refine bodyPost_ret (v := .agg #[.int .i64 0, .int .i64 0]) (by simp [results, Try.results22, go_sem]) rfl ⟨rfl, ?_⟩
    exact ((Below.refl _ _).alloc (Nat.le_refl _) _).alloc (by simp) _
  | true =>
    by_cases h : 0 < cap
    · rw [newB_ge (by omega)]
      go_enter Try.func22, Try.ntmps22
      go_wp2_with fail
      refine bodyPost_ret (v := .agg #[.int .i64 cap, .int .i64 0]) (by simp [results, Try.results22, go_sem]) rfl ⟨rfl, ?_⟩
      exact ((Below.refl _ _).alloc (Nat.le_refl _) _).alloc (by simp) _
    · rw [newB_le (by omega)]
      go_enter Try.func22, Try.ntmps22
      go_wp2_with fail
      refine bodyPost_ret (v := .agg #[.int .i64 0, .int .i64 0]) (by simp [results, Try.results22, go_sem]) rfl ⟨rfl, ?_⟩
      exact ((Below.refl _ _).alloc (Nat.le_refl _) _).alloc (by simp) _

theorem below_drewN {B : Nat} {a w : World} (h : Below B a w) (n : Nat) : Below B a (w.drewN n) := ⟨h.os, h.tape, h.output, h.size, h.block⟩
/-- the bound on the tokens. -/
def mostW (p : Bool) (ev cap n : Int) : Int := if p = true ∧ 1 ≤ ev ∧ 0 ≤ cap ∧ inB n 0 4000 = true then wrap64 (wrap64 (cap + n / ev) + 1) else 0
theorem mostW_yes {ev cap n : Int} (h1 : 1 ≤ ev) (h2 : 0 ≤ cap) (h3 : inB n 0 4000 = true) : mostW true ev cap n = wrap64 (wrap64 (cap + n / ev) + 1) := by simp [mostW, h1, h2, h3]
theorem mostW_no {p : Bool} {ev cap n : Int} (h : ¬ (p = true ∧ 1 ≤ ev ∧ 0 ≤ cap ∧ inB n 0 4000 = true)) : mostW p ev cap n = 0 := by unfold mostW; rw [if_neg h]
set_option maxRecDepth 100000 in
theorem implMost (wt ev cap n : Int) (p : Bool) (w : World) :
    Calls Try.prog 19 #[.agg #[.int .i64 wt, .bool p, .int .i64 ev, .int .i64 cap], .int .i64 n] w fun e w' => e = .returned (.int .i64 (mostW p ev cap n)) ∧ Below w.heap.size w w' := by
  have A := Bx.new 27 #[.int .i64 wt, .bool p, .int .i64 ev, .int .i64 cap] w
  have g1 := A.cell 1 _ rfl
  have g2 := A.cell 2 _ rfl
  have g3 := A.cell 3 _ rfl
  clear A
  cases p with
  | false =>
    have HE := Lib.hid (mostW_no (p := false) (ev := ev) (cap := cap) (n := n) (by simp))
    go_enter Try.func19, Try.ntmps19
    go_wp2
    go_ret
    exact ⟨by rw [HE.out]; rfl, (Below.refl _ _).alloc (Nat.le_refl _) _⟩
  | true =>
    by_cases h1 : 1 ≤ ev
    · by_cases h2 : 0 ≤ cap
      · cases h3 : inB n 0 4000 with
        | true =>
          have hw := fun w => within_is h3 w
          have HE := Lib.hid (mostW_yes h1 h2 h3)
          rw [inB_iff] at h3
          go_enter Try.func19, Try.ntmps19
          go_wp2_with (go_at_call 29; refine (hw _).mono ?_; rintro e w' ⟨rfl, rfl⟩)
          go_quiet (fail)
          go_wp2
          go_ret
          exact ⟨by rw [HE.out]; rfl, below_drewN ((Below.refl _ _).alloc (Nat.le_refl _) _) _⟩
        | false =>
          have hw := fun w => within_is h3 w
          have HE := Lib.hid (mostW_no (p := true) (ev := ev) (cap := cap) (n := n) (by rw [h3]; simp))
          clear h3
          go_enter Try.func19, Try.ntmps19
          go_wp2_with (go_at_call 29; refine (hw _).mono ?_; rintro e w' ⟨rfl, rfl⟩)
          go_ret
          exact ⟨by rw [HE.out]; rfl, (Below.refl _ _).alloc (Nat.le_refl _) _⟩
      · have HE := Lib.hid (mostW_no (p := true) (ev := ev) (cap := cap) (n := n) (by omega))
        go_enter Try.func19, Try.ntmps19
        go_wp2
        go_ret
        exact ⟨by rw [HE.out]; rfl, (Below.refl _ _).alloc (Nat.le_refl _) _⟩
    · have HE := Lib.hid (mostW_no (p := true) (ev := ev) (cap := cap) (n := n) (by omega))
      go_enter Try.func19, Try.ntmps19
      go_wp2
      go_ret
      exact ⟨by rw [HE.out]; rfl, (Below.refl _ _).alloc (Nat.le_refl _) _⟩
set_option maxRecDepth 100000 in
theorem specMost (wt ev cap n : Int) (p : Bool) (w : World) :
    Calls Try.prog 27 #[.agg #[.int .i64 wt, .bool p, .int .i64 ev, .int .i64 cap], .int .i64 n] w fun e w' => e = .returned (.int .i64 (mostW p ev cap n)) ∧ Below w.heap.size w w' := by
  have A := Bx.new 27 #[.int .i64 wt, .bool p, .int .i64 ev, .int .i64 cap] w
  have g1 := A.cell 1 _ rfl
  have g2 := A.cell 2 _ rfl
  have g3 := A.cell 3 _ rfl
  clear A
  cases p with
  | false =>
    have HE := Lib.hid (mostW_no (p := false) (ev := ev) (cap := cap) (n := n) (by simp))
    go_enter Try.func27, Try.ntmps27
    go_wp2
    go_ret
    exact ⟨by rw [HE.out]; rfl, (Below.refl _ _).alloc (Nat.le_refl _) _⟩
  | true =>
    by_cases h1 : 1 ≤ ev
    · by_cases h2 : 0 ≤ cap
      · cases h3 : inB n 0 4000 with
        | true =>
          have hw := fun w => l1In_is h3 w
          have HE := Lib.hid (mostW_yes h1 h2 h3)
          rw [inB_iff] at h3
          go_enter Try.func27, Try.ntmps27
          go_wp2_with (go_at_call 30; refine (hw _).mono ?_; rintro e w' ⟨rfl, rfl⟩)
          go_quiet (fail)
          go_wp2
          go_ret
          exact ⟨by rw [HE.out]; rfl, below_drewN ((Below.refl _ _).alloc (Nat.le_refl _) _) _⟩
        | false =>
          have hw := fun w => l1In_is h3 w
          have HE := Lib.hid (mostW_no (p := true) (ev := ev) (cap := cap) (n := n) (by rw [h3]; simp))
          clear h3
          go_enter Try.func27, Try.ntmps27
          go_wp2_with (go_at_call 30; refine (hw _).mono ?_; rintro e w' ⟨rfl, rfl⟩)
          go_ret
          exact ⟨by rw [HE.out]; rfl, (Below.refl _ _).alloc (Nat.le_refl _) _⟩
      · have HE := Lib.hid (mostW_no (p := true) (ev := ev) (cap := cap) (n := n) (by omega))
        go_enter Try.func27, Try.ntmps27
        go_wp2
        go_ret
        exact ⟨by rw [HE.out]; rfl, (Below.refl _ _).alloc (Nat.le_refl _) _⟩
    · have HE := Lib.hid (mostW_no (p := true) (ev := ev) (cap := cap) (n := n) (by omega))
      go_enter Try.func27, Try.ntmps27
      go_wp2
      go_ret
      exact ⟨by rw [HE.out]; rfl, (Below.refl _ _).alloc (Nat.le_refl _) _⟩
end Go.Proofs.Ytklcelcmbepbpaa.Num
