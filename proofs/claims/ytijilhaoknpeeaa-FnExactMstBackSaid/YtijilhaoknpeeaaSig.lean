
/-
  What the functions of chapter 2 return, for the program and for its model, whatever the world.
-/
import Derived.Test.YtijilhaoknpeeaaRows
import Derived.WalkKit
import Derived.WalkSpells
import Derived.WalkLawsBesides
import Derived.Lib.Hide
import Derived.Below
namespace Go.Proofs.Ytijilhaoknpeeaa.Num
open Go.RowKit

/-- the word for a kind of address phase. -/
def kindW (k : Int) : ByteArray :=
  if k = 0 then ⟨#[105, 100, 108, 101]⟩ else if k = 2 then ⟨#[102, 105, 114, 115, 116]⟩ else if k = 3 then ⟨#[110, 101, 120, 116]⟩ else ⟨#[]⟩
/-- the word for a response. -/
def respW (k : Int) : ByteArray :=
  if k = 0 then ⟨#[111, 107, 97, 121]⟩ else if k = 1 then ⟨#[101, 114, 114, 111, 114]⟩ else if k = 2 then ⟨#[114, 101, 116, 114, 121]⟩
  else if k = 3 then ⟨#[115, 112, 108, 105, 116]⟩ else ⟨#[]⟩
/-- how many bytes a size has. -/
def bytesW (k : Int) : Int := if k = 0 then 1 else if k = 1 then 2 else if k = 2 then 4 else 0

theorem sl1In_yes (x lo hi : Int) (h1 : lo ≤ x) (h2 : x ≤ hi) (w : World) :
    Calls Try.prog 90 #[.int .i64 x, .int .i64 lo, .int .i64 hi] w fun e w' => e = .returned (.bool true) ∧ w = w' := by
  go_enter Try.func90, Try.ntmps90
  go_wp2
  go_ret
  exact ⟨by simp [*], rfl⟩
theorem sl1In_no (x lo hi : Int) (h : x < lo ∨ hi < x) (w : World) :
    Calls Try.prog 90 #[.int .i64 x, .int .i64 lo, .int .i64 hi] w fun e w' => e = .returned (.bool false) ∧ w = w' := by
  by_cases h0 : lo ≤ x
  · have h' : ¬ x ≤ hi := by omega
    go_enter Try.func90, Try.ntmps90
    go_wp2
    go_ret
    exact ⟨by simp [*], rfl⟩
  · have h0' : x < lo := by omega
    go_enter Try.func90, Try.ntmps90
    go_wp2
    go_ret
    exact ⟨rfl, rfl⟩
theorem implBytes (k : Int) (w : World) :
    Calls Try.prog 122 #[.int .i64 k] w fun e w' => e = .returned (.int .i64 (bytesW k)) ∧ w = w' := by
  by_cases h : k < 0 ∨ 2 < k
  · have hb : bytesW k = 0 := by unfold bytesW; rw [if_neg (by omega), if_neg (by omega), if_neg (by omega)]
    go_enter Try.func122, Try.ntmps122
    go_wp2
    all_goals
      go_ret
      exact ⟨by first | rfl | (rw [hb]; rfl), rfl⟩
  · have hk : k = 0 ∨ k = 1 ∨ k = 2 := by omega
    clear h
    rcases hk with rfl | rfl | rfl
    all_goals
      go_enter Try.func122, Try.ntmps122
      go_wp2
      go_ret
      exact ⟨rfl, rfl⟩
theorem specBytes (k : Int) (w : World) :
    Calls Try.prog 124 #[.int .i64 k] w fun e w' => e = .returned (.int .i64 (bytesW k)) ∧ w = w' := by
  by_cases h : k < 0 ∨ 2 < k
  · have hb : bytesW k = 0 := by unfold bytesW; rw [if_neg (by omega), if_neg (by omega), if_neg (by omega)]
    go_enter Try.func124, Try.ntmps124
    go_wp2_with (go_at_call 90; refine (sl1In_no _ _ _ (by omega) _).mono ?_; rintro e w' ⟨rfl, rfl⟩)
    go_ret
    exact ⟨by first | rfl | (rw [hb]; rfl), rfl⟩
  · have hk : k = 0 ∨ k = 1 ∨ k = 2 := by omega
    clear h
    rcases hk with rfl | rfl | rfl
    all_goals
      go_enter Try.func124, Try.ntmps124
      go_wp2_with (go_at_call 90; refine (sl1In_yes _ _ _ (by omega) (by omega) _).mono ?_; rintro e w' ⟨rfl, rfl⟩)
      go_ret
      exact ⟨rfl, rfl⟩
/-- whether a transfer of a size may start at an address. -/
def alB (a k : Int) : Bool := decide (0 < bytesW k) && (decide (0 ≤ a) && (a % bytesW k == 0))
theorem alB_yes (a k : Int) (h1 : 0 < bytesW k) (h2 : 0 ≤ a) : alB a k = (a % bytesW k == 0) := by simp [alB, h1, h2]
theorem alB_neg (a k : Int) (h2 : a < 0) : alB a k = false := by
  have : ¬ 0 ≤ a := by omega
  simp [alB, this]
theorem alB_no (a k : Int) (h2 : bytesW k ≤ 0) : alB a k = false := by
  have : ¬ 0 < bytesW k := by omega
  simp [alB, this]
theorem implAligned (a k : Int) (w : World) :
    Calls Try.prog 121 #[.int .i64 a, .int .i64 k] w fun e w' => e = .returned (.bool (alB a k)) ∧ w = w' := by
  go_enter Try.func121, Try.ntmps121
  go_wp2_with (go_at_call 122; refine (implBytes _ _).mono ?_; rintro e w' ⟨rfl, rfl⟩)
  all_goals
    go_ret
    refine ⟨?_, rfl⟩
    first
      | (rw [alB_yes _ _ (by assumption) (by assumption)]; rfl)
      | (rw [alB_neg _ _ (by assumption)]; rfl)
      | (rw [alB_no _ _ (by assumption)]; rfl)
theorem specAligned (a k : Int) (w : World) :
    Calls Try.prog 128 #[.int .i64 a, .int .i64 k] w fun e w' => e = .returned (.bool (alB a k)) ∧ w = w' := by
  go_enter Try.func128, Try.ntmps128
  go_wp2_with (go_at_call 124; refine (specBytes _ _).mono ?_; rintro e w' ⟨rfl, rfl⟩)
  all_goals
    go_ret
    refine ⟨?_, rfl⟩
    first
      | (rw [alB_yes _ _ (by assumption) (by assumption)]; rfl)
      | (rw [alB_neg _ _ (by assumption)]; rfl)
      | (rw [alB_no _ _ (by assumption)]; rfl)
end Go.Proofs.Ytijilhaoknpeeaa.Num
