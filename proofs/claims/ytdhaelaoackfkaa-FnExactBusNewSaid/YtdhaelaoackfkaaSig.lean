
/-
  What the functions of chapter 2 return, for the program and for its model, whatever the world.
-/
import Derived.Test.YtdhaelaoackfkaaRows
import Derived.WalkKit
import Derived.WalkSpells
import Derived.WalkLawsBesides
import Derived.Lib.Hide
import Derived.Below
namespace Go.Proofs.Ytdhaelaoackfkaa.Num
open Go.RowKit

/-- the word for a kind of address phase. -/
def kindW (k : Int) : ByteArray :=
  if k = 0 then ⟨#[105, 100, 108, 101]⟩ else if k = 2 then ⟨#[102, 105, 114, 115, 116]⟩ else if k = 3 then ⟨#[110, 101, 120, 116]⟩ else ⟨#[]⟩
/-- the word for a response. -/
def respW (k : Int) : ByteArray :=
  if k = 0 then ⟨#[111, 107, 97, 121]⟩ else if k = 1 then ⟨#[101, 114, 114, 111, 114]⟩ else if k = 2 then ⟨#[114, 101, 116, 114, 121]⟩
  else if k = 3 then ⟨#[115, 112, 108, 105, 116]⟩ else ⟨#[]⟩
/-- how many bytes a size has. -/
def bytesW (k : Int) : Int := if k = 0 then 1 else if k = 1 then 2 else if k = 2 then 4 else 0

theorem sl1In_yes (x lo hi : Int) (h1 : lo ≤ x) (h2 : x ≤ hi) (w : World) :
    Calls Try.prog 72 #[.int .i64 x, .int .i64 lo, .int .i64 hi] w fun e w' => e = .returned (.bool true) ∧ w = w' := by
  go_enter Try.func72, Try.ntmps72
  go_wp2
  go_ret
  exact ⟨by simp [*], rfl⟩
theorem sl1In_no (x lo hi : Int) (h : x < lo ∨ hi < x) (w : World) :
    Calls Try.prog 72 #[.int .i64 x, .int .i64 lo, .int .i64 hi] w fun e w' => e = .returned (.bool false) ∧ w = w' := by
  by_cases h0 : lo ≤ x
  · have h' : ¬ x ≤ hi := by omega
    go_enter Try.func72, Try.ntmps72
    go_wp2
    go_ret
    exact ⟨by simp [*], rfl⟩
  · have h0' : x < lo := by omega
    go_enter Try.func72, Try.ntmps72
    go_wp2
    go_ret
    exact ⟨rfl, rfl⟩
/-- whether a transfer of a size may start at an address. -/
def alB (a k : Int) : Bool := decide (0 < bytesW k) && (decide (0 ≤ a) && (a % bytesW k == 0))
theorem alB_yes (a k : Int) (h1 : 0 < bytesW k) (h2 : 0 ≤ a) : alB a k = (a % bytesW k == 0) := by simp [alB, h1, h2]
theorem alB_neg (a k : Int) (h2 : a < 0) : alB a k = false := by
  have : ¬ 0 ≤ a := by omega
  simp [alB, this]
theorem alB_no (a k : Int) (h2 : bytesW k ≤ 0) : alB a k = false := by
  have : ¬ 0 < bytesW k := by omega
  simp [alB, this]
end Go.Proofs.Ytdhaelaoackfkaa.Num
