
/-
  Chapter 4's draws: some memory, some address, some size, some number.
-/
import Derived.Test.YtbhmfjblmcppbaaCurD
import Derived.Test.YtbhmfjblmcppbaaLane
import Derived.Test.YtbhmfjblmcppbaaEq
namespace Go.Proofs.Ytbhmfjblmcppbaa.Cur
open Go.RowKit Bytes Rows3 Num

theorem Only.grown {c : Nat} {w w' : World} (h : Only c w w') : w.grownBy w' (some c) := ⟨h.os, h.tape, h.output, h.size, fun k hk hne => h.block k hk (fun e => hne (by rw [e]))⟩
theorem ownI_only {B c : Nat} {v : Value} {l : List Int} {w w' : World} (h : OwnI B v l w) (hO : Only c w w') (hc : c < B) : OwnI B v l w' :=
  h.far hO.grown (fun k hk e => by have := (World.ownsRow.lt h k hk).1; cases e; omega)
theorem results4 {fn : Func} {t u v x : Tmp} (h : fn.results = #[.tmp t, .tmp u, .tmp v, .tmp x]) (tmps : Array Value) (P : Program) (w : World) :
    (results fn tmps).run P w = .ok (.tuple #[tmps.getD t undef, tmps.getD u undef, tmps.getD v undef, tmps.getD x undef]) w := by simp [results, h]

/-- some memory of at most 20 numbers. -/
def SomeMem (D c : Nat) (w : World) (e : Ending) (w' : World) : Prop := ∃ (v : Value) (l : List Int), e = .returned v ∧ l.length ≤ 20 ∧ OwnI w.heap.size v l w' ∧ CuD D c w' ∧ Only c w w'
theorem value_any (D c : Nat) (k : Int) (w : World) (h : CuD D c w) : Calls Try.prog 32 #[.pointer (some ⟨c, 0, none⟩), .int .i64 k] w (DrewD (fun _ => True) D c w) := by
  have hlb := limW_bd k
  generalize hl : limW k = y at hlb
  have Hl := Lib.hid hl
  clear hl
  go_enter Try.func32, Try.ntmps32
  go_wp2_with fail
  refine (belowC D c 256 (by omega) (by omega) _ h).mono ?_
  rintro e w1 ⟨x1, h1, rfl, hC1, hO1⟩
  go_wp2_with fail
  refine (specLimit _ _).mono ?_
  rintro e w' ⟨rfl, rfl⟩
  rw [Hl.out]
  go_wp2_with fail
  all_goals
    refine (belowC D c _ (by omega) (by omega) _ hC1).mono ?_
    rintro e w2 ⟨x2, h2, rfl, hC2, hO2⟩
    have hO02 := hO1.trans hO2
    go_wp2_with fail
    refine (specLimit _ _).mono ?_
    rintro e w' ⟨rfl, rfl⟩
    rw [Hl.out]
    go_wp2_with fail
    refine (specLimit _ _).mono ?_
    rintro e w' ⟨rfl, rfl⟩
    rw [Hl.out]
    go_wp2_with fail
    refine (pickLit D c [x1, x2, y - 1, y, 0, -1] 6 rfl (by omega) (by omega) _ hC2 _ rfl).mono ?_
    rintro e w3 ⟨x3, h3, rfl, hC3, hO3⟩
    clear h3
    go_wp2
    go_ret
    exact ⟨x3, trivial, rfl, hC3, hO02.trans hO3⟩
def FourM (w : World) (e : Ending) (w' : World) : Prop := ∃ (v : Value) (l : List Int) (x y z : Int), e = .returned (.tuple #[v, .int .i64 x, .int .i64 y, .int .i64 z]) ∧ l.length ≤ 20 ∧ OwnI w.heap.size v l w' ∧ Below w.heap.size w w'
def FourI (w : World) (e : Ending) (w' : World) : Prop := ∃ x y z u : Int, e = .returned (.tuple #[.int .i64 x, .int .i64 y, .int .i64 z, .int .i64 u]) ∧ Below w.heap.size w w'
end Go.Proofs.Ytbhmfjblmcppbaa.Cur
