
/-
  What the laws' size tests return, whatever is left.
-/
import Derived.Test.YtccgoggkpfaloaaDoorReq
namespace Go.Proofs.YtccgoggkpfaloaaDoor.Num
open Go.RowKit Rows3

/-- what szReq leaves of L. -/
def szL (L : Int) (n : Nat) : Int := if (n : Int) ≤ L then L - (n : Int) else -1
theorem szL_yes {L : Int} {n : Nat} (h : (n : Int) ≤ L) : szL L n = L - (n : Int) := if_pos h
theorem szL_no {L : Int} {n : Nat} (h : L < (n : Int)) : szL L n = -1 := if_neg (by omega)
theorem szIL_any (v : Value) (L : Int) (n : Nat) (w : World) (hv : ∃ ad cap, v = .slice ad n cap) (h0 : 0 ≤ L) (h1 : L ≤ 1048576) (hl : n ≤ 9223372036854775807) :
    Calls Tryd.prog 14 #[v, .int .i64 L] w fun e w' => e = .returned (.int .i64 (szL L n)) ∧ w = w' := by
  obtain ⟨ad, cap, rfl⟩ := hv
  by_cases h : (n : Int) ≤ L
  · have He := Lib.hid (szL_yes h)
    have h2 : ¬ L - (n : Int) < 0 := by omega
    go_enter Tryd.func14, Tryd.ntmps14
    go_wp2
    go_ret
    exact ⟨by rw [He.out]; rfl, rfl⟩
  · have He := Lib.hid (szL_no (by omega : L < (n : Int)))
    have h2 : L - (n : Int) < 0 := by omega
    go_enter Tryd.func14, Tryd.ntmps14
    go_wp2
    go_ret
    exact ⟨by rw [He.out]; rfl, rfl⟩
theorem szReqL_any (q : Bool) (x y z : Int) (k : Bool) (v : Value) (L : Int) (n : Nat) (w : World) (hv : ∃ ad cap, v = .slice ad n cap) (h0 : 0 ≤ L) (h1 : L ≤ 1048576) (hl : n ≤ 9223372036854775807) :
    Calls Tryd.prog 5 #[.agg #[.bool q, .int .i64 x, .int .i64 y, .int .i64 z, .bool k, v], .int .i64 L] w fun e w' => e = .returned (.int .i64 (szL L n)) ∧ Below w.heap.size w w' := by
  obtain ⟨ad, cap, rfl⟩ := hv
  obtain ⟨m, hm⟩ : ∃ m : Int, szL L n = m := ⟨_, rfl⟩
  have hm0 : -1 ≤ m := by rw [← hm]; unfold szL; split <;> omega
  have hm1 : m ≤ 1048576 := by rw [← hm]; unfold szL; split <;> omega
  have Hm := Lib.hid hm
  rw [hm]
  clear hm
  by_cases h : m < 0
  · obtain rfl : m = -1 := by omega
    go_enter Tryd.func5, Tryd.ntmps5
    go_wp2_with (go_at_call 14; refine (szIL_any _ L n _ ⟨_, _, rfl⟩ h0 h1 hl).mono ?_; rintro e w' ⟨rfl, rfl⟩; rw [Hm.out])
    go_ret
    exact ⟨rfl, (Below.refl _ _).alloc (Nat.le_refl _) _⟩
  · go_enter Tryd.func5, Tryd.ntmps5
    go_wp2_with (go_at_call 14; refine (szIL_any _ L n _ ⟨_, _, rfl⟩ h0 h1 hl).mono ?_; rintro e w' ⟨rfl, rfl⟩; rw [Hm.out])
    go_ret
    exact ⟨rfl, (Below.refl _ _).alloc (Nat.le_refl _) _⟩
theorem Blk.drew {T : TypeId} {b : Nat} {c0 c1 c2 c3 c4 c5 : Value} {w : World} (h : Blk T b c0 c1 c2 c3 c4 c5 w) : Blk T b c0 c1 c2 c3 c4 c5 w.drew := h
theorem rdI_drew {v : Value} {l : List Int} {w : World} (h : RdI v l w) : RdI v l w.drew := h
end Go.Proofs.YtccgoggkpfaloaaDoor.Num
