
/-
  What Fixed returns, for the program and for its model, whatever the world.
-/
import Derived.Test.YtilbaooancgodaaDoorNum
import Derived.Test.YtilbaooancgodaaDoorShelfB
import Derived.Test.YtilbaooancgodaaDoorBytes
namespace Go.Proofs.YtilbaooancgodaaDoor.Num
open Go.RowKit Bytes

/-- the lowest i bytes of n, the most significant one first. -/
def fx (n : Nat) : Nat → List UInt8
  | 0 => []
  | i + 1 => UInt8.ofNat (n / 256 ^ i % 256) :: fx n i
theorem fx_length (n i : Nat) : (fx n i).length = i := by
  induction i with
  | zero => rfl
  | succ i ih => simp [fx, ih]
/-- n as m bytes, the most significant one first; nothing where it needs more of them. -/
def fixedL (n m : Nat) : List UInt8 := if n / 256 ^ m = 0 then fx n m else []
theorem fixedL_fits {n m : Nat} (h : n / 256 ^ m = 0) : fixedL n m = fx n m := if_pos h
theorem fixedL_not {n m : Nat} (h : n / 256 ^ m ≠ 0) : fixedL n m = [] := if_neg h
theorem pow8 (n k : Nat) : (n : Int) / 2 ^ (8 * k) = ((n / 256 ^ k : Nat) : Int) := by
  rw [Int.pow_mul]; simp

theorem implFixed_no (n k : Int) (h : k < 1 ∨ 7 < k ∨ n < 0) (w : World) :
    Calls Tryd.prog 22 #[.int .i64 n, .int .i64 k] w fun e w' => e = .returned (.string ⟨#[]⟩) ∧ w = w' := by
  by_cases hk : k < 1 ∨ 7 < k
  · go_enter Tryd.func22, Tryd.ntmps22
    go_wp2_with (go_at_call 62; refine (wOk_no _ (by omega) _).mono ?_; rintro e w' ⟨rfl, rfl⟩)
    go_ret
    exact ⟨rfl, rfl⟩
  · have hk' : n < 0 := by omega
    go_enter Tryd.func22, Tryd.ntmps22
    go_wp2_with (go_at_call 62; refine (wOk_yes _ (by omega) (by omega) _).mono ?_; rintro e w' ⟨rfl, rfl⟩)
    go_ret
    exact ⟨rfl, rfl⟩
theorem implFixed_any (n : Nat) (m : Nat) (h1 : 1 ≤ m) (h2 : m ≤ 7) (w : World) :
    Calls Tryd.prog 22 #[.int .i64 n, .int .i64 m] w fun e w' => e = .returned (.string ⟨(fixedL n m).toArray⟩) ∧ Below w.heap.size w w' := by
  by_cases hz : n / 256 ^ m = 0
  · have hz' : ((n : Int) / 2 ^ (8 * m) != 0) = false := by rw [pow8, hz]; rfl
    have Hz := Lib.hid hz
    clear hz
    go_enter Tryd.func22, Tryd.ntmps22
    go_wp2_with (go_at_call 62; refine (wOk_yes _ (by omega) (by omega) _).mono ?_; rintro e w' ⟨rfl, rfl⟩)
    go_loopw [6] (fun i wr => ∃ (x : Int) (l : List UInt8), -1 ≤ x ∧ x < m ∧ i = .int .i64 x ∧ l ++ fx n (x + 1).toNat = fx n m ∧ Lib.IsBuilder 76 5 w.heap.size w.heap.size (Lib.byteCells l) wr ∧ Below w.heap.size w wr) (fun i _ => (intOf i + 1).toNat)
    case atStart => exact ⟨m - 1, [], by omega, by omega, rfl, by rw [show ((m : Int) - 1 + 1).toNat = m by omega]; rfl, Lib.fresh_isBuilder _ _ _, (Below.refl _ _).alloc (Nat.le_refl _) _⟩
    case round =>
      obtain ⟨x, l, hx1, hx2, rfl, hl, hbd, hb⟩ := hrel
      have Hl := Lib.hid hl
      have hlen : l.length ≤ 7 := by have := congrArg List.length hl; simp [fx_length] at this; omega
      clear hl
      by_cases hx : 0 ≤ x
      · obtain ⟨q, rfl⟩ := Int.eq_ofNat_of_zero_le hx
        have hnext : Lib.byteCells l ++ [Value.int .u8 ((n : Int) / 2 ^ (8 * q) % 256)] = Lib.byteCells (l ++ [UInt8.ofNat (n / 256 ^ q % 256)]) := by
          rw [pow8, Lib.byteCells_append]; exact congrArg (fun v => Lib.byteCells l ++ [Value.int .u8 v]) (u8_ofNat _ (Nat.mod_lt _ (by decide)))
        have Hn := Lib.hid hnext
        clear hnext
        go_wp2_with fail
        refine (Tryd.Builder_WriteByte _ _ _ _ _ hbd (by rw [Lib.byteCells_length]; omega) hb.size).mono ?_
        rintro e w1 ⟨rfl, hbd1, hb1⟩
        rw [Hn.out] at hbd1
        go_wp2
        go_roundw
        case rel => exact ⟨(q : Int) - 1, l ++ [UInt8.ofNat (n / 256 ^ q % 256)], by omega, by omega, rfl, by rw [← Hl.out, show ((q : Int) - 1 + 1).toNat = q by omega, show ((q : Int) + 1).toNat = q + 1 by omega, List.append_assoc]; rfl, .inr hbd1, hb.trans hb1⟩
        case measure => simp [intOf]
      · obtain rfl : x = -1 := by omega
        go_wp2_with fail
        refine (Tryd.Builder_String _ _ _ _ hbd hb.size).mono ?_
        rintro e w1 ⟨rfl, hb1⟩
        go_wp2
        go_ret
        exact ⟨by rw [fixedL_fits Hz.out, ← Hl.out]; simp [fx], hb.trans hb1⟩
  · have hz' : ((n : Int) / 2 ^ (8 * m) != 0) = true := by rw [pow8, bne_iff_ne]; omega
    have Hz := Lib.hid hz
    clear hz
    go_enter Tryd.func22, Tryd.ntmps22
    go_wp2_with (go_at_call 62; refine (wOk_yes _ (by omega) (by omega) _).mono ?_; rintro e w' ⟨rfl, rfl⟩)
    go_ret
    exact ⟨by rw [fixedL_not Hz.out]; rfl, Below.refl _ _⟩
end Go.Proofs.YtilbaooancgodaaDoor.Num
