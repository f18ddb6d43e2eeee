
/-
  What Dec's model returns, whatever the world: the decimal numeral.
-/
import Derived.Test.YtfpnflhkfpolcaaGreatDoorBytes
import Derived.Lib.ItoaNum
import Derived.Lib.ItoaMem
import Derived.Lib.ItoaLen
namespace Go.Proofs.YtfpnflhkfpolcaaGreatDoor.Num
open Go.RowKit Bytes

theorem decDigits_small {u : Nat} (h : u < 10) : Lib.decDigits u = [UInt8.ofNat (48 + u % 10)] := by rw [Lib.decDigits, dif_pos h, Nat.mod_eq_of_lt h]
theorem decDigits_big {u : Nat} (h : ¬ u < 10) : Lib.decDigits u = Lib.decDigits (u / 10) ++ [UInt8.ofNat (48 + u % 10)] := by rw [Lib.decDigits, dif_neg h]
/-- l is what the loop has of N's numeral when q is left. -/
def DecTo (N q : Nat) (l : List UInt8) : Prop := (q = 0 ∧ l = Lib.decDigits N) ∨ (0 < q ∧ Lib.decDigits q ++ l = Lib.decDigits N)
theorem DecTo.step {N q : Nat} {l : List UInt8} (h : DecTo N q l) (hq : 0 < q) : DecTo N (q / 10) (UInt8.ofNat (48 + q % 10) :: l) := by
  rcases h with ⟨h0, _⟩ | ⟨_, h⟩
  · omega
  · by_cases hs : q < 10
    · exact .inl ⟨by omega, by rw [← h, decDigits_small hs]; rfl⟩
    · exact .inr ⟨by omega, by rw [← h, decDigits_big hs, List.append_assoc]; rfl⟩
theorem decDigits_len (N : Nat) (h : N ≤ 9223372036854775808) : (Lib.decDigits N).length ≤ 21 := by
  have := Lib.itoa_length_le (-(N : Int)) (by omega) (by omega)
  unfold Lib.itoa at this
  split at this
  · simp at this; omega
  · rename_i h0
    have : N = 0 := by omega
    subst this; simp [Lib.decDigits]
theorem DecTo.len {N q : Nat} {l : List UInt8} (h : DecTo N q l) (hN : N ≤ 9223372036854775808) : l.length ≤ 21 := by
  have := decDigits_len N hN
  rcases h with ⟨_, rfl⟩ | ⟨_, h⟩
  · exact this
  · rw [← h] at this; simp at this; omega

set_option maxRecDepth 100000 in
theorem specDec_zero (w : World) :
    Calls Tryz.prog 25 #[.int .i64 0] w fun e w' => e = .returned (.string ⟨(Lib.itoa 0).toArray⟩) ∧ Below w.heap.size w w' := by
  have He := Lib.hid (show (⟨#[48]⟩ : ByteArray) = ⟨(Lib.itoa 0).toArray⟩ by simp [Lib.itoa, Lib.decDigits])
  go_enter Tryz.func25, Tryz.ntmps25
  go_wp2
  go_ret
  exact ⟨by rw [← He.out]; rfl, Below.refl _ _⟩
set_option maxRecDepth 100000 in
theorem specDec_pos (N : Nat) (h0 : 0 < N) (hN : N ≤ 9223372036854775807) (w : World) :
    Calls Tryz.prog 25 #[.int .i64 N] w fun e w' => e = .returned (.string ⟨(Lib.itoa N).toArray⟩) ∧ Below w.heap.size w w' := by
  have hz : ((N : Int) == 0) = false := by rw [beq_eq_false_iff_ne]; omega
  have hneg : decide ((N : Int) < 0) = false := by simp
  go_enter Tryz.func25, Tryz.ntmps25
  go_wp2
  go_loopw [0, 3] (fun x o wr => ∃ (q : Nat) (l : List UInt8), x = .int .i64 q ∧ q ≤ 9223372036854775807 ∧ o = .string ⟨l.toArray⟩ ∧ DecTo N q l ∧ Below w.heap.size w wr) (fun x _ _ => (intOf x).toNat)
  case atStart => exact ⟨N, [], rfl, hN, rfl, .inr ⟨h0, by simp⟩, Below.refl _ _⟩
  case round =>
    obtain ⟨q, l, rfl, hq, rfl, hl, hb⟩ := hrel
    have hlen := hl.len (by omega)
    have Hl := Lib.hid hl
    clear hl
    by_cases hq0 : 0 < q
    · have ht : ((q : Int) == 0) = false := by rw [beq_eq_false_iff_ne]; omega
      have ht2 : ((q : Int) != 0) = true := by rw [bne_iff_ne]; omega
      have hcv := str_one
      go_wp2
      go_roundw
      case rel => exact ⟨q / 10, UInt8.ofNat (48 + q % 10) :: l, rfl, by omega, by rw [← str_cons, UInt8.ofNat_add]; rfl, Hl.out.step hq0, hb.alloc hb.size _⟩
      case measure => simp [intOf]; omega
    · have hq1 : q = 0 := by omega
      subst hq1
      have He := Lib.hid (show Value.string ⟨l.toArray⟩ = .string ⟨(Lib.itoa N).toArray⟩ by
        rcases Hl.out with ⟨_, rfl⟩ | ⟨h, _⟩
        · rw [Lib.itoa_nonneg]
        · omega)
      go_wp2
      go_ret
      exact ⟨congrArg Ending.returned He.out, hb⟩
set_option maxRecDepth 100000 in
theorem specDec_neg (N : Nat) (h0 : 0 < N) (hN : N ≤ 9223372036854775808) (w : World) :
    Calls Tryz.prog 25 #[.int .i64 (-(N : Int))] w fun e w' => e = .returned (.string ⟨(Lib.itoa (-(N : Int))).toArray⟩) ∧ Below w.heap.size w w' := by
  have hz : ((-(N : Int)) == 0) = false := by rw [beq_eq_false_iff_ne]; omega
  have hz2 : (-(N : Int)) < 0 := by omega
  go_enter Tryz.func25, Tryz.ntmps25
  go_wp2
  go_loopw [0, 3] (fun x o wr => ∃ (q : Nat) (l : List UInt8) (y : Int), x = .int .i64 y ∧ y = -(q : Int) ∧ q ≤ 9223372036854775808 ∧ o = .string ⟨l.toArray⟩ ∧ DecTo N q l ∧ Below w.heap.size w wr) (fun x _ _ => (- intOf x).toNat)
  case atStart => exact ⟨N, [], _, rfl, rfl, hN, rfl, .inr ⟨h0, by simp⟩, Below.refl _ _⟩
  case round =>
    obtain ⟨q, l, y, rfl, hy, hq, rfl, hl, hb⟩ := hrel
    have hlen := hl.len (by omega)
    have Hl := Lib.hid hl
    have Hy := Lib.hid hy
    have hy1 : y ≤ 0 := by omega
    have hy2 : -9223372036854775808 ≤ y := by omega
    clear hl
    by_cases hq0 : 0 < q
    · have ht : (y == 0) = false := by rw [beq_eq_false_iff_ne]; omega
      have ht2 : (y != 0) = true := by rw [bne_iff_ne]; omega
      have hyn : y = -(q : Int) := hy
      obtain ⟨r, hr, hr9⟩ : ∃ r : Nat, r = q % 10 ∧ r ≤ 9 := ⟨_, rfl, by omega⟩
      have h1 : y.tmod 10 = -(r : Int) := by rw [hy, Int.neg_tmod, Int.tmod_eq_emod_of_nonneg (by omega), hr]; simp
      have h2 : y.tdiv 10 = -((q / 10 : Nat) : Int) := by rw [hy, Int.neg_tdiv, Int.tdiv_eq_ediv_of_nonneg (by omega)]; simp
      obtain ⟨z, hz, hz0, hz1⟩ : ∃ z : Int, z = -((q / 10 : Nat) : Int) ∧ z ≤ 0 ∧ -9223372036854775808 ≤ z := ⟨_, rfl, by omega, by omega⟩
      rw [← hz] at h2
      have Hz := Lib.hid hz
      have Hr := Lib.hid hr
      clear hy hyn hz hr
      have hcv := str_one
      by_cases hr0 : r = 0
      · subst hr0
        simp only [Int.natCast_zero, Int.neg_zero] at h1
        go_wp2
        go_roundw
        case rel => exact ⟨q / 10, UInt8.ofNat (48 + q % 10) :: l, z, rfl, Hz.out, by omega, by rw [← str_cons, ← Hr.out]; rfl, Hl.out.step hq0, hb.alloc hb.size _⟩
        case measure => have h3 := Hz.out; have h4 := Hy.out; simp [intOf]; omega
      · have hr1 : -(r : Int) < 0 := by omega
        go_wp2
        go_roundw
        case rel => exact ⟨q / 10, UInt8.ofNat (48 + q % 10) :: l, z, rfl, Hz.out, by omega, by rw [← str_cons, ← Hr.out, UInt8.ofNat_add]; rfl, Hl.out.step hq0, hb.alloc hb.size _⟩
        case measure => have h3 := Hz.out; have h4 := Hy.out; simp [intOf]; omega
    · have hq1 : q = 0 := by omega
      subst hq1
      obtain rfl : y = 0 := by omega
      have He := Lib.hid (show Value.string (⟨#[45]⟩ ++ ⟨l.toArray⟩) = .string ⟨(Lib.itoa (-(N : Int))).toArray⟩ by
        rcases Hl.out with ⟨_, rfl⟩ | ⟨h, _⟩
        · rw [Lib.itoa_neg _ h0, str_cons]
        · omega)
      clear hy
      go_wp2
      go_ret
      exact ⟨congrArg Ending.returned He.out, hb⟩
theorem specDec_any (n : Int) (h0 : -9223372036854775808 ≤ n) (h1 : n ≤ 9223372036854775807) (w : World) :
    Calls Tryz.prog 25 #[.int .i64 n] w fun e w' => e = .returned (.string ⟨(Lib.itoa n).toArray⟩) ∧ Below w.heap.size w w' := by
  rcases Int.lt_trichotomy n 0 with h | h | h
  · obtain ⟨N, hN⟩ := Int.eq_ofNat_of_zero_le (show 0 ≤ -n by omega)
    obtain rfl : n = -(N : Int) := by omega
    exact specDec_neg N (by omega) (by omega) w
  · subst h; exact specDec_zero w
  · obtain ⟨N, rfl⟩ := Int.eq_ofNat_of_zero_le (show 0 ≤ n by omega)
    exact specDec_pos N (by omega) (by omega) w
end Go.Proofs.YtfpnflhkfpolcaaGreatDoor.Num
