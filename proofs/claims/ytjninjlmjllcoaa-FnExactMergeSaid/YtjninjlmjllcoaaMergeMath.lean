
/-
  Bits put into lanes, in plain numbers.
-/
import Derived.Laws.BitsLemmas
namespace Go.Proofs.Ytjninjlmjllcoaa.Num
theorem putBits (x v s t : Nat) (hx : x < 2 ^ 64) (hv : v < 2 ^ t) (hm : (2 ^ t - 1) * 2 ^ s < 2 ^ 64) :
    (x &&& (2 ^ 64 - ((2 ^ t - 1) * 2 ^ s + 1))) ||| (v * 2 ^ s) = 2 ^ s * (2 ^ t * (x / 2 ^ (s + t)) + v) + x % 2 ^ s := by
  refine Nat.eq_of_testBit_eq fun i => ?_
  have hr : x % 2 ^ s < 2 ^ s := Nat.mod_lt _ (Nat.two_pow_pos s)
  rw [Nat.testBit_or, Nat.testBit_and, Nat.testBit_two_pow_sub_succ hm, Nat.testBit_two_pow_mul_add _ hr, Nat.testBit_mul_two_pow, Nat.testBit_mul_two_pow, Nat.testBit_two_pow_sub_one]
  by_cases h1 : i < s
  · have h2 : ¬ s ≤ i := by omega
    rw [if_pos h1, Nat.testBit_mod_two_pow]
    by_cases h3 : i < 64
    · simp [h1, h2, h3]
    · have hz : x.testBit i = false := Nat.testBit_lt_two_pow (Nat.lt_of_lt_of_le hx (Nat.pow_le_pow_right (by decide) (by omega)))
      simp [h2, hz]
  · have h2 : s ≤ i := by omega
    rw [if_neg h1, Nat.testBit_two_pow_mul_add _ hv]
    by_cases h4 : i - s < t
    · simp [h2, h4]
    · have hz : v.testBit (i - s) = false := Nat.testBit_lt_two_pow (Nat.lt_of_lt_of_le hv (Nat.pow_le_pow_right (by decide) (by omega)))
      rw [if_neg h4, Nat.testBit_div_two_pow, show i - s - t + (s + t) = i by omega]
      by_cases h3 : i < 64
      · simp [h2, h3, h4, hz]
      · have hz2 : x.testBit i = false := Nat.testBit_lt_two_pow (Nat.lt_of_lt_of_le hx (Nat.pow_le_pow_right (by decide) (by omega)))
        simp [hz, hz2]
theorem mergeBits (x v : Int) (s t : Nat) (hx0 : 0 ≤ x) (hx : x < 4294967296) (hv0 : 0 ≤ v) (hv : v < 2 ^ t) (hst : s + t ≤ 32) :
    bits .or .i64 (bits .andNot .i64 x ((2 ^ t - 1) * 2 ^ s)) (v * 2 ^ s) = x - x / 2 ^ s % 2 ^ t * 2 ^ s + v * 2 ^ s := by
  obtain ⟨a, rfl⟩ := Int.eq_ofNat_of_zero_le hx0
  obtain ⟨b, rfl⟩ := Int.eq_ofNat_of_zero_le hv0
  have hb : b < 2 ^ t := by exact_mod_cast hv
  have hps : 0 < 2 ^ s := Nat.two_pow_pos s
  have hpt : 0 < 2 ^ t := Nat.two_pow_pos t
  have hpst : 2 ^ s * 2 ^ t ≤ 4294967296 := by rw [← Nat.pow_add]; exact Nat.pow_le_pow_right (by decide) hst
  have hm : (2 ^ t - 1) * 2 ^ s < 4294967296 := by
    rw [Nat.sub_mul, Nat.mul_comm (2 ^ t)]; omega
  have hbs : b * 2 ^ s < 4294967296 := by
    have : b * 2 ^ s ≤ (2 ^ t - 1) * 2 ^ s := Nat.mul_le_mul_right _ (by omega)
    omega
  have e1 : ((2 : Int) ^ t - 1) * 2 ^ s = (((2 ^ t - 1) * 2 ^ s : Nat) : Int) := by
    rw [Int.natCast_mul, Int.natCast_sub hpt]; simp
  have e2 : (b : Int) * 2 ^ s = ((b * 2 ^ s : Nat) : Int) := by simp
  rw [e1, e2]
  have ha64 : a < 2 ^ 64 := by omega
  generalize hM : (2 ^ t - 1) * 2 ^ s = M at hm
  have k1 : bits .andNot .i64 (a : Int) (M : Int) = ((a &&& (2 ^ 64 - (M + 1)) : Nat) : Int) := by
    have hle : a &&& (2 ^ 64 - (M + 1)) ≤ a := Nat.and_le_left
    show IntKind.i64.wrap ((BitVec.ofInt 64 (a : Int) &&& ~~~ BitVec.ofInt 64 (M : Int)).toNat : Int) = _
    rw [BitVec.toNat_and, BitVec.toNat_not, BitVec.ofInt_natCast, BitVec.ofInt_natCast, BitVec.toNat_ofNat, BitVec.toNat_ofNat, Nat.mod_eq_of_lt ha64, Nat.mod_eq_of_lt (show M < 2 ^ 64 by omega), show 2 ^ 64 - 1 - M = 2 ^ 64 - (M + 1) by omega, IntKind.wrap_i64]
    omega
  rw [k1]
  have hle : a &&& (2 ^ 64 - (M + 1)) ≤ a := Nat.and_le_left
  have k2 := (bits_nat .i64 63 (by decide) (fun n h0 h1 => by rw [IntKind.wrap_i64]; omega) (a &&& (2 ^ 64 - (M + 1))) (b * 2 ^ s) (by omega) (by omega)).2
  rw [k2, ← hM, putBits a b s t ha64 hb (by omega)]
  have d1 := Nat.div_add_mod a (2 ^ s)
  have d2 := Nat.div_add_mod (a / 2 ^ s) (2 ^ t)
  rw [Nat.div_div_eq_div_mul, ← Nat.pow_add] at d2
  have e3 : (a : Int) / 2 ^ s % 2 ^ t * 2 ^ s = ((a / 2 ^ s % 2 ^ t * 2 ^ s : Nat) : Int) := by simp
  rw [e3]
  have e4 : 2 ^ s * (2 ^ t * (a / 2 ^ (s + t)) + b) = 2 ^ s * (2 ^ t * (a / 2 ^ (s + t))) + b * 2 ^ s := by rw [Nat.mul_add, Nat.mul_comm _ b]
  have e5 : 2 ^ s * (a / 2 ^ s) = 2 ^ s * (2 ^ t * (a / 2 ^ (s + t))) + a / 2 ^ s % 2 ^ t * 2 ^ s := by
    conv => lhs; rw [← d2]
    rw [Nat.mul_add, Nat.mul_comm _ (a / 2 ^ s % 2 ^ t)]
  rw [e4]
  generalize 2 ^ s * (2 ^ t * (a / 2 ^ (s + t))) = p at *
  generalize a / 2 ^ s % 2 ^ t * 2 ^ s = q at *
  omega
end Go.Proofs.Ytjninjlmjllcoaa.Num
