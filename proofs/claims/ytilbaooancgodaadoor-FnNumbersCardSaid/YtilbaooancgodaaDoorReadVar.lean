
/-
  What ReadVar returns, for the program and for its model, whatever the world.
-/
import Derived.Test.YtilbaooancgodaaDoorVarMath
import Derived.Deep.RegionWith
import Derived.Lib.Strings
namespace Go.Proofs.YtilbaooancgodaaDoor.Num
open Go.RowKit Bytes

theorem len_toL (s : ByteArray) : s.data.toList.length = s.size := by simp
theorem le_drop (s : ByteArray) (k q : Nat) (h : q < k) (hq : q < s.size) : le ((s.data.toList.take k).drop q) = s[q].toNat % 128 + 128 * le ((s.data.toList.take k).drop (q + 1)) := by
  rw [List.drop_eq_getElem_cons (by simp; omega), le]; simp; rfl
theorem le_drop_lt (s : ByteArray) (k q : Nat) (h : k ≤ 7) : le ((s.data.toList.take k).drop q) < 562949953421312 :=
  Nat.lt_of_lt_of_le (le_lt _) (Nat.le_trans (Nat.pow_le_pow_right (by decide) (show ((s.data.toList.take k).drop q).length ≤ 7 by simp; omega)) (by decide))

theorem take_len (s : ByteArray) (k : Nat) (h : k < s.size) : (s.data.toList.take k).length = k := by simp; omega
theorem le_take_succ (s : ByteArray) (k : Nat) (h : k < s.size) : le (s.data.toList.take (k + 1)) = le (s.data.toList.take k) + s[k].toNat % 128 * 128 ^ k := by
  rw [take_snoc s k h, le_snoc, take_len s k h]
theorem getD_of (s : ByteArray) (k : Nat) (h : k < s.size) : s.data.toList.getD k 0 = s[k] := by
  simp [List.getD, h]; rfl
theorem le_take_lt' (s : ByteArray) (k : Nat) (h : k ≤ 7) : le (s.data.toList.take k) < 562949953421312 := le_take_lt _ _ h
theorem wrap64_id {n : Int} (h0 : 0 ≤ n) (h1 : n < 9223372036854775808) : wrap64 n = n := by unfold wrap64; omega
theorem bits_or_comm (k : IntKind) (x y : Int) : bits .or k x y = bits .or k y x := by simp [bits, BitVec.or_comm]
theorem or7 (a c k : Nat) (hk : k ≤ 6) (ha : a < 128 ^ k) (hc : c < 256) : bits .or .i64 (a : Int) (wrap64 (wrap64 (bits .and .u8 (c : Int) 127) * 2 ^ (7 * k))) = ((a + c % 128 * 128 ^ k : Nat) : Int) := by
  have h1 : bits .and .u8 (c : Int) 127 = (c : Int) % 128 := bits_mask .u8 8 (by decide) wraps_u8 7 (by decide) (c : Int) (by omega) (by omega)
  have hp : (2 : Int) ^ (7 * k) = ((128 ^ k : Nat) : Int) := by rw [Int.pow_mul]; simp
  have hk6 : 128 ^ k ≤ 4398046511104 := Nat.le_trans (Nat.pow_le_pow_right (by decide) hk) (by decide)
  have hm : c % 128 * 128 ^ k ≤ 127 * 4398046511104 := Nat.mul_le_mul (by omega) hk6
  have hpos : 0 < 128 ^ k := Nat.pow_pos (by decide)
  rw [h1, hp]
  have e1 : wrap64 ((c : Int) % 128) = ((c % 128 : Nat) : Int) := by rw [wrap64_id (by omega) (by omega)]; simp
  rw [e1, ← Int.natCast_mul]
  have e2 : wrap64 ((c % 128 * 128 ^ k : Nat) : Int) = ((c % 128 * 128 ^ k : Nat) : Int) := wrap64_id (by omega) (by omega)
  rw [e2, bits_or_comm]
  have h3 : ((c % 128 * 128 ^ k : Nat) : Int) % 2 ^ (7 * k) = 0 := by rw [hp, ← Int.natCast_emod, Nat.mul_mod_left]; rfl
  rw [bits_join .i64 63 (by decide) wraps_i64 (7 * k) _ _ (by omega) h3 (by omega) (by omega) (by rw [hp]; omega) (by omega)]
  omega
set_option maxRecDepth 100000 in
theorem implReadVar_any (s : ByteArray) (hs : s.size ≤ maxLen) (w : World) :
    Calls Tryd.prog 21 #[.string s] w fun e w' => ∃ r k, e = .returned (.tuple #[.int .i64 (r : Nat), .int .i64 (k : Nat)]) ∧ Reads s.data.toList r k ∧ Below w.heap.size w w' := by
  unfold maxLen at hs
  obtain ⟨m, hm, hm7, hms, hmm⟩ : ∃ m : Nat, min (s.size : Int) 7 = m ∧ m ≤ 7 ∧ m ≤ s.size ∧ (m = 7 ∨ m = s.size) := ⟨min s.size 7, by omega, by omega, by omega, by omega⟩
  go_enter Tryd.func21, Tryd.ntmps21
  go_wp2
  go_loop [9, 4] (fun i n => ∃ k : Nat, k ≤ m ∧ i = .int .i64 k ∧ n = .int .i64 (le (s.data.toList.take k)) ∧ (∀ j, j < k → 128 ≤ (s.data.toList.getD j 0).toNat)) (fun i _ => m - (intOf i).toNat)
  case atStart => exact ⟨0, by omega, rfl, rfl, by omega⟩
  case round =>
    obtain ⟨k, hk, rfl, rfl, hall⟩ := hrel
    have Hall := Lib.hid hall
    clear hall
    by_cases hlt : k < m
    · have hks : k < s.size := by omega
      have hb8 : s[k].toNat < 256 := s[k].toNat_lt
      have hget : s.data.toList.getD k 0 = s[k] := getD_of s k hks
      have Hget := Lib.hid hget
      clear hget
      have hlk := le_take_lt' s k (by omega)
      have hlk1 := le_take_lt' s (k + 1) (by omega)
      have hor := or7 (le (s.data.toList.take k)) s[k].toNat k (by omega) (by have := le_lt (s.data.toList.take k); rwa [take_len s k hks] at this) hb8
      rw [← le_take_succ s k hks] at hor
      generalize hN1 : le (s.data.toList.take (k + 1)) = N1 at hor hlk1
      generalize hN0 : le (s.data.toList.take k) = N0 at hor hlk ⊢
      have HN1 := Lib.hid hN1
      clear hN1 hN0
      have hsz : k + 1 ≤ s.size := by omega
      by_cases hc : s[k].toNat < 128
      · have hcc : ¬ 128 ≤ s[k].toNat := by omega
        go_wp2_with fail
        clear hor
        by_cases hv : IsVar s.data.toList (k + 1)
        · have heq : (varL N1 == (s.extract 0 (k + 1)).toList) = true := by
            rw [beq_iff_eq, Lib.extract_toList, ← HN1.out, List.drop_zero, Nat.sub_zero]; exact hv
          have heq2 : (!(varL N1 == (s.extract 0 (k + 1)).toList)) = false := by rw [heq]; rfl
          have Hv := Lib.hid hv
          clear hv
          have g1 : IntKind.i64.wrap ((k : Int) + 1) = (k : Int) + 1 := IntWalk.i64_in _ (by omega)
          have g2 : (0 : Int) ≤ (k : Int) + 1 := by omega
          have g3 : ((k : Int) + 1).toNat = k + 1 := by omega
          have g4 : (k : Int) + 1 ≤ s.size := by omega
          go_region_with (go_at_call 20; refine (implVar_any N1 (by omega) _).mono ?_; rintro e w1 ⟨rfl, hb1⟩)
          clear g1 g3
          all_goals
            go_wp2
            go_ret2
            refine ⟨N1, k + 1, by first | rfl | (congr 1), .inl ⟨by omega, by omega, by rw [len_toL]; exact hsz, Hv.out, HN1.out.symm, fun j h1 h2 hj => ?_⟩, (Below.refl _ _).drew.trans hb1⟩
            have := (isVar_bytes h1 (by omega) (by rw [len_toL]; omega) hj).1
            have := Hall.out (j - 1) (by omega)
            omega
        · have heq : (varL N1 == (s.extract 0 (k + 1)).toList) = false := by
            rw [beq_eq_false_iff_ne, ne_eq, Lib.extract_toList, ← HN1.out, List.drop_zero, Nat.sub_zero]; exact hv
          have heq2 : (!(varL N1 == (s.extract 0 (k + 1)).toList)) = true := by rw [heq]; rfl
          have Hv := Lib.hid hv
          clear hv
          have g1 : IntKind.i64.wrap ((k : Int) + 1) = (k : Int) + 1 := IntWalk.i64_in _ (by omega)
          have g2 : (0 : Int) ≤ (k : Int) + 1 := by omega
          have g3 : ((k : Int) + 1).toNat = k + 1 := by omega
          have g4 : (k : Int) + 1 ≤ s.size := by omega
          go_region_with (go_at_call 20; refine (implVar_any N1 (by omega) _).mono ?_; rintro e w1 ⟨rfl, hb1⟩)
          clear g1 g3
          all_goals
            go_wp2
            go_ret2
            refine ⟨0, 0, rfl, .inr ⟨rfl, rfl, fun j h1 h7 h3 hj => ?_⟩, (Below.refl _ _).drew.trans hb1⟩
            have hs1 := (isVar_bytes h1 h7 h3 hj)
            rcases Nat.lt_trichotomy j (k + 1) with h | h | h
            · have := Hall.out (j - 1) (by omega); omega
            · subst h; exact Hv.out hj
            · have := hs1.2 k (by omega); rw [Hget.out] at this; omega
      · have hcc : 128 ≤ s[k].toNat := by omega
        go_wp2
        go_round
        case rel =>
          refine ⟨k + 1, by omega, by go_num, ?_, ?_⟩
          · rw [HN1.out]
          · intro j hj
            by_cases hjk : j = k
            · subst hjk; rw [Hget.out]; exact hcc
            · exact Hall.out j (by omega)
        case measure => simp [intOf]; omega
    · have hk' : k = m := by omega
      have Hk := Lib.hid hk'
      have hge : m ≤ k := by omega
      clear hk'
      go_wp2
      go_ret2
      refine ⟨0, 0, rfl, .inr ⟨rfl, rfl, fun j h1 h7 h3 hj => ?_⟩, Below.refl _ _⟩
      have := (isVar_bytes h1 h7 h3 hj).1
      have := Hall.out (j - 1) (by rw [len_toL] at h3; rcases hmm with h | h <;> omega)
      omega
end Go.Proofs.YtilbaooancgodaaDoor.Num
