
/-
  Plain facts on decimal numerals: what a numeral says, how long it is, that the library reads it back.
-/
import Derived.Test.YtfpnflhkfpolcaaGreatDoorSDec
import Derived.Lib.AtoiTie
import Derived.Lib.Strings
namespace Go.Proofs.YtfpnflhkfpolcaaGreatDoor.Num

/-- the number that the decimal digits among some bytes say, and how many they are. -/
def nvS (n : Nat) (b : UInt8) : Nat := if 48 ≤ b.toNat ∧ b.toNat ≤ 57 then n * 10 + (b.toNat - 48) else n
def nkS (n : Nat) (b : UInt8) : Nat := if 48 ≤ b.toNat ∧ b.toNat ≤ 57 then n + 1 else n
def nv (l : List UInt8) : Nat := l.foldl nvS 0
def nk (l : List UInt8) : Nat := l.foldl nkS 0
theorem nv_snoc (l : List UInt8) (b : UInt8) : nv (l ++ [b]) = nvS (nv l) b := by simp [nv]
theorem nk_snoc (l : List UInt8) (b : UInt8) : nk (l ++ [b]) = nkS (nk l) b := by simp [nk]
theorem nvS_le (n : Nat) (b : UInt8) : nvS n b ≤ n * 10 + 9 := by unfold nvS; split <;> omega
theorem nkS_le (n : Nat) (b : UInt8) : nkS n b ≤ n + 1 := by unfold nkS; split <;> omega
theorem nv_lt (l : List UInt8) : nv l < 10 ^ l.length := by
  obtain ⟨r, rfl⟩ : ∃ r, l = List.reverse r := ⟨l.reverse, by simp⟩
  induction r with
  | nil => simp [nv]
  | cons b r ih =>
    rw [List.reverse_cons, nv_snoc, List.length_append, List.length_singleton, Nat.pow_succ]
    have := nvS_le (nv r.reverse) b
    omega
theorem nk_le (l : List UInt8) : nk l ≤ l.length := by
  obtain ⟨r, rfl⟩ : ∃ r, l = List.reverse r := ⟨l.reverse, by simp⟩
  induction r with
  | nil => simp [nk]
  | cons b r ih =>
    rw [List.reverse_cons, nk_snoc, List.length_append, List.length_singleton]
    have := nkS_le (nk r.reverse) b
    omega
theorem nv_minus (l : List UInt8) : nv (45 :: l) = nv l := by simp [nv, nvS]
theorem nk_minus (l : List UInt8) : nk (45 :: l) = nk l := by simp [nk, nkS]
theorem dig_toNat (u : Nat) : (UInt8.ofNat (48 + u % 10)).toNat = 48 + u % 10 := by simp; omega
theorem decDigits_facts : ∀ u : Nat, nv (Lib.decDigits u) = u ∧ nk (Lib.decDigits u) = (Lib.decDigits u).length ∧ u < 10 ^ (Lib.decDigits u).length ∧ 1 ≤ (Lib.decDigits u).length ∧ Lib.decFrom 0 (Lib.decDigits u) = some u ∧ (∀ b ∈ Lib.decDigits u, 48 ≤ b.toNat ∧ b.toNat ≤ 57) ∧ (∀ k, 1 ≤ k → u < 10 ^ k → (Lib.decDigits u).length ≤ k) := by
  intro u
  induction u using Nat.strongRecOn with
  | ind u ih =>
    by_cases h : u < 10
    · have hd := dig_toNat u
      rw [decDigits_small h]
      refine ⟨?_, ?_, ?_, ?_, ?_, ?_, ?_⟩
      · simp only [nv, List.foldl_cons, List.foldl_nil, nvS, hd]; rw [if_pos (by omega)]; omega
      · simp only [nk, List.foldl_cons, List.foldl_nil, nkS, hd]; rw [if_pos (by omega)]; rfl
      · simp; omega
      · simp
      · simp only [Lib.decFrom, Lib.digitVal, hd]; rw [if_pos (by omega)]; simp; omega
      · intro b hb; obtain rfl := List.mem_singleton.1 hb; omega
      · intro k hk _; simpa using hk
    · obtain ⟨h1, h2, h3, h4, h5, h6, h7⟩ := ih (u / 10) (by omega)
      have hd := dig_toNat u
      rw [decDigits_big h]
      refine ⟨?_, ?_, ?_, ?_, ?_, ?_, ?_⟩
      · rw [nv_snoc, h1, nvS, hd, if_pos (by omega)]; omega
      · rw [nk_snoc, h2, nkS, hd, if_pos (by omega)]; simp
      · rw [List.length_append, List.length_singleton, Nat.pow_succ]; omega
      · simp
      · have snoc : ∀ (l : List UInt8) (a v : Nat) (b : UInt8) (x : Nat), Lib.decFrom a l = some v → Lib.digitVal b = some x → Lib.decFrom a (l ++ [b]) = some (v * 10 + x) := by
          intro l
          induction l with
          | nil => intro a v b x e1 e2; simp [Lib.decFrom] at e1; subst e1; simp [Lib.decFrom, e2]
          | cons c l ihl =>
            intro a v b x e1 e2
            simp only [List.cons_append, Lib.decFrom] at e1 ⊢
            split at e1
            · exact ihl _ _ _ _ e1 e2
            · cases e1
        rw [snoc _ _ _ _ (u % 10) h5 (by simp only [Lib.digitVal, hd]; rw [if_pos (by omega)]; congr 1; omega)]
        congr 1; omega
      · intro b hb
        rcases List.mem_append.1 hb with hb | hb
        · exact h6 b hb
        · obtain rfl := List.mem_singleton.1 hb; omega
      · intro k hk hu
        rw [List.length_append, List.length_singleton]
        obtain ⟨j, rfl⟩ : ∃ j, k = j + 1 := ⟨k - 1, by omega⟩
        rw [Nat.pow_succ] at hu
        by_cases hj : j = 0
        · subst hj; simp at hu; omega
        · have := h7 j (by omega) (by omega); omega

/-- a number of at most nine digits. -/
def In9 (m : Int) : Prop := -1000000000 < m ∧ m < 1000000000
/-- the two shapes of a numeral. -/
theorem itoa_cases (m : Int) : (0 ≤ m ∧ Lib.itoa m = Lib.decDigits m.toNat) ∨ (m < 0 ∧ Lib.itoa m = 45 :: Lib.decDigits (-m).toNat) := by
  unfold Lib.itoa
  by_cases h : m < 0
  · exact .inr ⟨h, by rw [if_pos h, show m.natAbs = (-m).toNat by omega]⟩
  · exact .inl ⟨by omega, by rw [if_neg h]⟩
theorem head_ne (u : Nat) (l : List UInt8) : Lib.decDigits u ≠ 45 :: l := by
  intro h
  have := (decDigits_facts u).2.2.2.2.2.1 45 (by rw [h]; simp)
  simp at this
theorem decDigits_inj {u v : Nat} (h : Lib.decDigits u = Lib.decDigits v) : u = v := by
  rw [← (decDigits_facts u).1, h, (decDigits_facts v).1]
theorem itoa_inj {m n : Int} (h : Lib.itoa m = Lib.itoa n) : m = n := by
  rcases itoa_cases m with ⟨hm, em⟩ | ⟨hm, em⟩ <;> rcases itoa_cases n with ⟨hn, en⟩ | ⟨hn, en⟩ <;> rw [em, en] at h
  · have := decDigits_inj h; omega
  · exact absurd h (head_ne _ _)
  · exact absurd h.symm (head_ne _ _)
  · simp at h; have := decDigits_inj h; omega
theorem decDigits_len9 {u : Nat} (h : u < 1000000000) : (Lib.decDigits u).length ≤ 9 := (decDigits_facts u).2.2.2.2.2.2 9 (by omega) (by omega)
theorem itoa_len10 {m : Int} (h : In9 m) : (Lib.itoa m).length ≤ 10 := by
  unfold In9 at h
  rcases itoa_cases m with ⟨hm, em⟩ | ⟨hm, em⟩ <;> rw [em]
  · have := decDigits_len9 (show m.toNat < 1000000000 by omega); omega
  · have := decDigits_len9 (show (-m).toNat < 1000000000 by omega); simp; omega
theorem atoi_itoa {m : Int} (h : In9 m) : Lib.atoiAll (Lib.itoa m) = .ok m := by
  rw [Lib.atoiAll_short _ (by have := itoa_len10 h; omega)]
  rcases itoa_cases m with ⟨hm, em⟩ | ⟨hm, em⟩ <;> rw [em]
  · have hf := decDigits_facts m.toNat
    have e : Lib.atoi (Lib.decDigits m.toNat) = some m := by
      cases hc : Lib.decDigits m.toNat with
      | nil => rw [hc] at hf; simp at hf
      | cons b r =>
        have hb := hf.2.2.2.2.2.1 b (by rw [hc]; simp)
        have h1 : (b == 45) = false := by rw [beq_eq_false_iff_ne]; rintro rfl; simp at hb
        have h2 : (b == 43) = false := by rw [beq_eq_false_iff_ne]; rintro rfl; simp at hb
        simp only [Lib.atoi, h1, h2, Lib.decNat]
        rw [← hc, hf.2.2.2.2.1]
        simp [hc]; omega
    rw [e]; rfl
  · have hf := decDigits_facts (-m).toNat
    have e : Lib.atoi (45 :: Lib.decDigits (-m).toNat) = some m := by
      have hne : (Lib.decDigits (-m).toNat).isEmpty = false := by
        cases hc : Lib.decDigits (-m).toNat with
        | nil => rw [hc] at hf; simp at hf
        | cons b r => rfl
      simp only [Lib.atoi, Lib.decNat, hne, hf.2.2.2.2.1]
      simp; omega
    rw [e]; rfl

/-- what ReadDec says of s: the number of at most nine digits whose numeral s is. -/
def RD (s : List UInt8) (n : Int) (ok : Bool) : Prop := (ok = true ∧ In9 n ∧ Lib.itoa n = s) ∨ (ok = false ∧ n = 0 ∧ ∀ m, In9 m → Lib.itoa m ≠ s)
theorem RD.unique {s : List UInt8} {n n' : Int} {b b' : Bool} (h : RD s n b) (h' : RD s n' b') : n = n' ∧ b = b' := by
  rcases h with ⟨rfl, h1, h2⟩ | ⟨rfl, rfl, h2⟩ <;> rcases h' with ⟨rfl, g1, g2⟩ | ⟨rfl, rfl, g2⟩
  · exact ⟨itoa_inj (h2.trans g2.symm), rfl⟩
  · exact absurd h2 (g2 _ h1)
  · exact absurd g2 (h2 _ g1)
  · exact ⟨rfl, rfl⟩
/-- the number of a numeral of at most nine digits. -/
theorem in9_of_trim {n : Int} (h : (Lib.trimPrefix (Lib.itoa n) [45]).length ≤ 9) : In9 n := by
  unfold In9
  rcases itoa_cases n with ⟨hm, em⟩ | ⟨hm, em⟩ <;> rw [em] at h
  · have : Lib.trimPrefix (Lib.decDigits n.toNat) [45] = Lib.decDigits n.toNat := by
      unfold Lib.trimPrefix Lib.hasPrefix
      rw [if_neg]
      intro hp
      obtain ⟨r, hr⟩ := List.isPrefixOf_iff_prefix.1 hp
      exact head_ne _ r hr.symm
    rw [this] at h
    have h3 := (decDigits_facts n.toNat).2.2.1
    have : 10 ^ (Lib.decDigits n.toNat).length ≤ 10 ^ 9 := Nat.pow_le_pow_right (by decide) h
    omega
  · have : Lib.trimPrefix (45 :: Lib.decDigits (-n).toNat) [45] = Lib.decDigits (-n).toNat := by
      unfold Lib.trimPrefix Lib.hasPrefix
      rw [if_pos (by simp)]; rfl
    rw [this] at h
    have h3 := (decDigits_facts (-n).toNat).2.2.1
    have : 10 ^ (Lib.decDigits (-n).toNat).length ≤ 10 ^ 9 := Nat.pow_le_pow_right (by decide) h
    omega
theorem trim_of_in9 {n : Int} (h : In9 n) : (Lib.trimPrefix (Lib.itoa n) [45]).length ≤ 9 := by
  unfold In9 at h
  rcases itoa_cases n with ⟨hm, em⟩ | ⟨hm, em⟩ <;> rw [em]
  · have := decDigits_len9 (show n.toNat < 1000000000 by omega)
    unfold Lib.trimPrefix
    split
    · simp; omega
    · exact this
  · have := decDigits_len9 (show (-n).toNat < 1000000000 by omega)
    unfold Lib.trimPrefix Lib.hasPrefix
    rw [if_pos (by simp)]; simpa using this
/-- the model's way: the digits' number with the sign. -/
theorem sign_nv {m : Int} : (if (Lib.itoa m).head? = some 45 then -(nv (Lib.itoa m) : Int) else (nv (Lib.itoa m) : Int)) = m ∧ nk (Lib.itoa m) ≤ (Lib.itoa m).length := by
  refine ⟨?_, nk_le _⟩
  rcases itoa_cases m with ⟨hm, em⟩ | ⟨hm, em⟩ <;> rw [em]
  · rw [if_neg, (decDigits_facts _).1]
    · omega
    · intro h
      cases hc : Lib.decDigits m.toNat with
      | nil => rw [hc] at h; simp at h
      | cons b r => rw [hc] at h; simp at h; subst h; exact head_ne _ _ hc
  · rw [if_pos (by simp), nv_minus, (decDigits_facts _).1]; omega
theorem nk_itoa {m : Int} (h : In9 m) : nk (Lib.itoa m) ≤ 9 := by
  unfold In9 at h
  rcases itoa_cases m with ⟨hm, em⟩ | ⟨hm, em⟩ <;> rw [em]
  · rw [(decDigits_facts _).2.1]; exact decDigits_len9 (by omega)
  · rw [nk_minus, (decDigits_facts _).2.1]; exact decDigits_len9 (by omega)
/-- a numeral has as many digits as are counted. -/
theorem in9_of_nk {m : Int} (h : nk (Lib.itoa m) ≤ 9) : In9 m := by
  unfold In9
  rcases itoa_cases m with ⟨hm, em⟩ | ⟨hm, em⟩ <;> rw [em] at h
  · rw [(decDigits_facts _).2.1] at h
    have h3 := (decDigits_facts m.toNat).2.2.1
    have : 10 ^ (Lib.decDigits m.toNat).length ≤ 10 ^ 9 := Nat.pow_le_pow_right (by decide) h
    omega
  · rw [nk_minus, (decDigits_facts _).2.1] at h
    have h3 := (decDigits_facts (-m).toNat).2.2.1
    have : 10 ^ (Lib.decDigits (-m).toNat).length ≤ 10 ^ 9 := Nat.pow_le_pow_right (by decide) h
    omega
end Go.Proofs.YtfpnflhkfpolcaaGreatDoor.Num
