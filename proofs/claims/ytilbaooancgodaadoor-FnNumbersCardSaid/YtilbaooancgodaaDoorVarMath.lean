
/-
  Plain facts on varints: the bytes of one, and the number that some bytes say.
-/
import Derived.Test.YtilbaooancgodaaDoorVar
namespace Go.Proofs.YtilbaooancgodaaDoor.Num

/-- the number that bytes say, seven bits of each, the lowest ones first. -/
def le : List UInt8 → Nat
  | [] => 0
  | b :: l => b.toNat % 128 + 128 * le l
theorem le_lt (l : List UInt8) : le l < 128 ^ l.length := by
  induction l with
  | nil => simp [le]
  | cons b l ih => simp only [le, List.length_cons, Nat.pow_succ]; omega
theorem le_snoc (l : List UInt8) (b : UInt8) : le (l ++ [b]) = le l + b.toNat % 128 * 128 ^ l.length := by
  induction l with
  | nil => simp [le]
  | cons a l ih =>
    simp only [List.cons_append, le, ih, List.length_cons, Nat.pow_succ]
    rw [Nat.mul_add, Nat.add_assoc]; congr 2
    rw [Nat.mul_left_comm, Nat.mul_comm 128 (128 ^ l.length)]
/-- a varint: its last byte alone is below 128. -/
theorem vr_shape (f n : Nat) (h : n < 128 ^ (f + 1)) : ∃ i b, vr f n = i ++ [b] ∧ b.toNat < 128 ∧ (∀ c ∈ i, 128 ≤ c.toNat) := by
  induction f generalizing n with
  | zero => exact ⟨[], UInt8.ofNat n, rfl, by simp at h; simp; omega, by simp⟩
  | succ f ih =>
    by_cases hn : n < 128
    · exact ⟨[], UInt8.ofNat n, by simp [vr, hn], by simp; omega, by simp⟩
    · obtain ⟨i, b, h1, h2, h3⟩ := ih (n / 128) (by rw [Nat.pow_succ] at h; omega)
      refine ⟨UInt8.ofNat (n % 128 + 128) :: i, b, by rw [vr_big hn, h1]; rfl, h2, ?_⟩
      intro c hc
      rcases List.mem_cons.1 hc with rfl | hc
      · simp; omega
      · exact h3 c hc
theorem le_vr (f n : Nat) (h : n < 128 ^ (f + 1)) : le (vr f n) = n := by
  induction f generalizing n with
  | zero => simp at h; simp [vr, le]; omega
  | succ f ih =>
    by_cases hn : n < 128
    · simp [vr, hn, le]
    · rw [vr_big hn, le, ih _ (by rw [Nat.pow_succ] at h; omega)]; simp; omega

/-- the first k bytes of s are the varint of the number that they say. -/
def IsVar (s : List UInt8) (k : Nat) : Prop := varL (le (s.take k)) = s.take k
theorem le_take_lt (s : List UInt8) (k : Nat) (h : k ≤ 7) : le (s.take k) < 562949953421312 :=
  Nat.lt_of_lt_of_le (le_lt _) (Nat.le_trans (Nat.pow_le_pow_right (by decide) (show (s.take k).length ≤ 7 by simp; omega)) (by decide))
theorem isVar_bytes {s : List UInt8} {k : Nat} (h1 : 1 ≤ k) (h7 : k ≤ 7) (hs : k ≤ s.length) (h : IsVar s k) :
    (s.getD (k - 1) 0).toNat < 128 ∧ ∀ i, i + 1 < k → 128 ≤ (s.getD i 0).toNat := by
  obtain ⟨i, b, e, hb, hi⟩ := vr_shape 6 _ (le_take_lt s k h7)
  have e2 : s.take k = i ++ [b] := by rw [← h]; exact e
  have hl : i.length + 1 = k := by have := congrArg List.length e2; simp at this; omega
  have hg : ∀ j, j < k → s.getD j 0 = (i ++ [b]).getD j 0 := by
    intro j hj
    rw [← e2]; simp [List.getD, hj]
  refine ⟨?_, fun j hj => ?_⟩
  · rw [hg (k - 1) (by omega)]
    have : k - 1 = i.length := by omega
    rw [this]; simpa [List.getD] using hb
  · rw [hg j (by omega)]
    have hj' : j < i.length := by omega
    have : (i ++ [b]).getD j 0 = i[j] := by simp [List.getD, List.getElem?_append_left hj', hj']
    rw [this]; exact hi _ (List.getElem_mem hj')

/-- what ReadVar says of s: the first beginning of at most seven bytes that is a varint, or zeros. -/
def Reads (s : List UInt8) (r k : Nat) : Prop :=
  (1 ≤ k ∧ k ≤ 7 ∧ k ≤ s.length ∧ IsVar s k ∧ r = le (s.take k) ∧ ∀ j, 1 ≤ j → j < k → ¬ IsVar s j) ∨ (r = 0 ∧ k = 0 ∧ ∀ j, 1 ≤ j → j ≤ 7 → j ≤ s.length → ¬ IsVar s j)
theorem Reads.unique {s : List UInt8} {r k r' k' : Nat} (h : Reads s r k) (h' : Reads s r' k') : r = r' ∧ k = k' := by
  rcases h with ⟨a1, a2, a3, a4, rfl, a6⟩ | ⟨rfl, rfl, a⟩ <;> rcases h' with ⟨b1, b2, b3, b4, rfl, b6⟩ | ⟨rfl, rfl, b⟩
  · have : k = k' := by
      rcases Nat.lt_trichotomy k k' with h | h | h
      · exact absurd a4 (b6 k a1 h)
      · exact h
      · exact absurd b4 (a6 k' b1 h)
    subst this; exact ⟨rfl, rfl⟩
  · exact absurd a4 (b k a1 a2 a3)
  · exact absurd b4 (a k' b1 b2 b3)
  · exact ⟨rfl, rfl⟩
/-- a varint, whatever follows it, is read. -/
theorem reads_var (n : Nat) (hn : n ≤ 562949953421311) (t : List UInt8) : Reads (varL n ++ t) n (varL n).length := by
  obtain ⟨i, b, e, hb, hi⟩ := vr_shape 6 n (by omega)
  have hlen := vr_len 6 n
  have e' : varL n = i ++ [b] := e
  have ht : (varL n ++ t).take (varL n).length = varL n := by simp
  have hle : le (varL n) = n := le_vr 6 n (by omega)
  refine .inl ⟨by rw [e']; simp, hlen, by simp, ?_, ?_, fun j h1 hj hv => ?_⟩
  · unfold IsVar; rw [ht, hle]
  · rw [ht, hle]
  · have hj' : j < i.length + 1 := by rw [e'] at hj; simpa using hj
    have := (isVar_bytes h1 (by have : (varL n).length ≤ 7 := hlen; omega) (by simp; omega) hv).1
    have hjl : j - 1 < i.length := by omega
    have hg : (varL n ++ t).getD (j - 1) 0 = i[j - 1] := by rw [e']; simp [List.getD, List.getElem?_append_left hjl, hjl]
    rw [hg] at this
    have := hi _ (List.getElem_mem hjl)
    omega
end Go.Proofs.YtilbaooancgodaaDoor.Num
