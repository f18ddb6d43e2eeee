
/-
  Pieces with a blank between: cutting is the one way back.
-/
import Derived.Test.YtfpnflhkfpolcaaGreatDoorRead1
import Derived.Test.YtfpnflhkfpolcaaGreatDoorText2
import Derived.Lib.Split
namespace Go.Proofs.YtfpnflhkfpolcaaGreatDoor.Num
open Go.RowKit Rows3 Bytes

theorem joinTail_cons (x : List UInt8) (r : List (List UInt8)) : Lib.joinTail [32] (x :: r) = 32 :: (x ++ Lib.joinTail [32] r) := by simp [Lib.joinTail]
theorem joinTail_cases (r : List (List UInt8)) : Lib.joinTail [32] r = [] ∨ ∃ t, Lib.joinTail [32] r = 32 :: t := by
  cases r with
  | nil => exact .inl rfl
  | cons x r => exact .inr ⟨_, joinTail_cons x r⟩
theorem cut_first : ∀ (a b t u : List UInt8), 32 ∉ a → 32 ∉ b → (t = [] ∨ ∃ t', t = 32 :: t') → (u = [] ∨ ∃ u', u = 32 :: u') → a ++ t = b ++ u → a = b ∧ t = u
  | [], [], t, u, _, _, _, _, h => ⟨rfl, h⟩
  | [], c :: b, t, u, _, hb, ht, _, h => by
    rcases ht with rfl | ⟨t', rfl⟩
    · simp at h
    · simp at h; exact absurd (by simp [h.1]) hb
  | c :: a, [], t, u, ha, _, _, hu, h => by
    rcases hu with rfl | ⟨u', rfl⟩
    · simp at h
    · simp at h; exact absurd (by simp [h.1]) ha
  | c :: a, d :: b, t, u, ha, hb, ht, hu, h => by
    simp only [List.cons_append, List.cons.injEq] at h
    obtain ⟨h1, h2⟩ := cut_first a b t u (fun hm => ha (by simp [hm])) (fun hm => hb (by simp [hm])) ht hu h.2
    exact ⟨by rw [h.1, h1], h2⟩
theorem joinTail_inj : ∀ (r r' : List (List UInt8)), (∀ p ∈ r, 32 ∉ p) → (∀ p ∈ r', 32 ∉ p) → Lib.joinTail [32] r = Lib.joinTail [32] r' → r = r'
  | [], [], _, _, _ => rfl
  | [], x :: r', _, _, h => by rw [joinTail_cons] at h; cases h
  | x :: r, [], _, _, h => by rw [joinTail_cons] at h; cases h
  | x :: r, y :: r', h1, h2, h => by
    rw [joinTail_cons, joinTail_cons] at h
    simp only [List.cons.injEq, true_and] at h
    obtain ⟨e1, e2⟩ := cut_first x y _ _ (h1 x (by simp)) (h2 y (by simp)) (joinTail_cases r) (joinTail_cases r') h
    rw [e1, joinTail_inj r r' (fun p hp => h1 p (by simp [hp])) (fun p hp => h2 p (by simp [hp])) e2]
theorem join_inj {r r' : List (List UInt8)} (h0 : r ≠ []) (h0' : r' ≠ []) (h1 : ∀ p ∈ r, 32 ∉ p) (h2 : ∀ p ∈ r', 32 ∉ p) (h : Lib.join r [32] = Lib.join r' [32]) : r = r' := by
  cases r with
  | nil => exact absurd rfl h0
  | cons x r =>
    cases r' with
    | nil => exact absurd rfl h0'
    | cons y r' =>
      rw [Lib.join_cons, Lib.join_cons] at h
      obtain ⟨e1, e2⟩ := cut_first x y _ _ (h1 x (by simp)) (h2 y (by simp)) (joinTail_cases r) (joinTail_cases r') h
      rw [e1, joinTail_inj r r' (fun p hp => h1 p (by simp [hp])) (fun p hp => h2 p (by simp [hp])) e2]
theorem join_snoc : ∀ (A : List (List UInt8)) (z : List UInt8), Lib.join (A ++ [z]) [32] = A.flatMap (· ++ [32]) ++ z
  | [], z => by simp [Lib.join_one]
  | x :: A, z => by
    have ih := join_snoc A z
    rw [List.cons_append, Lib.join_cons]
    cases A with
    | nil => simp [Lib.joinTail]
    | cons y A =>
      rw [List.cons_append, joinTail_cons]
      rw [List.cons_append, Lib.join_cons] at ih
      rw [ih]; simp
theorem cutB_join (s : ByteArray) (k : Nat) (hk : k ≤ s.size) : ((cutB s k).1.map (·.data.toList)).flatMap (· ++ [32]) = s.data.toList.take (cutB s k).2 ∧ (∀ p ∈ (cutB s k).1, 32 ∉ p.data.toList) ∧ ∀ i, (cutB s k).2 ≤ i → i < k → s.data.toList.getD i 0 ≠ 32 := by
  induction k with
  | zero => simp [cutB]
  | succ k ih =>
    obtain ⟨h1, h2, h3⟩ := ih (by omega)
    have hbd := cutB_bd s k
    unfold cutB
    by_cases h : s.data.toList.getD k 0 = 32
    · rw [if_pos h]
      have hx : (s.extract (cutB s k).2 k).data.toList = (s.data.toList.drop (cutB s k).2).take (k - (cutB s k).2) := by rw [Lib.extract_data]
      refine ⟨?_, ?_, fun i a b => by simp at a; omega⟩
      · simp only [List.map_append, List.map_cons, List.map_nil, List.flatMap_append, List.flatMap_cons, List.flatMap_nil, List.append_nil]
        rw [h1, hx, ← List.append_assoc, ← List.take_add, show (cutB s k).2 + (k - (cutB s k).2) = k by omega]
        have hkl : k < s.data.toList.length := by simp; omega
        rw [List.take_succ_eq_append_getElem hkl]
        rw [show s.data.toList[k] = 32 by rw [← h]; simp [List.getD, show k < s.size by omega]]
      · intro p hp
        rcases List.mem_append.1 hp with hp | hp
        · exact h2 p hp
        · simp only [List.mem_singleton] at hp
          subst hp
          rw [hx]
          intro hm
          obtain ⟨i, hi, e⟩ := List.getElem_of_mem hm
          simp only [List.getElem_take, List.getElem_drop] at e
          simp only [List.length_take, List.length_drop] at hi
          have hlen : s.data.toList.length = s.size := by simp
          refine h3 ((cutB s k).2 + i) (by omega) (by omega) ?_
          rw [← e]
          simp [List.getD, show (cutB s k).2 + i < s.size by omega]
    · rw [if_neg h]
      refine ⟨h1, h2, fun i a b => ?_⟩
      by_cases hik : i = k
      · rw [hik]; exact h
      · exact h3 i a (by omega)
theorem cutW_join (s : ByteArray) : Lib.join ((cutW s).map (·.data.toList)) [32] = s.data.toList ∧ ∀ p ∈ cutW s, 32 ∉ p.data.toList := by
  obtain ⟨h1, h2, h3⟩ := cutB_join s s.size (Nat.le_refl _)
  have hbd := cutB_bd s s.size
  have hx : (s.extract (cutB s s.size).2 s.size).data.toList = s.data.toList.drop (cutB s s.size).2 := by
    rw [Lib.extract_data]; apply List.take_of_length_le; simp
  unfold cutW
  refine ⟨?_, ?_⟩
  · rw [List.map_append, List.map_cons, List.map_nil, join_snoc, h1, hx, List.take_append_drop]
  · intro p hp
    rcases List.mem_append.1 hp with hp | hp
    · exact h2 p hp
    · simp only [List.mem_singleton] at hp
      subst hp
      rw [hx]
      intro hm
      obtain ⟨i, hi, e⟩ := List.getElem_of_mem hm
      simp only [List.getElem_drop] at e
      simp only [List.length_drop] at hi
      have hlen : s.data.toList.length = s.size := by simp
      refine h3 ((cutB s s.size).2 + i) (by omega) (by omega) ?_
      rw [← e]
      simp [List.getD, show (cutB s s.size).2 + i < s.size by omega]
theorem ba_inj {a b : ByteArray} (h : a.data.toList = b.data.toList) : a = b := ByteArray.ext (Array.toList_inj.1 h)
theorem map_data_inj : ∀ (a b : List ByteArray), a.map (·.data.toList) = b.map (·.data.toList) → a = b
  | [], [], _ => rfl
  | [], y :: b, h => by simp at h
  | x :: a, [], h => by simp at h
  | x :: a, y :: b, h => by
    simp only [List.map_cons, List.cons.injEq] at h
    rw [ba_inj h.1, map_data_inj a b h.2]
theorem itB_no32 {d : Int} (h : 0 ≤ d) : 32 ∉ (itB d).data.toList := by
  rw [itB_digits h]
  intro hm
  have := (decDigits_facts d.toNat).2.2.2.2.2.1 32 hm
  have e : (32 : UInt8).toNat = 32 := rfl
  omega
theorem words_no32 {q : Bool} {x y z : Int} {lk : Bool} {l : List Int} (hok : okR q x y z l = true) : ∀ p ∈ wordsL q x y z lk l, 32 ∉ p.data.toList := by
  obtain ⟨-, -, hx, -, -, hd⟩ := okR_facts hok
  intro p hp
  unfold wordsL at hp
  simp only [List.mem_append, List.mem_cons, List.not_mem_nil, or_false, List.mem_map] at hp
  rcases hp with ((rfl | rfl | rfl | rfl) | hp) | ⟨d, hm, rfl⟩
  · cases q <;> decide
  · unfold szWd; (repeat' split) <;> decide
  · unfold buWd; (repeat' split) <;> decide
  · exact itB_no32 hx
  · cases lk
    · simp at hp
    · simp at hp; subst hp; decide
  · obtain ⟨i, hi, rfl⟩ := List.getElem_of_mem hm
    have := hd i hi
    rw [getD_lt hi] at this
    exact itB_no32 this.1
theorem cutW_words {q : Bool} {x y z : Int} {lk : Bool} {l : List Int} (hok : okR q x y z l = true) {s : ByteArray} (h : txtB q x y z lk l = s) : cutW s = wordsL q x y z lk l := by
  have h1 := cutW_join s
  have h2 := words_join q x y z lk l
  unfold txtB at h
  rw [if_pos hok] at h
  rw [h] at h2
  have h3 : Lib.join ((wordsL q x y z lk l).map (·.data.toList)) [32] = s.data.toList := by rw [← h2]
  have hc := cutW_len s
  have hw := wordsL_len q x y z lk l
  apply map_data_inj
  refine join_inj (fun e => ?_) (fun e => ?_) ?_ ?_ (h1.1.trans h3.symm)
  · have := congrArg List.length e; simp at this; rw [this] at hc; simp at hc
  · have := congrArg List.length e; simp at this; rw [this] at hw; simp at hw
  · intro p hp
    obtain ⟨a, ha, rfl⟩ := List.mem_map.1 hp
    exact h1.2 a ha
  · intro p hp
    obtain ⟨a, ha, rfl⟩ := List.mem_map.1 hp
    exact words_no32 hok a ha
theorem joinTail_mem : ∀ (r : List (List UInt8)) (p : List UInt8), p ∈ r → p.length ≤ (Lib.joinTail [32] r).length
  | x :: r, p, h => by
    rw [joinTail_cons, List.length_cons, List.length_append]
    rcases List.mem_cons.1 h with rfl | h
    · omega
    · have := joinTail_mem r p h; omega
theorem cutW_size (s : ByteArray) (j : Nat) : ((cutW s).getD j ByteArray.empty).size ≤ s.size := by
  by_cases h : j < (cutW s).length
  · have h1 := (cutW_join s).1
    have hm : ((cutW s).getD j ByteArray.empty) ∈ cutW s := by rw [show (cutW s).getD j ByteArray.empty = (cutW s)[j] by simp [List.getD, h]]; exact List.getElem_mem h
    generalize (cutW s).getD j ByteArray.empty = p at hm ⊢
    have hm2 : p.data.toList ∈ (cutW s).map (·.data.toList) := List.mem_map.2 ⟨p, hm, rfl⟩
    have hs : s.data.toList.length = s.size := by simp
    have hp : p.data.toList.length = p.size := by simp
    rw [← hs, ← h1, ← hp]
    cases hc : (cutW s).map (·.data.toList) with
    | nil => rw [hc] at hm2; cases hm2
    | cons x r =>
      rw [hc] at hm2
      rw [Lib.join_cons, List.length_append]
      rcases List.mem_cons.1 hm2 with e | e
      · rw [e]; omega
      · have := joinTail_mem r _ e; omega
  · rw [show (cutW s).getD j ByteArray.empty = ByteArray.empty by simp [List.getD, Nat.le_of_not_lt h]]; simp
end Go.Proofs.YtfpnflhkfpolcaaGreatDoor.Num
