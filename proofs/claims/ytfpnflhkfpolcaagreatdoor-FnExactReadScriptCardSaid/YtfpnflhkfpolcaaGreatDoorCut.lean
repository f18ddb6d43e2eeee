
/-
  A text cut at a sign; its pieces with the sign between: cutting is the one way back.
-/
import Derived.Test.YtfpnflhkfpolcaaGreatDoorStrRow
import Derived.Test.YtfpnflhkfpolcaaGreatDoorShelfS
import Derived.Shelf.Strings.Split
import Derived.Lib.Split
import Derived.Lib.IndexBytes
import Derived.IntWalk
namespace Go.Proofs.YtfpnflhkfpolcaaGreatDoor.Cut
open Go.RowKit Rows3

/-- the pieces that end before byte k, and where the next one begins. -/
def cutBs (c : UInt8) (s : ByteArray) : Nat → List ByteArray × Nat
  | 0 => ([], 0)
  | k + 1 => if s.data.toList.getD k 0 = c then ((cutBs c s k).1 ++ [s.extract (cutBs c s k).2 k], k + 1) else cutBs c s k
/-- all pieces. -/
def cutWs (c : UInt8) (s : ByteArray) : List ByteArray := (cutBs c s s.size).1 ++ [s.extract (cutBs c s s.size).2 s.size]
theorem cutBs_bd (c : UInt8) (s : ByteArray) (k : Nat) : (cutBs c s k).2 ≤ k ∧ (cutBs c s k).1.length ≤ k := by
  induction k with
  | zero => simp [cutBs]
  | succ k ih =>
    unfold cutBs
    split
    · simp; omega
    · omega
theorem cutWs_len (c : UInt8) (s : ByteArray) : 1 ≤ (cutWs c s).length ∧ (cutWs c s).length ≤ s.size + 1 := by
  have := cutBs_bd c s s.size
  unfold cutWs; simp; omega
theorem getD_of5 (s : ByteArray) (k : Nat) (h : k < s.size) : s.data.toList.getD k 0 = s[k] := by
  simp [List.getD, h]; rfl
set_option maxHeartbeats 1000000 in
set_option maxRecDepth 100000 in
theorem specCut (c : UInt8) (z : Int) (hz : z = (c.toNat : Int)) (s : ByteArray) (hs : s.size ≤ 1048576) (w : World) :
    Calls Tryz.prog 9 #[.string s, .int .u8 z] w (NewS (cutWs c s) w) := by
  have hc8 : c.toNat < 256 := c.toNat_lt
  have Hz := Lib.hid hz
  have hz0 : 0 ≤ z := by omega
  have hz1 : z < 256 := by omega
  clear hz
  go_enter Tryz.func9, Tryz.ntmps9
  go_wp2
  go_loopw [5, 6, 7] (fun o f i wr => ∃ k fr : Nat, k ≤ s.size ∧ i = .int .i64 k ∧ f = .int .i64 fr ∧ (cutBs c s k).2 = fr ∧ OwnS w.heap.size o (cutBs c s k).1 wr ∧ Below w.heap.size w wr) (fun _ _ i _ => s.size - (intOf i).toNat)
  case atStart => exact ⟨0, 0, by omega, rfl, rfl, rfl, OwnS.made _ _ (Nat.le_refl _), (Below.refl _ _).alloc (Nat.le_refl _) _⟩
  case round =>
    obtain ⟨k, fr, hk, rfl, rfl, hfr, ho, hb⟩ := hrel
    have hbd := cutBs_bd c s k
    rw [hfr] at hbd
    have hbs := hb.size
    have hfk := hbd.1
    have Ho := Lib.hid ho
    have Hb := Lib.hid hb
    have Hlen : Hid ((cutBs c s k).1.length + 1 ≤ 8000000000000) := Lib.hid (by omega)
    have Hfr := Lib.hid hfr
    clear ho hb hfr
    by_cases hlt : k < s.size
    · have hb8 : s[k].toNat < 256 := s[k].toNat_lt
      have f1 : IntKind.i64.wrap ((k : Int) + 1) = (k : Int) + 1 := IntWalk.i64_in _ (by omega)
      by_cases h32 : s[k].toNat = c.toNat
      · have Hs := Lib.hid (show cutBs c s (k + 1) = ((cutBs c s k).1 ++ [s.extract fr k], k + 1) by
          rw [cutBs, if_pos (by rw [getD_of5 s k hlt]; exact UInt8.toNat_inj.1 h32), Hfr.out])
        have hq : ((s[k].toNat : Int) == z) = true := by rw [beq_iff_eq]; have := Hz.out; omega
        clear h32
        go_wp2_with (at_builtin; (refine appS rfl _ _ rfl w.heap.size u5 (cutBs c s k).1 wr (s.extract fr k) rfl rfl Ho.out hbs Hlen.out ?_); intro v' w1 hown1 hb1; have Ho1 := Lib.hid hown1; have Hb1 := Lib.hid (Hb.out.trans hb1); clear hown1 hb1)
        go_roundw
        case rel => exact ⟨k + 1, k + 1, by omega, by go_num, by go_num, by rw [Hs.out], by rw [Hs.out]; exact Ho1.out, Hb1.out⟩
        case measure => simp [intOf]; omega
      · have Hs := Lib.hid (show cutBs c s (k + 1) = cutBs c s k by
          rw [cutBs, if_neg (by rw [getD_of5 s k hlt]; intro e; exact h32 (by rw [e]))])
        have hq : ((s[k].toNat : Int) == z) = false := by rw [beq_eq_false_iff_ne]; have := Hz.out; omega
        clear h32
        go_wp2
        go_roundw
        case rel => exact ⟨k + 1, fr, by omega, by go_num, rfl, by rw [Hs.out]; exact Hfr.out, by rw [Hs.out]; exact Ho.out, Hb.out⟩
        case measure => simp [intOf]; omega
    · obtain rfl : k = s.size := by omega
      have Hw := Lib.hid (show cutWs c s = (cutBs c s s.size).1 ++ [s.extract fr s.size] by unfold cutWs; rw [Hfr.out])
      go_wp2_with (at_builtin; (refine appS rfl _ _ rfl w.heap.size u5 (cutBs c s s.size).1 wr (s.extract fr s.size) rfl rfl Ho.out hbs Hlen.out ?_); intro v' w1 hown1 hb1; have Ho1 := Lib.hid hown1; have Hb1 := Lib.hid (Hb.out.trans hb1); clear hown1 hb1)
      go_ret
      exact ⟨_, rfl, by rw [Hw.out]; exact Ho1.out, Hb1.out⟩

theorem joinTail_cons (c : UInt8) (x : List UInt8) (r : List (List UInt8)) : Lib.joinTail [c] (x :: r) = c :: (x ++ Lib.joinTail [c] r) := by simp [Lib.joinTail]
theorem joinTail_cases (c : UInt8) (r : List (List UInt8)) : Lib.joinTail [c] r = [] ∨ ∃ t, Lib.joinTail [c] r = c :: t := by
  cases r with
  | nil => exact .inl rfl
  | cons x r => exact .inr ⟨_, joinTail_cons c x r⟩
theorem cut_first (c : UInt8) : ∀ (a b t u : List UInt8), c ∉ a → c ∉ b → (t = [] ∨ ∃ t', t = c :: t') → (u = [] ∨ ∃ u', u = c :: u') → a ++ t = b ++ u → a = b ∧ t = u
  | [], [], t, u, _, _, _, _, h => ⟨rfl, h⟩
  | [], x0 :: b, t, u, _, hb, ht, _, h => by
    rcases ht with rfl | ⟨t', rfl⟩
    · simp at h
    · simp at h; exact absurd (by simp [h.1]) hb
  | x0 :: a, [], t, u, ha, _, _, hu, h => by
    rcases hu with rfl | ⟨u', rfl⟩
    · simp at h
    · simp at h; exact absurd (by simp [h.1]) ha
  | x0 :: a, d :: b, t, u, ha, hb, ht, hu, h => by
    simp only [List.cons_append, List.cons.injEq] at h
    obtain ⟨h1, h2⟩ := cut_first c a b t u (fun hm => ha (by simp [hm])) (fun hm => hb (by simp [hm])) ht hu h.2
    exact ⟨by rw [h.1, h1], h2⟩
theorem joinTail_inj (c : UInt8) : ∀ (r r' : List (List UInt8)), (∀ p ∈ r, c ∉ p) → (∀ p ∈ r', c ∉ p) → Lib.joinTail [c] r = Lib.joinTail [c] r' → r = r'
  | [], [], _, _, _ => rfl
  | [], x :: r', _, _, h => by rw [joinTail_cons] at h; cases h
  | x :: r, [], _, _, h => by rw [joinTail_cons] at h; cases h
  | x :: r, y :: r', h1, h2, h => by
    rw [joinTail_cons, joinTail_cons] at h
    simp only [List.cons.injEq, true_and] at h
    obtain ⟨e1, e2⟩ := cut_first c x y _ _ (h1 x (by simp)) (h2 y (by simp)) (joinTail_cases c r) (joinTail_cases c r') h
    rw [e1, joinTail_inj c r r' (fun p hp => h1 p (by simp [hp])) (fun p hp => h2 p (by simp [hp])) e2]
theorem join_inj (c : UInt8) {r r' : List (List UInt8)} (h0 : r ≠ []) (h0' : r' ≠ []) (h1 : ∀ p ∈ r, c ∉ p) (h2 : ∀ p ∈ r', c ∉ p) (h : Lib.join r [c] = Lib.join r' [c]) : r = r' := by
  cases r with
  | nil => exact absurd rfl h0
  | cons x r =>
    cases r' with
    | nil => exact absurd rfl h0'
    | cons y r' =>
      rw [Lib.join_cons, Lib.join_cons] at h
      obtain ⟨e1, e2⟩ := cut_first c x y _ _ (h1 x (by simp)) (h2 y (by simp)) (joinTail_cases c r) (joinTail_cases c r') h
      rw [e1, joinTail_inj c r r' (fun p hp => h1 p (by simp [hp])) (fun p hp => h2 p (by simp [hp])) e2]
theorem join_snoc (c : UInt8) : ∀ (A : List (List UInt8)) (z : List UInt8), Lib.join (A ++ [z]) [c] = A.flatMap (· ++ [c]) ++ z
  | [], z => by simp [Lib.join_one]
  | x :: A, z => by
    have ih := join_snoc c A z
    rw [List.cons_append, Lib.join_cons]
    cases A with
    | nil => simp [Lib.joinTail]
    | cons y A =>
      rw [List.cons_append, joinTail_cons]
      rw [List.cons_append, Lib.join_cons] at ih
      rw [ih]; simp
theorem cutBs_join (c : UInt8) (s : ByteArray) (k : Nat) (hk : k ≤ s.size) : ((cutBs c s k).1.map (·.data.toList)).flatMap (· ++ [c]) = s.data.toList.take (cutBs c s k).2 ∧ (∀ p ∈ (cutBs c s k).1, c ∉ p.data.toList) ∧ ∀ i, (cutBs c s k).2 ≤ i → i < k → s.data.toList.getD i 0 ≠ c := by
  induction k with
  | zero => simp [cutBs]
  | succ k ih =>
    obtain ⟨h1, h2, h3⟩ := ih (by omega)
    have hbd := cutBs_bd c s k
    unfold cutBs
    by_cases h : s.data.toList.getD k 0 = c
    · rw [if_pos h]
      have hx : (s.extract (cutBs c s k).2 k).data.toList = (s.data.toList.drop (cutBs c s k).2).take (k - (cutBs c s k).2) := by rw [Lib.extract_data]
      refine ⟨?_, ?_, fun i a b => by simp at a; omega⟩
      · simp only [List.map_append, List.map_cons, List.map_nil, List.flatMap_append, List.flatMap_cons, List.flatMap_nil, List.append_nil]
        rw [h1, hx, ← List.append_assoc, ← List.take_add, show (cutBs c s k).2 + (k - (cutBs c s k).2) = k by omega]
        have hkl : k < s.data.toList.length := by simp; omega
        rw [List.take_succ_eq_append_getElem hkl]
        rw [show s.data.toList[k] = c by rw [← h]; simp [List.getD, show k < s.size by omega]]
      · intro p hp
        rcases List.mem_append.1 hp with hp | hp
        · exact h2 p hp
        · simp only [List.mem_singleton] at hp
          subst hp
          rw [hx]
          intro hm
          obtain ⟨i, hi, e⟩ := List.getElem_of_mem hm
          simp only [List.getElem_take, List.getElem_drop] at e
          simp only [List.length_take, List.length_drop] at hi
          have hlen : s.data.toList.length = s.size := by simp
          refine h3 ((cutBs c s k).2 + i) (by omega) (by omega) ?_
          exact Eq.trans (by simp [List.getD, show (cutBs c s k).2 + i < s.size by omega]) e
    · rw [if_neg h]
      refine ⟨h1, h2, fun i a b => ?_⟩
      by_cases hik : i = k
      · rw [hik]; exact h
      · exact h3 i a (by omega)
theorem cutWs_join (c : UInt8) (s : ByteArray) : Lib.join ((cutWs c s).map (·.data.toList)) [c] = s.data.toList ∧ ∀ p ∈ cutWs c s, c ∉ p.data.toList := by
  obtain ⟨h1, h2, h3⟩ := cutBs_join c s s.size (Nat.le_refl _)
  have hbd := cutBs_bd c s s.size
  have hx : (s.extract (cutBs c s s.size).2 s.size).data.toList = s.data.toList.drop (cutBs c s s.size).2 := by
    rw [Lib.extract_data]; apply List.take_of_length_le; simp
  unfold cutWs
  refine ⟨?_, ?_⟩
  · rw [List.map_append, List.map_cons, List.map_nil, join_snoc c, h1, hx, List.take_append_drop]
  · intro p hp
    rcases List.mem_append.1 hp with hp | hp
    · exact h2 p hp
    · simp only [List.mem_singleton] at hp
      subst hp
      rw [hx]
      intro hm
      obtain ⟨i, hi, e⟩ := List.getElem_of_mem hm
      simp only [List.getElem_drop] at e
      simp only [List.length_drop] at hi
      have hlen : s.data.toList.length = s.size := by simp
      refine h3 ((cutBs c s s.size).2 + i) (by omega) (by omega) ?_
      exact Eq.trans (by simp [List.getD, show (cutBs c s s.size).2 + i < s.size by omega]) e
theorem ba_inj {a b : ByteArray} (h : a.data.toList = b.data.toList) : a = b := ByteArray.ext (Array.toList_inj.1 h)
theorem map_data_inj : ∀ (a b : List ByteArray), a.map (·.data.toList) = b.map (·.data.toList) → a = b
  | [], [], _ => rfl
  | [], y :: b, h => by simp at h
  | x :: a, [], h => by simp at h
  | x :: a, y :: b, h => by
    simp only [List.map_cons, List.cons.injEq] at h
    rw [ba_inj h.1, map_data_inj a b h.2]
theorem joinTail_mem (c : UInt8) : ∀ (r : List (List UInt8)) (p : List UInt8), p ∈ r → p.length ≤ (Lib.joinTail [c] r).length
  | x :: r, p, h => by
    rw [joinTail_cons, List.length_cons, List.length_append]
    rcases List.mem_cons.1 h with rfl | h
    · omega
    · have := joinTail_mem c r p h; omega
theorem cutWs_size (c : UInt8) (s : ByteArray) (j : Nat) : ((cutWs c s).getD j ByteArray.empty).size ≤ s.size := by
  by_cases h : j < (cutWs c s).length
  · have h1 := (cutWs_join c s).1
    have hm : ((cutWs c s).getD j ByteArray.empty) ∈ cutWs c s := by rw [show (cutWs c s).getD j ByteArray.empty = (cutWs c s)[j] by simp [List.getD, h]]; exact List.getElem_mem h
    generalize (cutWs c s).getD j ByteArray.empty = p at hm ⊢
    have hm2 : p.data.toList ∈ (cutWs c s).map (·.data.toList) := List.mem_map.2 ⟨p, hm, rfl⟩
    have hs : s.data.toList.length = s.size := by simp
    have hp : p.data.toList.length = p.size := by simp
    rw [← hs, ← h1, ← hp]
    cases hc : (cutWs c s).map (·.data.toList) with
    | nil => rw [hc] at hm2; cases hm2
    | cons x r =>
      rw [hc] at hm2
      rw [Lib.join_cons, List.length_append]
      rcases List.mem_cons.1 hm2 with e | e
      · rw [e]; omega
      · have := joinTail_mem c r _ e; omega
  · rw [show (cutWs c s).getD j ByteArray.empty = ByteArray.empty by simp [List.getD, Nat.le_of_not_lt h]]; simp
theorem ib_none (c : UInt8) : ∀ x : List UInt8, c ∉ x → Lib.indexByte x c = -1
  | [], _ => rfl
  | b :: l, h => by
    have h1 : (b == c) = false := by rw [beq_eq_false_iff_ne]; intro e; exact h (by simp [e])
    have ih := ib_none c l (fun hm => h (by simp [hm]))
    rw [Lib.indexByte, h1, ih]; rfl
theorem ib_at (c : UInt8) : ∀ x t : List UInt8, c ∉ x → Lib.indexByte (x ++ c :: t) c = x.length
  | [], t, _ => by simp [Lib.indexByte]
  | b :: l, t, h => by
    have h1 : (b == c) = false := by rw [beq_eq_false_iff_ne]; intro e; exact h (by simp [e])
    have ih := ib_at c l t (fun hm => h (by simp [hm]))
    have h2 : ((l.length : Int) == -1) = false := by rw [beq_eq_false_iff_ne]; omega
    rw [List.cons_append, Lib.indexByte, h1, ih, h2]
    simp
theorem splitK_join (c : UInt8) : ∀ (k : Nat) (x : List UInt8) (r : List (List UInt8)), c ∉ x → (∀ p ∈ r, c ∉ p) → r.length ≤ k → Lib.splitK [c] 0 k (x ++ Lib.joinTail [c] r) = x :: r
  | 0, x, [], _, _, _ => by simp [Lib.splitK, Lib.joinTail]
  | 0, x, y :: r, _, _, h => by simp at h
  | k + 1, x, [], hx, _, _ => by
    rw [show x ++ Lib.joinTail [c] [] = x by simp [Lib.joinTail], Lib.splitK, Lib.index_one, ib_none c x hx]; rfl
  | k + 1, x, y :: r, hx, hr, h => by
    have h2 : ((x.length : Int) == -1) = false := by rw [beq_eq_false_iff_ne]; omega
    rw [joinTail_cons, Lib.splitK, Lib.index_one, ib_at c x _ hx, h2]
    have ih := splitK_join c k y r (hr y (by simp)) (fun p hp => hr p (by simp [hp])) (by simp at h; exact h)
    have e1 : (x ++ c :: (y ++ Lib.joinTail [c] r)).take ((x.length : Int).toNat + 0) = x := by simp
    have e2 : (x ++ c :: (y ++ Lib.joinTail [c] r)).drop ((x.length : Int).toNat + [c].length) = y ++ Lib.joinTail [c] r := by
      rw [show ((x.length : Int).toNat + [c].length) = x.length + 1 by simp]
      rw [List.drop_append]; simp
    rw [e1, e2, ih]; simp
theorem splitK_len (c : UInt8) : ∀ (k : Nat) (x : List UInt8) (r : List (List UInt8)), c ∉ x → (∀ p ∈ r, c ∉ p) → k ≤ r.length → (Lib.splitK [c] 0 k (x ++ Lib.joinTail [c] r)).length = k + 1
  | 0, x, r, _, _, _ => by simp [Lib.splitK]
  | k + 1, x, [], _, _, h => by simp at h
  | k + 1, x, y :: r, hx, hr, h => by
    have h2 : ((x.length : Int) == -1) = false := by rw [beq_eq_false_iff_ne]; omega
    rw [joinTail_cons, Lib.splitK, Lib.index_one, ib_at c x _ hx, h2]
    have ih := splitK_len c k y r (hr y (by simp)) (fun p hp => hr p (by simp [hp])) (by simp at h; exact h)
    have e2 : (x ++ c :: (y ++ Lib.joinTail [c] r)).drop ((x.length : Int).toNat + [c].length) = y ++ Lib.joinTail [c] r := by
      rw [show ((x.length : Int).toNat + [c].length) = x.length + 1 by simp]
      rw [List.drop_append]; simp
    rw [e2]; simp [ih]
theorem splitB_cut (c : UInt8) (s : ByteArray) (k : Nat) : ((cutWs c s).length ≤ k + 1 → Lib.splitB ⟨#[c]⟩ 0 k s = cutWs c s) ∧ (k + 1 ≤ (cutWs c s).length → (Lib.splitB ⟨#[c]⟩ 0 k s).length = k + 1) := by
  obtain ⟨h1, h2⟩ := cutWs_join c s
  have h3 := Lib.splitB_data ⟨#[c]⟩ 0 k s
  have hl := cutWs_len c s
  cases hc : cutWs c s with
  | nil => rw [hc] at hl; simp at hl
  | cons a r =>
    rw [hc] at h1 h2
    rw [List.map_cons, Lib.join_cons] at h1
    rw [← h1] at h3
    have hx := h2 a (by simp)
    have hr : ∀ p ∈ r.map (·.data.toList), c ∉ p := fun p hp => by
      obtain ⟨b, hb, rfl⟩ := List.mem_map.1 hp
      exact h2 b (by simp [hb])
    refine ⟨fun h => ?_, fun h => ?_⟩
    · have := splitK_join c k a.data.toList (r.map (·.data.toList)) hx hr (by simp at h ⊢; omega)
      apply map_data_inj
      rw [h3]; exact this
    · have := splitK_len c k a.data.toList (r.map (·.data.toList)) hx hr (by simp at h ⊢; omega)
      rw [← List.length_map (f := (·.data.toList)), h3]; exact this
end Go.Proofs.YtfpnflhkfpolcaaGreatDoor.Cut
