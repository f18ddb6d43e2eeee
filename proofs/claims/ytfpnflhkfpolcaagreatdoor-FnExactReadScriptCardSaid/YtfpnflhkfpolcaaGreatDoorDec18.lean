
/-
  Numbers of at most eighteen digits: their numerals, as the model and the program read them.
-/
import Derived.Test.YtfpnflhkfpolcaaGreatDoorRead1
import Derived.Test.YtfpnflhkfpolcaaGreatDoorDecMath
namespace Go.Proofs.YtfpnflhkfpolcaaGreatDoor.Num
open Go.RowKit Rows3

def In18 (m : Int) : Prop := -1000000000000000000 < m ∧ m < 1000000000000000000
theorem decDigits_len18 {u : Nat} (h : u < 1000000000000000000) : (Lib.decDigits u).length ≤ 18 := (decDigits_facts u).2.2.2.2.2.2 18 (by omega) (by omega)
theorem decDigits_of18 {u : Nat} (h : (Lib.decDigits u).length ≤ 18) : u < 1000000000000000000 := by
  have h3 := (decDigits_facts u).2.2.1
  have : 10 ^ (Lib.decDigits u).length ≤ 10 ^ 18 := Nat.pow_le_pow_right (by decide) h
  omega
theorem itoa_len19 {m : Int} (h : In18 m) : (Lib.itoa m).length ≤ 19 := by
  unfold In18 at h
  rcases itoa_cases m with ⟨hm, em⟩ | ⟨hm, em⟩ <;> rw [em]
  · have := decDigits_len18 (show m.toNat < 1000000000000000000 by omega); omega
  · have := decDigits_len18 (show (-m).toNat < 1000000000000000000 by omega); simp; omega
theorem atoi_itoa18 {m : Int} (h : In18 m) : Lib.atoiAll (Lib.itoa m) = .ok m := by
  unfold In18 at h
  rcases itoa_cases m with ⟨hm, em⟩ | ⟨hm, em⟩ <;> rw [em]
  · have hf := decDigits_facts m.toNat
    rw [Lib.atoiAll_short _ (decDigits_len18 (by omega))]
    have e : Lib.atoi (Lib.decDigits m.toNat) = some m := by
      cases hc : Lib.decDigits m.toNat with
      | nil => rw [hc] at hf; simp at hf
      | cons b r =>
        have hb := hf.2.2.2.2.2.1 b (by rw [hc]; simp)
        have h1 : (b == 45) = false := by rw [beq_eq_false_iff_ne]; rintro rfl; simp at hb
        have h2 : (b == 43) = false := by rw [beq_eq_false_iff_ne]; rintro rfl; simp at hb
        simp only [Lib.atoi, h1, h2, Lib.decNat]
        rw [← hc, hf.2.2.2.2.1]
        simp [hc]; omega
    rw [e]; rfl
  · have hf := decDigits_facts (-m).toNat
    have hne : (Lib.decDigits (-m).toNat).isEmpty = false := by
      cases hc : Lib.decDigits (-m).toNat with
      | nil => rw [hc] at hf; simp at hf
      | cons b r => rfl
    have hp : Lib.parseMag (Lib.decDigits (-m).toNat) = .ok (-m).toNat := by
      rw [Lib.parseMag_short _ (decDigits_len18 (by omega))]
      simp only [Lib.decNat, hne, hf.2.2.2.2.1]
      rfl
    have e45 : (45 : UInt8).toNat = 45 := rfl
    simp only [Lib.atoiAll, e45, or_true, if_true, hp, not_true, false_and, if_false, true_and]
    rw [if_neg (by omega)]
    congr 1
    omega
theorem in18_of_trim {n : Int} (h : (Lib.trimPrefix (Lib.itoa n) [45]).length ≤ 18) : In18 n := by
  unfold In18
  rcases itoa_cases n with ⟨hm, em⟩ | ⟨hm, em⟩ <;> rw [em] at h
  · have : Lib.trimPrefix (Lib.decDigits n.toNat) [45] = Lib.decDigits n.toNat := by
      unfold Lib.trimPrefix Lib.hasPrefix
      rw [if_neg]
      intro hp
      obtain ⟨r, hr⟩ := List.isPrefixOf_iff_prefix.1 hp
      exact head_ne _ r hr.symm
    rw [this] at h
    have := decDigits_of18 h
    omega
  · have : Lib.trimPrefix (45 :: Lib.decDigits (-n).toNat) [45] = Lib.decDigits (-n).toNat := by
      unfold Lib.trimPrefix Lib.hasPrefix
      rw [if_pos (by simp)]; rfl
    rw [this] at h
    have := decDigits_of18 h
    omega
theorem trim_of_in18 {n : Int} (h : In18 n) : (Lib.trimPrefix (Lib.itoa n) [45]).length ≤ 18 := by
  unfold In18 at h
  rcases itoa_cases n with ⟨hm, em⟩ | ⟨hm, em⟩ <;> rw [em]
  · have := decDigits_len18 (show n.toNat < 1000000000000000000 by omega)
    unfold Lib.trimPrefix
    split
    · simp; omega
    · exact this
  · have := decDigits_len18 (show (-n).toNat < 1000000000000000000 by omega)
    unfold Lib.trimPrefix Lib.hasPrefix
    rw [if_pos (by simp)]; simpa using this
/-- what is read of a word: the number of at most eighteen digits whose numeral it is, or some other of them. -/
def N18 (s : ByteArray) (n : Int) : Prop := In18 n ∧ ∀ d : Int, In18 d → Lib.itoa d = s.data.toList → n = d
def Num18P (s : ByteArray) (w : World) (e : Ending) (w' : World) : Prop := ∃ n : Int, e = .returned (.int .i64 n) ∧ N18 s n ∧ w = w'
theorem Num18P.mk {s : ByteArray} {w w' : World} {e : Ending} {n : Int} (h1 : e = .returned (.int .i64 n)) (h2 : N18 s n) (h3 : w = w') : Num18P s w e w' := ⟨n, h1, h2, h3⟩
theorem N18.none {s : ByteArray} (h : ∀ d : Int, In18 d → Lib.itoa d ≠ s.data.toList) : N18 s 0 := ⟨⟨by omega, by omega⟩, fun d a e => absurd e (h d a)⟩
theorem plus_of (s : ByteArray) (h : ¬ ∃ hp : 0 < s.size, s[0].toNat = 45) (d : Int) (e : Lib.itoa d = s.data.toList) : 0 ≤ d := by
  rcases itoa_cases d with ⟨hm, _⟩ | ⟨hm, em⟩
  · exact hm
  · rw [em] at e
    have hp : 0 < s.data.toList.length := by rw [← e]; simp
    have hp' : 0 < s.size := by simpa using hp
    refine absurd ⟨hp', ?_⟩ h
    rw [← getD_of5 s 0 hp', ← e]; rfl
theorem minus_of (s : ByteArray) (hp : 0 < s.size) (h : s[0].toNat = 45) {t : ByteArray} (ht : s.extract 1 s.size = t) : s.data.toList = 45 :: t.data.toList := by
  have h0 : s.data.toList.getD 0 0 = 45 := by rw [getD_of5 s 0 hp]; exact UInt8.toNat_inj.1 h
  have h1 : t.data.toList = s.data.toList.drop 1 := by rw [← ht]; simp; exact List.take_of_length_le (by simp)
  rw [h1]
  cases hl : s.data.toList with
  | nil => have : s.data.toList.length = s.size := by simp
           rw [hl] at this; simp at this; omega
  | cons x r => rw [hl] at h0; simp at h0; simp [h0]
theorem N18.digs {s : ByteArray} (hm : ∀ d, Lib.itoa d = s.data.toList → 0 ≤ d) (h18 : s.size ≤ 18 ∨ s.size = 0) (_ : Digs s s.size) : N18 s (nv (s.data.toList.take s.size) : Nat) := by
  have hf : s.data.toList.take s.size = s.data.toList := List.take_of_length_le (by simp)
  rw [hf]
  have h1 := nv_lt s.data.toList
  have h2 : s.data.toList.length ≤ 18 := by simp; omega
  have h3 := Nat.lt_of_lt_of_le h1 (Nat.le_trans (Nat.pow_le_pow_right (by decide) h2) (show 10 ^ 18 ≤ 1000000000000000000 by decide))
  refine ⟨⟨by omega, by omega⟩, fun d h0 e => ?_⟩
  have hd := hm d e
  rcases itoa_cases d with ⟨_, em⟩ | ⟨h, _⟩
  · rw [← e, em, (decDigits_facts d.toNat).1]; omega
  · omega
theorem N18.nodig {s : ByteArray} (hm : ∀ d, Lib.itoa d = s.data.toList → 0 ≤ d) (h : ¬ Digs s s.size) : N18 s 0 := by
  refine N18.none fun d h0 e => h fun i hi => ?_
  rcases itoa_cases d with ⟨_, em⟩ | ⟨h1, _⟩
  · have hi' : i < s.data.toList.length := by simpa using hi
    have h6 := (decDigits_facts d.toNat).2.2.2.2.2.1 s.data.toList[i] (by rw [← em, e]; exact List.getElem_mem hi')
    rw [show s.data.toList.getD i 0 = s.data.toList[i] by simp [List.getD, hi]]
    exact h6
  · have := hm d e; omega
theorem N18.long {s : ByteArray} (hm : ∀ d, Lib.itoa d = s.data.toList → 0 ≤ d) (h : 18 < s.size) : N18 s 0 := by
  refine N18.none fun d h0 e => ?_
  unfold In18 at h0
  rcases itoa_cases d with ⟨_, em⟩ | ⟨h1, _⟩
  · have h6 := decDigits_len18 (show d.toNat < 1000000000000000000 by omega)
    rw [← em, e] at h6
    simp at h6
    omega
  · have := hm d e; omega
theorem digs_of_minus {s t : ByteArray} (hst : s.data.toList = 45 :: t.data.toList) {d : Int} (e : Lib.itoa d = s.data.toList) : d < 0 ∧ t.data.toList = Lib.decDigits (-d).toNat := by
  rcases itoa_cases d with ⟨_, em⟩ | ⟨h1, em⟩
  · rw [em, hst] at e; exact absurd e (head_ne _ _)
  · rw [em, hst] at e; exact ⟨h1, (List.cons.inj e).2.symm⟩
theorem N18.digsM {s t : ByteArray} (hst : s.data.toList = 45 :: t.data.toList) (h18 : t.size ≤ 18 ∨ t.size = 0) (_ : Digs t t.size) : N18 s (-((nv (t.data.toList.take t.size) : Nat) : Int)) := by
  have hf : t.data.toList.take t.size = t.data.toList := List.take_of_length_le (by simp)
  rw [hf]
  have h1 := nv_lt t.data.toList
  have h2 : t.data.toList.length ≤ 18 := by simp; omega
  have h3 := Nat.lt_of_lt_of_le h1 (Nat.le_trans (Nat.pow_le_pow_right (by decide) h2) (show 10 ^ 18 ≤ 1000000000000000000 by decide))
  refine ⟨⟨by omega, by omega⟩, fun d h0 e => ?_⟩
  obtain ⟨hd, he⟩ := digs_of_minus hst e
  rw [he, (decDigits_facts _).1]; omega
theorem N18.nodigM {s t : ByteArray} (hst : s.data.toList = 45 :: t.data.toList) (h : ¬ Digs t t.size) : N18 s 0 := by
  refine N18.none fun d h0 e => h fun i hi => ?_
  obtain ⟨hd, he⟩ := digs_of_minus hst e
  have hi' : i < t.data.toList.length := by simpa using hi
  have h6 := (decDigits_facts (-d).toNat).2.2.2.2.2.1 t.data.toList[i] (by rw [← he]; exact List.getElem_mem hi')
  rw [show t.data.toList.getD i 0 = t.data.toList[i] by simp [List.getD, hi]]
  exact h6
theorem N18.longM {s t : ByteArray} (hst : s.data.toList = 45 :: t.data.toList) (h : 18 < t.size) : N18 s 0 := by
  refine N18.none fun d h0 e => ?_
  unfold In18 at h0
  obtain ⟨hd, he⟩ := digs_of_minus hst e
  have h6 := decDigits_len18 (show (-d).toNat < 1000000000000000000 by omega)
  rw [← he] at h6
  simp at h6
  omega
set_option maxHeartbeats 2000000 in
set_option maxRecDepth 100000 in
theorem specNum18 (s : ByteArray) (hs : s.size ≤ 1048576) (w : World) : Calls Tryz.prog 21 #[.string s] w (Num18P s w) := by
  by_cases h45 : ∃ hp : 0 < s.size, s[0].toNat = 45
  · obtain ⟨hp, h45⟩ := h45
    obtain ⟨t, ht⟩ : ∃ t, s.extract 1 s.size = t := ⟨_, rfl⟩
    have Ht := Lib.hid ht
    have hst := minus_of s hp h45 ht
    have Hnd := Lib.hid (N18.nodigM hst)
    have Hlg := Lib.hid (N18.longM hst)
    have Hdg := Lib.hid (N18.digsM hst)
    clear hst
    have hq : ((s[0].toNat : Int) == 45) = true := by rw [beq_iff_eq]; omega
    have hts : t.size ≤ 1048576 := by rw [← ht, ByteArray.size_extract]; omega
    clear ht h45
    go_enter Tryz.func21, Tryz.ntmps21
    go_wp2_with fail
    rw [show s.extract 1 s.size = t from Ht.out]
    go_loop [4, 5] (fun n i => ∃ k : Nat, k ≤ t.size ∧ (t.size ≤ 18 ∨ k = 0) ∧ i = .int .i64 k ∧ n = .int .i64 (nv (t.data.toList.take k)) ∧ Digs t k) (fun _ i => t.size - (intOf i).toNat)
    case atStart => exact ⟨0, by omega, .inr rfl, rfl, rfl, fun i hi => by omega⟩
    case round =>
      obtain ⟨k, hk, h18, rfl, rfl, hdg⟩ := hrel
      have Hd := Lib.hid hdg
      have hv : nv (t.data.toList.take k) < 1000000000000000000 := by
        have h1 := nv_lt (t.data.toList.take k)
        have h2 : (t.data.toList.take k).length ≤ 18 := by rw [List.length_take]; omega
        exact Nat.lt_of_lt_of_le h1 (Nat.le_trans (Nat.pow_le_pow_right (by decide) h2) (by decide))
      clear hdg
      by_cases hlt : k < t.size
      · have hb8 : t[k].toNat < 256 := t[k].toNat_lt
        have Hg := Lib.hid (getD_of5 t k hlt)
        have Hv := Lib.hid (show nv (t.data.toList.take (k + 1)) = nvS (nv (t.data.toList.take k)) t[k] by rw [List.take_succ_eq_append_getElem (by simpa using hlt), nv_snoc]; rfl)
        have Hx := Lib.hid (show nv (t.data.toList.take k) < 10 ^ k from Nat.lt_of_lt_of_le (nv_lt _) (Nat.pow_le_pow_right (by decide) (by simp; omega)))
        generalize nv (t.data.toList.take k) = x at hv Hv Hx ⊢
        by_cases hb1 : t[k].toNat < 48
        · have Hn := Lib.hid (Hnd.out (fun hd => by have := hd k hlt; rw [Hg.out] at this; omega))
          go_wp2
          go_ret
          exact Num18P.mk rfl Hn.out rfl
        · by_cases hb2 : 57 < t[k].toNat
          · have Hn := Lib.hid (Hnd.out (fun hd => by have := hd k hlt; rw [Hg.out] at this; omega))
            go_wp2
            go_ret
            exact Num18P.mk rfl Hn.out rfl
          · by_cases hbig : 18 < t.size
            · have Hn := Lib.hid (Hlg.out hbig)
              go_wp2
              go_ret
              exact Num18P.mk rfl Hn.out rfl
            · have h17 : x < 100000000000000000 := Nat.lt_of_lt_of_le Hx.out (Nat.le_trans (Nat.pow_le_pow_right (by decide) (show k ≤ 17 by omega)) (by decide))
              have f1 : IntKind.i64.wrap ((x : Int) * 10) = (x : Int) * 10 := IntWalk.i64_in _ (by omega)
              have f2 : IntKind.i64.wrap ((x : Int) * 10 + (t[k].toNat : Int)) = (x : Int) * 10 + (t[k].toNat : Int) := IntWalk.i64_in _ (by omega)
              have f3 : IntKind.i64.wrap ((x : Int) * 10 + (t[k].toNat : Int) - 48) = (x : Int) * 10 + (t[k].toNat : Int) - 48 := IntWalk.i64_in _ (by omega)
              go_wp2
              clear f1 f2 f3
              go_round
              case rel =>
                refine ⟨k + 1, by omega, .inl (by omega), by go_num, ?_, fun i hi => ?_⟩
                · rw [Hv.out, nvS, if_pos ⟨by omega, by omega⟩]; go_num
                · by_cases hik : i = k
                  · rw [hik, Hg.out]; exact ⟨by omega, by omega⟩
                  · exact Hd.out i (by omega)
              case measure => simp [intOf]; omega
      · obtain rfl : k = t.size := by omega
        have Hn := Lib.hid (Hdg.out h18 Hd.out)
        generalize nv (t.data.toList.take t.size) = x at Hn hv ⊢
        have f1 : IntKind.i64.wrap (-(x : Int)) = -(x : Int) := IntWalk.i64_in _ (by omega)
        go_wp2
        go_ret
        exact Num18P.mk rfl Hn.out rfl
  · have hq : ∀ hp : 0 < s.size, ((s[0].toNat : Int) == 45) = false := fun hp => by rw [beq_eq_false_iff_ne]; intro e; exact h45 ⟨hp, by omega⟩
    have Hm := Lib.hid (plus_of s h45)
    clear h45
    by_cases hp : 0 < s.size
    · have hq1 := hq hp
      clear hq
      go_enter Tryz.func21, Tryz.ntmps21
      go_wp2
      go_loop [4, 5] (fun n i => ∃ k : Nat, k ≤ s.size ∧ (s.size ≤ 18 ∨ k = 0) ∧ i = .int .i64 k ∧ n = .int .i64 (nv (s.data.toList.take k)) ∧ Digs s k) (fun _ i => s.size - (intOf i).toNat)
      case atStart => exact ⟨0, by omega, .inr rfl, rfl, rfl, fun i hi => by omega⟩
      case round =>
        obtain ⟨k, hk, h18, rfl, rfl, hdg⟩ := hrel
        have Hd := Lib.hid hdg
        have hv : nv (s.data.toList.take k) < 1000000000000000000 := by
          have h1 := nv_lt (s.data.toList.take k)
          have h2 : (s.data.toList.take k).length ≤ 18 := by rw [List.length_take]; omega
          exact Nat.lt_of_lt_of_le h1 (Nat.le_trans (Nat.pow_le_pow_right (by decide) h2) (by decide))
        clear hdg
        by_cases hlt : k < s.size
        · have hb8 : s[k].toNat < 256 := s[k].toNat_lt
          have Hg := Lib.hid (getD_of5 s k hlt)
          have Hv := Lib.hid (show nv (s.data.toList.take (k + 1)) = nvS (nv (s.data.toList.take k)) s[k] by rw [List.take_succ_eq_append_getElem (by simpa using hlt), nv_snoc]; rfl)
          have Hx := Lib.hid (show nv (s.data.toList.take k) < 10 ^ k from Nat.lt_of_lt_of_le (nv_lt _) (Nat.pow_le_pow_right (by decide) (by simp; omega)))
          generalize nv (s.data.toList.take k) = x at hv Hv Hx ⊢
          by_cases hb1 : s[k].toNat < 48
          · have Hn := Lib.hid (N18.nodig Hm.out (fun hd => by have := hd k hlt; rw [Hg.out] at this; omega))
            go_wp2
            go_ret
            exact Num18P.mk rfl Hn.out rfl
          · by_cases hb2 : 57 < s[k].toNat
            · have Hn := Lib.hid (N18.nodig Hm.out (fun hd => by have := hd k hlt; rw [Hg.out] at this; omega))
              go_wp2
              go_ret
              exact Num18P.mk rfl Hn.out rfl
            · by_cases hbig : 18 < s.size
              · have Hn := Lib.hid (N18.long Hm.out hbig)
                go_wp2
                go_ret
                exact Num18P.mk rfl Hn.out rfl
              · have h17 : x < 100000000000000000 := Nat.lt_of_lt_of_le Hx.out (Nat.le_trans (Nat.pow_le_pow_right (by decide) (show k ≤ 17 by omega)) (by decide))
                have f1 : IntKind.i64.wrap ((x : Int) * 10) = (x : Int) * 10 := IntWalk.i64_in _ (by omega)
                have f2 : IntKind.i64.wrap ((x : Int) * 10 + (s[k].toNat : Int)) = (x : Int) * 10 + (s[k].toNat : Int) := IntWalk.i64_in _ (by omega)
                have f3 : IntKind.i64.wrap ((x : Int) * 10 + (s[k].toNat : Int) - 48) = (x : Int) * 10 + (s[k].toNat : Int) - 48 := IntWalk.i64_in _ (by omega)
                go_wp2
                clear f1 f2 f3
                go_round
                case rel =>
                  refine ⟨k + 1, by omega, .inl (by omega), by go_num, ?_, fun i hi => ?_⟩
                  · rw [Hv.out, nvS, if_pos ⟨by omega, by omega⟩]; go_num
                  · by_cases hik : i = k
                    · rw [hik, Hg.out]; exact ⟨by omega, by omega⟩
                    · exact Hd.out i (by omega)
                case measure => simp [intOf]; omega
        · obtain rfl : k = s.size := by omega
          have Hn := Lib.hid (N18.digs Hm.out h18 Hd.out)
          generalize nv (s.data.toList.take s.size) = x at Hn hv ⊢
          have f1 : IntKind.i64.wrap ((x : Int)) = (x : Int) := IntWalk.i64_in _ (by omega)
          go_wp2
          go_ret
          exact Num18P.mk rfl Hn.out rfl
    · have hz : s.size = 0 := by omega
      clear hq
      go_enter Tryz.func21, Tryz.ntmps21
      go_wp2
      go_loop [4, 5] (fun n i => ∃ k : Nat, k ≤ s.size ∧ (s.size ≤ 18 ∨ k = 0) ∧ i = .int .i64 k ∧ n = .int .i64 (nv (s.data.toList.take k)) ∧ Digs s k) (fun _ i => s.size - (intOf i).toNat)
      case atStart => exact ⟨0, by omega, .inr rfl, rfl, rfl, fun i hi => by omega⟩
      case round =>
        obtain ⟨k, hk, h18, rfl, rfl, hdg⟩ := hrel
        have Hd := Lib.hid hdg
        have hv : nv (s.data.toList.take k) < 1000000000000000000 := by
          have h1 := nv_lt (s.data.toList.take k)
          have h2 : (s.data.toList.take k).length ≤ 18 := by rw [List.length_take]; omega
          exact Nat.lt_of_lt_of_le h1 (Nat.le_trans (Nat.pow_le_pow_right (by decide) h2) (by decide))
        clear hdg
        by_cases hlt : k < s.size
        · omega
        · obtain rfl : k = s.size := by omega
          have Hn := Lib.hid (N18.digs Hm.out h18 Hd.out)
          generalize nv (s.data.toList.take s.size) = x at Hn hv ⊢
          have f1 : IntKind.i64.wrap ((x : Int)) = (x : Int) := IntWalk.i64_in _ (by omega)
          go_wp2
          go_ret
          exact Num18P.mk rfl Hn.out rfl
end Go.Proofs.YtfpnflhkfpolcaaGreatDoor.Num
