
/-
  What ReadDec returns, for the program and for its model, in every world in which the library's tables and errors read as its text lays them.
-/
import Derived.Test.YtilbaooancgodaaDoorDec
import Derived.Test.YtilbaooancgodaaDoorDecMath
import Derived.Test.YtilbaooancgodaaDoorShelfS
import Derived.Deep.RegionWith
import Derived.Lib.AtoiErrMem
namespace Go.Proofs.YtilbaooancgodaaDoor.Num
open Go.RowKit Bytes

theorem take_snocD (s : ByteArray) (k : Nat) (h : k < s.size) : s.data.toList.take (k + 1) = s.data.toList.take k ++ [s[k]] := by
  rw [List.take_succ_eq_append_getElem (by simpa using h)]; rfl
theorem len_toLD (s : ByteArray) : s.data.toList.length = s.size := by simp
theorem nvS_yes {n : Nat} {b : UInt8} (h1 : 48 ≤ b.toNat) (h2 : b.toNat ≤ 57) : nvS n b = n * 10 + (b.toNat - 48) := if_pos ⟨h1, h2⟩
theorem nkS_yes {n : Nat} {b : UInt8} (h1 : 48 ≤ b.toNat) (h2 : b.toNat ≤ 57) : nkS n b = n + 1 := if_pos ⟨h1, h2⟩
theorem nvS_no {n : Nat} {b : UInt8} (h : ¬ (48 ≤ b.toNat ∧ b.toNat ≤ 57)) : nvS n b = n := if_neg h
theorem nkS_no {n : Nat} {b : UInt8} (h : ¬ (48 ≤ b.toNat ∧ b.toNat ≤ 57)) : nkS n b = n := if_neg h

/-- what ReadDec ends with. -/
def RDPost (s : List UInt8) (w : World) (e : Ending) (w' : World) : Prop := ∃ n b, e = .returned (.tuple #[.int .i64 n, .bool b]) ∧ RD s n b ∧ Below w.heap.size w w'
theorem RDPost.mk {s : List UInt8} {w : World} {e : Ending} {w' : World} {n : Int} {b : Bool} (h1 : e = .returned (.tuple #[.int .i64 n, .bool b])) (h2 : RD s n b) (h3 : Below w.heap.size w w') : RDPost s w e w' := ⟨n, b, h1, h2, h3⟩
theorem head_of (s : ByteArray) (h : 0 < s.size) : s.data.toList.head? = some s[0] := by
  rw [List.head?_eq_getElem?]; simp [h]; rfl
theorem sign_neg (s : ByteArray) (hp : 0 < s.size) (h : s[0].toNat = 45) {X : Nat} {m : Int} (e : Lib.itoa m = s.data.toList) (hX : nv s.data.toList = X) : -(X : Int) = m := by
  have := (sign_nv (m := m)).1
  rw [e, head_of s hp, if_pos (by congr 1; exact UInt8.toNat_inj.1 h), hX] at this
  exact this
theorem sign_pos (s : ByteArray) (h : ¬ ∃ hp : 0 < s.size, s[0].toNat = 45) {X : Nat} {m : Int} (e : Lib.itoa m = s.data.toList) (hX : nv s.data.toList = X) : (X : Int) = m := by
  have := (sign_nv (m := m)).1
  rw [e, if_neg, hX] at this
  · exact this
  · intro hh
    by_cases hp : 0 < s.size
    · rw [head_of s hp] at hh
      exact h ⟨hp, by rw [Option.some.inj hh]; rfl⟩
    · rw [List.head?_eq_getElem?] at hh; simp [hp] at hh
set_option maxHeartbeats 4000000 in
set_option maxRecDepth 100000 in
theorem specReadDec_any (s : ByteArray) (hs : s.size ≤ maxLen) (w : World) :
    Calls Tryd.prog 29 #[.string s] w fun e w' => RDPost s.data.toList w e w' := by
  unfold maxLen at hs
  obtain ⟨m, hm, hms, hmm⟩ : ∃ m : Nat, m ≤ 11 ∧ m ≤ s.size ∧ (m = 11 ∨ m = s.size) := ⟨min s.size 11, by omega, by omega, by omega⟩
  go_enter Tryd.func29, Tryd.ntmps29
  go_wp2
  go_loop [4, 5, 6] (fun n k i => ∃ j : Nat, j ≤ m ∧ i = .int .i64 j ∧ n = .int .i64 (nv (s.data.toList.take j)) ∧ k = .int .i64 (nk (s.data.toList.take j))) (fun _ _ i => m - (intOf i).toNat)
  case atStart => exact ⟨0, by omega, rfl, rfl, rfl⟩
  case round =>
    obtain ⟨j, hj, rfl, rfl, rfl⟩ := hrel
    have hv := nv_lt (s.data.toList.take j)
    have hv2 : nv (s.data.toList.take j) < 100000000000 := Nat.lt_of_lt_of_le hv (Nat.le_trans (Nat.pow_le_pow_right (by decide) (show (s.data.toList.take j).length ≤ 11 by simp; omega)) (by decide))
    have hk2 : nk (s.data.toList.take j) ≤ 11 := Nat.le_trans (nk_le _) (by simp; omega)
    clear hv
    by_cases hlt : j < m
    · have h11 : j < 11 := by omega
      have hjs : j < s.size := by omega
      have hb8 : s[j].toNat < 256 := s[j].toNat_lt
      have Hv := Lib.hid (show nv (s.data.toList.take (j + 1)) = nvS (nv (s.data.toList.take j)) s[j] by rw [take_snocD s j hjs, nv_snoc])
      have Hk := Lib.hid (show nk (s.data.toList.take (j + 1)) = nkS (nk (s.data.toList.take j)) s[j] by rw [take_snocD s j hjs, nk_snoc])
      generalize nv (s.data.toList.take j) = x at hv2 Hv ⊢
      generalize nk (s.data.toList.take j) = y at hk2 Hk ⊢
      by_cases h1 : 48 ≤ s[j].toNat
      · by_cases h2 : s[j].toNat ≤ 57
        · go_wp2
          go_round
          case rel => exact ⟨j + 1, by omega, by go_num, by rw [Hv.out, nvS_yes h1 h2]; go_num, by rw [Hk.out, nkS_yes h1 h2]; go_num⟩
          case measure => simp [intOf]; omega
        · go_wp2
          go_round
          case rel => exact ⟨j + 1, by omega, by go_num, by rw [Hv.out, nvS_no (fun h => h2 h.2)], by rw [Hk.out, nkS_no (fun h => h2 h.2)]⟩
          case measure => simp [intOf]; omega
      · go_wp2
        go_round
        case rel => exact ⟨j + 1, by omega, by go_num, by rw [Hv.out, nvS_no (fun h => h1 h.1)], by rw [Hk.out, nkS_no (fun h => h1 h.1)]⟩
        case measure => simp [intOf]; omega
    · have hjm : j = m := by omega
      subst hjm
      have hfull : ¬ 10 < s.size → nv s.data.toList = nv (s.data.toList.take j) ∧ nk s.data.toList = nk (s.data.toList.take j) := fun h => by
        rw [List.take_of_length_le (by rw [len_toLD]; omega)]; exact ⟨rfl, rfl⟩
      generalize nv (s.data.toList.take j) = X at hv2 hfull ⊢
      have hnoY : 9 < nk (s.data.toList.take j) → ∀ m', In9 m' → Lib.itoa m' ≠ s.data.toList := fun h m' hm' e' => by
        have h1 := nk_itoa hm'
        have h2 := itoa_len10 hm'
        rw [e'] at h1 h2
        rw [len_toLD] at h2
        rw [List.take_of_length_le (by rw [len_toLD]; omega)] at h; omega
      have hno10 : 10 < s.size → ∀ m', In9 m' → Lib.itoa m' ≠ s.data.toList := fun h m' hm' e' => by
        have h2 := itoa_len10 hm'
        rw [e', len_toLD] at h2; omega
      generalize nk (s.data.toList.take j) = Y at hk2 hfull hnoY ⊢
      have hge : ¬ j < j := by omega
      have hend : ¬ (j < s.size ∧ j < 11) := by omega
      clear hmm
      by_cases hp : 0 < s.size
      · by_cases h45 : s[0].toNat = 45
        · have hq : ((s[0].toNat : Int) == 45) = true := by rw [beq_iff_eq]; omega
          have H45 := Lib.hid h45
          clear h45
          by_cases hy : 9 < Y
          · have HnoY := Lib.hid (hnoY hy)
            clear hnoY hno10 hfull
            go_wp2
            all_goals go_ret2
            all_goals exact RDPost.mk rfl (.inr ⟨rfl, rfl, HnoY.out⟩) (Below.refl _ _)
          · by_cases h10 : 10 < s.size
            · have Hno := Lib.hid (hno10 h10)
              clear hnoY hno10 hfull
              go_wp2
              all_goals go_ret2
              all_goals exact RDPost.mk rfl (.inr ⟨rfl, rfl, Hno.out⟩) (Below.refl _ _)
            · have hf := hfull h10
              have Hz := Lib.hid (show ∀ m', Lib.itoa m' = s.data.toList → -(X : Int) = m' from fun m' e' => sign_neg s hp H45.out e' hf.1)
              have hb1 : -9223372036854775808 ≤ -(X : Int) := by omega
              have hb2 : -(X : Int) ≤ 9223372036854775807 := by omega
              have Hf := Lib.hid hf
              clear hnoY hno10 hfull hf
              by_cases he : Lib.itoa (-(X : Int)) = s.data.toList
              · have q1 : (Lib.itoa (-(X : Int)) == s.toList) = true := by rw [ByteArray.toList_eq, beq_iff_eq]; exact he
                have q2 : (!(Lib.itoa (-(X : Int)) == s.toList)) = false := by rw [q1]; rfl
                have He := Lib.hid he
                clear he
                go_wp2_with (go_at_call 69; refine (specDec_any _ hb1 hb2 _).mono ?_; rintro e w1 ⟨rfl, hw1⟩)
                all_goals go_ret2
                all_goals exact RDPost.mk rfl (.inl ⟨rfl, in9_of_nk (by rw [He.out, Hf.out.2]; omega), He.out⟩) hw1
              · have q1 : (Lib.itoa (-(X : Int)) == s.toList) = false := by rw [ByteArray.toList_eq, beq_eq_false_iff_ne]; exact he
                have q2 : (!(Lib.itoa (-(X : Int)) == s.toList)) = true := by rw [q1]; rfl
                have Hn := Lib.hid (show ∀ m', In9 m' → Lib.itoa m' ≠ s.data.toList from fun m' _ e' => he (by rw [Hz.out m' e']; exact e'))
                clear he
                go_wp2_with (go_at_call 69; refine (specDec_any _ hb1 hb2 _).mono ?_; rintro e w1 ⟨rfl, hw1⟩)
                all_goals go_ret2
                all_goals exact RDPost.mk rfl (.inr ⟨rfl, rfl, Hn.out⟩) hw1
        · have hq : ((s[0].toNat : Int) == 45) = false := by rw [beq_eq_false_iff_ne]; omega
          have H45 := Lib.hid h45
          clear h45
          by_cases hy : 9 < Y
          · have HnoY := Lib.hid (hnoY hy)
            clear hnoY hno10 hfull
            go_wp2
            all_goals go_ret2
            all_goals exact RDPost.mk rfl (.inr ⟨rfl, rfl, HnoY.out⟩) (Below.refl _ _)
          · by_cases h10 : 10 < s.size
            · have Hno := Lib.hid (hno10 h10)
              clear hnoY hno10 hfull
              go_wp2
              all_goals go_ret2
              all_goals exact RDPost.mk rfl (.inr ⟨rfl, rfl, Hno.out⟩) (Below.refl _ _)
            · have hf := hfull h10
              have Hz := Lib.hid (show ∀ m', Lib.itoa m' = s.data.toList → (X : Int) = m' from fun m' e' => sign_pos s (fun h => H45.out h.choose_spec) e' hf.1)
              have hb1 : -9223372036854775808 ≤ (X : Int) := by omega
              have hb2 : (X : Int) ≤ 9223372036854775807 := by omega
              have Hf := Lib.hid hf
              clear hnoY hno10 hfull hf
              by_cases he : Lib.itoa ((X : Int)) = s.data.toList
              · have q1 : (Lib.itoa ((X : Int)) == s.toList) = true := by rw [ByteArray.toList_eq, beq_iff_eq]; exact he
                have q2 : (!(Lib.itoa ((X : Int)) == s.toList)) = false := by rw [q1]; rfl
                have He := Lib.hid he
                clear he
                go_wp2_with (go_at_call 69; refine (specDec_any _ hb1 hb2 _).mono ?_; rintro e w1 ⟨rfl, hw1⟩)
                all_goals go_ret2
                all_goals exact RDPost.mk rfl (.inl ⟨rfl, in9_of_nk (by rw [He.out, Hf.out.2]; omega), He.out⟩) hw1
              · have q1 : (Lib.itoa ((X : Int)) == s.toList) = false := by rw [ByteArray.toList_eq, beq_eq_false_iff_ne]; exact he
                have q2 : (!(Lib.itoa ((X : Int)) == s.toList)) = true := by rw [q1]; rfl
                have Hn := Lib.hid (show ∀ m', In9 m' → Lib.itoa m' ≠ s.data.toList from fun m' _ e' => he (by rw [Hz.out m' e']; exact e'))
                clear he
                go_wp2_with (go_at_call 69; refine (specDec_any _ hb1 hb2 _).mono ?_; rintro e w1 ⟨rfl, hw1⟩)
                all_goals go_ret2
                all_goals exact RDPost.mk rfl (.inr ⟨rfl, rfl, Hn.out⟩) hw1
      · have hz : s.size = 0 := by omega
        by_cases hy : 9 < Y
        · have HnoY := Lib.hid (hnoY hy)
          clear hnoY hno10 hfull
          go_wp2
          all_goals go_ret2
          all_goals exact RDPost.mk rfl (.inr ⟨rfl, rfl, HnoY.out⟩) (Below.refl _ _)
        · by_cases h10 : 10 < s.size
          · have Hno := Lib.hid (hno10 h10)
            clear hnoY hno10 hfull
            go_wp2
            all_goals go_ret2
            all_goals exact RDPost.mk rfl (.inr ⟨rfl, rfl, Hno.out⟩) (Below.refl _ _)
          · have hf := hfull h10
            have Hz := Lib.hid (show ∀ m', Lib.itoa m' = s.data.toList → (X : Int) = m' from fun m' e' => sign_pos s (fun h => hp h.choose) e' hf.1)
            have hb1 : -9223372036854775808 ≤ (X : Int) := by omega
            have hb2 : (X : Int) ≤ 9223372036854775807 := by omega
            have Hf := Lib.hid hf
            clear hnoY hno10 hfull hf
            by_cases he : Lib.itoa ((X : Int)) = s.data.toList
            · have q1 : (Lib.itoa ((X : Int)) == s.toList) = true := by rw [ByteArray.toList_eq, beq_iff_eq]; exact he
              have q2 : (!(Lib.itoa ((X : Int)) == s.toList)) = false := by rw [q1]; rfl
              have He := Lib.hid he
              clear he
              go_wp2_with (go_at_call 69; refine (specDec_any _ hb1 hb2 _).mono ?_; rintro e w1 ⟨rfl, hw1⟩)
              all_goals go_ret2
              all_goals exact RDPost.mk rfl (.inl ⟨rfl, in9_of_nk (by rw [He.out, Hf.out.2]; omega), He.out⟩) hw1
            · have q1 : (Lib.itoa ((X : Int)) == s.toList) = false := by rw [ByteArray.toList_eq, beq_eq_false_iff_ne]; exact he
              have q2 : (!(Lib.itoa ((X : Int)) == s.toList)) = true := by rw [q1]; rfl
              have Hn := Lib.hid (show ∀ m', In9 m' → Lib.itoa m' ≠ s.data.toList from fun m' _ e' => he (by rw [Hz.out m' e']; exact e'))
              clear he
              go_wp2_with (go_at_call 69; refine (specDec_any _ hb1 hb2 _).mono ?_; rintro e w1 ⟨rfl, hw1⟩)
              all_goals go_ret2
              all_goals exact RDPost.mk rfl (.inr ⟨rfl, rfl, Hn.out⟩) hw1

/-- the library's two errors hold what they were made to hold. -/
def Errs (w : World) : Prop := (∃ tp p, w.var? Tryd.prog "strconv.ErrSyntax" = some #[.iface tp p]) ∧ (∃ tp p, w.var? Tryd.prog "strconv.ErrRange" = some #[.iface tp p])

theorem itoa_trim {s : List UInt8} {m : Int} (h : In9 m) (e : Lib.itoa m = s) : ¬ 9 < (Lib.trimPrefix s [45]).length := by
  have := trim_of_in9 h; rw [e] at this; omega
set_option maxRecDepth 100000 in
theorem implReadDecimal9 (s : ByteArray) (hs : s.size ≤ 1048576) (w : World) (htab : Pow w) (herr : Errs w) :
    Calls Tryd.prog 63 #[.string s, .int .i64 9] w fun e w' => RDPost s.data.toList w e w' := by
  obtain ⟨⟨tp1, p1, hv1⟩, ⟨tp2, p2, hv2⟩⟩ := herr
  have Hv1 := Lib.hid hv1
  have Hv2 := Lib.hid hv2
  have Htab := Lib.hid htab
  clear hv1 hv2 htab
  by_cases ht : 9 < (Lib.trimPrefix s.data.toList [45]).length
  · have Ht := Lib.hid (show ∀ m, In9 m → Lib.itoa m ≠ s.data.toList from fun m hm e => itoa_trim hm e ht)
    go_enter Tryd.func63, Tryd.ntmps63
    go_wp2_with fail
    refine (Tryd.strings_TrimPrefix _ _ _).mono ?_
    rintro e w' ⟨rfl, hw⟩
    obtain rfl : w = w' := hw.symm
    go_wp2
    go_ret2
    exact RDPost.mk rfl (.inr ⟨rfl, rfl, Ht.out⟩) (Below.refl _ _)
  · rcases h : Lib.atoiAll s.data.toList with v | _ | _
    · have hb := Lib.atoiAll_bounds h
      have H := Lib.hid h
      clear h
      by_cases he : Lib.itoa v = s.data.toList
      · have q1 : (Lib.itoa v == s.toList) = true := by rw [ByteArray.toList_eq, beq_iff_eq]; exact he
        have q2 : (!(Lib.itoa v == s.toList)) = false := by rw [q1]; rfl
        have He := Lib.hid he
        clear he
        go_enter Tryd.func63, Tryd.ntmps63
        go_wp2_with fail
        refine (Tryd.strings_TrimPrefix _ _ _).mono ?_
        rintro e w' ⟨rfl, hw⟩
        obtain rfl : w = w' := hw.symm
        go_wp2_with fail
        refine (Any.strconv_Atoi_ok Tryd.laysC172 s (by omega) v H.out _).mono ?_
        rintro e w1 ⟨rfl, hw1⟩
        have hb1 : Below w.heap.size w w1 := by
          rcases hw1 with rfl | ⟨t, rfl⟩
          · exact Below.refl _ _
          · exact Lib.bytesWorld_below _ _ _
        clear hw1
        have ht1 := Htab.out.below hb1
        have Ht1 := Lib.hid ht1
        clear ht1
        go_wp2_with fail
        refine (implDec_any v hb.1 hb.2 _ Ht1.out).mono ?_
        rintro e w2 ⟨rfl, hb2⟩
        go_wp2
        go_ret2
        exact RDPost.mk rfl (.inl ⟨rfl, in9_of_trim (by rw [He.out]; omega), He.out⟩) (hb1.trans (hb2.mono hb1.size))
      · have q1 : (Lib.itoa v == s.toList) = false := by rw [ByteArray.toList_eq, beq_eq_false_iff_ne]; exact he
        have q2 : (!(Lib.itoa v == s.toList)) = true := by rw [q1]; rfl
        have Hn := Lib.hid (show ∀ m', In9 m' → Lib.itoa m' ≠ s.data.toList from fun m' hm' e' => he (by
          have h1 := atoi_itoa hm'
          rw [e', H.out] at h1
          cases h1; exact e'))
        clear he
        go_enter Tryd.func63, Tryd.ntmps63
        go_wp2_with fail
        refine (Tryd.strings_TrimPrefix _ _ _).mono ?_
        rintro e w' ⟨rfl, hw⟩
        obtain rfl : w = w' := hw.symm
        go_wp2_with fail
        refine (Any.strconv_Atoi_ok Tryd.laysC172 s (by omega) v H.out _).mono ?_
        rintro e w1 ⟨rfl, hw1⟩
        have hb1 : Below w.heap.size w w1 := by
          rcases hw1 with rfl | ⟨t, rfl⟩
          · exact Below.refl _ _
          · exact Lib.bytesWorld_below _ _ _
        clear hw1
        have ht1 := Htab.out.below hb1
        have Ht1 := Lib.hid ht1
        clear ht1
        go_wp2_with fail
        refine (implDec_any v hb.1 hb.2 _ Ht1.out).mono ?_
        rintro e w2 ⟨rfl, hb2⟩
        go_wp2
        go_ret2
        exact RDPost.mk rfl (.inr ⟨rfl, rfl, Hn.out⟩) (hb1.trans (hb2.mono hb1.size))
    · have Hn := Lib.hid (show ∀ m', In9 m' → Lib.itoa m' ≠ s.data.toList from fun m' hm' e' => by
          have h1 := atoi_itoa hm'
          rw [e', h] at h1
          cases h1)
      have H := Lib.hid h
      clear h
      go_enter Tryd.func63, Tryd.ntmps63
      go_wp2_with fail
      refine (Tryd.strings_TrimPrefix _ _ _).mono ?_
      rintro e w' ⟨rfl, hw⟩
      obtain rfl : w = w' := hw.symm
      go_wp2_with fail
      refine (Any.strconv_Atoi_syntax_var Tryd.laysC172 s (by omega) H.out tp1 p1 _ Hv1.out).mono ?_
      rintro e w1 ⟨N, rfl, hN, hb, hb1⟩
      clear hb
      go_wp2
      go_ret2
      exact RDPost.mk rfl (.inr ⟨rfl, rfl, Hn.out⟩) hb1
    · have Hn := Lib.hid (show ∀ m', In9 m' → Lib.itoa m' ≠ s.data.toList from fun m' hm' e' => by
          have h1 := atoi_itoa hm'
          rw [e', h] at h1
          cases h1)
      have H := Lib.hid h
      clear h
      go_enter Tryd.func63, Tryd.ntmps63
      go_wp2_with fail
      refine (Tryd.strings_TrimPrefix _ _ _).mono ?_
      rintro e w' ⟨rfl, hw⟩
      obtain rfl : w = w' := hw.symm
      go_wp2_with fail
      refine (Any.strconv_Atoi_range_var Tryd.laysC172 s (by omega) H.out tp2 p2 _ Hv2.out).mono ?_
      rintro e w1 ⟨N, rfl, hN, hb, hb1⟩
      clear hb
      go_wp2
      go_ret2
      exact RDPost.mk rfl (.inr ⟨rfl, rfl, Hn.out⟩) hb1
theorem implReadDec_any (s : ByteArray) (hs : s.size ≤ 1048576) (w : World) (htab : Pow w) (herr : Errs w) :
    Calls Tryd.prog 24 #[.string s] w fun e w' => RDPost s.data.toList w e w' := by
  have Htab := Lib.hid htab
  have Herr := Lib.hid herr
  clear htab herr
  go_enter Tryd.func24, Tryd.ntmps24
  go_wp2_with fail
  refine (implReadDecimal9 s hs w Htab.out Herr.out).mono ?_
  rintro e w1 ⟨n, b, rfl, h1, h2⟩
  go_wp2
  go_ret2
  exact RDPost.mk rfl h1 h2
end Go.Proofs.YtilbaooancgodaaDoor.Num
