
/-
  readDecimal of the program, at eighteen digits.
-/
import Derived.Test.YtfpnflhkfpolcaaGreatDoorDec18
import Derived.Test.YtfpnflhkfpolcaaGreatDoorRead3
import Derived.Test.YtfpnflhkfpolcaaGreatDoorDec
import Derived.Lib.AtoiErrMem
namespace Go.Proofs.YtfpnflhkfpolcaaGreatDoor.Num
open Go.RowKit

def RD18 (s : List UInt8) (n : Int) (ok : Bool) : Prop := (ok = true ∧ In18 n ∧ Lib.itoa n = s) ∨ (ok = false ∧ n = 0 ∧ ∀ m, In18 m → Lib.itoa m ≠ s)
def RD18Post (s : List UInt8) (w : World) (e : Ending) (w' : World) : Prop := ∃ n b, e = .returned (.tuple #[.int .i64 n, .bool b]) ∧ RD18 s n b ∧ Below w.heap.size w w'
theorem RD18Post.mk {s : List UInt8} {w : World} {e : Ending} {w' : World} {n : Int} {b : Bool} (h1 : e = .returned (.tuple #[.int .i64 n, .bool b])) (h2 : RD18 s n b) (h3 : Below w.heap.size w w') : RD18Post s w e w' := ⟨n, b, h1, h2, h3⟩
theorem itoa_trim18 {s : List UInt8} {m : Int} (h : In18 m) (e : Lib.itoa m = s) : ¬ 18 < (Lib.trimPrefix s [45]).length := by
  have := trim_of_in18 h; rw [e] at this; omega
set_option maxRecDepth 100000 in
theorem implReadDecimal18 (s : ByteArray) (hs : s.size ≤ 1048576) (w : World) (htab : Pow w) (herr : Errs w) :
    Calls Tryz.prog 35 #[.string s, .int .i64 18] w fun e w' => RD18Post s.data.toList w e w' := by
  obtain ⟨⟨tp1, p1, hv1⟩, ⟨tp2, p2, hv2⟩⟩ := herr
  have Hv1 := Lib.hid hv1
  have Hv2 := Lib.hid hv2
  have Htab := Lib.hid htab
  clear hv1 hv2 htab
  by_cases ht : 18 < (Lib.trimPrefix s.data.toList [45]).length
  · have Ht := Lib.hid (show ∀ m, In18 m → Lib.itoa m ≠ s.data.toList from fun m hm e => itoa_trim18 hm e ht)
    go_enter Tryz.func35, Tryz.ntmps35
    go_wp2_with fail
    refine (Tryz.strings_TrimPrefix _ _ _).mono ?_
    rintro e w' ⟨rfl, hw⟩
    obtain rfl : w = w' := hw.symm
    go_wp2
    go_ret2
    exact RD18Post.mk rfl (.inr ⟨rfl, rfl, Ht.out⟩) (Below.refl _ _)
  · rcases h : Lib.atoiAll s.data.toList with v | _ | _
    · have hb := Lib.atoiAll_bounds h
      have H := Lib.hid h
      clear h
      by_cases he : Lib.itoa v = s.data.toList
      · have q1 : (Lib.itoa v == s.toList) = true := by rw [ByteArray.toList_eq, beq_iff_eq]; exact he
        have q2 : (!(Lib.itoa v == s.toList)) = false := by rw [q1]; rfl
        have He := Lib.hid he
        clear he
        go_enter Tryz.func35, Tryz.ntmps35
        go_wp2_with fail
        refine (Tryz.strings_TrimPrefix _ _ _).mono ?_
        rintro e w' ⟨rfl, hw⟩
        obtain rfl : w = w' := hw.symm
        go_wp2_with fail
        refine (Any.strconv_Atoi_ok Tryz.laysC172 s (by omega) v H.out _).mono ?_
        rintro e w1 ⟨rfl, hw1⟩
        have hb1 : Below w.heap.size w w1 := by
          rcases hw1 with rfl | ⟨t, rfl⟩
          · exact Below.refl _ _
          · exact Lib.bytesWorld_below _ _ _
        clear hw1
        have ht1 := Htab.out.below hb1
        have Ht1 := Lib.hid ht1
        clear ht1
        go_wp2_with fail
        refine (implDec_any v hb.1 hb.2 _ Ht1.out).mono ?_
        rintro e w2 ⟨rfl, hb2⟩
        go_wp2
        go_ret2
        exact RD18Post.mk rfl (.inl ⟨rfl, in18_of_trim (by rw [He.out]; omega), He.out⟩) (hb1.trans (hb2.mono hb1.size))
      · have q1 : (Lib.itoa v == s.toList) = false := by rw [ByteArray.toList_eq, beq_eq_false_iff_ne]; exact he
        have q2 : (!(Lib.itoa v == s.toList)) = true := by rw [q1]; rfl
        have Hn := Lib.hid (show ∀ m', In18 m' → Lib.itoa m' ≠ s.data.toList from fun m' hm' e' => he (by
          have h1 := atoi_itoa18 hm'
          rw [e', H.out] at h1
          cases h1; exact e'))
        clear he
        go_enter Tryz.func35, Tryz.ntmps35
        go_wp2_with fail
        refine (Tryz.strings_TrimPrefix _ _ _).mono ?_
        rintro e w' ⟨rfl, hw⟩
        obtain rfl : w = w' := hw.symm
        go_wp2_with fail
        refine (Any.strconv_Atoi_ok Tryz.laysC172 s (by omega) v H.out _).mono ?_
        rintro e w1 ⟨rfl, hw1⟩
        have hb1 : Below w.heap.size w w1 := by
          rcases hw1 with rfl | ⟨t, rfl⟩
          · exact Below.refl _ _
          · exact Lib.bytesWorld_below _ _ _
        clear hw1
        have ht1 := Htab.out.below hb1
        have Ht1 := Lib.hid ht1
        clear ht1
        go_wp2_with fail
        refine (implDec_any v hb.1 hb.2 _ Ht1.out).mono ?_
        rintro e w2 ⟨rfl, hb2⟩
        go_wp2
        go_ret2
        exact RD18Post.mk rfl (.inr ⟨rfl, rfl, Hn.out⟩) (hb1.trans (hb2.mono hb1.size))
    · have Hn := Lib.hid (show ∀ m', In18 m' → Lib.itoa m' ≠ s.data.toList from fun m' hm' e' => by
          have h1 := atoi_itoa18 hm'
          rw [e', h] at h1
          cases h1)
      have H := Lib.hid h
      clear h
      go_enter Tryz.func35, Tryz.ntmps35
      go_wp2_with fail
      refine (Tryz.strings_TrimPrefix _ _ _).mono ?_
      rintro e w' ⟨rfl, hw⟩
      obtain rfl : w = w' := hw.symm
      go_wp2_with fail
      refine (Any.strconv_Atoi_syntax_var Tryz.laysC172 s (by omega) H.out tp1 p1 _ Hv1.out).mono ?_
      rintro e w1 ⟨N, rfl, hN, hb, hb1⟩
      clear hb
      go_wp2
      go_ret2
      exact RD18Post.mk rfl (.inr ⟨rfl, rfl, Hn.out⟩) hb1
    · have Hn := Lib.hid (show ∀ m', In18 m' → Lib.itoa m' ≠ s.data.toList from fun m' hm' e' => by
          have h1 := atoi_itoa18 hm'
          rw [e', h] at h1
          cases h1)
      have H := Lib.hid h
      clear h
      go_enter Tryz.func35, Tryz.ntmps35
      go_wp2_with fail
      refine (Tryz.strings_TrimPrefix _ _ _).mono ?_
      rintro e w' ⟨rfl, hw⟩
      obtain rfl : w = w' := hw.symm
      go_wp2_with fail
      refine (Any.strconv_Atoi_range_var Tryz.laysC172 s (by omega) H.out tp2 p2 _ Hv2.out).mono ?_
      rintro e w1 ⟨N, rfl, hN, hb, hb1⟩
      clear hb
      go_wp2
      go_ret2
      exact RD18Post.mk rfl (.inr ⟨rfl, rfl, Hn.out⟩) hb1
end Go.Proofs.YtfpnflhkfpolcaaGreatDoor.Num
