
/-
  The law on chapter 1's numbers, where the number that is drawn lies in one of six ranges: range 3.
-/
import Derived.Test.YtilbaooancgodaaDoorNumAll
namespace Go.Proofs.YtilbaooancgodaaDoor.Cur
open Go.RowKit Bytes Num

set_option maxHeartbeats 4000000 in
set_option maxRecDepth 1000000 in
theorem case3 (a : Option Addr) (len cap : Nat) (z : List Int) (w : World) (hC : CodeIn a len z w) (htab : Pow w) (herr : Errs w) (N : Int) (hN : drawVar len z = N) (h0 : 562949953421312 ≤ N) (h1 : N ≤ 72057594037927935) :
    Calls Tryd.prog 4 #[.slice a len cap] w fun e w' => e = .returned (.bool true) ∧ Below w.heap.size w w' := by
  have Htab := Lib.hid htab
  have Herr := Lib.hid herr
  have HC := Lib.hid hC
  have HN := Lib.hid hN
  have hlen : ¬ 1048576 < len := by have := hC.2.2; omega
  clear htab herr hC hN
  have htl := textD_length len z 40 (newS z len) (by omega)
  obtain ⟨tail, ht⟩ : ∃ t, t = drawHex len z := ⟨_, rfl⟩
  rw [show (textD len z 40 (newS z len)).1 = drawHex len z from rfl, ← ht] at htl
  have Ht := Lib.hid ht
  clear ht
  obtain ⟨tv, htv⟩ : ∃ t, t = varT N := ⟨_, rfl⟩
  obtain ⟨tf, htf⟩ : ∃ t, t = fixT N := ⟨_, rfl⟩
  have hvl : tv.length ≤ 7 := by rw [htv]; exact varT_length N
  have hve : tv = [] := by rw [htv]; exact varT_no (by omega)
  subst hve
  obtain ⟨hfl, hfe, hyn⟩ : tf.length = 7 ∧ tf.isEmpty = false ∧ ((be ((⟨(tf ++ tail).toArray⟩ : ByteArray).data.toList.take 7) : Nat) : Int) = N := by
    obtain ⟨n, rfl⟩ := Int.eq_ofNat_of_zero_le (show 0 ≤ N by omega)
    rw [fixT_yes (by omega)] at htf
    have hfl : tf.length = 7 := by rw [htf, fx_length]
    refine ⟨hfl, ?_, ?_⟩
    · cases hh : tf with
      | nil => rw [hh] at hfl; simp at hfl
      | cons b l => rfl
    · show ((be ((tf ++ tail).take 7) : Nat) : Int) = n
      rw [List.take_append_of_le_length (by omega), List.take_of_length_le (by omega), htf, be_fx]
      rw [Nat.mod_eq_of_lt (by simp; omega)]
  have Hts := Lib.hid (show 7 ≤ (⟨(tf ++ tail).toArray⟩ : ByteArray).size by simp [ByteArray.size]; omega)
  have hfl1 : tf.length ≤ 7 := by omega
  have Hyn := Lib.hid hyn
  have Hfl := Lib.hid hfl
  have hfl2 : ((tf.length : Int) == 7) = true := by rw [hfl]; rfl
  clear hyn hfl
  have Htv := Lib.hid htv
  have Htf := Lib.hid htf
  clear htv htf
  have hadd : ∀ w : World, (Op.stringOp .add (⟨([] : List UInt8).toArray⟩ : ByteArray) ⟨tail.toArray⟩).run Tryd.prog w = .ok (.string ⟨([] ++ tail).toArray⟩) w := fun w => run_string_add_lists w _ _ (by simp) (by omega)
  have hadd2 : ∀ w : World, (Op.stringOp .add (⟨(tf : List UInt8).toArray⟩ : ByteArray) ⟨tail.toArray⟩).run Tryd.prog w = .ok (.string ⟨(tf ++ tail).toArray⟩) w := fun w => run_string_add_lists w _ _ (by omega) (by omega)
  go_enter Tryd.func4, Tryd.ntmps4
  go_wp2_with fail
  refine (big_no a len cap hlen _).mono ?_
  rintro e w0 ⟨rfl, rfl⟩
  go_wp2_with fail
  refine (drawVar_any a len cap z _ HC.out).mono ?_
  rintro e w1 ⟨rfl, hb1⟩
  rw [HN.out]
  have HC1 := Lib.hid (HC.out.below hb1)
  go_wp2_with fail
  refine (drawHex_any a len cap z _ HC1.out).mono ?_
  rintro e w2 ⟨rfl, hb2⟩
  rw [← Ht.out]
  have hb02 := hb1.trans (hb2.mono hb1.size)
  go_wp2_with fail
  refine (implVar_all N _).mono ?_
  rintro e w3 ⟨rfl, hb3⟩
  rw [← Htv.out]
  have hb03 := hb02.trans (hb3.mono hb02.size)
  go_wp2_with fail
  refine (implReadVar_any _ (by simp [ByteArray.size, maxLen] <;> omega) _).mono ?_
  rintro e w4 ⟨r, k, rfl, hr, hb4⟩
  clear hr
  have hb04 := hb03.trans (hb4.mono hb03.size)
  go_wp2_with fail
  refine (implFixed_all N _).mono ?_
  rintro e w5 ⟨rfl, hb5⟩
  rw [← Htf.out]
  have hb05 := hb04.trans (hb5.mono hb04.size)
  go_wp2_with fail
  refine (implRead7 _ (by simp [ByteArray.size, maxLen] <;> omega) _).mono ?_
  rintro e w6 ⟨y, b, rfl, hy, rfl⟩
  obtain ⟨hy1, hy2⟩ := hy Hts.out
  rw [show y = N from hy1.trans Hyn.out]
  subst hy2
  clear hy hy1
  have Htw := Lib.hid (Htab.out.below hb05)
  go_wp2_with fail
  rotate_left
  · exfalso; have := Hfl.out; omega
  refine (implDec_any N (by omega) (by omega) _ Htw.out).mono ?_
  rintro e w6 ⟨rfl, hb6⟩
  have hb06 := hb05.trans (hb6.mono hb05.size)
  have Htw6 := Lib.hid (Htab.out.below hb06)
  have Hew6 := Lib.hid (errs_below Herr.out Htab.out hb06)
  have hil : (⟨(Lib.itoa N).toArray⟩ : ByteArray).size ≤ 21 := by
    have := Lib.itoa_length_le N (by omega) (by omega)
    simpa [ByteArray.size] using this
  go_wp2_with fail
  refine (implReadDec_any _ (by omega) _ Htw6.out Hew6.out).mono ?_
  rintro e w7 ⟨d, b, rfl, hd, hb7⟩
  obtain ⟨hd1, hd2⟩ := rd_itoa_no hd (show ¬ In9 N by unfold In9; omega)
  subst hd1
  subst hd2
  clear hd hil
  have hb07 := hb06.trans (hb7.mono hb06.size)
  go_wp2_with fail
  have hxs : (⟨tail.toArray⟩ : ByteArray).size ≤ 40 := by simp [ByteArray.size]; omega
  refine (implHex_any _ (by omega) _).mono ?_
  rintro e w8 ⟨rfl, hb8⟩
  have hb08 := hb07.trans (hb8.mono hb07.size)
  go_wp2_with fail
  refine (implUnhex_any _ (by simp [ByteArray.size, hexL_length]; omega) _).mono ?_
  rintro e w9 ⟨rfl, hb9⟩
  have hb09 := hb08.trans (hb9.mono hb08.size)
  have HC9 := Lib.hid (HC.out.below hb09)
  go_wp2_with fail
  rw [show unhS (hexL (⟨tail.toArray⟩ : ByteArray).data.toList) = ⟨tail.toArray⟩ from unhS_hexL tail, show unhB (hexL (⟨tail.toArray⟩ : ByteArray).data.toList) = true from unhB_hexL tail]
  go_wp2_with fail
  refine (drawReadVar_any a len cap z _ HC9.out).mono ?_
  rintro e w10 ⟨rfl, hb10⟩
  have hb010 := hb09.trans (hb10.mono hb09.size)
  have HC10 := Lib.hid (HC.out.below hb010)
  have hrl := drawReadVar_size len z
  generalize hrv : drawReadVar len z = rv at hrl
  have Hrv := Lib.hid hrv
  clear hrv
  go_wp2_with fail
  refine (implReadVar_any rv (by unfold maxLen; omega) _).mono ?_
  rintro e w11 ⟨v, j, rfl, hr, hb11⟩
  have hb011 := hb010.trans (hb11.mono hb010.size)
  have HC11 := Lib.hid (HC.out.below hb011)
  have Hr := Lib.hid hr
  clear hr
  go_wp2_with fail
  · go_ret
    exact ⟨rfl, hb011⟩
  · obtain ⟨q1, q7, qs, tk, Hvt, heq⟩ : 1 ≤ j ∧ j ≤ 7 ∧ j ≤ rv.size ∧ ∃ tk, Hid (varT v = tk) ∧ (tk == (rv.extract 0 j).toList) = true := by
      rcases Hr.out with ⟨p1, p7, ps, pv, pe, _⟩ | ⟨_, p0, _⟩
      · rw [len_toL] at ps
        have hlt := le_take_lt rv.data.toList j p7
        refine ⟨p1, p7, ps, rv.data.toList.take j, ?_, ?_⟩
        · show varT v = _
          rw [varT_yes (by omega), pe]; exact pv
        · rw [beq_iff_eq, Lib.extract_toList, List.drop_zero, Nat.sub_zero]
      · omega
    refine (drawReadVar_any a len cap z _ HC11.out).mono ?_
    rintro e w12 ⟨rfl, hb12⟩
    rw [Hrv.out]
    have hb012 := hb011.trans (hb12.mono hb011.size)
    have HC12 := Lib.hid (HC.out.below hb012)
    go_wp2_with fail
    refine (drawReadVar_any a len cap z _ HC12.out).mono ?_
    rintro e w13 ⟨rfl, hb13⟩
    rw [Hrv.out]
    have hb013 := hb012.trans (hb13.mono hb012.size)
    have HC13 := Lib.hid (HC.out.below hb013)
    go_wp2_with fail
    refine (implVar_all v _).mono ?_
    rintro e w14 ⟨rfl, hb14⟩
    rw [Hvt.out]
    have hb014 := hb013.trans (hb14.mono hb013.size)
    have HC14 := Lib.hid (HC.out.below hb014)
    go_wp2_with fail
    refine (drawReadVar_any a len cap z _ HC14.out).mono ?_
    rintro e w15 ⟨rfl, hb15⟩
    rw [Hrv.out]
    have hb015 := hb014.trans (hb15.mono hb014.size)
    go_wp2
    go_ret
    exact ⟨rfl, hb015⟩
end Go.Proofs.YtilbaooancgodaaDoor.Cur
