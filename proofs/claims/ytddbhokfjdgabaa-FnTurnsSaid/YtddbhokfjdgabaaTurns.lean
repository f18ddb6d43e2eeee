
/-
  The law on turns: its walk.
-/
import Derived.Test.YtddbhokfjdgabaaTurns1
import Derived.Test.YtddbhokfjdgabaaWrrI
import Derived.Test.YtddbhokfjdgabaaDrawW2
namespace Go.Proofs.Ytddbhokfjdgabaa.Cur
open Go.RowKit Bytes Num GR KD Rows3
set_option linter.unusedVariables false

theorem pickI (a k : Int) (bv : Value) (bl : List Bool) (hbz : bools.sz bl ≤ 2000000) (cs : List Value) (l : List (Int × Bool × Int × Int)) (q mw mr ms lm : Int) (hl : l.length ≤ 2000000) {xa xk who : Int} (hD : pickR a k (l, q, mw, mr, ms, lm) bl = ((xa, xk), who)) (w : World) (h : confK.rd cs (l, q, mw, mr, ms, lm) w) (hb : bools.rd [bv] bl w) :
    Calls Try.prog 11 #[.agg #[.int .i64 a, .int .i64 k], agg cs, bv] w fun e w' => e = .returned (.tuple #[.agg #[.int .i64 xa, .int .i64 xk], .int .i64 who]) ∧ Below w.heap.size w w' := by
  have hp := implWrrPick [.int .i64 a, .int .i64 k] a k (w0 := w) wrr_rd [bv] bl hbz cs l q mw mr ms lm hl w h hb
  rw [hD] at hp
  refine hp.mono ?_
  rintro e w' ⟨us, he, hc, hb⟩
  obtain rfl := wrr_form (wrrK.cap_rd hc)
  exact ⟨he, hb⟩
theorem pickS (a k : Int) (bv : Value) (bl : List Bool) (hbz : bools.sz bl ≤ 2000000) (cs : List Value) (l : List (Int × Bool × Int × Int)) (q mw mr ms lm : Int) (hl : l.length ≤ 2000000) {xa xk who : Int} (hD : pickR a k (l, q, mw, mr, ms, lm) bl = ((xa, xk), who)) (w : World) (h : confK.rd cs (l, q, mw, mr, ms, lm) w) (hb : bools.rd [bv] bl w) :
    Calls Try.prog 12 #[.agg #[.int .i64 a, .int .i64 k], agg cs, bv] w fun e w' => e = .returned (.tuple #[.agg #[.int .i64 xa, .int .i64 xk], .int .i64 who]) ∧ Below w.heap.size w w' := by
  have hp := specWrrPick [.int .i64 a, .int .i64 k] a k (w0 := w) wrr_rd [bv] bl hbz cs l q mw mr ms lm hl w h hb
  rw [hD] at hp
  refine hp.mono ?_
  rintro e w' ⟨us, he, hc, hb⟩
  obtain rfl := wrr_form (wrrK.cap_rd hc)
  exact ⟨he, hb⟩
theorem backI (who a k : Int) (cs : List Value) (l : List (Int × Bool × Int × Int)) (q mw mr ms lm : Int) (hl : l.length ≤ 2000000) {xa xk : Int} (hD : backR a k (l, q, mw, mr, ms, lm) who = (xa, xk)) (w : World) (h : confK.rd cs (l, q, mw, mr, ms, lm) w) :
    Calls Try.prog 14 #[.agg #[.int .i64 a, .int .i64 k], agg cs, .int .i64 who] w fun e w' => e = .returned (.agg #[.int .i64 xa, .int .i64 xk]) ∧ Below w.heap.size w w' := by
  have hp := implWrrBack who [.int .i64 a, .int .i64 k] a k (w0 := w) wrr_rd cs l q mw mr ms lm hl w h
  rw [hD] at hp
  refine hp.mono ?_
  rintro e w' ⟨us, he, hc, hb⟩
  obtain rfl := wrr_form (wrrK.cap_rd hc)
  exact ⟨he, hb⟩

set_option maxHeartbeats 16000000 in
set_option maxRecDepth 100000 in
theorem turns_all (ca : Option Addr) (len cap0 : Nat) (zz : List Int) (w : World) (h : CodeIn ca len zz w) :
    Calls Try.prog 3 #[.slice ca len cap0] w fun e w' => e = .returned (.bool true) ∧ Below w.heap.size w w' := by
  have hl0 := h.2.2
  have Hc := Lib.hid h
  clear h
  go_enter Try.func3, Try.ntmps3
  go_wp2_with fail
  refine (bigE_no ca len cap0 (by omega) _).mono ?_
  rintro e w1 ⟨rfl, rfl⟩
  go_wp2_with fail
  refine (drawPick ca len cap0 zz _ Hc.out).mono ?_
  rintro e w2 ⟨ad, cp, l, q, mw, mr, ms, lm, a, k, bv, bl, rfl, hl4, hb5, hown, hbo, hb⟩
  have hsz : ∀ (w : World) o, (w.alloc o).heap.size = w.heap.size + 1 := fun w o => by simp
  obtain ⟨n3, hn3⟩ : ∃ n, w2.heap.size = n := ⟨_, rfl⟩
  have hn : w.heap.size ≤ n3 := hn3 ▸ hb.size
  have B3 := (Bx.new 25 #[.int .i64 a, .int .i64 k] w2).alloc (.cells #[.slice ad l.length cp, .int .i64 q, .int .i64 mw, .int .i64 mr, .int .i64 ms, .int .i64 lm] 28)
  have M3 := Bx.new 28 #[.slice ad l.length cp, .int .i64 q, .int .i64 mw, .int .i64 mr, .int .i64 ms, .int .i64 lm] (w2.alloc (.cells #[.int .i64 a, .int .i64 k] 25))
  rw [hsz] at M3
  have O3 := ((Below.refl w2.heap.size w2).alloc (Nat.le_refl _) (.cells #[.int .i64 a, .int .i64 k] 25)).alloc (by simp) (.cells #[.slice ad l.length cp, .int .i64 q, .int .i64 mw, .int .i64 mr, .int .i64 ms, .int .i64 lm] 28)
  rw [hn3] at B3 M3
  have HB := Lib.hid B3
  have HM := Lib.hid M3
  have HO := Lib.hid (hb.trans (O3.mono hb.size))
  obtain ⟨bad, bcp, rfl⟩ := hbo.slice
  have HR := Lib.hid (own_conf (q := q) (mw := mw) (mr := mr) (ms := ms) (lm := lm) (hown.later O3))
  have HL := Lib.hid (show (l.map tup).length ≤ 2000000 by rw [List.length_map]; omega)
  have HBR := Lib.hid (bools_rd (hbo.later O3).rd (own_bdO (hbo.later O3)))
  have HBZ := Lib.hid (show bools.sz bl ≤ 2000000 by rw [show bools.sz bl = bl.length from sz_bools bl]; omega)
  have HBO := Lib.hid (hbo.later O3).rd
  clear B3 M3 O3 hsz hb Hc hown hbo
  go_upto_region 4 with fail
  generalize (w2.alloc _).alloc _ = w3 at HB HM HO HR HBR HBO ⊢
  obtain ⟨f0, f1⟩ := Bx.cells2W HB.out
  obtain ⟨g0, g1, g2, g3, g4, g5⟩ := HM.out.cells6
  obtain ⟨xa, xk, who, hD⟩ : ∃ xa xk who, pickR a k (l.map tup, q, mw, mr, ms, lm) bl = ((xa, xk), who) := ⟨_, _, _, rfl⟩
  have HD := Lib.hid hD
  clear hD
  go_wp2_with fail
  refine (pickI a k _ bl HBZ.out _ _ q mw mr ms lm HL.out HD.out _ HR.out HBR.out).mono ?_
  rintro e w4 ⟨rfl, hb4⟩
  clear f0 f1 g0 g1 g2 g3 g4 g5
  have HB4 := Lib.hid (HB.out.later hb4)
  have HM4 := Lib.hid (HM.out.later hb4)
  have HO4 := Lib.hid (HO.out.trans (hb4.mono HO.out.size))
  have HR4 := Lib.hid (confK.rd_later HR.out hb4)
  have HBR4 := Lib.hid (bools.rd_later HBR.out hb4)
  have HBO4 := Lib.hid (HBO.out.below hb4)
  clear HB HM HO HR HBR HBO
  clear hb4
  obtain ⟨n6, hn6⟩ : ∃ n, w4.heap.size = n := ⟨_, rfl⟩
  have hal := (Below.refl w4.heap.size w4).alloc (Nat.le_refl _) (.cells #[.int .i64 xa, .int .i64 xk] 25)
  have X0 := Bx.new 25 #[.int .i64 xa, .int .i64 xk] w4
  rw [hn6] at X0
  have HX5 := Lib.hid X0
  clear X0
  have HB5 := Lib.hid (HB4.out.later hal)
  have HM5 := Lib.hid (HM4.out.later hal)
  have HO5 := Lib.hid (HO4.out.trans (hal.mono HO4.out.size))
  have HR5 := Lib.hid (confK.rd_later HR4.out hal)
  have HBR5 := Lib.hid (bools.rd_later HBR4.out hal)
  have HBO5 := Lib.hid (HBO4.out.below hal)
  clear HB4 HM4 HO4 HR4 HBR4 HBO4
  clear hal
  go_upto_region 5 with fail
  generalize w4.alloc _ = w5 at HB5 HM5 HO5 HR5 HBR5 HBO5 HX5 ⊢
  clear hn6
  obtain ⟨f0, f1⟩ := Bx.cells2W HB5.out
  obtain ⟨g0, g1, g2, g3, g4, g5⟩ := HM5.out.cells6
  obtain ⟨x00, x01⟩ := Bx.cells2W HX5.out
  go_wp2_with fail
  refine (pickS a k _ bl HBZ.out _ _ q mw mr ms lm HL.out HD.out _ HR5.out HBR5.out).mono ?_
  rintro e w6 ⟨rfl, hb6⟩
  clear f0 f1 g0 g1 g2 g3 g4 g5 x00 x01
  have HB6 := Lib.hid (HB5.out.later hb6)
  have HM6 := Lib.hid (HM5.out.later hb6)
  have HO6 := Lib.hid (HO5.out.trans (hb6.mono HO5.out.size))
  have HR6 := Lib.hid (confK.rd_later HR5.out hb6)
  have HBR6 := Lib.hid (bools.rd_later HBR5.out hb6)
  have HBO6 := Lib.hid (HBO5.out.below hb6)
  have HX6 := Lib.hid (HX5.out.later hb6)
  clear HB5 HM5 HO5 HR5 HBR5 HBO5 HX5
  clear hb6
  obtain ⟨n8, hn8⟩ : ∃ n, w6.heap.size = n := ⟨_, rfl⟩
  have hal := (Below.refl w6.heap.size w6).alloc (Nat.le_refl _) (.cells #[.int .i64 xa, .int .i64 xk] 25)
  have X0 := Bx.new 25 #[.int .i64 xa, .int .i64 xk] w6
  rw [hn8] at X0
  have HY7 := Lib.hid X0
  clear X0
  have HB7 := Lib.hid (HB6.out.later hal)
  have HM7 := Lib.hid (HM6.out.later hal)
  have HO7 := Lib.hid (HO6.out.trans (hal.mono HO6.out.size))
  have HR7 := Lib.hid (confK.rd_later HR6.out hal)
  have HBR7 := Lib.hid (bools.rd_later HBR6.out hal)
  have HBO7 := Lib.hid (HBO6.out.below hal)
  have HX7 := Lib.hid (HX6.out.later hal)
  clear HB6 HM6 HO6 HR6 HBR6 HBO6 HX6
  clear hal
  go_upto_region 6 with fail
  generalize w6.alloc _ = w7 at HB7 HM7 HO7 HR7 HBR7 HBO7 HX7 HY7 ⊢
  clear hn8
  obtain ⟨f0, f1⟩ := Bx.cells2W HB7.out
  obtain ⟨g0, g1, g2, g3, g4, g5⟩ := HM7.out.cells6
  obtain ⟨x00, x01⟩ := Bx.cells2W HX7.out
  obtain ⟨x10, x11⟩ := Bx.cells2W HY7.out
  have hww : (who != who) = false := by simp
  go_upto_region 8 with fail
  cases hok : okWr a k (l.map tup, q, mw, mr, ms, lm) with
  | false =>
    have HOK := Lib.hid hok
    clear hok
    obtain ⟨⟨rfl, rfl⟩, rfl⟩ : (xa = a ∧ xk = k) ∧ who = -1 := by
      have h := HD.out.symm.trans (pick_bad (fun h => by rw [HOK.out] at h; exact absurd h.1 (by simp)))
      simpa using h
    go_wp2_with fail
    refine (sWrrOkIs xa xk HOK.out HL.out HR7.out).mono ?_
    rintro e w8 ⟨rfl, hb8⟩
    clear f0 f1 g0 g1 g2 g3 g4 g5 x00 x01 x10 x11
    have HB8 := Lib.hid (HB7.out.later hb8)
    have HM8 := Lib.hid (HM7.out.later hb8)
    have HO8 := Lib.hid (HO7.out.trans (hb8.mono HO7.out.size))
    have HR8 := Lib.hid (confK.rd_later HR7.out hb8)
    have HBR8 := Lib.hid (bools.rd_later HBR7.out hb8)
    have HBO8 := Lib.hid (HBO7.out.below hb8)
    have HX8 := Lib.hid (HX7.out.later hb8)
    have HY8 := Lib.hid (HY7.out.later hb8)
    clear HB7 HM7 HO7 HR7 HBR7 HBO7 HX7 HY7
    clear hb8
    obtain ⟨f0, f1⟩ := Bx.cells2W HB8.out
    obtain ⟨g0, g1, g2, g3, g4, g5⟩ := HM8.out.cells6
    obtain ⟨x00, x01⟩ := Bx.cells2W HX8.out
    obtain ⟨x10, x11⟩ := Bx.cells2W HY8.out
    go_wp2
    go_ret
    exact ⟨by simp, HO8.out⟩
  | true =>
    have HOK := Lib.hid hok
    clear hok
    by_cases hlen : bl.length = l.length
    · have hne : (((bl.length : Nat) : Int) != ((l.length : Nat) : Int)) = false := by simp; omega
      have hlen' : bl.length = (l.map tup).length := by rw [List.length_map]; exact hlen
      obtain ⟨xa', xk', who', hD', hokx, hcase, hlast⟩ := pick_cases ⟨HOK.out, show bl.length = (l.map tup).length from hlen'⟩
      obtain ⟨⟨rfl, rfl⟩, rfl⟩ : (xa = xa' ∧ xk = xk') ∧ who = who' := by
        have h := HD.out.symm.trans hD'
        simpa using h
      have haf := okWr_of HOK.out
      have HLN := Lib.hid hlen
      have haf2 : 0 ≤ a ∧ a < bl.length := by have h1 := haf.2.1; have h2 : a < ((l.map tup).length : Int) := h1.2; rw [← hlen'] at h2; exact ⟨h1.1, h2⟩
      clear hlen hlen' haf hD'
      go_wp2_with fail
      refine (sWrrOkIs a k HOK.out HL.out HR7.out).mono ?_
      rintro e w8 ⟨rfl, hb8⟩
      clear f0 f1 g0 g1 g2 g3 g4 g5 x00 x01 x10 x11
      have HB8 := Lib.hid (HB7.out.later hb8)
      have HM8 := Lib.hid (HM7.out.later hb8)
      have HO8 := Lib.hid (HO7.out.trans (hb8.mono HO7.out.size))
      have HR8 := Lib.hid (confK.rd_later HR7.out hb8)
      have HBR8 := Lib.hid (bools.rd_later HBR7.out hb8)
      have HBO8 := Lib.hid (HBO7.out.below hb8)
      have HX8 := Lib.hid (HX7.out.later hb8)
      have HY8 := Lib.hid (HY7.out.later hb8)
      clear HB7 HM7 HO7 HR7 HBR7 HBO7 HX7 HY7
      clear hb8
      obtain ⟨f0, f1⟩ := Bx.cells2W HB8.out
      obtain ⟨g0, g1, g2, g3, g4, g5⟩ := HM8.out.cells6
      obtain ⟨x00, x01⟩ := Bx.cells2W HX8.out
      obtain ⟨x10, x11⟩ := Bx.cells2W HY8.out
      have HOX := Lib.hid hokx
      have HCS := Lib.hid hcase
      have HLS := Lib.hid hlast
      clear hokx hcase hlast
      obtain ⟨za, zk, hz⟩ : ∃ za zk, backR xa xk (l.map tup, q, mw, mr, ms, lm) who = (za, zk) := ⟨_, _, rfl⟩
      have HZ := Lib.hid hz
      clear hz
      go_wp2_with fail
      refine (backI who xa xk _ _ q mw mr ms lm HL.out HZ.out _ HR8.out).mono ?_
      rintro e w9 ⟨rfl, hb9⟩
      clear f0 f1 g0 g1 g2 g3 g4 g5 x00 x01 x10 x11
      have HB9 := Lib.hid (HB8.out.later hb9)
      have HM9 := Lib.hid (HM8.out.later hb9)
      have HO9 := Lib.hid (HO8.out.trans (hb9.mono HO8.out.size))
      have HR9 := Lib.hid (confK.rd_later HR8.out hb9)
      have HBR9 := Lib.hid (bools.rd_later HBR8.out hb9)
      have HBO9 := Lib.hid (HBO8.out.below hb9)
      have HX9 := Lib.hid (HX8.out.later hb9)
      clear HB8 HM8 HO8 HR8 HBR8 HBO8 HX8
      clear hb9 HY8
      obtain ⟨n10, hn10⟩ : ∃ n, w9.heap.size = n := ⟨_, rfl⟩
      have hal := (Below.refl w9.heap.size w9).alloc (Nat.le_refl _) (.cells #[.int .i64 za, .int .i64 zk] 25)
      have X0 := Bx.new 25 #[.int .i64 za, .int .i64 zk] w9
      rw [hn10] at X0
      have HY10 := Lib.hid X0
      clear X0
      have HB10 := Lib.hid (HB9.out.later hal)
      have HM10 := Lib.hid (HM9.out.later hal)
      have HO10 := Lib.hid (HO9.out.trans (hal.mono HO9.out.size))
      have HR10 := Lib.hid (confK.rd_later HR9.out hal)
      have HBR10 := Lib.hid (bools.rd_later HBR9.out hal)
      have HBO10 := Lib.hid (HBO9.out.below hal)
      have HX10 := Lib.hid (HX9.out.later hal)
      clear HB9 HM9 HO9 HR9 HBR9 HBO9 HX9
      clear hal
      go_upto_region 11 with fail
      generalize w9.alloc _ = w10 at HB10 HM10 HO10 HR10 HBR10 HBO10 HX10 HY10 ⊢
      clear hn10
      obtain ⟨f0, f1⟩ := Bx.cells2W HB10.out
      obtain ⟨g0, g1, g2, g3, g4, g5⟩ := HM10.out.cells6
      obtain ⟨x00, x01⟩ := Bx.cells2W HX10.out
      obtain ⟨x10, x11⟩ := Bx.cells2W HY10.out
      obtain ⟨ba', bp', ebv, hrow⟩ := HBO10.out
      obtain ⟨rfl, rfl⟩ : bad = ba' ∧ bcp = bp' := by simpa using ebv
      clear ebv
      have hrw : Hid (∀ i, i < bl.length → ∃ b o, bad = some ⟨b, o, none⟩ ∧ b < w10.heap.size ∧ w10.cell? ⟨b, o + i, none⟩ = some (.bool (bl.getD i false))) := Lib.hid hrow
      clear hrow
      go_wp2_with fail
      go_loopw [11, 12] (fun xx ii wr => ∃ j : Nat, j ≤ bl.length ∧ xx = .bool ((bl.take j).any id) ∧ ii = .int .i64 (j : Int) ∧ wr = w10) (fun _ ii _ => bl.length - (intOf ii).toNat)
      case atStart => exact ⟨0, Nat.zero_le _, rfl, rfl, rfl⟩
      case round =>
        obtain ⟨j, hj, rfl, rfl, rfl⟩ := hrel
        by_cases hjn : j < bl.length
        · obtain ⟨wb, wo, rfl, hwb, hwc⟩ := hrw.out j hjn
          have hst : (bl.take (j + 1)).any id = ((bl.take j).any id || bl.getD j false) := by
            rw [List.take_succ_eq_append_getElem hjn, List.any_append]
            simp [List.getD, hjn]
          have HST := Lib.hid hst
          clear hst
          have hin : (0 : Int) ≤ (j : Int) ∧ (j : Int) < ((bl.length : Nat) : Int) := by omega
          generalize bl.getD j false = v at hwc HST
          obtain ⟨bb, hbb⟩ : ∃ bb, (bl.take j).any id = bb := ⟨_, rfl⟩
          rw [hbb] at HST ⊢
          clear hbb
          cases bb with
          | true =>
            go_wp2_with fail
            go_roundw
            case rel => exact ⟨j + 1, by omega, by rw [HST.out]; simp, by go_num, by first | rfl | trivial⟩
            case measure => simp [intOf]; omega
          | false =>
            go_wp2_with fail
            go_roundw
            case rel => exact ⟨j + 1, by omega, by rw [HST.out]; simp, by go_num, by first | rfl | trivial⟩
            case measure => simp [intOf]; omega
        · obtain rfl : j = bl.length := by omega
          rw [List.take_length]
          obtain ⟨ka, rfl⟩ : ∃ ka : Nat, a = ka := ⟨a.toNat, by omega⟩
          have hin2 : (0 : Int) ≤ (ka : Int) ∧ (ka : Int) < ((bl.length : Nat) : Int) := by omega
          obtain ⟨wb, wo, rfl, hwb2, hwa⟩ := hrw.out ka (by omega)
          rcases HCS.out with ⟨n, rfl, hnl, rfl, hwn, hbk, hxk, hany⟩ | ⟨rfl, hany⟩
          · obtain ⟨rfl, rfl⟩ : (n : Int) = za ∧ xk + 1 = zk := by
              have h := hbk.symm.trans HZ.out
              simpa using h
            rw [hany]
            obtain ⟨wb', wo', e', hwb, hwn'⟩ := hrw.out n hnl
            obtain ⟨rfl, rfl⟩ : wb = wb' ∧ wo = wo' := by simpa using e'
            rw [hwn] at hwn'
            have hin : (0 : Int) ≤ (n : Int) ∧ (n : Int) < ((bl.length : Nat) : Int) := by omega
            by_cases hk0 : k = 0
            · subst hk0
              go_wp2_with (go_at_call 13; refine (sWrrOkIs (n : Int) xk HOX.out HL.out HR10.out).mono ?_; rintro e w11 ⟨rfl, hb11⟩; obtain ⟨p0, p1⟩ := Bx.cells2W (HB10.out.later hb11); have HO11 := Lib.hid (HO10.out.trans (hb11.mono HO10.out.size)); have hwa' := (hb11.cell (p := ⟨wb, wo + ka, none⟩) hwb2).trans hwa; clear hb11)
              go_ret
              exact ⟨by first | rfl | simp, HO11.out⟩
            · rcases (HLS.out.resolve_left hk0) with hl | hl
              · rw [Int.toNat_natCast] at hl
                rw [hl] at hwa
                go_wp2_with (go_at_call 13; refine (sWrrOkIs (n : Int) xk HOX.out HL.out HR10.out).mono ?_; rintro e w11 ⟨rfl, hb11⟩; obtain ⟨p0, p1⟩ := Bx.cells2W (HB10.out.later hb11); have HO11 := Lib.hid (HO10.out.trans (hb11.mono HO10.out.size)); have hwa' := (hb11.cell (p := ⟨wb, wo + ka, none⟩) hwb2).trans hwa; clear hb11)
                go_ret
                exact ⟨by first | rfl | simp, HO11.out⟩
              · have hl2 : n = ka := by omega
                subst hl2
                rw [hwn] at hwa
                go_wp2_with (go_at_call 13; refine (sWrrOkIs (n : Int) xk HOX.out HL.out HR10.out).mono ?_; rintro e w11 ⟨rfl, hb11⟩; obtain ⟨p0, p1⟩ := Bx.cells2W (HB10.out.later hb11); have HO11 := Lib.hid (HO10.out.trans (hb11.mono HO10.out.size)); have hwa' := (hb11.cell (p := ⟨wb, wo + n, none⟩) hwb2).trans hwa; clear hb11)
                go_ret
                exact ⟨by first | rfl | simp, HO11.out⟩
          · rw [hany]
            by_cases hk0 : k = 0
            · subst hk0
              go_wp2_with (go_at_call 13; refine (sWrrOkIs xa xk HOX.out HL.out HR10.out).mono ?_; rintro e w11 ⟨rfl, hb11⟩; obtain ⟨p0, p1⟩ := Bx.cells2W (HB10.out.later hb11); have HO11 := Lib.hid (HO10.out.trans (hb11.mono HO10.out.size)); have hwa' := (hb11.cell (p := ⟨wb, wo + ka, none⟩) hwb2).trans hwa; clear hb11)
              go_ret
              exact ⟨by first | rfl | simp, HO11.out⟩
            · rcases (HLS.out.resolve_left hk0) with hl | hl
              · rw [Int.toNat_natCast] at hl
                rw [hl] at hwa
                go_wp2_with (go_at_call 13; refine (sWrrOkIs xa xk HOX.out HL.out HR10.out).mono ?_; rintro e w11 ⟨rfl, hb11⟩; obtain ⟨p0, p1⟩ := Bx.cells2W (HB10.out.later hb11); have HO11 := Lib.hid (HO10.out.trans (hb11.mono HO10.out.size)); have hwa' := (hb11.cell (p := ⟨wb, wo + ka, none⟩) hwb2).trans hwa; clear hb11)
                go_ret
                exact ⟨by first | rfl | simp, HO11.out⟩
              · exfalso; omega
    · have hne : (((bl.length : Nat) : Int) != ((l.length : Nat) : Int)) = true := by simp; omega
      obtain ⟨⟨rfl, rfl⟩, rfl⟩ : (xa = a ∧ xk = k) ∧ who = -1 := by
        have h := HD.out.symm.trans (pick_bad (fun h => hlen (by have := h.2; rwa [show (l.map tup, q, mw, mr, ms, lm).1.length = l.length from List.length_map ..] at this)))
        simpa using h
      go_wp2_with fail
      refine (sWrrOkIs xa xk HOK.out HL.out HR7.out).mono ?_
      rintro e w8 ⟨rfl, hb8⟩
      clear f0 f1 g0 g1 g2 g3 g4 g5 x00 x01 x10 x11
      have HB8 := Lib.hid (HB7.out.later hb8)
      have HM8 := Lib.hid (HM7.out.later hb8)
      have HO8 := Lib.hid (HO7.out.trans (hb8.mono HO7.out.size))
      have HR8 := Lib.hid (confK.rd_later HR7.out hb8)
      have HBR8 := Lib.hid (bools.rd_later HBR7.out hb8)
      have HBO8 := Lib.hid (HBO7.out.below hb8)
      have HX8 := Lib.hid (HX7.out.later hb8)
      have HY8 := Lib.hid (HY7.out.later hb8)
      clear HB7 HM7 HO7 HR7 HBR7 HBO7 HX7 HY7
      clear hb8
      obtain ⟨f0, f1⟩ := Bx.cells2W HB8.out
      obtain ⟨g0, g1, g2, g3, g4, g5⟩ := HM8.out.cells6
      obtain ⟨x00, x01⟩ := Bx.cells2W HX8.out
      obtain ⟨x10, x11⟩ := Bx.cells2W HY8.out
      go_wp2
      go_ret
      exact ⟨by simp, HO8.out⟩
end Go.Proofs.Ytddbhokfjdgabaa.Cur
