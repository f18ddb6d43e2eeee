
/-
  WrrPick of chapter 11's model. (Made by wip/genwrr4.py.)
-/
import Derived.Test.YtddbhokfjdgabaaWrr3
namespace Go.Proofs.Ytddbhokfjdgabaa.KD
open Go.RowKit Rows3 GR Num
set_option linter.unusedVariables false

theorem first_yes {a : Int} {wants : List Bool} {n : Nat} {j : Int} (h : wants.getD ((a + j) % wants.length).toNat false = true) : firstR a wants (n + 1) j = some ((a + j) % wants.length) := by
  show (if _ then _ else _) = _; rw [if_pos h]
theorem first_no {a : Int} {wants : List Bool} {n : Nat} {j : Int} (h : wants.getD ((a + j) % wants.length).toNat false = false) : firstR a wants (n + 1) j = firstR a wants n (j + 1) := by
  show (if _ then _ else _) = _; rw [if_neg (by rw [h]; simp)]
theorem pick_bad {a c : Int} {C : ConfX} {wants : List Bool} (h : ¬ (okWr a c C = true ∧ wants.length = C.1.length)) : pickR a c C wants = ((a, c), -1) := by unfold pickR; rw [if_neg h]
theorem pick_at {a c : Int} {C : ConfX} {wants : List Bool} (h : okWr a c C = true ∧ wants.length = C.1.length) (h1 : 0 < c) (h2 : wants.getD a.toNat false = true) : pickR a c C wants = ((a, c - 1), a) := by
  unfold pickR; rw [if_pos h, if_pos ⟨h1, h2⟩]
theorem pick_some {a c i : Int} {C : ConfX} {wants : List Bool} (h : okWr a c C = true ∧ wants.length = C.1.length) (h1 : ¬ (0 < c ∧ wants.getD a.toNat false = true)) (h2 : firstR a wants wants.length 1 = some i) : pickR a c C wants = ((i, turnW C i - 1), i) := by
  unfold pickR; rw [if_pos h, if_neg h1, h2]
theorem pick_none {a c : Int} {C : ConfX} {wants : List Bool} (h : okWr a c C = true ∧ wants.length = C.1.length) (h1 : ¬ (0 < c ∧ wants.getD a.toNat false = true)) (h2 : firstR a wants wants.length 1 = none) : pickR a c C wants = ((a, 0), -1) := by
  unfold pickR; rw [if_pos h, if_neg h1, h2]

set_option maxHeartbeats 8000000 in
set_option maxRecDepth 100000 in
theorem specWrrPick (ws : List Value) (a c : Int) {w0 : World} (hw : wrrK.rd ws (a, c) w0) (bs : List Value) (bl : List Bool) (hbz : bools.sz bl ≤ 2000000) (cs : List Value) (l : List (Int × Bool × Int × Int)) (q mw mr ms lm : Int) (hl : l.length ≤ 2000000) (w : World) (h : confK.rd cs (l, q, mw, mr, ms, lm) w) (hbr0 : bools.rd bs bl w) :
    Calls Try.prog 12 #[agg ws, agg cs, one bs] w (NewPick (pickR a c (l, q, mw, mr, ms, lm) bl) w) := by
  obtain ⟨ba, bp, rfl, hbl, hbr⟩ := rd_bools hbr0
  have HBR := Lib.hid hbr
  have hbll : bl.length ≤ 2000000 := by have := sz_bools bl; exact this ▸ hbz
  clear hbr hbr0 hbz hbl
  obtain rfl := wrr_form hw
  have hr := h
  obtain ⟨a0, p0, rfl, hm⟩ := conf_form h
  have hsz : ∀ (w : World) o, (w.alloc o).heap.size = w.heap.size + 1 := fun w o => by simp
  have X := ((Bx.new 25 #[.int .i64 a, .int .i64 c] w).alloc (Obj.cells #[.slice a0 l.length p0, .int .i64 q, .int .i64 mw, .int .i64 mr, .int .i64 ms, .int .i64 lm] 28)).alloc (Obj.cells #[.int .i64 0, .int .i64 0] 25)
  have A := (Bx.new 28 #[.slice a0 l.length p0, .int .i64 q, .int .i64 mw, .int .i64 mr, .int .i64 ms, .int .i64 lm] (w.alloc (Obj.cells #[.int .i64 a, .int .i64 c] 25))).alloc (Obj.cells #[.int .i64 0, .int .i64 0] 25)
  have R := Bx.new 25 #[.int .i64 0, .int .i64 0] ((w.alloc (Obj.cells #[.int .i64 a, .int .i64 c] 25)).alloc (Obj.cells #[.slice a0 l.length p0, .int .i64 q, .int .i64 mw, .int .i64 mr, .int .i64 ms, .int .i64 lm] 28))
  rw [hsz] at A
  rw [hsz, hsz] at R
  have HX := Lib.hid X
  have HA := Lib.hid A
  have HZ := Lib.hid R
  have HB := Lib.hid (below_al3 _ w rfl (Obj.cells #[.int .i64 a, .int .i64 c] 25) (Obj.cells #[.slice a0 l.length p0, .int .i64 q, .int .i64 mw, .int .i64 mr, .int .i64 ms, .int .i64 lm] 28) (Obj.cells #[.int .i64 0, .int .i64 0] 25))
  have HR := Lib.hid hr
  have HL := Lib.hid hl
  clear X A R hsz hr hm h hl
  show Calls _ _ #[.agg #[.int .i64 a, .int .i64 c], .agg #[.slice a0 l.length p0, .int .i64 q, .int .i64 mw, .int .i64 mr, .int .i64 ms, .int .i64 lm], .slice ba bl.length bp] w _
  cases hok : okWr a c (l, q, mw, mr, ms, lm) with
  | false =>
    rw [pick_bad (fun h => by rw [hok] at h; exact absurd h.1 (by simp))]
    have HO := Lib.hid hok
    clear hok
    go_enter Try.func12, Try.ntmps12
    go_wp2_with fail
    generalize ((w.alloc _).alloc _).alloc _ = y0 at HX HA HZ HB ⊢
    refine (sWrrOkIs a c HO.out HL.out (confK.rd_later HR.out HB.out)).mono ?_
    rintro e y1 ⟨rfl, hb⟩
    have HX1 := Lib.hid (HX.out.later hb)
    have HA1 := Lib.hid (HA.out.later hb)
    have HZ1 := Lib.hid (HZ.out.later hb)
    have HB1 := Lib.hid (HB.out.trans (hb.mono HB.out.size))
    clear HX HA HZ HB hb
    obtain ⟨x0, x1⟩ := Bx.cells2 HX1.out
    have xw0 := HX1.out.warm 0
    have xw1 := HX1.out.warm 1
    obtain ⟨g0, g1, g2, g3, g4, g5⟩ := HA1.out.cells6
    obtain ⟨r0, r1⟩ := Bx.cells2 HZ1.out
    have z0 := HZ1.out.warm 0
    have z1 := HZ1.out.warm 1
    go_wp2_with fail
    refine bodyPost_ret (v := .tuple #[.agg #[.int .i64 a, .int .i64 c], .int .i64 (-1)]) (by simp [results, Try.results12, go_sem, r0, r1]) rfl ⟨[.int .i64 a, .int .i64 c], rfl, wrr_capz _ _ _ _, ((HB1.out.setCell (by simp; try omega) _).setCell (by simp; try omega) _)⟩
  | true =>
    obtain ⟨hx, ha, hc⟩ := okWr_facts hok
    obtain ⟨hln, _, _⟩ := confX_facts hx
    have hbd := turnW_bd (l, q, mw, mr, ms, lm) a
    have HO := Lib.hid hok
    have HOX := Lib.hid hx
    clear hok hx
    by_cases hlen : bl.length = l.length
    · have HK := Lib.hid (show okWr a c (l, q, mw, mr, ms, lm) = true ∧ bl.length = l.length from ⟨HO.out, hlen⟩)
      have hne : (((bl.length : Nat) : Int) != ((l.length : Nat) : Int)) = false := by simp; omega
      by_cases hat : 0 < c ∧ bl.getD a.toNat false = true
      · rw [pick_at HK.out hat.1 hat.2]
        obtain ⟨ka, rfl⟩ : ∃ ka : Nat, a = ka := ⟨a.toNat, by omega⟩
        obtain ⟨hc0, hcw⟩ := hat
        rw [Int.toNat_natCast] at hcw
        go_enter Try.func12, Try.ntmps12
        go_wp2_with fail
        generalize ((w.alloc _).alloc _).alloc _ = y0 at HX HA HZ HB ⊢
        refine (sWrrOkIs ka c HO.out HL.out (confK.rd_later HR.out HB.out)).mono ?_
        rintro e y1 ⟨rfl, hb⟩
        have HX1 := Lib.hid (HX.out.later hb)
        have HA1 := Lib.hid (HA.out.later hb)
        have HZ1 := Lib.hid (HZ.out.later hb)
        have HB1 := Lib.hid (HB.out.trans (hb.mono HB.out.size))
        clear HX HA HZ HB hb
        obtain ⟨x0, x1⟩ := Bx.cells2 HX1.out
        have xw0 := HX1.out.warm 0
        have xw1 := HX1.out.warm 1
        obtain ⟨g0, g1, g2, g3, g4, g5⟩ := HA1.out.cells6
        obtain ⟨r0, r1⟩ := Bx.cells2 HZ1.out
        have z0 := HZ1.out.warm 0
        have z1 := HZ1.out.warm 1
        obtain ⟨ba', bp', ebv, hrow⟩ := HBR.out
        obtain ⟨rfl, rfl⟩ : ba = ba' ∧ bp = bp' := by simpa using ebv
        obtain ⟨wb, wo, rfl, hwb, hwc⟩ := hrow ka (by omega)
        rw [← (HB1.out).cell (p := ⟨wb, wo + ka, none⟩) hwb] at hwc
        clear hrow ebv
        rw [hcw] at hwc
        have hin : (0 : Int) ≤ (ka : Int) ∧ (ka : Int) < ((bl.length : Nat) : Int) := by omega
        go_wp2_with fail
        go_region
        all_goals
          go_wp2_with fail
          obtain ⟨s0, s1⟩ := Bx.cells2 (show Bx 25 (w.heap.size + 1 + 1) #[.int .i64 (ka : Int), .int .i64 (c - 1)] _ from (((HZ1.out.far (p := ⟨w.heap.size, 1, none⟩) (by dsimp only; omega) (.int .i64 (c - 1))).set 0 (.int .i64 (ka : Int))).set 1 (.int .i64 (c - 1))))
          refine bodyPost_ret (v := .tuple #[.agg #[.int .i64 (ka : Int), .int .i64 (c - 1)], .int .i64 (ka : Int)]) (by simp [results, Try.results12, go_sem, s0, s1]) rfl ⟨[.int .i64 (ka : Int), .int .i64 (c - 1)], rfl, wrr_capz _ _ _ _, ?_⟩
          first
            | exact (((HB1.out.setCell (by simp) _).setCell (by simp; omega) _).setCell (by simp; omega) _)
            | exact (((((HB1.out.setCell (by simp) _).drew).setCell (by simp; omega) _).setCell (by simp; omega) _))
            | exact ((((HB1.out.setCell (by simp) _).setCell (by simp; omega) _).setCell (by simp; omega) _).drew)
      · obtain ⟨FR, hFR⟩ : ∃ FR, firstR a bl bl.length 1 = FR := ⟨_, rfl⟩
        have HFR := Lib.hid hFR
        clear hFR
        have hb1 : 1 ≤ bl.length ∧ bl.length ≤ 4 := by omega
        have hal : a < (bl.length : Int) := by omega
        clear hlen
        obtain ⟨ka, rfl⟩ : ∃ ka : Nat, a = ka := ⟨a.toNat, by omega⟩
        have hac : c ≤ 0 ∨ 0 < c ∧ bl.getD ka false = false := by
          rcases Int.lt_or_le 0 c with h1 | h1
          · right
            refine ⟨h1, ?_⟩
            cases hg : bl.getD ka false with
            | false => rfl
            | true => exact absurd ⟨h1, by rw [Int.toNat_natCast]; exact hg⟩ hat
          · exact .inl h1
        obtain ⟨D, hD⟩ : ∃ D, pickR (ka : Int) c (l, q, mw, mr, ms, lm) bl = D := ⟨_, rfl⟩
        rw [hD]
        have HDD := Lib.hid hD
        clear hD
        rcases hac with hac | hac
        · go_enter Try.func12, Try.ntmps12
          go_wp2_with fail
          generalize ((w.alloc _).alloc _).alloc _ = y0 at HX HA HZ HB ⊢
          refine (sWrrOkIs ka c HO.out HL.out (confK.rd_later HR.out HB.out)).mono ?_
          rintro e y1 ⟨rfl, hb⟩
          have HX1 := Lib.hid (HX.out.later hb)
          have HA1 := Lib.hid (HA.out.later hb)
          have HZ1 := Lib.hid (HZ.out.later hb)
          have HB1 := Lib.hid (HB.out.trans (hb.mono HB.out.size))
          clear HX HA HZ HB hb
          obtain ⟨x0, x1⟩ := Bx.cells2 HX1.out
          have xw0 := HX1.out.warm 0
          have xw1 := HX1.out.warm 1
          obtain ⟨g0, g1, g2, g3, g4, g5⟩ := HA1.out.cells6
          obtain ⟨r0, r1⟩ := Bx.cells2 HZ1.out
          have z0 := HZ1.out.warm 0
          have z1 := HZ1.out.warm 1
          obtain ⟨ba', bp', ebv, hrow⟩ := HBR.out
          obtain ⟨rfl, rfl⟩ : ba = ba' ∧ bp = bp' := by simpa using ebv
          obtain ⟨wb, wo, rfl, hwb, hwc⟩ := hrow ka (by omega)
          rw [← (HB1.out).cell (p := ⟨wb, wo + ka, none⟩) hwb] at hwc
          have hrow2 := Lib.hid hrow
          clear hrow ebv
          have hin : (0 : Int) ≤ (ka : Int) ∧ (ka : Int) < ((bl.length : Nat) : Int) := by omega
          go_wp2_with fail
          go_loopw [8] (fun ii wr => ∃ j : Nat, 1 ≤ j ∧ j ≤ bl.length + 1 ∧ ii = .int .i64 j ∧ firstR (ka : Int) bl (bl.length + 1 - j) j = FR ∧ wr = y1) (fun ii _ => bl.length + 1 - (intOf ii).toNat)
          case atStart => exact ⟨1, Nat.le_refl _, by omega, rfl, HFR.out, rfl⟩
          case round =>
            obtain ⟨j, hj1, hj2, rfl, hfj, rfl⟩ := hrel
            have HFJ := Lib.hid hfj
            clear hfj
            by_cases hjn : j ≤ bl.length
            · obtain ⟨i, hi⟩ : ∃ i : Nat, ((ka : Int) + (j : Int)) % ((bl.length : Nat) : Int) = i := ⟨(((ka : Int) + (j : Int)) % ((bl.length : Nat) : Int)).toNat, by have := Int.emod_nonneg ((ka : Int) + (j : Int)) (show ((bl.length : Nat) : Int) ≠ 0 by omega); omega⟩
              have hib : i < bl.length := by have := Int.emod_lt_of_pos ((ka : Int) + (j : Int)) (show (0 : Int) < ((bl.length : Nat) : Int) by omega); omega
              have hin2 : (0 : Int) ≤ (i : Int) ∧ (i : Int) < ((bl.length : Nat) : Int) := by omega
              obtain ⟨wb2, wo2, ewb, hwb2, hwc2⟩ := hrow2.out i hib
              obtain ⟨rfl, rfl⟩ : wb = wb2 ∧ wo = wo2 := by simpa using ewb
              rw [← HB1.out.cell (p := ⟨wb, wo + i, none⟩) hwb2] at hwc2
              have HII := Lib.hid hi
              obtain ⟨bv, hbv⟩ : ∃ bv, bl.getD i false = bv := ⟨_, rfl⟩
              rw [hbv] at hwc2
              have hjs : bl.length + 1 - j = (bl.length - j) + 1 := by omega
              rw [hjs] at HFJ
              have HBV := Lib.hid (show bl.getD (((ka : Int) + (j : Int)) % ((bl.length : Nat) : Int)).toNat false = bv by rw [HII.out, Int.toNat_natCast]; exact hbv)
              clear hbv hjs ewb
              go_upto_region 10 with fail
              rw [HII.out]
              have hi2 := hin2
              cases bv with
              | true =>
                have hsome : firstR (ka : Int) bl bl.length 1 = some (i : Int) := by rw [HFR.out, ← HFJ.out, first_yes HBV.out, HII.out]
                obtain ⟨t, ht⟩ : ∃ t, turnW (l, q, mw, mr, ms, lm) (i : Int) = t := ⟨_, rfl⟩
                have HT := Lib.hid ht
                have htb := turnW_bd (l, q, mw, mr, ms, lm) (i : Int)
                rw [ht] at htb
                clear ht
                have hDD : D = (((i : Int), t - 1), (i : Int)) := HDD.out.symm.trans ((pick_some HK.out hat hsome).trans (by rw [HT.out]))
                subst hDD
                go_wp2_with fail
                refine (sTurnIs HT.out HL.out (confK.rd_later HR.out HB1.out)).mono ?_
                rintro e y2 ⟨rfl, hb⟩
                have Z2 := HZ1.out.later hb
                have HB2 := HB1.out.trans (hb.mono HB1.out.size)
                obtain ⟨q0, q1⟩ := Bx.cells2 Z2
                have qw0 := Z2.warm 0
                have qw1 := Z2.warm 1
                go_wp2_with fail
                refine bodyPost_ret (v := .tuple #[.agg #[.int .i64 (i : Int), .int .i64 (t - 1)], .int .i64 (i : Int)]) (by simp [results, Try.results12, go_sem, q0, q1]) rfl ⟨[.int .i64 (i : Int), .int .i64 (t - 1)], rfl, wrr_capz _ _ _ _, (HB2.setCell (by simp; omega) _).setCell (by simp; omega) _⟩
              | false =>
                have hstep : firstR (ka : Int) bl (bl.length + 1 - (j + 1)) ((j + 1 : Nat) : Int) = FR := by
                  rw [← HFJ.out, first_no HBV.out, show bl.length + 1 - (j + 1) = bl.length - j by omega]
                  rfl
                go_wp2_with fail
                go_roundw
                case rel => exact ⟨j + 1, by omega, by omega, by go_num, hstep, by first | rfl | trivial⟩
                case measure => simp [intOf]; omega
            · obtain rfl : j = bl.length + 1 := by omega
              have hnone : firstR (ka : Int) bl bl.length 1 = none := by rw [HFR.out, ← HFJ.out, Nat.sub_self]; rfl
              have hDD : D = (((ka : Int), 0), -1) := HDD.out.symm.trans (pick_none HK.out hat hnone)
              subst hDD
              go_wp2_with fail
              refine bodyPost_ret (v := .tuple #[.agg #[.int .i64 (ka : Int), .int .i64 0], .int .i64 (-1)]) (by simp [results, Try.results12, go_sem, r0, r1]) rfl ⟨[.int .i64 (ka : Int), .int .i64 0], rfl, wrr_capz _ _ _ _, (HB1.out.setCell (by simp; omega) _).setCell (by simp; omega) _⟩
        · go_enter Try.func12, Try.ntmps12
          go_wp2_with fail
          generalize ((w.alloc _).alloc _).alloc _ = y0 at HX HA HZ HB ⊢
          refine (sWrrOkIs ka c HO.out HL.out (confK.rd_later HR.out HB.out)).mono ?_
          rintro e y1 ⟨rfl, hb⟩
          have HX1 := Lib.hid (HX.out.later hb)
          have HA1 := Lib.hid (HA.out.later hb)
          have HZ1 := Lib.hid (HZ.out.later hb)
          have HB1 := Lib.hid (HB.out.trans (hb.mono HB.out.size))
          clear HX HA HZ HB hb
          obtain ⟨x0, x1⟩ := Bx.cells2 HX1.out
          have xw0 := HX1.out.warm 0
          have xw1 := HX1.out.warm 1
          obtain ⟨g0, g1, g2, g3, g4, g5⟩ := HA1.out.cells6
          obtain ⟨r0, r1⟩ := Bx.cells2 HZ1.out
          have z0 := HZ1.out.warm 0
          have z1 := HZ1.out.warm 1
          obtain ⟨ba', bp', ebv, hrow⟩ := HBR.out
          obtain ⟨rfl, rfl⟩ : ba = ba' ∧ bp = bp' := by simpa using ebv
          obtain ⟨wb, wo, rfl, hwb, hwc⟩ := hrow ka (by omega)
          rw [← (HB1.out).cell (p := ⟨wb, wo + ka, none⟩) hwb] at hwc
          have hrow2 := Lib.hid hrow
          clear hrow ebv
          have hin : (0 : Int) ≤ (ka : Int) ∧ (ka : Int) < ((bl.length : Nat) : Int) := by omega
          obtain ⟨hc0, hac⟩ := hac
          rw [hac] at hwc
          go_wp2_with fail
          go_loopw [8] (fun ii wr => ∃ j : Nat, 1 ≤ j ∧ j ≤ bl.length + 1 ∧ ii = .int .i64 j ∧ firstR (ka : Int) bl (bl.length + 1 - j) j = FR ∧ wr = y1) (fun ii _ => bl.length + 1 - (intOf ii).toNat)
          case atStart => exact ⟨1, Nat.le_refl _, by omega, rfl, HFR.out, rfl⟩
          case round =>
            obtain ⟨j, hj1, hj2, rfl, hfj, rfl⟩ := hrel
            have HFJ := Lib.hid hfj
            clear hfj
            by_cases hjn : j ≤ bl.length
            · obtain ⟨i, hi⟩ : ∃ i : Nat, ((ka : Int) + (j : Int)) % ((bl.length : Nat) : Int) = i := ⟨(((ka : Int) + (j : Int)) % ((bl.length : Nat) : Int)).toNat, by have := Int.emod_nonneg ((ka : Int) + (j : Int)) (show ((bl.length : Nat) : Int) ≠ 0 by omega); omega⟩
              have hib : i < bl.length := by have := Int.emod_lt_of_pos ((ka : Int) + (j : Int)) (show (0 : Int) < ((bl.length : Nat) : Int) by omega); omega
              have hin2 : (0 : Int) ≤ (i : Int) ∧ (i : Int) < ((bl.length : Nat) : Int) := by omega
              obtain ⟨wb2, wo2, ewb, hwb2, hwc2⟩ := hrow2.out i hib
              obtain ⟨rfl, rfl⟩ : wb = wb2 ∧ wo = wo2 := by simpa using ewb
              rw [← HB1.out.cell (p := ⟨wb, wo + i, none⟩) hwb2] at hwc2
              have HII := Lib.hid hi
              obtain ⟨bv, hbv⟩ : ∃ bv, bl.getD i false = bv := ⟨_, rfl⟩
              rw [hbv] at hwc2
              have hjs : bl.length + 1 - j = (bl.length - j) + 1 := by omega
              rw [hjs] at HFJ
              have HBV := Lib.hid (show bl.getD (((ka : Int) + (j : Int)) % ((bl.length : Nat) : Int)).toNat false = bv by rw [HII.out, Int.toNat_natCast]; exact hbv)
              clear hbv hjs ewb
              go_upto_region 10 with fail
              rw [HII.out]
              have hi2 := hin2
              cases bv with
              | true =>
                have hsome : firstR (ka : Int) bl bl.length 1 = some (i : Int) := by rw [HFR.out, ← HFJ.out, first_yes HBV.out, HII.out]
                obtain ⟨t, ht⟩ : ∃ t, turnW (l, q, mw, mr, ms, lm) (i : Int) = t := ⟨_, rfl⟩
                have HT := Lib.hid ht
                have htb := turnW_bd (l, q, mw, mr, ms, lm) (i : Int)
                rw [ht] at htb
                clear ht
                have hDD : D = (((i : Int), t - 1), (i : Int)) := HDD.out.symm.trans ((pick_some HK.out hat hsome).trans (by rw [HT.out]))
                subst hDD
                go_wp2_with fail
                refine (sTurnIs HT.out HL.out (confK.rd_later HR.out HB1.out)).mono ?_
                rintro e y2 ⟨rfl, hb⟩
                have Z2 := HZ1.out.later hb
                have HB2 := HB1.out.trans (hb.mono HB1.out.size)
                obtain ⟨q0, q1⟩ := Bx.cells2 Z2
                have qw0 := Z2.warm 0
                have qw1 := Z2.warm 1
                go_wp2_with fail
                refine bodyPost_ret (v := .tuple #[.agg #[.int .i64 (i : Int), .int .i64 (t - 1)], .int .i64 (i : Int)]) (by simp [results, Try.results12, go_sem, q0, q1]) rfl ⟨[.int .i64 (i : Int), .int .i64 (t - 1)], rfl, wrr_capz _ _ _ _, (HB2.setCell (by simp; omega) _).setCell (by simp; omega) _⟩
              | false =>
                have hstep : firstR (ka : Int) bl (bl.length + 1 - (j + 1)) ((j + 1 : Nat) : Int) = FR := by
                  rw [← HFJ.out, first_no HBV.out, show bl.length + 1 - (j + 1) = bl.length - j by omega]
                  rfl
                go_wp2_with fail
                go_roundw
                case rel => exact ⟨j + 1, by omega, by omega, by go_num, hstep, by first | rfl | trivial⟩
                case measure => simp [intOf]; omega
            · obtain rfl : j = bl.length + 1 := by omega
              have hnone : firstR (ka : Int) bl bl.length 1 = none := by rw [HFR.out, ← HFJ.out, Nat.sub_self]; rfl
              have hDD : D = (((ka : Int), 0), -1) := HDD.out.symm.trans (pick_none HK.out hat hnone)
              subst hDD
              go_wp2_with fail
              refine bodyPost_ret (v := .tuple #[.agg #[.int .i64 (ka : Int), .int .i64 0], .int .i64 (-1)]) (by simp [results, Try.results12, go_sem, r0, r1]) rfl ⟨[.int .i64 (ka : Int), .int .i64 0], rfl, wrr_capz _ _ _ _, (HB1.out.setCell (by simp; omega) _).setCell (by simp; omega) _⟩
    · rw [pick_bad (fun h => hlen h.2)]
      have hne : (((bl.length : Nat) : Int) != ((l.length : Nat) : Int)) = true := by simp; omega
      go_enter Try.func12, Try.ntmps12
      go_wp2_with fail
      generalize ((w.alloc _).alloc _).alloc _ = y0 at HX HA HZ HB ⊢
      refine (sWrrOkIs a c HO.out HL.out (confK.rd_later HR.out HB.out)).mono ?_
      rintro e y1 ⟨rfl, hb⟩
      have HX1 := Lib.hid (HX.out.later hb)
      have HA1 := Lib.hid (HA.out.later hb)
      have HZ1 := Lib.hid (HZ.out.later hb)
      have HB1 := Lib.hid (HB.out.trans (hb.mono HB.out.size))
      clear HX HA HZ HB hb
      obtain ⟨x0, x1⟩ := Bx.cells2 HX1.out
      have xw0 := HX1.out.warm 0
      have xw1 := HX1.out.warm 1
      obtain ⟨g0, g1, g2, g3, g4, g5⟩ := HA1.out.cells6
      obtain ⟨r0, r1⟩ := Bx.cells2 HZ1.out
      have z0 := HZ1.out.warm 0
      have z1 := HZ1.out.warm 1
      go_wp2_with fail
      refine bodyPost_ret (v := .tuple #[.agg #[.int .i64 a, .int .i64 c], .int .i64 (-1)]) (by simp [results, Try.results12, go_sem, r0, r1]) rfl ⟨[.int .i64 a, .int .i64 c], rfl, wrr_capz _ _ _ _, ((HB1.out.setCell (by simp; try omega) _).setCell (by simp; try omega) _)⟩
end Go.Proofs.Ytddbhokfjdgabaa.KD
