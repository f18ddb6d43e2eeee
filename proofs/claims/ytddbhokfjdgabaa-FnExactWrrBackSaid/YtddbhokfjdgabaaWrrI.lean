
/-
  nextWanting and WrrPick of the program.
-/
import Derived.Test.YtddbhokfjdgabaaWrrI2
namespace Go.Proofs.Ytddbhokfjdgabaa.KD
open Go.RowKit Rows3 GR Num
set_option linter.unusedVariables false

theorem first_bd {a : Int} {wants : List Bool} {n : Nat} {j i : Int} (h : firstR a wants n j = some i) (hl : 0 < wants.length) : 0 ≤ i ∧ i < wants.length := by
  induction n generalizing j with
  | zero => exact absurd h (by simp [firstR])
  | succ n ih =>
    unfold firstR at h
    split at h
    · obtain rfl := Option.some.inj h
      exact ⟨Int.emod_nonneg _ (by omega), Int.emod_lt_of_pos _ (by omega)⟩
    · exact ih h
theorem rdO_later {v : Value} {l : List Bool} {w w' : World} {B : Nat} (h : RdO v l w) (hb : Below B w w') (hB : B = w.heap.size := by rfl) : RdO v l w' := by
  subst hB
  obtain ⟨ad, cp, e, h⟩ := h
  refine ⟨ad, cp, e, fun i hi => ?_⟩
  obtain ⟨b, o, e1, h1, h2⟩ := h i hi
  exact ⟨b, o, e1, Nat.lt_of_lt_of_le h1 hb.size, by rw [hb.cell (p := ⟨b, o + i, none⟩) h1]; exact h2⟩
set_option maxRecDepth 100000 in
theorem implNext_is {a : Nat} {bl : List Bool} {ba : Option Addr} {bp : Nat} {FR : Option Int} {w : World} (h : firstR a bl bl.length 1 = FR) (h0 : 1 ≤ bl.length) (hl : bl.length ≤ 2000000) (ha : a < bl.length) (hr : RdO (.slice ba bl.length bp) bl w) :
    Calls Try.prog 35 #[.slice ba bl.length bp, .int .i64 a] w fun e w' => e = .returned (.int .i64 (FR.getD (-1))) ∧ w = w' := by
  obtain ⟨ba', bp', ebv, hrow⟩ := hr
  obtain ⟨rfl, rfl⟩ : ba = ba' ∧ bp = bp' := by simpa using ebv
  obtain ⟨wb, wo, rfl, hwb, hwc⟩ := hrow a ha
  have hrow2 := Lib.hid hrow
  have HFR := Lib.hid h
  clear hrow ebv h hwc
  go_enter Try.func35, Try.ntmps35
  go_wp2_with fail
  go_loopw [9] (fun ii wr => ∃ k : Nat, k ≤ bl.length ∧ ii = .int .i64 k ∧ firstR (a : Int) bl (bl.length - k) ((k : Int) + 1) = FR ∧ wr = w) (fun ii _ => bl.length - (intOf ii).toNat)
  case atStart => exact ⟨0, by omega, rfl, HFR.out, rfl⟩
  case round =>
    obtain ⟨k, hk, rfl, hfk, rfl⟩ := hrel
    have HFK := Lib.hid hfk
    clear hfk
    by_cases hkn : k < bl.length
    · obtain ⟨i, hi⟩ : ∃ i : Nat, ((a : Int) + 1 + (k : Int)) % ((bl.length : Nat) : Int) = i := ⟨(((a : Int) + 1 + (k : Int)) % ((bl.length : Nat) : Int)).toNat, by have := Int.emod_nonneg ((a : Int) + 1 + (k : Int)) (show ((bl.length : Nat) : Int) ≠ 0 by omega); omega⟩
      have hib : i < bl.length := by have := Int.emod_lt_of_pos ((a : Int) + 1 + (k : Int)) (show (0 : Int) < ((bl.length : Nat) : Int) by omega); omega
      have hin2 : (0 : Int) ≤ (i : Int) ∧ (i : Int) < ((bl.length : Nat) : Int) := by omega
      obtain ⟨wb2, wo2, ewb, hwb2, hwc2⟩ := hrow2.out i hib
      obtain ⟨rfl, rfl⟩ : wb = wb2 ∧ wo = wo2 := by simpa using ewb
      have HII := Lib.hid hi
      have HIJ := Lib.hid (show ((a : Int) + ((k : Int) + 1)) % ((bl.length : Nat) : Int) = i by rw [← hi]; congr 1; omega)
      obtain ⟨bv, hbv⟩ : ∃ bv, bl.getD i false = bv := ⟨_, rfl⟩
      rw [hbv] at hwc2
      rw [show bl.length - k = (bl.length - (k + 1)) + 1 by omega] at HFK
      have HBV := Lib.hid (show bl.getD (((a : Int) + ((k : Int) + 1)) % ((bl.length : Nat) : Int)).toNat false = bv by rw [HIJ.out, Int.toNat_natCast]; exact hbv)
      clear hbv ewb hi
      go_upto_region 5 with fail
      rw [HII.out]
      cases bv with
      | true =>
        have hsome : FR = some (i : Int) := by rw [← HFK.out, first_yes HBV.out, HIJ.out]
        subst hsome
        go_wp2_with fail
        go_ret
        exact ⟨rfl, rfl⟩
      | false =>
        have hstep : firstR (a : Int) bl (bl.length - (k + 1)) (((k + 1 : Nat) : Int) + 1) = FR := by
          rw [← HFK.out, first_no HBV.out]
          rfl
        go_wp2_with fail
        go_roundw
        case rel => exact ⟨k + 1, by omega, by go_num, hstep, by first | rfl | trivial⟩
        case measure => simp [intOf]; omega
    · obtain rfl : k = bl.length := by omega
      have hnone : FR = none := by rw [← HFK.out, Nat.sub_self]; rfl
      subst hnone
      go_wp2_with fail
      go_ret
      exact ⟨rfl, rfl⟩

set_option maxHeartbeats 8000000 in
set_option maxRecDepth 100000 in
theorem implWrrPick (ws : List Value) (a c : Int) {w0 : World} (hw : wrrK.rd ws (a, c) w0) (bs : List Value) (bl : List Bool) (hbz : bools.sz bl ≤ 2000000) (cs : List Value) (l : List (Int × Bool × Int × Int)) (q mw mr ms lm : Int) (hl : l.length ≤ 2000000) (w : World) (h : confK.rd cs (l, q, mw, mr, ms, lm) w) (hbr0 : bools.rd bs bl w) :
    Calls Try.prog 11 #[agg ws, agg cs, one bs] w (NewPick (pickR a c (l, q, mw, mr, ms, lm) bl) w) := by
  obtain ⟨ba, bp, rfl, hbl, hbr⟩ := rd_bools hbr0
  have HBR := Lib.hid hbr
  have hbll : bl.length ≤ 2000000 := by have := sz_bools bl; exact this ▸ hbz
  clear hbr hbr0 hbz hbl
  obtain rfl := wrr_form hw
  have hr := h
  obtain ⟨a0, p0, rfl, hm⟩ := conf_form h
  have hsz : ∀ (w : World) o, (w.alloc o).heap.size = w.heap.size + 1 := fun w o => by simp
  have X := ((Bx.new 25 #[.int .i64 a, .int .i64 c] w).alloc (Obj.cells #[.slice a0 l.length p0, .int .i64 q, .int .i64 mw, .int .i64 mr, .int .i64 ms, .int .i64 lm] 28)).alloc (Obj.cells #[.int .i64 0, .int .i64 0] 25)
  have A := (Bx.new 28 #[.slice a0 l.length p0, .int .i64 q, .int .i64 mw, .int .i64 mr, .int .i64 ms, .int .i64 lm] (w.alloc (Obj.cells #[.int .i64 a, .int .i64 c] 25))).alloc (Obj.cells #[.int .i64 0, .int .i64 0] 25)
  have R := Bx.new 25 #[.int .i64 0, .int .i64 0] ((w.alloc (Obj.cells #[.int .i64 a, .int .i64 c] 25)).alloc (Obj.cells #[.slice a0 l.length p0, .int .i64 q, .int .i64 mw, .int .i64 mr, .int .i64 ms, .int .i64 lm] 28))
  rw [hsz] at A
  rw [hsz, hsz] at R
  have HX := Lib.hid X
  have HA := Lib.hid A
  have HZ := Lib.hid R
  have HB := Lib.hid (below_al3 _ w rfl (Obj.cells #[.int .i64 a, .int .i64 c] 25) (Obj.cells #[.slice a0 l.length p0, .int .i64 q, .int .i64 mw, .int .i64 mr, .int .i64 ms, .int .i64 lm] 28) (Obj.cells #[.int .i64 0, .int .i64 0] 25))
  have HR := Lib.hid hr
  have HL := Lib.hid hl
  clear X A R hsz hr hm h hl
  show Calls _ _ #[.agg #[.int .i64 a, .int .i64 c], .agg #[.slice a0 l.length p0, .int .i64 q, .int .i64 mw, .int .i64 mr, .int .i64 ms, .int .i64 lm], .slice ba bl.length bp] w _
  cases hok : okWr a c (l, q, mw, mr, ms, lm) with
  | false =>
    rw [pick_bad (fun h => by rw [hok] at h; exact absurd h.1 (by simp))]
    have HO := Lib.hid hok
    clear hok
    go_enter Try.func11, Try.ntmps11
    go_wp2_with fail
    generalize ((w.alloc _).alloc _).alloc _ = y0 at HX HA HZ HB ⊢
    refine (iWrrOkIs a c HO.out HL.out (confK.rd_later HR.out HB.out)).mono ?_
    rintro e y1 ⟨rfl, hb⟩
    have HX1 := Lib.hid (HX.out.later hb)
    have HA1 := Lib.hid (HA.out.later hb)
    have HZ1 := Lib.hid (HZ.out.later hb)
    have HB1 := Lib.hid (HB.out.trans (hb.mono HB.out.size))
    clear HX HA HZ HB hb
    obtain ⟨x0, x1⟩ := Bx.cells2 HX1.out
    have xw0 := HX1.out.warm 0
    have xw1 := HX1.out.warm 1
    obtain ⟨g0, g1, g2, g3, g4, g5⟩ := HA1.out.cells6
    obtain ⟨r0, r1⟩ := Bx.cells2 HZ1.out
    have z0 := HZ1.out.warm 0
    have z1 := HZ1.out.warm 1
    go_wp2_with fail
    refine bodyPost_ret (v := .tuple #[.agg #[.int .i64 a, .int .i64 c], .int .i64 (-1)]) (by simp [results, Try.results11, go_sem, r0, r1]) rfl ⟨[.int .i64 a, .int .i64 c], rfl, wrr_capz _ _ _ _, ((HB1.out.setCell (by simp; try omega) _).setCell (by simp; try omega) _)⟩
  | true =>
    obtain ⟨hx, ha, hc⟩ := okWr_facts hok
    obtain ⟨hln, _, _⟩ := confX_facts hx
    have hbd := turnW_bd (l, q, mw, mr, ms, lm) a
    have HO := Lib.hid hok
    have HOX := Lib.hid hx
    clear hok hx
    by_cases hlen : bl.length = l.length
    · have HK := Lib.hid (show okWr a c (l, q, mw, mr, ms, lm) = true ∧ bl.length = l.length from ⟨HO.out, hlen⟩)
      have hne : (((bl.length : Nat) : Int) != ((l.length : Nat) : Int)) = false := by simp; omega
      by_cases hat : 0 < c ∧ bl.getD a.toNat false = true
      · rw [pick_at HK.out hat.1 hat.2]
        obtain ⟨ka, rfl⟩ : ∃ ka : Nat, a = ka := ⟨a.toNat, by omega⟩
        obtain ⟨hc0, hcw⟩ := hat
        rw [Int.toNat_natCast] at hcw
        go_enter Try.func11, Try.ntmps11
        go_wp2_with fail
        generalize ((w.alloc _).alloc _).alloc _ = y0 at HX HA HZ HB ⊢
        refine (iWrrOkIs ka c HO.out HL.out (confK.rd_later HR.out HB.out)).mono ?_
        rintro e y1 ⟨rfl, hb⟩
        have HX1 := Lib.hid (HX.out.later hb)
        have HA1 := Lib.hid (HA.out.later hb)
        have HZ1 := Lib.hid (HZ.out.later hb)
        have HB1 := Lib.hid (HB.out.trans (hb.mono HB.out.size))
        clear HX HA HZ HB hb
        obtain ⟨x0, x1⟩ := Bx.cells2 HX1.out
        have xw0 := HX1.out.warm 0
        have xw1 := HX1.out.warm 1
        obtain ⟨g0, g1, g2, g3, g4, g5⟩ := HA1.out.cells6
        obtain ⟨r0, r1⟩ := Bx.cells2 HZ1.out
        have z0 := HZ1.out.warm 0
        have z1 := HZ1.out.warm 1
        obtain ⟨ba', bp', ebv, hrow⟩ := HBR.out
        obtain ⟨rfl, rfl⟩ : ba = ba' ∧ bp = bp' := by simpa using ebv
        obtain ⟨wb, wo, rfl, hwb, hwc⟩ := hrow ka (by omega)
        rw [← (HB1.out).cell (p := ⟨wb, wo + ka, none⟩) hwb] at hwc
        clear hrow ebv
        rw [hcw] at hwc
        have hin : (0 : Int) ≤ (ka : Int) ∧ (ka : Int) < ((bl.length : Nat) : Int) := by omega
        go_wp2_with fail
        go_region
        all_goals
          go_wp2_with fail
          obtain ⟨s0, s1⟩ := Bx.cells2 (show Bx 25 (w.heap.size + 1 + 1) #[.int .i64 (ka : Int), .int .i64 (c - 1)] _ from (((HZ1.out.far (p := ⟨w.heap.size, 1, none⟩) (by dsimp only; omega) (.int .i64 (c - 1))).set 0 (.int .i64 (ka : Int))).set 1 (.int .i64 (c - 1))))
          refine bodyPost_ret (v := .tuple #[.agg #[.int .i64 (ka : Int), .int .i64 (c - 1)], .int .i64 (ka : Int)]) (by simp [results, Try.results11, go_sem, s0, s1]) rfl ⟨[.int .i64 (ka : Int), .int .i64 (c - 1)], rfl, wrr_capz _ _ _ _, ?_⟩
          first
            | exact (((HB1.out.setCell (by simp) _).setCell (by simp; omega) _).setCell (by simp; omega) _)
            | exact (((((HB1.out.setCell (by simp) _).drew).setCell (by simp; omega) _).setCell (by simp; omega) _))
            | exact ((((HB1.out.setCell (by simp) _).setCell (by simp; omega) _).setCell (by simp; omega) _).drew)
      · obtain ⟨FR, hFR⟩ : ∃ FR, firstR a bl bl.length 1 = FR := ⟨_, rfl⟩
        have HFR := Lib.hid hFR
        clear hFR
        have hb1 : 1 ≤ bl.length ∧ bl.length ≤ 4 := by omega
        have hal : a < (bl.length : Int) := by omega
        clear hlen
        obtain ⟨ka, rfl⟩ : ∃ ka : Nat, a = ka := ⟨a.toNat, by omega⟩
        have hac : c ≤ 0 ∨ 0 < c ∧ bl.getD ka false = false := by
          rcases Int.lt_or_le 0 c with h1 | h1
          · right
            refine ⟨h1, ?_⟩
            cases hg : bl.getD ka false with
            | false => rfl
            | true => exact absurd ⟨h1, by rw [Int.toNat_natCast]; exact hg⟩ hat
          · exact .inl h1
        obtain ⟨D, hD⟩ : ∃ D, pickR (ka : Int) c (l, q, mw, mr, ms, lm) bl = D := ⟨_, rfl⟩
        rw [hD]
        have HDD := Lib.hid hD
        clear hD
        rcases hac with hac | hac
        · go_enter Try.func11, Try.ntmps11
          go_wp2_with fail
          generalize ((w.alloc _).alloc _).alloc _ = y0 at HX HA HZ HB ⊢
          refine (iWrrOkIs ka c HO.out HL.out (confK.rd_later HR.out HB.out)).mono ?_
          rintro e y1 ⟨rfl, hb⟩
          have HX1 := Lib.hid (HX.out.later hb)
          have HA1 := Lib.hid (HA.out.later hb)
          have HZ1 := Lib.hid (HZ.out.later hb)
          have HB1 := Lib.hid (HB.out.trans (hb.mono HB.out.size))
          clear HX HA HZ HB hb
          obtain ⟨x0, x1⟩ := Bx.cells2 HX1.out
          have xw0 := HX1.out.warm 0
          have xw1 := HX1.out.warm 1
          obtain ⟨g0, g1, g2, g3, g4, g5⟩ := HA1.out.cells6
          obtain ⟨r0, r1⟩ := Bx.cells2 HZ1.out
          have z0 := HZ1.out.warm 0
          have z1 := HZ1.out.warm 1
          have hbr1 := Lib.hid (rdO_later HBR.out HB1.out)
          obtain ⟨ba', bp', ebv, hrow⟩ := HBR.out
          obtain ⟨rfl, rfl⟩ : ba = ba' ∧ bp = bp' := by simpa using ebv
          obtain ⟨wb, wo, rfl, hwb, hwc⟩ := hrow ka (by omega)
          rw [← (HB1.out).cell (p := ⟨wb, wo + ka, none⟩) hwb] at hwc
          clear hrow ebv
          have hin : (0 : Int) ≤ (ka : Int) ∧ (ka : Int) < ((bl.length : Nat) : Int) := by omega
          go_wp2_with fail
          refine (implNext_is HFR.out hb1.1 (by omega) (by omega) hbr1.out).mono ?_
          rintro e y2 ⟨rfl, rfl⟩
          cases FR with
          | some i =>
            obtain ⟨hi0, hi1⟩ := first_bd HFR.out (by omega)
            obtain ⟨t, ht⟩ : ∃ t, turnW (l, q, mw, mr, ms, lm) i = t := ⟨_, rfl⟩
            have HT := Lib.hid ht
            have htb := turnW_bd (l, q, mw, mr, ms, lm) i
            rw [ht] at htb
            clear ht
            have hDD : D = ((i, t - 1), i) := HDD.out.symm.trans ((pick_some HK.out hat HFR.out).trans (by rw [HT.out]))
            subst hDD
            go_wp2_with fail
            refine (iTurnIs HT.out HL.out (confK.rd_later HR.out HB1.out)).mono ?_
            rintro e y3 ⟨rfl, hb⟩
            have Z2 := HZ1.out.later hb
            have HB2 := HB1.out.trans (hb.mono HB1.out.size)
            obtain ⟨q0, q1⟩ := Bx.cells2 Z2
            have qw0 := Z2.warm 0
            have qw1 := Z2.warm 1
            go_wp2_with fail
            refine bodyPost_ret (v := .tuple #[.agg #[.int .i64 i, .int .i64 (t - 1)], .int .i64 i]) (by simp [results, Try.results11, go_sem, q0, q1]) rfl ⟨[.int .i64 i, .int .i64 (t - 1)], rfl, wrr_capz _ _ _ _, (HB2.setCell (by simp; omega) _).setCell (by simp; omega) _⟩
          | none =>
            have hDD : D = (((ka : Int), 0), -1) := HDD.out.symm.trans (pick_none HK.out hat HFR.out)
            subst hDD
            go_wp2_with fail
            obtain ⟨s0, s1⟩ := Bx.cells2 (show Bx 25 (w.heap.size + 1 + 1) #[.int .i64 (ka : Int), .int .i64 0] _ from (((HZ1.out.far (p := ⟨w.heap.size, 1, none⟩) (by dsimp only; omega) (.int .i64 0)).set 0 (.int .i64 (ka : Int))).set 1 (.int .i64 0)))
            refine bodyPost_ret (v := .tuple #[.agg #[.int .i64 (ka : Int), .int .i64 0], .int .i64 (-1)]) (by simp [results, Try.results11, go_sem, s0, s1]) rfl ⟨[.int .i64 (ka : Int), .int .i64 0], rfl, wrr_capz _ _ _ _, ((HB1.out.setCell (by simp) _).setCell (by simp; omega) _).setCell (by simp; omega) _⟩
        · go_enter Try.func11, Try.ntmps11
          go_wp2_with fail
          generalize ((w.alloc _).alloc _).alloc _ = y0 at HX HA HZ HB ⊢
          refine (iWrrOkIs ka c HO.out HL.out (confK.rd_later HR.out HB.out)).mono ?_
          rintro e y1 ⟨rfl, hb⟩
          have HX1 := Lib.hid (HX.out.later hb)
          have HA1 := Lib.hid (HA.out.later hb)
          have HZ1 := Lib.hid (HZ.out.later hb)
          have HB1 := Lib.hid (HB.out.trans (hb.mono HB.out.size))
          clear HX HA HZ HB hb
          obtain ⟨x0, x1⟩ := Bx.cells2 HX1.out
          have xw0 := HX1.out.warm 0
          have xw1 := HX1.out.warm 1
          obtain ⟨g0, g1, g2, g3, g4, g5⟩ := HA1.out.cells6
          obtain ⟨r0, r1⟩ := Bx.cells2 HZ1.out
          have z0 := HZ1.out.warm 0
          have z1 := HZ1.out.warm 1
          have hbr1 := Lib.hid (rdO_later HBR.out HB1.out)
          obtain ⟨ba', bp', ebv, hrow⟩ := HBR.out
          obtain ⟨rfl, rfl⟩ : ba = ba' ∧ bp = bp' := by simpa using ebv
          obtain ⟨wb, wo, rfl, hwb, hwc⟩ := hrow ka (by omega)
          rw [← (HB1.out).cell (p := ⟨wb, wo + ka, none⟩) hwb] at hwc
          clear hrow ebv
          have hin : (0 : Int) ≤ (ka : Int) ∧ (ka : Int) < ((bl.length : Nat) : Int) := by omega
          obtain ⟨hc0, hac⟩ := hac
          rw [hac] at hwc
          go_wp2_with fail
          refine (implNext_is HFR.out hb1.1 (by omega) (by omega) hbr1.out).mono ?_
          rintro e y2 ⟨rfl, rfl⟩
          cases FR with
          | some i =>
            obtain ⟨hi0, hi1⟩ := first_bd HFR.out (by omega)
            obtain ⟨t, ht⟩ : ∃ t, turnW (l, q, mw, mr, ms, lm) i = t := ⟨_, rfl⟩
            have HT := Lib.hid ht
            have htb := turnW_bd (l, q, mw, mr, ms, lm) i
            rw [ht] at htb
            clear ht
            have hDD : D = ((i, t - 1), i) := HDD.out.symm.trans ((pick_some HK.out hat HFR.out).trans (by rw [HT.out]))
            subst hDD
            go_wp2_with fail
            refine (iTurnIs HT.out HL.out (confK.rd_later HR.out HB1.out)).mono ?_
            rintro e y3 ⟨rfl, hb⟩
            have Z2 := HZ1.out.later hb
            have HB2 := HB1.out.trans (hb.mono HB1.out.size)
            obtain ⟨q0, q1⟩ := Bx.cells2 Z2
            have qw0 := Z2.warm 0
            have qw1 := Z2.warm 1
            go_wp2_with fail
            refine bodyPost_ret (v := .tuple #[.agg #[.int .i64 i, .int .i64 (t - 1)], .int .i64 i]) (by simp [results, Try.results11, go_sem, q0, q1]) rfl ⟨[.int .i64 i, .int .i64 (t - 1)], rfl, wrr_capz _ _ _ _, (HB2.setCell (by simp; omega) _).setCell (by simp; omega) _⟩
          | none =>
            have hDD : D = (((ka : Int), 0), -1) := HDD.out.symm.trans (pick_none HK.out hat HFR.out)
            subst hDD
            go_wp2_with fail
            obtain ⟨s0, s1⟩ := Bx.cells2 (show Bx 25 (w.heap.size + 1 + 1) #[.int .i64 (ka : Int), .int .i64 0] _ from (((HZ1.out.far (p := ⟨w.heap.size, 1, none⟩) (by dsimp only; omega) (.int .i64 0)).set 0 (.int .i64 (ka : Int))).set 1 (.int .i64 0)))
            refine bodyPost_ret (v := .tuple #[.agg #[.int .i64 (ka : Int), .int .i64 0], .int .i64 (-1)]) (by simp [results, Try.results11, go_sem, s0, s1]) rfl ⟨[.int .i64 (ka : Int), .int .i64 0], rfl, wrr_capz _ _ _ _, ((HB1.out.setCell (by simp) _).setCell (by simp; omega) _).setCell (by simp; omega) _⟩
    · rw [pick_bad (fun h => hlen h.2)]
      have hne : (((bl.length : Nat) : Int) != ((l.length : Nat) : Int)) = true := by simp; omega
      go_enter Try.func11, Try.ntmps11
      go_wp2_with fail
      generalize ((w.alloc _).alloc _).alloc _ = y0 at HX HA HZ HB ⊢
      refine (iWrrOkIs a c HO.out HL.out (confK.rd_later HR.out HB.out)).mono ?_
      rintro e y1 ⟨rfl, hb⟩
      have HX1 := Lib.hid (HX.out.later hb)
      have HA1 := Lib.hid (HA.out.later hb)
      have HZ1 := Lib.hid (HZ.out.later hb)
      have HB1 := Lib.hid (HB.out.trans (hb.mono HB.out.size))
      clear HX HA HZ HB hb
      obtain ⟨x0, x1⟩ := Bx.cells2 HX1.out
      have xw0 := HX1.out.warm 0
      have xw1 := HX1.out.warm 1
      obtain ⟨g0, g1, g2, g3, g4, g5⟩ := HA1.out.cells6
      obtain ⟨r0, r1⟩ := Bx.cells2 HZ1.out
      have z0 := HZ1.out.warm 0
      have z1 := HZ1.out.warm 1
      go_wp2_with fail
      refine bodyPost_ret (v := .tuple #[.agg #[.int .i64 a, .int .i64 c], .int .i64 (-1)]) (by simp [results, Try.results11, go_sem, r0, r1]) rfl ⟨[.int .i64 a, .int .i64 c], rfl, wrr_capz _ _ _ _, ((HB1.out.setCell (by simp; try omega) _).setCell (by simp; try omega) _)⟩
end Go.Proofs.Ytddbhokfjdgabaa.KD
