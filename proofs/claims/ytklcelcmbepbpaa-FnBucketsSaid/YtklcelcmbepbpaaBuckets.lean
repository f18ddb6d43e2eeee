
/-
  The law on token buckets: its walk.
-/
import Derived.Test.YtklcelcmbepbpaaBuckets1
import Derived.Lib.QuietBelow
import Derived.Deep.Cut
import Derived.Deep.RegionHeld3
namespace Go.Proofs.Ytklcelcmbepbpaa.CurB
open Go.RowKit Bytes Num GR KD Cur
set_option linter.unusedVariables false

theorem okI {ev cap t k : Int} {p b : Bool} (hs : Small ev cap t k) (hb : okB p ev cap t k = b) (w : World) :
    Calls Try.prog 12 #[.agg #[.int .i64 t, .int .i64 k], .agg #[.int .i64 1, .bool p, .int .i64 ev, .int .i64 cap]] w fun e w' => e = .returned (.bool b) ∧ Below w.heap.size w w' := hb ▸ implOkB 1 p ev cap t k hs w
theorem okS {ev cap t k : Int} {p b : Bool} (hs : Small ev cap t k) (hb : okB p ev cap t k = b) (w : World) :
    Calls Try.prog 13 #[.agg #[.int .i64 t, .int .i64 k], .agg #[.int .i64 1, .bool p, .int .i64 ev, .int .i64 cap]] w fun e w' => e = .returned (.bool b) ∧ Below w.heap.size w w' := hb ▸ specOkB 1 p ev cap t k hs w
theorem tick_bad {ev cap t k : Int} {p : Bool} (hs : Small ev cap t k) (hb : okB p ev cap t k = false) (w : World) :
    Calls Try.prog 15 #[.agg #[.int .i64 t, .int .i64 k], .agg #[.int .i64 1, .bool p, .int .i64 ev, .int .i64 cap]] w fun e w' => e = .returned (.agg #[.int .i64 t, .int .i64 k]) ∧ Below w.heap.size w w' := by
  have h := implTick 1 p ev cap t k hs w
  obtain ⟨e1, e2, _, _⟩ := u_no (p := p) (ev := ev) (cap := cap) (t := t) (c := k) (by rw [hb]; simp)
  rwa [e1, e2] at h

theorem back_is {ev cap t k t' : Int} {p : Bool} (hs : Small ev cap t k) (hb : backT p ev cap t k = t') (w : World) :
    Calls Try.prog 18 #[.agg #[.int .i64 t, .int .i64 k], .agg #[.int .i64 1, .bool p, .int .i64 ev, .int .i64 cap]] w fun e w' => e = .returned (.agg #[.int .i64 t', .int .i64 k]) ∧ Below w.heap.size w w' := hb ▸ implBack 1 p ev cap t k hs w
set_option maxHeartbeats 8000000 in
set_option maxRecDepth 100000 in
theorem bucks_all (a : Option Addr) (len cap0 : Nat) (z : List Int) (w : World) (h : CodeIn a len z w) :
    Calls Try.prog 3 #[.slice a len cap0] w fun e w' => e = .returned (.bool true) ∧ Below w.heap.size w w' := by
  have hl := h.2.2
  have Hc := Lib.hid h
  clear h
  go_enter Try.func3, Try.ntmps3
  go_wp2_with fail
  refine (bigE_no a len cap0 (by omega) _).mono ?_
  rintro e w1 ⟨rfl, rfl⟩
  go_wp2_with fail
  refine (drawTick a len cap0 z _ Hc.out).mono ?_
  rintro e w2 ⟨p, ev, cap, t, k, hmv, hsm, rfl, hb⟩
  unfold MVal
  have hsz : ∀ (w : World) o, (w.alloc o).heap.size = w.heap.size + 1 := fun w o => by simp
  obtain ⟨n3, hn3⟩ : ∃ n, w2.heap.size = n := ⟨_, rfl⟩
  have hn : w.heap.size ≤ n3 := hn3 ▸ hb.size
  have B3 := (Bx.new 25 #[.int .i64 t, .int .i64 k] w2).alloc (.cells #[.int .i64 1, .bool p, .int .i64 ev, .int .i64 cap] 27)
  have M3 := Bx.new 27 #[.int .i64 1, .bool p, .int .i64 ev, .int .i64 cap] (w2.alloc (.cells #[.int .i64 t, .int .i64 k] 25))
  rw [hsz] at M3
  have O3 := ((Below.refl w2.heap.size w2).alloc (Nat.le_refl _) (.cells #[.int .i64 t, .int .i64 k] 25)).alloc (by simp) (.cells #[.int .i64 1, .bool p, .int .i64 ev, .int .i64 cap] 27)
  have OO := hb.trans (O3.mono hb.size)
  rw [hn3] at B3 M3
  have HB := Lib.hid B3
  have HM := Lib.hid M3
  have HO := Lib.hid OO
  have HC := Lib.hid (Hc.out.below OO)
  clear B3 M3 O3 OO hsz hb
  go_wp2_with fail
  generalize (w2.alloc _).alloc _ = w3 at HB HM HO HC ⊢
  have hnew : Small ev cap (newB p cap) 0 := small_of hmv (okB_new hmv)
  have hnok := okB_new hmv
  obtain ⟨f0, f1⟩ := Bx.cells2 HB.out
  obtain ⟨g0, g1, g2, g3⟩ := HM.out.cells4
  have x0 := cell_regrown f0
  have x1 := cell_regrown f1
  have y0 := cell_regrown g0
  have y1 := cell_regrown g1
  have y2 := cell_regrown g2
  have y3 := cell_regrown g3
  clear f0 f1 g0 g1 g2 g3
  have HS := Lib.hid hsm
  have HN := Lib.hid hnew
  have HK := Lib.hid hnok
  clear hnew hnok
  cases hok : okB p ev cap t k with
  | false =>
    have HT := Lib.hid hok
    clear hok
    refine wp_region_quiet_below (by kernel_rfl) (by kernel_rfl) ?_
    repeat (go_big_quiet_step (first
      | (go_at_call 12; first | with_reducible exact Calls.regrown_of (okI HS.out HT.out _) | with_reducible exact Calls.regrown_of (okI HN.out HK.out _))
      | (go_at_call 13; exact Calls.regrown_of (okS HS.out HT.out _))
      | (go_at_call 14; exact Calls.regrown_of (implNew 1 ev cap p _))))
    refine wpQuiet_nil ?_
    rintro _ ⟨q, rfl⟩
    have hq := below_regrown w3 q.d q.os
    have HB4 := Lib.hid (HB.out.later hq)
    have HM4 := Lib.hid (HM.out.later hq)
    have HO4 := Lib.hid (HO.out.trans (hq.mono HO.out.size))
    have HC4 := Lib.hid (HC.out.below hq)
    clear x0 x1 y0 y1 y2 y3 hq HB HM HO HC
    generalize Sort.grow (redrawn w3 q.d) q.os = w4 at HB4 HM4 HO4 HC4 ⊢
    obtain ⟨f0, f1⟩ := Bx.cells2 HB4.out
    obtain ⟨g0, g1, g2, g3⟩ := HM4.out.cells4
    go_wp2_with fail
    refine (okS HS.out HT.out _).mono ?_
    rintro e w5 ⟨rfl, hb5⟩
    have HB5 := Lib.hid (HB4.out.later hb5)
    have HM5 := Lib.hid (HM4.out.later hb5)
    have HO5 := Lib.hid (HO4.out.trans (hb5.mono HO4.out.size))
    have HC5 := Lib.hid (HC4.out.below hb5)
    clear f0 f1 g0 g1 g2 g3 hb5 HB4 HM4 HO4 HC4
    obtain ⟨f0, f1⟩ := Bx.cells2 HB5.out
    obtain ⟨g0, g1, g2, g3⟩ := HM5.out.cells4
    have x0 := cell_regrown f0
    have x1 := cell_regrown f1
    have y0 := cell_regrown g0
    have y1 := cell_regrown g1
    have y2 := cell_regrown g2
    have y3 := cell_regrown g3
    clear f0 f1 g0 g1 g2 g3
    go_wp2_with fail
    refine wp_region_quiet_below (by kernel_rfl) (by kernel_rfl) ?_
    repeat (go_big_quiet_step (first
      | (go_at_call 15; exact Calls.regrown_of (tick_bad HS.out HT.out _))))
    refine wpQuiet_nil ?_
    rintro _ ⟨q, rfl⟩
    have hq := below_regrown w5 q.d q.os
    have HO6 := Lib.hid (HO5.out.trans (hq.mono HO5.out.size))
    clear hq
    go_wp2
    go_ret
    refine ⟨?_, HO6.out⟩
    simp
  | true =>
    have HT := Lib.hid hok
    clear hok
    refine wp_region_quiet_below (by kernel_rfl) (by kernel_rfl) ?_
    repeat (go_big_quiet_step (first
      | (go_at_call 12; first | with_reducible exact Calls.regrown_of (okI HS.out HT.out _) | with_reducible exact Calls.regrown_of (okI HN.out HK.out _))
      | (go_at_call 13; exact Calls.regrown_of (okS HS.out HT.out _))
      | (go_at_call 14; exact Calls.regrown_of (implNew 1 ev cap p _))))
    refine wpQuiet_nil ?_
    rintro _ ⟨q, rfl⟩
    have hq := below_regrown w3 q.d q.os
    have HB4 := Lib.hid (HB.out.later hq)
    have HM4 := Lib.hid (HM.out.later hq)
    have HO4 := Lib.hid (HO.out.trans (hq.mono HO.out.size))
    have HC4 := Lib.hid (HC.out.below hq)
    clear x0 x1 y0 y1 y2 y3 hq HB HM HO HC
    generalize Sort.grow (redrawn w3 q.d) q.os = w4 at HB4 HM4 HO4 HC4 ⊢
    obtain ⟨f0, f1⟩ := Bx.cells2 HB4.out
    obtain ⟨g0, g1, g2, g3⟩ := HM4.out.cells4
    go_wp2_with fail
    refine (okS HS.out HT.out _).mono ?_
    rintro e w5 ⟨rfl, hb5⟩
    have HB5 := Lib.hid (HB4.out.later hb5)
    have HM5 := Lib.hid (HM4.out.later hb5)
    have HO5 := Lib.hid (HO4.out.trans (hb5.mono HO4.out.size))
    have HC5 := Lib.hid (HC4.out.below hb5)
    clear f0 f1 g0 g1 g2 g3 hb5 HB4 HM4 HO4 HC4
    obtain ⟨f0, f1⟩ := Bx.cells2 HB5.out
    obtain ⟨g0, g1, g2, g3⟩ := HM5.out.cells4
    go_wp2_with fail
    refine (at_any a len cap0 z 0 (by omega) (by omega) _ HC5.out).mono ?_
    rintro e w6 ⟨x, hx, rfl, rfl⟩
    clear f0 f1 g0 g1 g2 g3
    have hN0 : 0 ≤ x % 60 ∧ x % 60 < 60 := by omega
    go_upto_region 10 with fail
    generalize x % 60 = N at hN0 ⊢
    go_wp2_with fail
    go_loopw [5, 7] (fun xx ii wr => ∃ j n t' k' : Int, (0 ≤ j ∧ j ≤ N) ∧ xx = .int .i64 n ∧ ii = .int .i64 j ∧ Inv p ev cap t k j t' k' n ∧
      Bx 25 n3 #[.int .i64 t', .int .i64 k'] wr ∧ Bx 27 (n3 + 1) #[.int .i64 1, .bool p, .int .i64 ev, .int .i64 cap] wr ∧ Below w.heap.size w wr) (fun _ ii _ => N.toNat - (intOf ii).toNat)
    case atStart => exact ⟨0, 0, t, k, ⟨by omega, by omega⟩, rfl, rfl, inv_start HT.out, HB5.out, HM5.out, HO5.out⟩
    case round =>
      obtain ⟨j, n, t', k', hj, rfl, rfl, hinv, hB, hM, hO⟩ := hrel
      have GB := Lib.hid hB
      have GM := Lib.hid hM
      have GO := Lib.hid hO
      clear hB hM hO HB5 HM5 HC5 HO5
      have hsm' := small_of hmv hinv.1
      obtain ⟨f0, f1⟩ := Bx.cells2 GB.out
      obtain ⟨g0, g1, g2, g3⟩ := GM.out.cells4
      by_cases hjN : j < N
      · go_wp2_with fail
        refine (implTick 1 p ev cap t' k' hsm' _).mono ?_
        rintro e w7 ⟨rfl, hb7⟩
        have hinv1 := inv_tick hmv hinv
        have hni := hinv.2.1.2
        obtain ⟨t1, ht1⟩ : ∃ t1, tickT p ev cap t' k' = t1 := ⟨_, rfl⟩
        obtain ⟨k1, hk1⟩ : ∃ k1, tickC p ev cap t' k' = k1 := ⟨_, rfl⟩
        rw [ht1, hk1] at hinv1 ⊢
        have X := GB.out.later hb7
        obtain ⟨b0, b1⟩ := Bx.cells2 X
        have z0 := X.warm 0
        have z1 := X.warm 1
        have hst := below_bk n3 w7 (.int .i64 t1) (.int .i64 k1)
        have GO7 := GO.out.trans (hb7.mono GO.out.size)
        have GB8 := Lib.hid (show Bx 25 n3 #[.int .i64 t1, .int .i64 k1] _ from (X.set 0 (.int .i64 t1)).set 1 (.int .i64 k1))
        have GM8 := Lib.hid (((GM.out.later hb7).far (p := ⟨n3, 0, none⟩) (by dsimp only; omega) (.int .i64 t1)).far (p := ⟨n3, 1, none⟩) (by dsimp only; omega) (.int .i64 k1))
        have GO8 := Lib.hid (GO7.trans (hst.mono hn))
        clear f0 f1 g0 g1 g2 g3 hsm' hinv ht1 hk1 hst GO7 X hb7 GB GM
        go_wp2_with fail
        generalize (w7.setCell _ _).setCell _ _ = w8 at GB8 GM8 GO8 ⊢
        refine (at_any a len cap0 z (j + 1) (by omega) (by omega) _ (Hc.out.below GO8.out)).mono ?_
        rintro e w9 ⟨y, hy, rfl, rfl⟩
        clear z0 z1 b0 b1
        by_cases hy2 : y % 2 = 0
        · obtain ⟨f0, f1⟩ := Bx.cells2 GB8.out
          obtain ⟨g0, g1, g2, g3⟩ := GM8.out.cells4
          go_wp2_with fail
          refine (implTake 1 p ev cap t1 k1 (small_of hmv hinv1.1) _).mono ?_
          rintro e w10 ⟨rfl, hb10⟩
          have GB9 := Lib.hid (GB8.out.later hb10)
          have GM9 := Lib.hid (GM8.out.later hb10)
          have GO9 := Lib.hid (GO8.out.trans (hb10.mono GO8.out.size))
          clear f0 f1 g0 g1 g2 g3 hb10 GB8 GM8 GO8
          cases htk : takes p ev cap t1 k1 with
          | false =>
            have hno := takes_iff hinv1.1 hmv
            rw [htk] at hno
            simp only [Bool.false_eq_true, if_false]
            have hp : p = false ∨ p = true ∧ ¬ 0 < t1 := by
              cases p with
              | false => exact .inl rfl
              | true => exact .inr ⟨rfl, by simpa using hno.symm⟩
            clear hno
            have HP := Lib.hid hp
            clear hp
            obtain ⟨n8, hn8⟩ : ∃ n, w10.heap.size = n := ⟨_, rfl⟩
            have h38 : n3 + 1 < n8 := hn8 ▸ (GM9.out.lt)
            have C8 := Bx.new 25 #[.int .i64 t1, .int .i64 k1] w10
            rw [hn8] at C8
            have HC8 := Lib.hid C8
            have GB10 := Lib.hid (GB9.out.alloc (.cells #[.int .i64 t1, .int .i64 k1] 25))
            have GM10 := Lib.hid (GM9.out.alloc (.cells #[.int .i64 t1, .int .i64 k1] 25))
            have GO10 := Lib.hid (GO9.out.alloc GO9.out.size (.cells #[.int .i64 t1, .int .i64 k1] 25))
            clear C8 GB9 GM9 GO9
            go_upto_region 16 with fail
            generalize w10.alloc _ = w11 at HC8 GB10 GM10 GO10 ⊢
            obtain ⟨f0, f1⟩ := Bx.cells2 GB10.out
            obtain ⟨g0, g1, g2, g3⟩ := GM10.out.cells4
            obtain ⟨c0, c1⟩ := Bx.cells2 HC8.out
            have z0 := GB10.out.warm 0
            have z1 := GB10.out.warm 1
            have hst := below_bk n3 w11 (.int .i64 t1) (.int .i64 k1)
            have GB11 := Lib.hid (show Bx 25 n3 #[.int .i64 t1, .int .i64 k1] _ from (GB10.out.set 0 (.int .i64 t1)).set 1 (.int .i64 k1))
            have GM11 := Lib.hid ((GM10.out.far (p := ⟨n3, 0, none⟩) (by dsimp only; omega) (.int .i64 t1)).far (p := ⟨n3, 1, none⟩) (by dsimp only; omega) (.int .i64 k1))
            have GO11 := Lib.hid (GO10.out.trans (hst.mono hn))
            clear hst GB10 GM10 GO10 HC8
            have hp := HP.out
            have HM := Lib.hid hmv
            have HI := Lib.hid hinv1
            clear hmv hinv1
            rcases hp with rfl | ⟨rfl, hp⟩
            · go_wp2_with fail
              have hmv := HM.out
              have hinv1 := HI.out
              have hni2 := hinv1.2.1.2
              generalize (w11.setCell _ _).setCell _ _ = w12 at GB11 GM11 GO11 ⊢
              refine (okS (small_of hmv hinv1.1) hinv1.1 _).mono ?_
              rintro e w20 ⟨rfl, hb20⟩
              have LB := GB11.out.later hb20
              have LM := GM11.out.later hb20
              have LO := GO11.out.trans (hb20.mono GO11.out.size)
              go_wp2_with fail
              go_roundw
              case rel => exact ⟨j + 1, n, t1, k1, ⟨by omega, by omega⟩, by go_num, by go_num, hinv1, LB, LM, LO⟩
              case measure => simp [intOf]; omega
            · go_wp2_with fail
              have hmv := HM.out
              have hinv1 := HI.out
              have hni2 := hinv1.2.1.2
              generalize (w11.setCell _ _).setCell _ _ = w12 at GB11 GM11 GO11 ⊢
              refine (okS (small_of hmv hinv1.1) hinv1.1 _).mono ?_
              rintro e w20 ⟨rfl, hb20⟩
              have LB := GB11.out.later hb20
              have LM := GM11.out.later hb20
              have LO := GO11.out.trans (hb20.mono GO11.out.size)
              go_wp2_with fail
              go_roundw
              case rel => exact ⟨j + 1, n, t1, k1, ⟨by omega, by omega⟩, by go_num, by go_num, hinv1, LB, LM, LO⟩
              case measure => simp [intOf]; omega
          | true =>
            have hn0 := hinv1.2.1
            obtain ⟨hinv2, hpt, ht0, htc, hadd⟩ := inv_take hmv hinv1 hni htk
            subst hpt
            simp only [if_true]
            obtain ⟨n8, hn8⟩ : ∃ n, w10.heap.size = n := ⟨_, rfl⟩
            have h38 : n3 + 1 < n8 := hn8 ▸ (GM9.out.lt)
            have C8 := Bx.new 25 #[.int .i64 (t1 - 1), .int .i64 k1] w10
            rw [hn8] at C8
            have HC8 := Lib.hid C8
            have GB10 := Lib.hid (GB9.out.alloc (.cells #[.int .i64 (t1 - 1), .int .i64 k1] 25))
            have GM10 := Lib.hid (GM9.out.alloc (.cells #[.int .i64 (t1 - 1), .int .i64 k1] 25))
            have GO10 := Lib.hid (GO9.out.alloc GO9.out.size (.cells #[.int .i64 (t1 - 1), .int .i64 k1] 25))
            clear C8 GB9 GM9 GO9
            go_upto_region 16 with fail
            generalize w10.alloc _ = w11 at HC8 GB10 GM10 GO10 ⊢
            obtain ⟨f0, f1⟩ := Bx.cells2 GB10.out
            obtain ⟨g0, g1, g2, g3⟩ := GM10.out.cells4
            obtain ⟨c0, c1⟩ := Bx.cells2 HC8.out
            go_wp2_with fail
            have hs2 := small_of hmv hinv2.1
            have HS2 := Lib.hid hs2
            have hbk : backT true ev cap (t1 - 1) k1 = t1 := by rw [back_1 (by rw [hinv2.1]; rfl), hadd]
            have HBK := Lib.hid hbk
            have LT1 := GB10.out.lt
            have LT2 := GM10.out.lt
            have LT3 := HC8.out.lt
            clear hbk hs2
            have hfd : ∀ w : World, (Instr.field 25 (.agg #[.int .i64 t1, .int .i64 k1]) 0).run Try.prog w = .ok (.int .i64 t1) w := fun _ => by kernel_rfl
            go_region_held3 (fun w' => w'.cell? ⟨n3, 0, none⟩ = some (.int .i64 t1) ∧ w'.cell? ⟨n3, 1, none⟩ = some (.int .i64 k1) ∧ w'.cell? ⟨n3 + 1, 0, none⟩ = some (.int .i64 1) ∧ w'.cell? ⟨n3 + 1, 1, none⟩ = some (.bool true) ∧ w'.cell? ⟨n3 + 1, 2, none⟩ = some (.int .i64 ev) ∧ w'.cell? ⟨n3 + 1, 3, none⟩ = some (.int .i64 cap) ∧ w'.cell? ⟨n8, 0, none⟩ = some (.int .i64 (t1 - 1)) ∧ w'.cell? ⟨n8, 1, none⟩ = some (.int .i64 k1)) (go_keep) (first
              | (go_at_call 18; refine (back_is HS2.out HBK.out _).mono ?_; rintro e w12 ⟨rfl, hb12⟩; have k0 : ∀ i, w12.cell? ⟨n3, i, none⟩ = w11.cell? ⟨n3, i, none⟩ := fun i => hb12.cell (p := ⟨n3, i, none⟩) LT1; have k1' : ∀ i, w12.cell? ⟨n3 + 1, i, none⟩ = w11.cell? ⟨n3 + 1, i, none⟩ := fun i => hb12.cell (p := ⟨n3 + 1, i, none⟩) LT2; have k2 : ∀ i, w12.cell? ⟨n8, i, none⟩ = w11.cell? ⟨n8, i, none⟩ := fun i => hb12.cell (p := ⟨n8, i, none⟩) LT3))
            have hq := (Below.refl w11.heap.size w11).drew.trans hb12
            have HC9 := Lib.hid (HC8.out.later hq)
            have GB12 := Lib.hid (GB10.out.later hq)
            have GM12 := Lib.hid (GM10.out.later hq)
            have GO12 := Lib.hid (GO10.out.trans (hq.mono GO10.out.size))
            clear f0 f1 g0 g1 g2 g3 c0 c1 hq HC8 GB10 GM10 GO10 k0 k1' k2 hb12
            have HC8 := HC9
            have GB10 := GB12
            have GM10 := GM12
            have GO10 := GO12
            clear HC9 GB12 GM12 GO12
            obtain ⟨f0, f1⟩ := Bx.cells2 GB10.out
            obtain ⟨g0, g1, g2, g3⟩ := GM10.out.cells4
            obtain ⟨c0, c1⟩ := Bx.cells2 HC8.out
            have z0 := GB10.out.warm 0
            have z1 := GB10.out.warm 1
            have hst := below_bk n3 w12 (.int .i64 (t1 - 1)) (.int .i64 k1)
            have GB11 := Lib.hid (show Bx 25 n3 #[.int .i64 (t1 - 1), .int .i64 k1] _ from (GB10.out.set 0 (.int .i64 (t1 - 1))).set 1 (.int .i64 k1))
            have GM11 := Lib.hid ((GM10.out.far (p := ⟨n3, 0, none⟩) (by dsimp only; omega) (.int .i64 (t1 - 1))).far (p := ⟨n3, 1, none⟩) (by dsimp only; omega) (.int .i64 k1))
            have GO11 := Lib.hid (GO10.out.trans (hst.mono hn))
            clear hst GB10 GM10 GO10 HC8
            go_wp2_with fail
            have hni2 := hinv2.2.1.2
            generalize (w12.setCell _ _).setCell _ _ = w12 at GB11 GM11 GO11 ⊢
            refine (okS (small_of hmv hinv2.1) hinv2.1 _).mono ?_
            rintro e w20 ⟨rfl, hb20⟩
            have LB := GB11.out.later hb20
            have LM := GM11.out.later hb20
            have LO := GO11.out.trans (hb20.mono GO11.out.size)
            go_wp2_with fail
            go_roundw
            case rel => exact ⟨j + 1, n + 1, (t1 - 1), k1, ⟨by omega, by omega⟩, by go_num, by go_num, hinv2, LB, LM, LO⟩
            case measure => simp [intOf]; omega
        · have hy3 : y % 2 = 1 := by omega
          have hni2 := hinv1.2.1.2
          have GB11 := GB8
          have GM11 := GM8
          have GO11 := GO8
          clear GB8 GM8 GO8
          obtain ⟨f0, f1⟩ := Bx.cells2 GB11.out
          obtain ⟨g0, g1, g2, g3⟩ := GM11.out.cells4
          go_wp2_with fail
          refine (okS (small_of hmv hinv1.1) hinv1.1 _).mono ?_
          rintro e w20 ⟨rfl, hb20⟩
          have LB := GB11.out.later hb20
          have LM := GM11.out.later hb20
          have LO := GO11.out.trans (hb20.mono GO11.out.size)
          go_wp2_with fail
          go_roundw
          case rel => exact ⟨j + 1, n, t1, k1, ⟨by omega, by omega⟩, by go_num, by go_num, hinv1, LB, LM, LO⟩
          case measure => simp [intOf]; omega
      · have e1 : j = N := by omega
        subst e1
        go_wp2_with fail
        refine (implMost 1 ev cap j p _).mono ?_
        rintro e w7 ⟨rfl, hb7⟩
        have hle := inv_end hmv HT.out hinv ⟨by omega, by omega⟩
        have HO7 := Lib.hid (GO.out.trans (hb7.mono GO.out.size))
        generalize mostW p ev cap j = mm at hle ⊢
        go_wp2
        go_ret
        exact ⟨rfl, HO7.out⟩
end Go.Proofs.Ytklcelcmbepbpaa.CurB
