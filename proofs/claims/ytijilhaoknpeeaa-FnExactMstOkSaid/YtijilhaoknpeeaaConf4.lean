
/-
  Is it a configuration: ConfOk's model.
-/
import Derived.Test.YtijilhaoknpeeaaConf3
namespace Go.Proofs.Ytijilhaoknpeeaa.Num
open Go.RowKit GR

set_option maxRecDepth 100000 in
theorem specLim (ad : Option Addr) (n cap : Nat) (q mw mr ms lm : Int) (w : World) :
    Calls Try.prog 112 #[.agg #[.slice ad n cap, .int .i64 q, .int .i64 mw, .int .i64 mr, .int .i64 ms, .int .i64 lm]] w fun e w' => e = .returned (.bool (inB q 1 4 && (decide (0 < costW mr mw) && (inB ms 1 12 && inB lm 1 40)))) ∧ Below w.heap.size w w' := by
  obtain ⟨c, hc⟩ : ∃ c, costW mr mw = c := ⟨_, rfl⟩
  have hbd := costW_bd mr mw
  rw [hc] at hbd ⊢
  obtain ⟨c0, c1⟩ := hbd
  have Hc := Lib.hid hc
  obtain ⟨bq, hq⟩ : ∃ x, inB q 1 4 = x := ⟨_, rfl⟩
  obtain ⟨bs, hs⟩ : ∃ x, inB ms 1 12 = x := ⟨_, rfl⟩
  obtain ⟨bl, hl⟩ : ∃ x, inB lm 1 40 = x := ⟨_, rfl⟩
  have HQ := Lib.hid hq
  have HM := Lib.hid hs
  have HK := Lib.hid hl
  rw [hq, hs, hl]
  have A := Bx.new 66 #[.slice ad n cap, .int .i64 q, .int .i64 mw, .int .i64 mr, .int .i64 ms, .int .i64 lm] w
  clear hc hq hs hl
  cases bq with
  | false =>
    go_enter Try.func112, Try.ntmps112
    go_wp2_with (go_at_call 90; ((with_reducible refine (l1In_is HQ.out _).mono ?_); rintro e w' ⟨rfl, rfl⟩))
    go_ret
    exact ⟨rfl, (Below.refl _ _).alloc (Nat.le_refl _) _⟩
  | true =>
    by_cases hz : 0 < c
    · have hz0 : decide (0 < c) = true := by simp [hz]
      cases bs <;> cases bl
      all_goals
        go_enter Try.func112, Try.ntmps112
        go_wp2_with (go_at_call 90; ((with_reducible refine (l1In_is HQ.out _).mono ?_); rintro e w' ⟨rfl, rfl⟩))
        refine (specCost_is Hc.out _).mono ?_
        rintro e w1 ⟨rfl, hb⟩
        obtain ⟨g0, g1, g2, g3, g4, g5⟩ := (A.later hb).cells6
        have Hw := Lib.hid (below_alloc1 (Below.refl _ _) (Nat.le_refl _) hb)
        clear hb
        go_wp2_with (go_at_call 90; first | ((with_reducible refine (l1In_is HM.out _).mono ?_); rintro e w' ⟨rfl, rfl⟩) | ((with_reducible refine (l1In_is HK.out _).mono ?_); rintro e w' ⟨rfl, rfl⟩))
        go_ret
        exact ⟨by simp [hz], Hw.out⟩
    · obtain rfl : c = 0 := by omega
      clear c0 c1 hz
      go_enter Try.func112, Try.ntmps112
      go_wp2_with (go_at_call 90; ((with_reducible refine (l1In_is HQ.out _).mono ?_); rintro e w' ⟨rfl, rfl⟩))
      refine (specCost_is Hc.out _).mono ?_
      rintro e w1 ⟨rfl, hb⟩
      go_wp2
      go_ret
      exact ⟨rfl, below_alloc1 (Below.refl _ _) (Nat.le_refl _) hb⟩
theorem specSlot_is {ad : Option Addr} {n cap : Nat} {q mw mr ms lm c : Int} (h : slotW mr mw lm = c) (w : World) :
    Calls Try.prog 111 #[.agg #[.slice ad n cap, .int .i64 q, .int .i64 mw, .int .i64 mr, .int .i64 ms, .int .i64 lm]] w fun e w' => e = .returned (.int .i64 c) ∧ Below w.heap.size w w' := by rw [← h]; exact specSlot ad n cap q mw mr ms lm w
set_option maxHeartbeats 2000000 in
set_option maxRecDepth 100000 in
theorem specConfOk (v : Value) (l : List MC) (q mw mr ms lm : Int) (hl : l.length ≤ 2000000) (w : World) (hv : Rd mcK v l w) :
    Calls Try.prog 82 #[.agg #[v, .int .i64 q, .int .i64 mw, .int .i64 mr, .int .i64 ms, .int .i64 lm]] w fun e w' => e = .returned (.bool (okC l q mw mr ms lm)) ∧ Below w.heap.size w w' := by
  obtain ⟨ad, cap, rfl, h1⟩ := hv
  obtain ⟨n, hln⟩ : ∃ n, l.length = n := ⟨_, rfl⟩
  rw [hln] at hl ⊢
  have H1 := Lib.hid h1
  have HL := Lib.hid hln
  obtain ⟨S, hS⟩ : ∃ S, slotW mr mw lm = S := ⟨_, rfl⟩
  have hSb := slotW_bd mr mw lm
  rw [hS] at hSb
  obtain ⟨S0, S1⟩ := hSb
  have HS := Lib.hid hS
  have A := Lib.hid (Bx.new 66 #[.slice ad n cap, .int .i64 q, .int .i64 mw, .int .i64 mr, .int .i64 ms, .int .i64 lm] w)
  have Hw := Lib.hid ((Below.refl w.heap.size w).alloc (Nat.le_refl _) (Obj.cells #[.slice ad n cap, .int .i64 q, .int .i64 mw, .int .i64 mr, .int .i64 ms, .int .i64 lm] 66))
  clear h1 hln hS
  go_enter Try.func82, Try.ntmps82
  go_wp2_with fail
  go_loopw [3, 4] (fun u i wr => ∃ k c : Nat, k ≤ n ∧ c ≤ k ∧ u = .int .i64 c ∧ i = .int .i64 k ∧ prioN (l.take k) = c ∧ wr = w.alloc (Obj.cells #[.slice ad n cap, .int .i64 q, .int .i64 mw, .int .i64 mr, .int .i64 ms, .int .i64 lm] 66)) (fun _ i _ => n - (intOf i).toNat)
  case atStart => exact ⟨0, 0, by omega, by omega, rfl, rfl, rfl, rfl⟩
  case round =>
    obtain ⟨k, c, hk, hc, rfl, rfl, hp, rfl⟩ := hrel
    have Hp := Lib.hid hp
    clear hp
    by_cases hlt : k < n
    · obtain ⟨x, hx⟩ := get_of (l := l) (i := k) (by rw [HL.out]; exact hlt)
      obtain ⟨b, o, rfl, hb1, hc1⟩ := H1.out k x hx
      obtain ⟨-, g1, -, -⟩ := mc_at hc1
      rw [← below_cells Hw.out hb1] at g1
      have Hs := Lib.hid (prio_step hx)
      clear hc1 hx
      obtain ⟨p, hp⟩ : ∃ p, x.pr = p := ⟨_, rfl⟩
      rw [hp] at g1
      have HP := Lib.hid hp
      clear hp
      cases p with
      | false =>
        go_wp2
        go_roundw
        case rel => exact ⟨k + 1, c, by omega, by omega, rfl, by go_num, by rw [Hs.out, HP.out, Hp.out]; rfl, by trivial⟩
        case measure => simp [intOf]; omega
      | true =>
        go_wp2
        go_roundw
        case rel => exact ⟨k + 1, c + 1, by omega, by omega, by go_num, by go_num, by rw [Hs.out, HP.out, Hp.out]; rfl, by trivial⟩
        case measure => simp [intOf]; omega
    · obtain rfl : n = k := by omega
      have hP : prioN l = c := by rw [← Hp.out, List.take_of_length_le (by rw [HL.out]; omega)]
      have HP := Lib.hid hP
      have HLL := Lib.hid (show wrap64 (2 * (c : Int) * S) = leastW l mr mw lm by
        have := mul_bd (a := 2 * (c : Int)) (b := S) (A := 4000000) (B := 130) (by omega) (by omega) (by omega) (by omega)
        rw [IntWalk.wrap64_in _ (by omega)]
        unfold leastW; rw [HS.out, HP.out])
      clear hP hlt hk
      generalize w.alloc (Obj.cells #[.slice ad n cap, .int .i64 q, .int .i64 mw, .int .i64 mr, .int .i64 ms, .int .i64 lm] 66) = ww at A Hw ⊢
      have hA := A.out.lt
      obtain ⟨L, hL⟩ : ∃ L, leastW l mr mw lm = L := ⟨_, rfl⟩
      rw [hL] at HLL
      have HE := Lib.hid (show okC l q mw mr ms lm = (l.all (okM L) && (inB n 1 4 && (inB q 1 4 && (decide (0 < costW mr mw) && (inB ms 1 12 && inB lm 1 40))))) by
        unfold okC; rw [hL]; have : (l.length : Int) = (n : Int) := by rw [HL.out]
        rw [this])
      clear hL
      obtain ⟨g0, g1, g2, g3, g4, g5⟩ := A.out.cells6
      go_wp2_with fail
      clear g0 g1 g2 g3 g4 g5
      go_loopw [5] (fun i wr => ∃ k : Nat, k ≤ n ∧ i = .int .i64 k ∧ (l.take k).all (okM L) = true ∧ Below ww.heap.size ww wr) (fun i _ => n - (intOf i).toNat)
      case atStart => exact ⟨0, by omega, rfl, by simp, Below.refl _ _⟩
      case round =>
        obtain ⟨k, hk, rfl, ha, hb⟩ := hrel
        have Ha := Lib.hid ha
        have Hb := Lib.hid hb
        have A1 := Lib.hid (A.out.later hb)
        have Hbw := Lib.hid (Hw.out.trans (hb.mono Hw.out.size))
        obtain ⟨g0, g1, g2, g3, g4, g5⟩ := A1.out.cells6
        clear ha hb
        by_cases hlt : k < n
        · obtain ⟨x, hx⟩ := get_of (l := l) (i := k) (by rw [HL.out]; exact hlt)
          obtain ⟨b, o, rfl, hb1, hc1⟩ := H1.out k x hx
          obtain ⟨k0, k1, k2, k3⟩ := mc_at hc1
          rw [← below_cells Hbw.out hb1] at k0 k1 k2 k3
          have Hx := Lib.hid hx
          clear hc1 hx
          obtain ⟨a0, p, b0, c0⟩ := x
          dsimp only at k0 k1 k2 k3
          obtain ⟨b1, e1⟩ : ∃ y, inB a0 1 4 = y := ⟨_, rfl⟩
          obtain ⟨b2, e2⟩ : ∃ y, inB b0 L 1000 = y := ⟨_, rfl⟩
          obtain ⟨b3, e3⟩ : ∃ y, inB c0 1 8 = y := ⟨_, rfl⟩
          obtain ⟨b4, e4⟩ : ∃ y, (b0 != 0) = y := ⟨_, rfl⟩
          obtain ⟨b5, e5⟩ : ∃ y, (c0 != 0) = y := ⟨_, rfl⟩
          have f4 : (b0 == 0) = !b4 := by rw [← e4, bne, Bool.not_not]
          have f5 : (c0 == 0) = !b5 := by rw [← e5, bne, Bool.not_not]
          have HO := Lib.hid (show okM L ⟨a0, p, b0, c0⟩ = (b1 && (if p then b2 && b3 else !b4 && !b5)) by unfold okM; rw [e1, e2, e3, f4, f5])
          have E1 := Lib.hid e1
          have E2 := Lib.hid (show inB b0 (wrap64 (2 * (c : Int) * S)) 1000 = b2 by rw [HLL.out]; exact e2)
          have E3 := Lib.hid e3
          clear e1 e2 e3 f4 f5
          have hreg : ∀ {bb : Nat}, bb < wr.heap.size → ∀ i u, wr.cell? ⟨bb, i, none⟩ = some u → ∀ d os, (Sort.grow (redrawn (wr.alloc (Obj.cells #[.int .i64 a0, .bool p, .int .i64 b0, .int .i64 c0] 120)) d) os).cell? ⟨bb, i, none⟩ = some u := fun hbb i u hu d os => cell_regrown ((below_cells ((Below.refl wr.heap.size wr).alloc (Nat.le_refl _) _) hbb i).trans hu) d os
          have X := Bx.new 120 #[.int .i64 a0, .bool p, .int .i64 b0, .int .i64 c0] wr
          obtain ⟨x0, x1, x2, x3⟩ := X.cells4
          have hA1 := A1.out.lt
          have y0 := fun d os => cell_regrown x0 d os
          have y1 := fun d os => cell_regrown x1 d os
          have y2 := fun d os => cell_regrown x2 d os
          have y3 := fun d os => cell_regrown x3 d os
          have z0 := hreg hA1 0 _ g0
          have z1 := hreg hA1 1 _ g1
          have z2 := hreg hA1 2 _ g2
          have z3 := hreg hA1 3 _ g3
          have z4 := hreg hA1 4 _ g4
          have z5 := hreg hA1 5 _ g5
          have Hal := Lib.hid ((Below.refl wr.heap.size wr).alloc (Nat.le_refl _) (Obj.cells #[.int .i64 a0, .bool p, .int .i64 b0, .int .i64 c0] 120))
          clear hreg X x0 x1 x2 x3
          cases b1 with
          | false =>
            have He := Lib.hid (all_bad (p := okM L) Hx.out (by rw [HO.out]; rfl))
            go_wp2_with fail
            refine wp_region_quiet_below (by kernel_rfl) (by kernel_rfl) ?_
            repeat (go_big_quiet_step (first | (go_at_call 90; first | (with_reducible exact Calls.regrown_of (l1In_isB E1.out _)) | (with_reducible exact Calls.regrown_of (l1In_isB E2.out _)) | (with_reducible exact Calls.regrown_of (l1In_isB E3.out _))) | (go_at_call 111; exact Calls.regrown_of (specSlot_is HS.out _))))
            refine wpQuiet_nil ?_
            rintro _ ⟨⟨dq, osq⟩, rfl⟩
            have Hq := Lib.hid (Hal.out.trans ((below_regrown (wr.alloc (Obj.cells #[.int .i64 a0, .bool _, .int .i64 b0, .int .i64 c0] 120)) dq osq).mono Hal.out.size))
            clear y0 y1 y2 y3 z0 z1 z2 z3 z4 z5 g0 g1 g2 g3 g4 g5
            go_wp2_with fail
            go_ret
            exact ⟨by rw [HE.out, He.out]; rfl, Hbw.out.trans (Hq.out.mono Hbw.out.size)⟩
          | true =>
            cases p with
            | false =>
              cases b4 with
              | true =>
                have He := Lib.hid (all_bad (p := okM L) Hx.out (by rw [HO.out]; rfl))
                go_wp2_with fail
                refine wp_region_quiet_below (by kernel_rfl) (by kernel_rfl) ?_
                repeat (go_big_quiet_step (first | (go_at_call 90; first | (with_reducible exact Calls.regrown_of (l1In_isB E1.out _)) | (with_reducible exact Calls.regrown_of (l1In_isB E2.out _)) | (with_reducible exact Calls.regrown_of (l1In_isB E3.out _))) | (go_at_call 111; exact Calls.regrown_of (specSlot_is HS.out _))))
                refine wpQuiet_nil ?_
                rintro _ ⟨⟨dq, osq⟩, rfl⟩
                have Hq := Lib.hid (Hal.out.trans ((below_regrown (wr.alloc (Obj.cells #[.int .i64 a0, .bool _, .int .i64 b0, .int .i64 c0] 120)) dq osq).mono Hal.out.size))
                clear y0 y1 y2 y3 z0 z1 z2 z3 z4 z5 g0 g1 g2 g3 g4 g5
                go_wp2_with fail
                go_ret
                exact ⟨by rw [HE.out, He.out]; rfl, Hbw.out.trans (Hq.out.mono Hbw.out.size)⟩
              | false =>
                cases b5 with
                | true =>
                  have He := Lib.hid (all_bad (p := okM L) Hx.out (by rw [HO.out]; rfl))
                  go_wp2_with fail
                  refine wp_region_quiet_below (by kernel_rfl) (by kernel_rfl) ?_
                  repeat (go_big_quiet_step (first | (go_at_call 90; first | (with_reducible exact Calls.regrown_of (l1In_isB E1.out _)) | (with_reducible exact Calls.regrown_of (l1In_isB E2.out _)) | (with_reducible exact Calls.regrown_of (l1In_isB E3.out _))) | (go_at_call 111; exact Calls.regrown_of (specSlot_is HS.out _))))
                  refine wpQuiet_nil ?_
                  rintro _ ⟨⟨dq, osq⟩, rfl⟩
                  have Hq := Lib.hid (Hal.out.trans ((below_regrown (wr.alloc (Obj.cells #[.int .i64 a0, .bool _, .int .i64 b0, .int .i64 c0] 120)) dq osq).mono Hal.out.size))
                  clear y0 y1 y2 y3 z0 z1 z2 z3 z4 z5 g0 g1 g2 g3 g4 g5
                  go_wp2_with fail
                  go_ret
                  exact ⟨by rw [HE.out, He.out]; rfl, Hbw.out.trans (Hq.out.mono Hbw.out.size)⟩
                | false =>
                  have Hs := Lib.hid (all_step (p := okM L) Hx.out Ha.out (by rw [HO.out]; rfl))
                  go_wp2_with fail
                  refine wp_region_quiet_below (by kernel_rfl) (by kernel_rfl) ?_
                  repeat (go_big_quiet_step (first | (go_at_call 90; first | (with_reducible exact Calls.regrown_of (l1In_isB E1.out _)) | (with_reducible exact Calls.regrown_of (l1In_isB E2.out _)) | (with_reducible exact Calls.regrown_of (l1In_isB E3.out _))) | (go_at_call 111; exact Calls.regrown_of (specSlot_is HS.out _))))
                  refine wpQuiet_nil ?_
                  rintro _ ⟨⟨dq, osq⟩, rfl⟩
                  have Hq := Lib.hid (Hal.out.trans ((below_regrown (wr.alloc (Obj.cells #[.int .i64 a0, .bool _, .int .i64 b0, .int .i64 c0] 120)) dq osq).mono Hal.out.size))
                  clear y0 y1 y2 y3 z0 z1 z2 z3 z4 z5 g0 g1 g2 g3 g4 g5
                  go_wp2_with fail
                  go_roundw
                  case rel => exact ⟨k + 1, by omega, by go_num, Hs.out, Hb.out.trans (Hq.out.mono Hb.out.size)⟩
                  case measure => simp [intOf]; omega
            | true =>
              cases b2 with
              | false =>
                have He := Lib.hid (all_bad (p := okM L) Hx.out (by rw [HO.out]; rfl))
                go_wp2_with fail
                refine wp_region_quiet_below (by kernel_rfl) (by kernel_rfl) ?_
                repeat (go_big_quiet_step (first | (go_at_call 90; first | (with_reducible exact Calls.regrown_of (l1In_isB E1.out _)) | (with_reducible exact Calls.regrown_of (l1In_isB E2.out _)) | (with_reducible exact Calls.regrown_of (l1In_isB E3.out _))) | (go_at_call 111; exact Calls.regrown_of (specSlot_is HS.out _))))
                refine wpQuiet_nil ?_
                rintro _ ⟨⟨dq, osq⟩, rfl⟩
                have Hq := Lib.hid (Hal.out.trans ((below_regrown (wr.alloc (Obj.cells #[.int .i64 a0, .bool _, .int .i64 b0, .int .i64 c0] 120)) dq osq).mono Hal.out.size))
                clear y0 y1 y2 y3 z0 z1 z2 z3 z4 z5 g0 g1 g2 g3 g4 g5
                go_wp2_with fail
                go_ret
                exact ⟨by rw [HE.out, He.out]; rfl, Hbw.out.trans (Hq.out.mono Hbw.out.size)⟩
              | true =>
                cases b3 with
                | false =>
                  have He := Lib.hid (all_bad (p := okM L) Hx.out (by rw [HO.out]; rfl))
                  go_wp2_with fail
                  refine wp_region_quiet_below (by kernel_rfl) (by kernel_rfl) ?_
                  repeat (go_big_quiet_step (first | (go_at_call 90; first | (with_reducible exact Calls.regrown_of (l1In_isB E1.out _)) | (with_reducible exact Calls.regrown_of (l1In_isB E2.out _)) | (with_reducible exact Calls.regrown_of (l1In_isB E3.out _))) | (go_at_call 111; exact Calls.regrown_of (specSlot_is HS.out _))))
                  refine wpQuiet_nil ?_
                  rintro _ ⟨⟨dq, osq⟩, rfl⟩
                  have Hq := Lib.hid (Hal.out.trans ((below_regrown (wr.alloc (Obj.cells #[.int .i64 a0, .bool _, .int .i64 b0, .int .i64 c0] 120)) dq osq).mono Hal.out.size))
                  clear y0 y1 y2 y3 z0 z1 z2 z3 z4 z5 g0 g1 g2 g3 g4 g5
                  go_wp2_with fail
                  go_ret
                  exact ⟨by rw [HE.out, He.out]; rfl, Hbw.out.trans (Hq.out.mono Hbw.out.size)⟩
                | true =>
                  have Hs := Lib.hid (all_step (p := okM L) Hx.out Ha.out (by rw [HO.out]; rfl))
                  go_wp2_with fail
                  refine wp_region_quiet_below (by kernel_rfl) (by kernel_rfl) ?_
                  repeat (go_big_quiet_step (first | (go_at_call 90; first | (with_reducible exact Calls.regrown_of (l1In_isB E1.out _)) | (with_reducible exact Calls.regrown_of (l1In_isB E2.out _)) | (with_reducible exact Calls.regrown_of (l1In_isB E3.out _))) | (go_at_call 111; exact Calls.regrown_of (specSlot_is HS.out _))))
                  refine wpQuiet_nil ?_
                  rintro _ ⟨⟨dq, osq⟩, rfl⟩
                  have Hq := Lib.hid (Hal.out.trans ((below_regrown (wr.alloc (Obj.cells #[.int .i64 a0, .bool _, .int .i64 b0, .int .i64 c0] 120)) dq osq).mono Hal.out.size))
                  clear y0 y1 y2 y3 z0 z1 z2 z3 z4 z5 g0 g1 g2 g3 g4 g5
                  go_wp2_with fail
                  go_roundw
                  case rel => exact ⟨k + 1, by omega, by go_num, Hs.out, Hb.out.trans (Hq.out.mono Hb.out.size)⟩
                  case measure => simp [intOf]; omega
        · obtain rfl : n = k := by omega
          have Hal := Lib.hid (show l.all (okM L) = true by have := Ha.out; rwa [List.take_of_length_le (by rw [HL.out]; omega)] at this)
          obtain ⟨bn, hn⟩ : ∃ x, inB (n : Int) 1 4 = x := ⟨_, rfl⟩
          have HN := Lib.hid hn
          rw [hn] at HE
          clear hn
          have hsz := A1.out.lt
          cases bn with
          | false =>
            go_wp2_with (go_at_call 90; ((with_reducible refine (l1In_is HN.out _).mono ?_); rintro e w' ⟨rfl, rfl⟩))
            go_ret
            exact ⟨by rw [HE.out, Hal.out]; rfl, Hbw.out⟩
          | true =>
            obtain ⟨B, hB⟩ : ∃ B, (inB q 1 4 && (decide (0 < costW mr mw) && (inB ms 1 12 && inB lm 1 40))) = B := ⟨_, rfl⟩
            rw [hB] at HE
            have HB := Lib.hid hB
            clear hB
            go_wp2_with (go_at_call 90; ((with_reducible refine (l1In_is HN.out _).mono ?_); rintro e w' ⟨rfl, rfl⟩))
            refine (specLim _ _ _ _ _ _ _ _ _).mono ?_
            rintro e w5 ⟨rfl, hb5⟩
            rw [HB.out]
            have Hb5 := Lib.hid (Hbw.out.trans (hb5.mono Hbw.out.size))
            clear hb5
            go_wp2_with fail
            go_ret
            exact ⟨by rw [HE.out, Hal.out]; rfl, Hb5.out⟩
end Go.Proofs.Ytijilhaoknpeeaa.Num
