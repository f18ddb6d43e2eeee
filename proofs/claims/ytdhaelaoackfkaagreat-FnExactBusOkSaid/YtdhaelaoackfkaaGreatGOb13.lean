/-
  Several texts in one: BOkS1, BOkS2.
-/
import Derived.Test.YtdhaelaoackfkaaGreatGOa13
import Derived.Test.YtdhaelaoackfkaaGreatGW13
namespace Go.Proofs.YtdhaelaoackfkaaGreat.KD
open Go.RowKit Rows3 GR Num
set_option linter.unusedVariables false
set_option maxHeartbeats 16000000 in
set_option maxRecDepth 100000 in
theorem specWays (arr : Array Value) (l : List (Int × Bool × Int × Int)) (qu : Int) (mw : Int) (mr : Int) (ms : Int) (lm : Int) (now : Int) (M : List (List (Bool × Int × Int × Int × Bool × List Int) × Int × Int × Int × Bool × Bool)) (tu : Int) (cr : Int) (bk : List (Int × Int)) (sp : List Int) (ho : Int) (he : Int) (la : Int) (av : Bool) (aw : Int) (ab : Int) (af : Bool) (ay : Int) (al : Int) (ar : Int) (az : Bool) (dv : Bool) (dw : Int) (db : Int) (df : Bool) (dy : Int) (dl : Int) (dr : Int) (dz : Bool) (mem : List Int) (rg : List Int) (ti : Int) (ff : List Int) (pk : Int) (lg : List (Int × Int × Bool × Int × Int × Int × Int)) (Al : Option Addr) (Pl : Nat) (AM : Option Addr) (PM : Nat) (Abk : Option Addr) (Pbk : Nat) (Asp : Option Addr) (Psp : Nat) (Amem : Option Addr) (Pmem : Nat) (Arg : Option Addr) (Prg : Nat) (Aff : Option Addr) (Pff : Nat) (Alg : Option Addr) (Plg : Nat) (nl nM nb ns ng : Nat) (w : World) (v : BV arr l qu mw mr ms lm now M tu cr bk sp ho he la av aw ab af ay al ar az dv dw db df dy dl dr dz mem rg ti ff pk lg Al Pl AM PM Abk Pbk Asp Psp Amem Pmem Arg Prg Aff Pff Alg Plg nl nM nb ns ng w) (z : BZ 0 l M bk sp mem rg ff lg) (i : Int) :
    Calls Tryz.prog 24 #[.agg arr, .int .i64 i] w fun e w' => e = .returned (.int .i64 (waysW av aw dv dw i)) ∧ Below w.heap.size w w' := by
  have HV := Lib.hid v
  clear v z
  obtain ⟨R, hR0⟩ : ∃ R, waysW av aw dv dw i = R := ⟨_, rfl⟩
  rw [hR0]
  have HR := Lib.hid hR0
  clear hR0
  have B := Bx.new 53 arr w
  have hb0 := (Below.refl w.heap.size w).alloc (Nat.le_refl _) (Obj.cells arr 53)
  obtain ⟨y0, hy0⟩ : ∃ y, w.alloc (Obj.cells arr 53) = y := ⟨_, rfl⟩
  rw [hy0] at B hb0
  have B_0 := Lib.hid B
  have HB_0 := Lib.hid hb0
  clear B hb0
  have gB15 := B_0.out.cell 15 _ HV.out.c15
  have gB16 := B_0.out.cell 16 _ HV.out.c16
  have gB23 := B_0.out.cell 23 _ HV.out.c23
  have gB24 := B_0.out.cell 24 _ HV.out.c24
  cases av
  · skip
    cases dv
    · skip
      have hf : R = 0 := by rw [← HR.out]; unfold waysW; simp [*]
      subst hf
      go_enter Tryz.func24, Tryz.ntmps24
      repeat (first | go_values | go_skip | go_guarded | go_step | go_upon | go_back)
      go_ret
      exact ⟨rfl, HB_0.out⟩
    by_cases hd : dw = i
    · have hd2 : (dw == i) = true := by simp [hd]
      have hf : R = 1 := by rw [← HR.out]; unfold waysW; simp [*]
      subst hf
      go_enter Tryz.func24, Tryz.ntmps24
      repeat (first | go_values | go_skip | go_guarded | go_step | go_upon | go_back)
      go_ret
      exact ⟨rfl, HB_0.out⟩
    have hd2 : (dw == i) = false := by simp [hd]
    have hf : R = 0 := by rw [← HR.out]; unfold waysW; simp [*]
    subst hf
    go_enter Tryz.func24, Tryz.ntmps24
    repeat (first | go_values | go_skip | go_guarded | go_step | go_upon | go_back)
    go_ret
    exact ⟨rfl, HB_0.out⟩
  by_cases ha : aw = i
  · have ha2 : (aw == i) = true := by simp [ha]
    cases dv
    · skip
      have hf : R = 1 := by rw [← HR.out]; unfold waysW; simp [*]
      subst hf
      go_enter Tryz.func24, Tryz.ntmps24
      repeat (first | go_values | go_skip | go_guarded | go_step | go_upon | go_back)
      go_ret
      exact ⟨rfl, HB_0.out⟩
    by_cases hd : dw = i
    · have hd2 : (dw == i) = true := by simp [hd]
      have hf : R = 2 := by rw [← HR.out]; unfold waysW; simp [*]
      subst hf
      go_enter Tryz.func24, Tryz.ntmps24
      repeat (first | go_values | go_skip | go_guarded | go_step | go_upon | go_back)
      go_ret
      exact ⟨rfl, HB_0.out⟩
    have hd2 : (dw == i) = false := by simp [hd]
    have hf : R = 1 := by rw [← HR.out]; unfold waysW; simp [*]
    subst hf
    go_enter Tryz.func24, Tryz.ntmps24
    repeat (first | go_values | go_skip | go_guarded | go_step | go_upon | go_back)
    go_ret
    exact ⟨rfl, HB_0.out⟩
  have ha2 : (aw == i) = false := by simp [ha]
  cases dv
  · skip
    have hf : R = 0 := by rw [← HR.out]; unfold waysW; simp [*]
    subst hf
    go_enter Tryz.func24, Tryz.ntmps24
    repeat (first | go_values | go_skip | go_guarded | go_step | go_upon | go_back)
    go_ret
    exact ⟨rfl, HB_0.out⟩
  by_cases hd : dw = i
  · have hd2 : (dw == i) = true := by simp [hd]
    have hf : R = 1 := by rw [← HR.out]; unfold waysW; simp [*]
    subst hf
    go_enter Tryz.func24, Tryz.ntmps24
    repeat (first | go_values | go_skip | go_guarded | go_step | go_upon | go_back)
    go_ret
    exact ⟨rfl, HB_0.out⟩
  have hd2 : (dw == i) = false := by simp [hd]
  have hf : R = 0 := by rw [← HR.out]; unfold waysW; simp [*]
  subst hf
  go_enter Tryz.func24, Tryz.ntmps24
  repeat (first | go_values | go_skip | go_guarded | go_step | go_upon | go_back)
  go_ret
  exact ⟨rfl, HB_0.out⟩
theorem sal_isB {a k : Int} {b : Bool} (h : alB a k = b) (w : World) : Calls Tryz.prog 61 #[.int .i64 a, .int .i64 k] w fun e w' => e = .returned (.bool b) ∧ Below w.heap.size w w' :=
  h ▸ (specAligned a k w).mono (fun e w' g => ⟨g.1, g.2 ▸ Below.refl _ _⟩)
theorem slim_is {k x : Int} (h : limW k = x) (w : World) : Calls Tryz.prog 62 #[.int .i64 k] w fun e w' => e = .returned (.int .i64 x) ∧ Below w.heap.size w w' :=
  h ▸ (specLimit k w).mono (fun e w' g => ⟨g.1, g.2 ▸ Below.refl _ _⟩)
set_option maxHeartbeats 16000000 in
set_option maxRecDepth 100000 in
theorem specLog (arr : Array Value) (l : List (Int × Bool × Int × Int)) (qu : Int) (mw : Int) (mr : Int) (ms : Int) (lm : Int) (now : Int) (M : List (List (Bool × Int × Int × Int × Bool × List Int) × Int × Int × Int × Bool × Bool)) (tu : Int) (cr : Int) (bk : List (Int × Int)) (sp : List Int) (ho : Int) (he : Int) (la : Int) (av : Bool) (aw : Int) (ab : Int) (af : Bool) (ay : Int) (al : Int) (ar : Int) (az : Bool) (dv : Bool) (dw : Int) (db : Int) (df : Bool) (dy : Int) (dl : Int) (dr : Int) (dz : Bool) (mem : List Int) (rg : List Int) (ti : Int) (ff : List Int) (pk : Int) (lg : List (Int × Int × Bool × Int × Int × Int × Int)) (Al : Option Addr) (Pl : Nat) (AM : Option Addr) (PM : Nat) (Abk : Option Addr) (Pbk : Nat) (Asp : Option Addr) (Psp : Nat) (Amem : Option Addr) (Pmem : Nat) (Arg : Option Addr) (Prg : Nat) (Aff : Option Addr) (Pff : Nat) (Alg : Option Addr) (Plg : Nat) (nl nM nb ns ng : Nat) (w : World) (v : BV arr l qu mw mr ms lm now M tu cr bk sp ho he la av aw ab af ay al ar az dv dw db df dy dl dr dz mem rg ti ff pk lg Al Pl AM PM Abk Pbk Asp Psp Amem Pmem Arg Prg Aff Pff Alg Plg nl nM nb ns ng w) (z : BZ 0 l M bk sp mem rg ff lg) (hlM : M.length = l.length) (hnow : 0 ≤ now ∧ now ≤ 4000) :
    Calls Tryz.prog 27 #[.agg arr] w fun e w' => e = .returned (.bool (tt (LogP l.length now lg))) ∧ Below w.heap.size w w' := by
  have HV := Lib.hid v
  have HZ := Lib.hid z
  clear v z
  obtain ⟨R, hR0⟩ : ∃ R, (tt (LogP l.length now lg)) = R := ⟨_, rfl⟩
  rw [hR0]
  have HR := Lib.hid hR0
  clear hR0
  have B := Bx.new 53 arr w
  have hb0 := (Below.refl w.heap.size w).alloc (Nat.le_refl _) (Obj.cells arr 53)
  obtain ⟨y0, hy0⟩ : ∃ y, w.alloc (Obj.cells arr 53) = y := ⟨_, rfl⟩
  rw [hy0] at B hb0
  have B_0 := Lib.hid B
  have HB_0 := Lib.hid hb0
  clear B hb0
  obtain ⟨hnw0, hnw1⟩ := hnow
  obtain rfl : nM = nl := by rw [← HV.out.nM, ← HV.out.nl]; exact hlM
  clear hlM
  have hln : nM ≤ 2000000 := by rw [← HV.out.nl]; exact HZ.out.zl
  have hlg : ng ≤ 2000000 := by rw [← HV.out.nlg]; exact HZ.out.zg
  go_enter Tryz.func27, Tryz.ntmps27
  repeat (first | go_values | go_skip | go_guarded | go_step | go_upon | go_back)
  clear hy0
  go_loopw [3] (fun i wr => ∃ j : Nat, j ≤ ng ∧ i = .int .i64 j ∧ Hid (∀ k, k < j → EntryP l.length now lg k) ∧ Hid (Bx 53 w.heap.size arr wr) ∧ Hid (Below w.heap.size w wr)) (fun i _ => ng - (intOf i).toNat)
  case atStart => exact ⟨0, by omega, rfl, Lib.hid (fun k hk => by omega), B_0, HB_0⟩
  case round =>
    clear B_0 HB_0
    obtain ⟨j, hj, rfl, HQ, B_0, HB_0⟩ := hrel
    have g36 := B_0.out.cell 36 _ HV.out.c36
    by_cases hlt : j < ng
    · skip
      cases j with
      | zero =>
        obtain ⟨d, hxd⟩ := get_of (l := lg) (i := 0) (by rw [HV.out.nlg]; exact hlt)
        have HXd := Lib.hid hxd
        obtain ⟨bd, od, _, esd, ed, _, _, ltd, cd, rd⟩ := row_rd HV.out.rlg hxd
        simp at ed
        obtain ⟨rfl, -, rfl⟩ := ed
        obtain ⟨d0, d1, d2, d3, d4, d5, d6⟩ := d
        have Rd := Lib.hid rd
        obtain rfl := done_form rd
        have Ed0 := Lib.hid (show w.cell? ⟨bd, od + 0 * 7, none⟩ = some (.int .i64 d0) from cd 0 _ rfl)
        have Ed1 := Lib.hid (show w.cell? ⟨bd, od + 0 * 7 + 1, none⟩ = some (.int .i64 d1) from cd 1 _ rfl)
        have Ed2 := Lib.hid (show w.cell? ⟨bd, od + 0 * 7 + 2, none⟩ = some (.bool d2) from cd 2 _ rfl)
        have Ed3 := Lib.hid (show w.cell? ⟨bd, od + 0 * 7 + 3, none⟩ = some (.int .i64 d3) from cd 3 _ rfl)
        have Ed4 := Lib.hid (show w.cell? ⟨bd, od + 0 * 7 + 4, none⟩ = some (.int .i64 d4) from cd 4 _ rfl)
        have Ed5 := Lib.hid (show w.cell? ⟨bd, od + 0 * 7 + 5, none⟩ = some (.int .i64 d5) from cd 5 _ rfl)
        have Ed6 := Lib.hid (show w.cell? ⟨bd, od + 0 * 7 + 6, none⟩ = some (.int .i64 d6) from cd 6 _ rfl)
        have LTd := Lib.hid ltd
        clear hxd cd rd ltd
        have F0 := Ed0.out
        rw [Nat.zero_mul, Nat.add_zero] at F0
        have Ed0 := Lib.hid F0
        clear F0
        have F1 := Ed1.out
        rw [Nat.zero_mul, Nat.add_zero] at F1
        have Ed1 := Lib.hid F1
        clear F1
        have F2 := Ed2.out
        rw [Nat.zero_mul, Nat.add_zero] at F2
        have Ed2 := Lib.hid F2
        clear F2
        have F3 := Ed3.out
        rw [Nat.zero_mul, Nat.add_zero] at F3
        have Ed3 := Lib.hid F3
        clear F3
        have F4 := Ed4.out
        rw [Nat.zero_mul, Nat.add_zero] at F4
        have Ed4 := Lib.hid F4
        clear F4
        have F5 := Ed5.out
        rw [Nat.zero_mul, Nat.add_zero] at F5
        have Ed5 := Lib.hid F5
        clear F5
        have F6 := Ed6.out
        rw [Nat.zero_mul, Nat.add_zero] at F6
        have Ed6 := Lib.hid F6
        clear F6
        have hin : (0 : Int) < ((ng : Nat) : Int) := by omega
        have hd0 := ((bel_cells HB_0.out LTd.out _).trans Ed0.out)
        have hd1 := ((bel_cells HB_0.out LTd.out _).trans Ed1.out)
        have hd2 := ((bel_cells HB_0.out LTd.out _).trans Ed2.out)
        have hd3 := ((bel_cells HB_0.out LTd.out _).trans Ed3.out)
        have hd4 := ((bel_cells HB_0.out LTd.out _).trans Ed4.out)
        have hd5 := ((bel_cells HB_0.out LTd.out _).trans Ed5.out)
        have hd6 := ((bel_cells HB_0.out LTd.out _).trans Ed6.out)
        have hba := (Below.refl wr.heap.size wr).alloc (Nat.le_refl _) (Obj.cells #[.int .i64 d0, .int .i64 d1, .bool d2, .int .i64 d3, .int .i64 d4, .int .i64 d5, .int .i64 d6] 109)
        have B_1 := Lib.hid (B_0.out.later hba)
        have HB_1 := Lib.hid (HB_0.out.trans (hba.mono HB_0.out.size))
        have X_1 := Lib.hid (Bx.new 109 #[.int .i64 d0, .int .i64 d1, .bool d2, .int .i64 d3, .int .i64 d4, .int .i64 d5, .int .i64 d6] wr)
        clear hba
        go_upto_region 5 with fail
        clear hd0 hd1 hd2 hd3 hd4 hd5 hd6 g36 B_0 HB_0
        generalize wr.alloc (Obj.cells #[.int .i64 d0, .int .i64 d1, .bool d2, .int .i64 d3, .int .i64 d4, .int .i64 d5, .int .i64 d6] 109) = w2 at B_1 HB_1 X_1 ⊢
        have gB6 := fun d os => cell_regrown (B_1.out.cell 6 _ HV.out.c6) d os
        have gB7 := fun d os => cell_regrown (B_1.out.cell 7 _ HV.out.c7) d os
        have gB36 := fun d os => cell_regrown (B_1.out.cell 36 _ HV.out.c36) d os
        have gX0 := fun d os => cell_regrown (X_1.out.cell 0 _ rfl) d os
        have gX1 := fun d os => cell_regrown (X_1.out.cell 1 _ rfl) d os
        have gX2 := fun d os => cell_regrown (X_1.out.cell 2 _ rfl) d os
        have gX3 := fun d os => cell_regrown (X_1.out.cell 3 _ rfl) d os
        have gX4 := fun d os => cell_regrown (X_1.out.cell 4 _ rfl) d os
        have gX5 := fun d os => cell_regrown (X_1.out.cell 5 _ rfl) d os
        have gX6 := fun d os => cell_regrown (X_1.out.cell 6 _ rfl) d os
        obtain ⟨lim, hlim⟩ : ∃ x, limW d4 = x := ⟨_, rfl⟩
        have hlb := limW_bd d4
        rw [hlim] at hlb
        obtain ⟨hlb0, hlb1⟩ := hlb
        have HL := Lib.hid hlim
        clear hlim
        obtain ⟨c1, hc1⟩ : ∃ c, inB d0 0 (now - 1) = c := ⟨_, rfl⟩
        have C1 := Lib.hid hc1
        clear hc1
        obtain ⟨c2, hc2⟩ : ∃ c, inB d1 0 ((nM : Int) - 1) = c := ⟨_, rfl⟩
        have C2 := Lib.hid hc2
        clear hc2
        obtain ⟨c3, hc3⟩ : ∃ c, alB d3 d4 = c := ⟨_, rfl⟩
        have C3 := Lib.hid hc3
        clear hc3
        obtain ⟨c4, hc4⟩ : ∃ c, inB d3 0 511 = c := ⟨_, rfl⟩
        have C4 := Lib.hid hc4
        clear hc4
        obtain ⟨c5, hc5⟩ : ∃ c, inB d5 0 (lim - 1) = c := ⟨_, rfl⟩
        have C5 := Lib.hid hc5
        clear hc5
        obtain ⟨c6, hc6⟩ : ∃ c, inB d6 0 1 = c := ⟨_, rfl⟩
        have C6 := Lib.hid hc6
        clear hc6
        cases c1
        · skip
          have hf : R = false := by
            rw [← HR.out]
            refine tt_no (fun h => ?_)
            obtain ⟨g1, g2, g3, g4, g5, g6, g7⟩ := h 0 _ HXd.out
            have g8 := inB_iff.2 (g1)
            rw [C1.out] at g8; cases g8
          subst hf
          refine wp_region_quiet_below (by kernel_rfl) (by kernel_rfl) ?_
          repeat (go_big_quiet_step (first
            | (go_at_call 19; exact Calls.regrown_of (l1In_isC C1.out _))))
          refine wpQuiet_nil ?_
          rintro _ ⟨qq, rfl⟩
          have hq := below_regrown w2 qq.d qq.os
          clear gB6 gB7 gB36 gX0 gX1 gX2 gX3 gX4 gX5 gX6
          have B_2 := Lib.hid (B_1.out.later hq)
          have HB_2 := Lib.hid (HB_1.out.trans (hq.mono HB_1.out.size))
          clear B_1 HB_1 hq 
          repeat (first | go_values | go_skip | go_guarded | go_step | go_upon | go_back)
          go_ret
          exact ⟨rfl, HB_2.out⟩
        cases c2
        · skip
          have hf : R = false := by
            rw [← HR.out]
            refine tt_no (fun h => ?_)
            obtain ⟨g1, g2, g3, g4, g5, g6, g7⟩ := h 0 _ HXd.out
            have g8 := inB_iff.2 (by rw [HV.out.nl] at g3; exact g3)
            rw [C2.out] at g8; cases g8
          subst hf
          refine wp_region_quiet_below (by kernel_rfl) (by kernel_rfl) ?_
          repeat (go_big_quiet_step (first
            | (go_at_call 19; with_reducible exact Calls.regrown_of (l1In_isC C1.out _))
            | (go_at_call 19; with_reducible exact Calls.regrown_of (l1In_isC C2.out _))))
          refine wpQuiet_nil ?_
          rintro _ ⟨qq, rfl⟩
          have hq := below_regrown w2 qq.d qq.os
          clear gB6 gB7 gB36 gX0 gX1 gX2 gX3 gX4 gX5 gX6
          have B_2 := Lib.hid (B_1.out.later hq)
          have HB_2 := Lib.hid (HB_1.out.trans (hq.mono HB_1.out.size))
          clear B_1 HB_1 hq 
          repeat (first | go_values | go_skip | go_guarded | go_step | go_upon | go_back)
          go_ret
          exact ⟨rfl, HB_2.out⟩
        cases c3
        · skip
          have hf : R = false := by
            rw [← HR.out]
            refine tt_no (fun h => ?_)
            obtain ⟨g1, g2, g3, g4, g5, g6, g7⟩ := h 0 _ HXd.out
            rw [C3.out] at g4; cases g4
          subst hf
          refine wp_region_quiet_below (by kernel_rfl) (by kernel_rfl) ?_
          repeat (go_big_quiet_step (first
            | (go_at_call 19; with_reducible exact Calls.regrown_of (l1In_isC C1.out _))
            | (go_at_call 19; with_reducible exact Calls.regrown_of (l1In_isC C2.out _))
            | (go_at_call 61; exact Calls.regrown_of (sal_isB C3.out _))))
          refine wpQuiet_nil ?_
          rintro _ ⟨qq, rfl⟩
          have hq := below_regrown w2 qq.d qq.os
          clear gB6 gB7 gB36 gX0 gX1 gX2 gX3 gX4 gX5 gX6
          have B_2 := Lib.hid (B_1.out.later hq)
          have HB_2 := Lib.hid (HB_1.out.trans (hq.mono HB_1.out.size))
          clear B_1 HB_1 hq 
          repeat (first | go_values | go_skip | go_guarded | go_step | go_upon | go_back)
          go_ret
          exact ⟨rfl, HB_2.out⟩
        cases c4
        · skip
          have hf : R = false := by
            rw [← HR.out]
            refine tt_no (fun h => ?_)
            obtain ⟨g1, g2, g3, g4, g5, g6, g7⟩ := h 0 _ HXd.out
            have g8 := inB_iff.2 (g5)
            rw [C4.out] at g8; cases g8
          subst hf
          refine wp_region_quiet_below (by kernel_rfl) (by kernel_rfl) ?_
          repeat (go_big_quiet_step (first
            | (go_at_call 19; with_reducible exact Calls.regrown_of (l1In_isC C1.out _))
            | (go_at_call 19; with_reducible exact Calls.regrown_of (l1In_isC C2.out _))
            | (go_at_call 61; exact Calls.regrown_of (sal_isB C3.out _))
            | (go_at_call 19; with_reducible exact Calls.regrown_of (l1In_isC C4.out _))))
          refine wpQuiet_nil ?_
          rintro _ ⟨qq, rfl⟩
          have hq := below_regrown w2 qq.d qq.os
          clear gB6 gB7 gB36 gX0 gX1 gX2 gX3 gX4 gX5 gX6
          have B_2 := Lib.hid (B_1.out.later hq)
          have HB_2 := Lib.hid (HB_1.out.trans (hq.mono HB_1.out.size))
          clear B_1 HB_1 hq 
          repeat (first | go_values | go_skip | go_guarded | go_step | go_upon | go_back)
          go_ret
          exact ⟨rfl, HB_2.out⟩
        cases c5
        · skip
          have hf : R = false := by
            rw [← HR.out]
            refine tt_no (fun h => ?_)
            obtain ⟨g1, g2, g3, g4, g5, g6, g7⟩ := h 0 _ HXd.out
            dsimp only at g6
            rw [HL.out] at g6
            have g8 : inB d5 0 (lim - 1) = true := inB_iff.2 (by omega)
            rw [C5.out] at g8; cases g8
          subst hf
          refine wp_region_quiet_below (by kernel_rfl) (by kernel_rfl) ?_
          repeat (go_big_quiet_step (first
            | (go_at_call 19; with_reducible exact Calls.regrown_of (l1In_isC C1.out _))
            | (go_at_call 19; with_reducible exact Calls.regrown_of (l1In_isC C2.out _))
            | (go_at_call 61; exact Calls.regrown_of (sal_isB C3.out _))
            | (go_at_call 19; with_reducible exact Calls.regrown_of (l1In_isC C4.out _))
            | (go_at_call 19; with_reducible exact Calls.regrown_of (l1In_isC C5.out _))
            | (go_at_call 62; exact Calls.regrown_of (slim_is HL.out _))))
          refine wpQuiet_nil ?_
          rintro _ ⟨qq, rfl⟩
          have hq := below_regrown w2 qq.d qq.os
          clear gB6 gB7 gB36 gX0 gX1 gX2 gX3 gX4 gX5 gX6
          have B_2 := Lib.hid (B_1.out.later hq)
          have HB_2 := Lib.hid (HB_1.out.trans (hq.mono HB_1.out.size))
          clear B_1 HB_1 hq 
          repeat (first | go_values | go_skip | go_guarded | go_step | go_upon | go_back)
          go_ret
          exact ⟨rfl, HB_2.out⟩
        cases c6
        · skip
          have hf : R = false := by
            rw [← HR.out]
            refine tt_no (fun h => ?_)
            obtain ⟨g1, g2, g3, g4, g5, g6, g7⟩ := h 0 _ HXd.out
            dsimp only at g7
            have g8 : inB d6 0 1 = true := inB_iff.2 (by omega)
            rw [C6.out] at g8; cases g8
          subst hf
          refine wp_region_quiet_below (by kernel_rfl) (by kernel_rfl) ?_
          repeat (go_big_quiet_step (first
            | (go_at_call 19; with_reducible exact Calls.regrown_of (l1In_isC C1.out _))
            | (go_at_call 19; with_reducible exact Calls.regrown_of (l1In_isC C2.out _))
            | (go_at_call 61; exact Calls.regrown_of (sal_isB C3.out _))
            | (go_at_call 19; with_reducible exact Calls.regrown_of (l1In_isC C4.out _))
            | (go_at_call 19; with_reducible exact Calls.regrown_of (l1In_isC C5.out _))
            | (go_at_call 19; with_reducible exact Calls.regrown_of (l1In_isC C6.out _))
            | (go_at_call 62; exact Calls.regrown_of (slim_is HL.out _))))
          refine wpQuiet_nil ?_
          rintro _ ⟨qq, rfl⟩
          have hq := below_regrown w2 qq.d qq.os
          clear gB6 gB7 gB36 gX0 gX1 gX2 gX3 gX4 gX5 gX6
          have B_2 := Lib.hid (B_1.out.later hq)
          have HB_2 := Lib.hid (HB_1.out.trans (hq.mono HB_1.out.size))
          clear B_1 HB_1 hq 
          repeat (first | go_values | go_skip | go_guarded | go_step | go_upon | go_back)
          go_ret
          exact ⟨rfl, HB_2.out⟩
        have HQ2 : Hid (∀ i, i < 0 + 1 → EntryP l.length now lg i) := Lib.hid (fun i hi => by
          by_cases e : i = 0
          · subst e
            intro d hd
            rw [HXd.out] at hd
            cases hd
            have h6 := inB_iff.1 C6.out
            have h5 := inB_iff.1 C5.out
            refine ⟨inB_iff.1 C1.out, fun i e hi he => ?_, by rw [HV.out.nl]; exact inB_iff.1 C2.out, C3.out, inB_iff.1 C4.out, by dsimp only; rw [HL.out]; omega, by dsimp only; omega⟩
            · omega
          · exact HQ.out i (by omega))
        refine wp_region_quiet_below (by kernel_rfl) (by kernel_rfl) ?_
        repeat (go_big_quiet_step (first
          | (go_at_call 19; with_reducible exact Calls.regrown_of (l1In_isC C1.out _))
          | (go_at_call 19; with_reducible exact Calls.regrown_of (l1In_isC C2.out _))
          | (go_at_call 61; exact Calls.regrown_of (sal_isB C3.out _))
          | (go_at_call 19; with_reducible exact Calls.regrown_of (l1In_isC C4.out _))
          | (go_at_call 19; with_reducible exact Calls.regrown_of (l1In_isC C5.out _))
          | (go_at_call 19; with_reducible exact Calls.regrown_of (l1In_isC C6.out _))
          | (go_at_call 62; exact Calls.regrown_of (slim_is HL.out _))))
        refine wpQuiet_nil ?_
        rintro _ ⟨qq, rfl⟩
        have hq := below_regrown w2 qq.d qq.os
        clear gB6 gB7 gB36 gX0 gX1 gX2 gX3 gX4 gX5 gX6
        have B_2 := Lib.hid (B_1.out.later hq)
        have HB_2 := Lib.hid (HB_1.out.trans (hq.mono HB_1.out.size))
        clear B_1 HB_1 hq 
        generalize Sort.grow (redrawn w2 qq.d) qq.os = w3 at B_2 HB_2 ⊢
        repeat (first | go_values | go_skip | go_guarded | go_step | go_upon | go_back)
        go_roundw
        case rel => exact ⟨0 + 1, by omega, by go_num, HQ2, B_2, HB_2⟩
        case measure => simp [intOf]; omega
      | succ k =>
        obtain ⟨d, hxd⟩ := get_of (l := lg) (i := (k + 1)) (by rw [HV.out.nlg]; exact hlt)
        have HXd := Lib.hid hxd
        obtain ⟨bd, od, _, esd, ed, _, _, ltd, cd, rd⟩ := row_rd HV.out.rlg hxd
        simp at ed
        obtain ⟨rfl, -, rfl⟩ := ed
        obtain ⟨d0, d1, d2, d3, d4, d5, d6⟩ := d
        have Rd := Lib.hid rd
        obtain rfl := done_form rd
        have Ed0 := Lib.hid (show w.cell? ⟨bd, od + (k + 1) * 7, none⟩ = some (.int .i64 d0) from cd 0 _ rfl)
        have Ed1 := Lib.hid (show w.cell? ⟨bd, od + (k + 1) * 7 + 1, none⟩ = some (.int .i64 d1) from cd 1 _ rfl)
        have Ed2 := Lib.hid (show w.cell? ⟨bd, od + (k + 1) * 7 + 2, none⟩ = some (.bool d2) from cd 2 _ rfl)
        have Ed3 := Lib.hid (show w.cell? ⟨bd, od + (k + 1) * 7 + 3, none⟩ = some (.int .i64 d3) from cd 3 _ rfl)
        have Ed4 := Lib.hid (show w.cell? ⟨bd, od + (k + 1) * 7 + 4, none⟩ = some (.int .i64 d4) from cd 4 _ rfl)
        have Ed5 := Lib.hid (show w.cell? ⟨bd, od + (k + 1) * 7 + 5, none⟩ = some (.int .i64 d5) from cd 5 _ rfl)
        have Ed6 := Lib.hid (show w.cell? ⟨bd, od + (k + 1) * 7 + 6, none⟩ = some (.int .i64 d6) from cd 6 _ rfl)
        have LTd := Lib.hid ltd
        clear hxd cd rd ltd
        obtain ⟨p, hxp⟩ := get_of (l := lg) (i := k) (by rw [HV.out.nlg]; exact (by omega))
        have HXp := Lib.hid hxp
        obtain ⟨bp, op, _, esp, ep, _, _, ltp, cp, rp⟩ := row_rd HV.out.rlg hxp
        simp at ep
        obtain ⟨⟨rfl, rfl⟩, -, rfl⟩ := ep
        obtain ⟨p0, p1, p2, p3, p4, p5, p6⟩ := p
        have Rp := Lib.hid rp
        obtain rfl := done_form rp
        have Ep0 := Lib.hid (show w.cell? ⟨bd, od + k * 7, none⟩ = some (.int .i64 p0) from cp 0 _ rfl)
        have Ep1 := Lib.hid (show w.cell? ⟨bd, od + k * 7 + 1, none⟩ = some (.int .i64 p1) from cp 1 _ rfl)
        have Ep2 := Lib.hid (show w.cell? ⟨bd, od + k * 7 + 2, none⟩ = some (.bool p2) from cp 2 _ rfl)
        have Ep3 := Lib.hid (show w.cell? ⟨bd, od + k * 7 + 3, none⟩ = some (.int .i64 p3) from cp 3 _ rfl)
        have Ep4 := Lib.hid (show w.cell? ⟨bd, od + k * 7 + 4, none⟩ = some (.int .i64 p4) from cp 4 _ rfl)
        have Ep5 := Lib.hid (show w.cell? ⟨bd, od + k * 7 + 5, none⟩ = some (.int .i64 p5) from cp 5 _ rfl)
        have Ep6 := Lib.hid (show w.cell? ⟨bd, od + k * 7 + 6, none⟩ = some (.int .i64 p6) from cp 6 _ rfl)
        have LTp := Lib.hid ltp
        clear hxp cp rp ltp
        have hin : (0 : Int) ≤ (k : Int) + 1 ∧ (k : Int) + 1 < ((ng : Nat) : Int) := by omega
        have hkin : (0 : Int) ≤ (k : Int) ∧ (k : Int) < ((ng : Nat) : Int) := by omega
        have hkp : (0 : Int) < (k : Int) + 1 := by omega
        have hkpb : decide ((0 : Int) < (k : Int) + 1) = true := decide_eq_true hkp
        have hd0 := ((bel_cells HB_0.out LTd.out _).trans Ed0.out)
        have hd1 := ((bel_cells HB_0.out LTd.out _).trans Ed1.out)
        have hd2 := ((bel_cells HB_0.out LTd.out _).trans Ed2.out)
        have hd3 := ((bel_cells HB_0.out LTd.out _).trans Ed3.out)
        have hd4 := ((bel_cells HB_0.out LTd.out _).trans Ed4.out)
        have hd5 := ((bel_cells HB_0.out LTd.out _).trans Ed5.out)
        have hd6 := ((bel_cells HB_0.out LTd.out _).trans Ed6.out)
        have hba := (Below.refl wr.heap.size wr).alloc (Nat.le_refl _) (Obj.cells #[.int .i64 d0, .int .i64 d1, .bool d2, .int .i64 d3, .int .i64 d4, .int .i64 d5, .int .i64 d6] 109)
        have B_1 := Lib.hid (B_0.out.later hba)
        have HB_1 := Lib.hid (HB_0.out.trans (hba.mono HB_0.out.size))
        have X_1 := Lib.hid (Bx.new 109 #[.int .i64 d0, .int .i64 d1, .bool d2, .int .i64 d3, .int .i64 d4, .int .i64 d5, .int .i64 d6] wr)
        clear hba
        go_upto_region 5 with fail
        clear hd0 hd1 hd2 hd3 hd4 hd5 hd6 g36 B_0 HB_0
        generalize wr.alloc (Obj.cells #[.int .i64 d0, .int .i64 d1, .bool d2, .int .i64 d3, .int .i64 d4, .int .i64 d5, .int .i64 d6] 109) = w2 at B_1 HB_1 X_1 ⊢
        have gB6 := fun d os => cell_regrown (B_1.out.cell 6 _ HV.out.c6) d os
        have gB7 := fun d os => cell_regrown (B_1.out.cell 7 _ HV.out.c7) d os
        have gB36 := fun d os => cell_regrown (B_1.out.cell 36 _ HV.out.c36) d os
        have gX0 := fun d os => cell_regrown (X_1.out.cell 0 _ rfl) d os
        have gX1 := fun d os => cell_regrown (X_1.out.cell 1 _ rfl) d os
        have gX2 := fun d os => cell_regrown (X_1.out.cell 2 _ rfl) d os
        have gX3 := fun d os => cell_regrown (X_1.out.cell 3 _ rfl) d os
        have gX4 := fun d os => cell_regrown (X_1.out.cell 4 _ rfl) d os
        have gX5 := fun d os => cell_regrown (X_1.out.cell 5 _ rfl) d os
        have gX6 := fun d os => cell_regrown (X_1.out.cell 6 _ rfl) d os
        have gp0 := fun d os => cell_regrown ((bel_cells HB_1.out LTp.out _).trans Ep0.out) d os
        obtain ⟨lim, hlim⟩ : ∃ x, limW d4 = x := ⟨_, rfl⟩
        have hlb := limW_bd d4
        rw [hlim] at hlb
        obtain ⟨hlb0, hlb1⟩ := hlb
        have HL := Lib.hid hlim
        clear hlim
        obtain ⟨c1, hc1⟩ : ∃ c, inB d0 0 (now - 1) = c := ⟨_, rfl⟩
        have C1 := Lib.hid hc1
        clear hc1
        obtain ⟨c2, hc2⟩ : ∃ c, inB d1 0 ((nM : Int) - 1) = c := ⟨_, rfl⟩
        have C2 := Lib.hid hc2
        clear hc2
        obtain ⟨c3, hc3⟩ : ∃ c, alB d3 d4 = c := ⟨_, rfl⟩
        have C3 := Lib.hid hc3
        clear hc3
        obtain ⟨c4, hc4⟩ : ∃ c, inB d3 0 511 = c := ⟨_, rfl⟩
        have C4 := Lib.hid hc4
        clear hc4
        obtain ⟨c5, hc5⟩ : ∃ c, inB d5 0 (lim - 1) = c := ⟨_, rfl⟩
        have C5 := Lib.hid hc5
        clear hc5
        obtain ⟨c6, hc6⟩ : ∃ c, inB d6 0 1 = c := ⟨_, rfl⟩
        have C6 := Lib.hid hc6
        clear hc6
        cases c1
        · skip
          have hf : R = false := by
            rw [← HR.out]
            refine tt_no (fun h => ?_)
            obtain ⟨g1, g2, g3, g4, g5, g6, g7⟩ := h (k + 1) _ HXd.out
            have g8 := inB_iff.2 (g1)
            rw [C1.out] at g8; cases g8
          subst hf
          refine wp_region_quiet_below (by kernel_rfl) (by kernel_rfl) ?_
          repeat (go_big_quiet_step (first
            | (go_at_call 19; exact Calls.regrown_of (l1In_isC C1.out _))))
          refine wpQuiet_nil ?_
          rintro _ ⟨qq, rfl⟩
          have hq := below_regrown w2 qq.d qq.os
          clear gB6 gB7 gB36 gX0 gX1 gX2 gX3 gX4 gX5 gX6 gp0
          have B_2 := Lib.hid (B_1.out.later hq)
          have HB_2 := Lib.hid (HB_1.out.trans (hq.mono HB_1.out.size))
          clear B_1 HB_1 hq 
          repeat (first | go_values | go_skip | go_guarded | go_step | go_upon | go_back)
          go_ret
          exact ⟨rfl, HB_2.out⟩
        by_cases hp : d0 ≤ p0
        · have hp2 : decide (d0 ≤ p0) = true := decide_eq_true hp
          have HPP := Lib.hid hp
          clear hp
          have hf : R = false := by
            rw [← HR.out]
            refine tt_no (fun h => ?_)
            obtain ⟨g1, g2, g3, g4, g5, g6, g7⟩ := h (k + 1) _ HXd.out
            have g8 := g2 k _ rfl HXp.out
            have g9 := HPP.out
            dsimp only at g8
            omega
          subst hf
          refine wp_region_quiet_below (by kernel_rfl) (by kernel_rfl) ?_
          repeat (go_big_quiet_step (first
            | (go_at_call 19; exact Calls.regrown_of (l1In_isC C1.out _))))
          refine wpQuiet_nil ?_
          rintro _ ⟨qq, rfl⟩
          have hq := below_regrown w2 qq.d qq.os
          clear gB6 gB7 gB36 gX0 gX1 gX2 gX3 gX4 gX5 gX6 gp0
          have B_2 := Lib.hid (B_1.out.later hq)
          have HB_2 := Lib.hid (HB_1.out.trans (hq.mono HB_1.out.size))
          clear B_1 HB_1 hq 
          repeat (first | go_values | go_skip | go_guarded | go_step | go_upon | go_back)
          go_ret
          exact ⟨rfl, HB_2.out⟩
        have hp2 : decide (d0 ≤ p0) = false := decide_eq_false hp
        have HPP := Lib.hid hp
        clear hp
        cases c2
        · skip
          have hf : R = false := by
            rw [← HR.out]
            refine tt_no (fun h => ?_)
            obtain ⟨g1, g2, g3, g4, g5, g6, g7⟩ := h (k + 1) _ HXd.out
            have g8 := inB_iff.2 (by rw [HV.out.nl] at g3; exact g3)
            rw [C2.out] at g8; cases g8
          subst hf
          refine wp_region_quiet_below (by kernel_rfl) (by kernel_rfl) ?_
          repeat (go_big_quiet_step (first
            | (go_at_call 19; with_reducible exact Calls.regrown_of (l1In_isC C1.out _))
            | (go_at_call 19; with_reducible exact Calls.regrown_of (l1In_isC C2.out _))))
          refine wpQuiet_nil ?_
          rintro _ ⟨qq, rfl⟩
          have hq := below_regrown w2 qq.d qq.os
          clear gB6 gB7 gB36 gX0 gX1 gX2 gX3 gX4 gX5 gX6 gp0
          have B_2 := Lib.hid (B_1.out.later hq)
          have HB_2 := Lib.hid (HB_1.out.trans (hq.mono HB_1.out.size))
          clear B_1 HB_1 hq 
          repeat (first | go_values | go_skip | go_guarded | go_step | go_upon | go_back)
          go_ret
          exact ⟨rfl, HB_2.out⟩
        cases c3
        · skip
          have hf : R = false := by
            rw [← HR.out]
            refine tt_no (fun h => ?_)
            obtain ⟨g1, g2, g3, g4, g5, g6, g7⟩ := h (k + 1) _ HXd.out
            rw [C3.out] at g4; cases g4
          subst hf
          refine wp_region_quiet_below (by kernel_rfl) (by kernel_rfl) ?_
          repeat (go_big_quiet_step (first
            | (go_at_call 19; with_reducible exact Calls.regrown_of (l1In_isC C1.out _))
            | (go_at_call 19; with_reducible exact Calls.regrown_of (l1In_isC C2.out _))
            | (go_at_call 61; exact Calls.regrown_of (sal_isB C3.out _))))
          refine wpQuiet_nil ?_
          rintro _ ⟨qq, rfl⟩
          have hq := below_regrown w2 qq.d qq.os
          clear gB6 gB7 gB36 gX0 gX1 gX2 gX3 gX4 gX5 gX6 gp0
          have B_2 := Lib.hid (B_1.out.later hq)
          have HB_2 := Lib.hid (HB_1.out.trans (hq.mono HB_1.out.size))
          clear B_1 HB_1 hq 
          repeat (first | go_values | go_skip | go_guarded | go_step | go_upon | go_back)
          go_ret
          exact ⟨rfl, HB_2.out⟩
        cases c4
        · skip
          have hf : R = false := by
            rw [← HR.out]
            refine tt_no (fun h => ?_)
            obtain ⟨g1, g2, g3, g4, g5, g6, g7⟩ := h (k + 1) _ HXd.out
            have g8 := inB_iff.2 (g5)
            rw [C4.out] at g8; cases g8
          subst hf
          refine wp_region_quiet_below (by kernel_rfl) (by kernel_rfl) ?_
          repeat (go_big_quiet_step (first
            | (go_at_call 19; with_reducible exact Calls.regrown_of (l1In_isC C1.out _))
            | (go_at_call 19; with_reducible exact Calls.regrown_of (l1In_isC C2.out _))
            | (go_at_call 61; exact Calls.regrown_of (sal_isB C3.out _))
            | (go_at_call 19; with_reducible exact Calls.regrown_of (l1In_isC C4.out _))))
          refine wpQuiet_nil ?_
          rintro _ ⟨qq, rfl⟩
          have hq := below_regrown w2 qq.d qq.os
          clear gB6 gB7 gB36 gX0 gX1 gX2 gX3 gX4 gX5 gX6 gp0
          have B_2 := Lib.hid (B_1.out.later hq)
          have HB_2 := Lib.hid (HB_1.out.trans (hq.mono HB_1.out.size))
          clear B_1 HB_1 hq 
          repeat (first | go_values | go_skip | go_guarded | go_step | go_upon | go_back)
          go_ret
          exact ⟨rfl, HB_2.out⟩
        cases c5
        · skip
          have hf : R = false := by
            rw [← HR.out]
            refine tt_no (fun h => ?_)
            obtain ⟨g1, g2, g3, g4, g5, g6, g7⟩ := h (k + 1) _ HXd.out
            dsimp only at g6
            rw [HL.out] at g6
            have g8 : inB d5 0 (lim - 1) = true := inB_iff.2 (by omega)
            rw [C5.out] at g8; cases g8
          subst hf
          refine wp_region_quiet_below (by kernel_rfl) (by kernel_rfl) ?_
          repeat (go_big_quiet_step (first
            | (go_at_call 19; with_reducible exact Calls.regrown_of (l1In_isC C1.out _))
            | (go_at_call 19; with_reducible exact Calls.regrown_of (l1In_isC C2.out _))
            | (go_at_call 61; exact Calls.regrown_of (sal_isB C3.out _))
            | (go_at_call 19; with_reducible exact Calls.regrown_of (l1In_isC C4.out _))
            | (go_at_call 19; with_reducible exact Calls.regrown_of (l1In_isC C5.out _))
            | (go_at_call 62; exact Calls.regrown_of (slim_is HL.out _))))
          refine wpQuiet_nil ?_
          rintro _ ⟨qq, rfl⟩
          have hq := below_regrown w2 qq.d qq.os
          clear gB6 gB7 gB36 gX0 gX1 gX2 gX3 gX4 gX5 gX6 gp0
          have B_2 := Lib.hid (B_1.out.later hq)
          have HB_2 := Lib.hid (HB_1.out.trans (hq.mono HB_1.out.size))
          clear B_1 HB_1 hq 
          repeat (first | go_values | go_skip | go_guarded | go_step | go_upon | go_back)
          go_ret
          exact ⟨rfl, HB_2.out⟩
        cases c6
        · skip
          have hf : R = false := by
            rw [← HR.out]
            refine tt_no (fun h => ?_)
            obtain ⟨g1, g2, g3, g4, g5, g6, g7⟩ := h (k + 1) _ HXd.out
            dsimp only at g7
            have g8 : inB d6 0 1 = true := inB_iff.2 (by omega)
            rw [C6.out] at g8; cases g8
          subst hf
          refine wp_region_quiet_below (by kernel_rfl) (by kernel_rfl) ?_
          repeat (go_big_quiet_step (first
            | (go_at_call 19; with_reducible exact Calls.regrown_of (l1In_isC C1.out _))
            | (go_at_call 19; with_reducible exact Calls.regrown_of (l1In_isC C2.out _))
            | (go_at_call 61; exact Calls.regrown_of (sal_isB C3.out _))
            | (go_at_call 19; with_reducible exact Calls.regrown_of (l1In_isC C4.out _))
            | (go_at_call 19; with_reducible exact Calls.regrown_of (l1In_isC C5.out _))
            | (go_at_call 19; with_reducible exact Calls.regrown_of (l1In_isC C6.out _))
            | (go_at_call 62; exact Calls.regrown_of (slim_is HL.out _))))
          refine wpQuiet_nil ?_
          rintro _ ⟨qq, rfl⟩
          have hq := below_regrown w2 qq.d qq.os
          clear gB6 gB7 gB36 gX0 gX1 gX2 gX3 gX4 gX5 gX6 gp0
          have B_2 := Lib.hid (B_1.out.later hq)
          have HB_2 := Lib.hid (HB_1.out.trans (hq.mono HB_1.out.size))
          clear B_1 HB_1 hq 
          repeat (first | go_values | go_skip | go_guarded | go_step | go_upon | go_back)
          go_ret
          exact ⟨rfl, HB_2.out⟩
        have HQ2 : Hid (∀ i, i < (k + 1) + 1 → EntryP l.length now lg i) := Lib.hid (fun i hi => by
          by_cases e : i = (k + 1)
          · subst e
            intro d hd
            rw [HXd.out] at hd
            cases hd
            have h6 := inB_iff.1 C6.out
            have h5 := inB_iff.1 C5.out
            refine ⟨inB_iff.1 C1.out, fun i e hi he => ?_, by rw [HV.out.nl]; exact inB_iff.1 C2.out, C3.out, inB_iff.1 C4.out, by dsimp only; rw [HL.out]; omega, by dsimp only; omega⟩
            · obtain rfl : i = k := by omega
              rw [HXp.out] at he; cases he
              have := HPP.out
              dsimp only
              omega
          · exact HQ.out i (by omega))
        refine wp_region_quiet_below (by kernel_rfl) (by kernel_rfl) ?_
        repeat (go_big_quiet_step (first
          | (go_at_call 19; with_reducible exact Calls.regrown_of (l1In_isC C1.out _))
          | (go_at_call 19; with_reducible exact Calls.regrown_of (l1In_isC C2.out _))
          | (go_at_call 61; exact Calls.regrown_of (sal_isB C3.out _))
          | (go_at_call 19; with_reducible exact Calls.regrown_of (l1In_isC C4.out _))
          | (go_at_call 19; with_reducible exact Calls.regrown_of (l1In_isC C5.out _))
          | (go_at_call 19; with_reducible exact Calls.regrown_of (l1In_isC C6.out _))
          | (go_at_call 62; exact Calls.regrown_of (slim_is HL.out _))))
        refine wpQuiet_nil ?_
        rintro _ ⟨qq, rfl⟩
        have hq := below_regrown w2 qq.d qq.os
        clear gB6 gB7 gB36 gX0 gX1 gX2 gX3 gX4 gX5 gX6 gp0
        have B_2 := Lib.hid (B_1.out.later hq)
        have HB_2 := Lib.hid (HB_1.out.trans (hq.mono HB_1.out.size))
        clear B_1 HB_1 hq 
        generalize Sort.grow (redrawn w2 qq.d) qq.os = w3 at B_2 HB_2 ⊢
        repeat (first | go_values | go_skip | go_guarded | go_step | go_upon | go_back)
        go_roundw
        case rel => exact ⟨(k + 1) + 1, by omega, by go_num, HQ2, B_2, HB_2⟩
        case measure => simp [intOf]; omega
    · obtain rfl : j = ng := by omega
      have hf : R = true := by
        rw [← HR.out]
        refine tt_yes (fun k => ?_)
        by_cases hk : k < j
        · exact HQ.out k hk
        · intro d hd
          have := (List.getElem?_eq_some_iff.1 hd).1
          rw [HV.out.nlg] at this
          omega
      subst hf
      repeat (first | go_values | go_skip | go_guarded | go_step | go_upon | go_back)
      go_ret
      exact ⟨rfl, HB_0.out⟩

end Go.Proofs.YtdhaelaoackfkaaGreat.KD

namespace Go.Proofs.YtdhaelaoackfkaaGreat.KD
open Go.RowKit Rows3 GR Num
set_option linter.unusedVariables false
/-- a master with beats on their way has a request. -/
def MstsQ (M : List MstX) : Prop := ∀ (i : Nat) (m : MstX), M[i]? = some m → 0 < m.2.1 → m.1 ≠ []
set_option maxHeartbeats 16000000 in
set_option maxRecDepth 100000 in
theorem specLock (arr : Array Value) (l : List (Int × Bool × Int × Int)) (qu : Int) (mw : Int) (mr : Int) (ms : Int) (lm : Int) (now : Int) (M : List (List (Bool × Int × Int × Int × Bool × List Int) × Int × Int × Int × Bool × Bool)) (tu : Int) (cr : Int) (bk : List (Int × Int)) (sp : List Int) (ho : Int) (he : Int) (la : Int) (av : Bool) (aw : Int) (ab : Int) (af : Bool) (ay : Int) (al : Int) (ar : Int) (az : Bool) (dv : Bool) (dw : Int) (db : Int) (df : Bool) (dy : Int) (dl : Int) (dr : Int) (dz : Bool) (mem : List Int) (rg : List Int) (ti : Int) (ff : List Int) (pk : Int) (lg : List (Int × Int × Bool × Int × Int × Int × Int)) (Al : Option Addr) (Pl : Nat) (AM : Option Addr) (PM : Nat) (Abk : Option Addr) (Pbk : Nat) (Asp : Option Addr) (Psp : Nat) (Amem : Option Addr) (Pmem : Nat) (Arg : Option Addr) (Prg : Nat) (Aff : Option Addr) (Pff : Nat) (Alg : Option Addr) (Plg : Nat) (nl nM nb ns ng : Nat) (w : World) (v : BV arr l qu mw mr ms lm now M tu cr bk sp ho he la av aw ab af ay al ar az dv dw db df dy dl dr dz mem rg ti ff pk lg Al Pl AM PM Abk Pbk Asp Psp Amem Pmem Arg Prg Aff Pff Alg Plg nl nM nb ns ng w) (z : BZ 0 l M bk sp mem rg ff lg) (hlM : M.length = l.length) (hls : sp.length = l.length) (hq : MstsQ M) :
    Calls Tryz.prog 26 #[.agg arr] w fun e w' => e = .returned (.bool (tt (HoldP M sp ho he lm ∧ LockP M ho))) ∧ Below w.heap.size w w' := by
  have HV := Lib.hid v
  have HZ := Lib.hid z
  clear v z
  obtain ⟨R, hR0⟩ : ∃ R, (tt (HoldP M sp ho he lm ∧ LockP M ho)) = R := ⟨_, rfl⟩
  rw [hR0]
  have HR := Lib.hid hR0
  clear hR0
  have B := Bx.new 53 arr w
  have hb0 := (Below.refl w.heap.size w).alloc (Nat.le_refl _) (Obj.cells arr 53)
  obtain ⟨y0, hy0⟩ : ∃ y, w.alloc (Obj.cells arr 53) = y := ⟨_, rfl⟩
  rw [hy0] at B hb0
  have B_0 := Lib.hid B
  have HB_0 := Lib.hid hb0
  clear B hb0
  obtain rfl : nM = nl := by rw [← HV.out.nM, ← HV.out.nl]; exact hlM
  obtain rfl : nM = ns := by rw [← HV.out.nsp, hls, ← hlM]; exact HV.out.nM.symm
  have HQM := Lib.hid hq
  clear hlM hls hq
  have hln : nM ≤ 2000000 := by rw [← HV.out.nM]; exact HZ.out.zMl
  go_enter Tryz.func26, Tryz.ntmps26
  repeat (first | go_values | go_skip | go_guarded | go_step | go_upon | go_back)
  clear hy0
  go_loopw [3] (fun i wr => ∃ j : Nat, j ≤ nM ∧ i = .int .i64 j ∧ Hid (∀ k m, k < j → M[k]? = some m → 0 < m.2.1 → locksM m = true → ho = (k : Int)) ∧ Hid (Bx 53 w.heap.size arr wr) ∧ Hid (Below w.heap.size w wr)) (fun i _ => nM - (intOf i).toNat)
  case atStart => exact ⟨0, by omega, rfl, Lib.hid (fun k m hk => by omega), B_0, HB_0⟩
  case round =>
    clear B_0 HB_0
    obtain ⟨j, hj, rfl, HQ, B_0, HB_0⟩ := hrel
    by_cases hlt : j < nM
    · skip
      obtain ⟨m, hxm⟩ := get_of (l := M) (i := j) (by rw [HV.out.nM]; exact hlt)
      have HXm := Lib.hid hxm
      obtain ⟨bm, om, _, esm, em, _, _, ltm, cm, rm⟩ := row_rd HV.out.rM hxm
      simp at em
      obtain ⟨rfl, -, rfl⟩ := em
      obtain ⟨m0, m1, m2, m3, m4, m5⟩ := m
      have Rm := Lib.hid rm
      obtain ⟨am, pm, rfl, _⟩ := mst_form rm
      have Em0 := Lib.hid (show w.cell? ⟨bm, om + j * 6, none⟩ = some (.slice am m0.length pm) from cm 0 _ rfl)
      have Em1 := Lib.hid (show w.cell? ⟨bm, om + j * 6 + 1, none⟩ = some (.int .i64 m1) from cm 1 _ rfl)
      have Em2 := Lib.hid (show w.cell? ⟨bm, om + j * 6 + 2, none⟩ = some (.int .i64 m2) from cm 2 _ rfl)
      have Em3 := Lib.hid (show w.cell? ⟨bm, om + j * 6 + 3, none⟩ = some (.int .i64 m3) from cm 3 _ rfl)
      have Em4 := Lib.hid (show w.cell? ⟨bm, om + j * 6 + 4, none⟩ = some (.bool m4) from cm 4 _ rfl)
      have Em5 := Lib.hid (show w.cell? ⟨bm, om + j * 6 + 5, none⟩ = some (.bool m5) from cm 5 _ rfl)
      have LTm := Lib.hid ltm
      clear hxm cm rm ltm
      have hin : (0 : Int) ≤ (j : Int) ∧ (j : Int) < ((nM : Nat) : Int) := by omega
      have g7 := B_0.out.cell 7 _ HV.out.c7
      go_upto_region 4 with fail
      clear g7
      have gB7 := fun d os => cell_regrown (B_0.out.cell 7 _ HV.out.c7) d os
      have gB12 := fun d os => cell_regrown (B_0.out.cell 12 _ HV.out.c12) d os
      have gm0 := fun d os => cell_regrown ((bel_cells HB_0.out LTm.out _).trans Em0.out) d os
      have gm1 := fun d os => cell_regrown ((bel_cells HB_0.out LTm.out _).trans Em1.out) d os
      have gm2 := fun d os => cell_regrown ((bel_cells HB_0.out LTm.out _).trans Em2.out) d os
      have gm3 := fun d os => cell_regrown ((bel_cells HB_0.out LTm.out _).trans Em3.out) d os
      have gm4 := fun d os => cell_regrown ((bel_cells HB_0.out LTm.out _).trans Em4.out) d os
      have gm5 := fun d os => cell_regrown ((bel_cells HB_0.out LTm.out _).trans Em5.out) d os
      by_cases hb : 0 < m1
      rotate_left
      · have hb2 : decide (0 < m1) = false := decide_eq_false hb
        have HQ2 : Hid (∀ k m, k < j + 1 → M[k]? = some m → 0 < m.2.1 → locksM m = true → ho = (k : Int)) := Lib.hid (fun k m hk hm hb hl => by
          by_cases e : k = j
          · subst e
            rw [HXm.out] at hm
            cases hm
            exact absurd hb (by assumption)
          · exact HQ.out k m (by omega) hm hb hl)
        refine wp_region_det ?_
        repeat (go_big_quiet_step (fail))
        refine wpQuiet_nil ?_
        rintro _ ⟨qq, rfl⟩
        have hq := below_regrown wr qq.d qq.os
        clear gB7 gB12 gm0 gm1 gm2 gm3 gm4 gm5
        have B_1 := Lib.hid (B_0.out.later hq)
        have HB_1 := Lib.hid (HB_0.out.trans (hq.mono HB_0.out.size))
        clear B_0 HB_0 hq 
        generalize Sort.grow (redrawn wr qq.d) qq.os = w3 at B_1 HB_1 ⊢
        repeat (first | go_values | go_skip | go_guarded | go_step | go_upon | go_back)
        go_roundw
        case rel => exact ⟨j + 1, by omega, by go_num, HQ2, B_1, HB_1⟩
        case measure => simp [intOf]; omega
      have hb2 : decide (0 < m1) = true := decide_eq_true hb
      have HB2 := Lib.hid hb
      clear hb
      cases m0 with
      | nil => exact absurd rfl (HQM.out j _ HXm.out HB2.out)
      | cons r qs =>
        obtain ⟨am2, pm2, e2, hr2⟩ := mst_form Rm.out
        simp at e2
        obtain ⟨rfl, rfl⟩ := e2
        obtain ⟨br_, or_, _, er_, e3, _, _, ltr, cr_, rr_⟩ := row_rd hr2 (i := 0) (x := r) rfl
        simp at e3
        obtain ⟨rfl, -⟩ := e3
        obtain ⟨r0, r1, r2, r3, r4, r5⟩ := r
        obtain ⟨ar_, pr_, rfl, _⟩ := rd_req rr_
        have k4 : w.cell? ⟨br_, or_ + 0 * 6 + 4, none⟩ = some (.bool r4) := cr_ 4 _ rfl
        rw [Nat.zero_mul, Nat.add_zero] at k4
        have gr4 := fun d os => cell_regrown ((bel_cells HB_0.out ltr _).trans k4) d os
        obtain ⟨nq, hnq⟩ : ∃ n, ((r0, r1, r2, r3, r4, r5) :: qs : List ReqX).length = n := ⟨_, rfl⟩
        have hnq0 : 0 < nq := by rw [← hnq]; simp
        rw [hnq] at gm0
        have hnqi : (0 : Int) < (nq : Int) := by omega
        have HLK : Hid (locksM ((r0, r1, r2, r3, r4, r5) :: qs, m1, m2, m3, m4, m5) = (r4 && !m5)) := Lib.hid rfl
        clear hr2 cr_ rr_ k4 hnq
        cases r4
        · skip
          have HQ2 : Hid (∀ k m, k < j + 1 → M[k]? = some m → 0 < m.2.1 → locksM m = true → ho = (k : Int)) := Lib.hid (fun k m hk hm hb hl => by
            by_cases e : k = j
            · subst e
              rw [HXm.out] at hm
              cases hm
              rw [HLK.out] at hl; cases hl
            · exact HQ.out k m (by omega) hm hb hl)
          refine wp_region_det ?_
          repeat (go_big_quiet_step (fail))
          refine wpQuiet_nil ?_
          rintro _ ⟨qq, rfl⟩
          have hq := below_regrown wr qq.d qq.os
          clear gB7 gB12 gm0 gm1 gm2 gm3 gm4 gm5 gr4
          have B_1 := Lib.hid (B_0.out.later hq)
          have HB_1 := Lib.hid (HB_0.out.trans (hq.mono HB_0.out.size))
          clear B_0 HB_0 hq 
          generalize Sort.grow (redrawn wr qq.d) qq.os = w3 at B_1 HB_1 ⊢
          repeat (first | go_values | go_skip | go_guarded | go_step | go_upon | go_back)
          go_roundw
          case rel => exact ⟨j + 1, by omega, by go_num, HQ2, B_1, HB_1⟩
          case measure => simp [intOf]; omega
        cases m5
        rotate_left
        · skip
          have HQ2 : Hid (∀ k m, k < j + 1 → M[k]? = some m → 0 < m.2.1 → locksM m = true → ho = (k : Int)) := Lib.hid (fun k m hk hm hb hl => by
            by_cases e : k = j
            · subst e
              rw [HXm.out] at hm
              cases hm
              rw [HLK.out] at hl; cases hl
            · exact HQ.out k m (by omega) hm hb hl)
          refine wp_region_det ?_
          repeat (go_big_quiet_step (fail))
          refine wpQuiet_nil ?_
          rintro _ ⟨qq, rfl⟩
          have hq := below_regrown wr qq.d qq.os
          clear gB7 gB12 gm0 gm1 gm2 gm3 gm4 gm5 gr4
          have B_1 := Lib.hid (B_0.out.later hq)
          have HB_1 := Lib.hid (HB_0.out.trans (hq.mono HB_0.out.size))
          clear B_0 HB_0 hq 
          generalize Sort.grow (redrawn wr qq.d) qq.os = w3 at B_1 HB_1 ⊢
          repeat (first | go_values | go_skip | go_guarded | go_step | go_upon | go_back)
          go_roundw
          case rel => exact ⟨j + 1, by omega, by go_num, HQ2, B_1, HB_1⟩
          case measure => simp [intOf]; omega
        by_cases hh : ho = (j : Int)
        · have hh2 : (ho != (j : Int)) = false := by simp [hh]
          have HHJ := Lib.hid hh
          clear hh
          have HQ2 : Hid (∀ k m, k < j + 1 → M[k]? = some m → 0 < m.2.1 → locksM m = true → ho = (k : Int)) := Lib.hid (fun k m hk hm hb hl => by
            by_cases e : k = j
            · subst e
              rw [HXm.out] at hm
              cases hm
              exact HHJ.out
            · exact HQ.out k m (by omega) hm hb hl)
          refine wp_region_det ?_
          repeat (go_big_quiet_step (fail))
          refine wpQuiet_nil ?_
          rintro _ ⟨qq, rfl⟩
          have hq := below_regrown wr qq.d qq.os
          clear gB7 gB12 gm0 gm1 gm2 gm3 gm4 gm5 gr4
          have B_1 := Lib.hid (B_0.out.later hq)
          have HB_1 := Lib.hid (HB_0.out.trans (hq.mono HB_0.out.size))
          clear B_0 HB_0 hq 
          generalize Sort.grow (redrawn wr qq.d) qq.os = w3 at B_1 HB_1 ⊢
          repeat (first | go_values | go_skip | go_guarded | go_step | go_upon | go_back)
          go_roundw
          case rel => exact ⟨j + 1, by omega, by go_num, HQ2, B_1, HB_1⟩
          case measure => simp [intOf]; omega
        have hh2 : (ho != (j : Int)) = true := by simp [hh]
        have hf : R = false := by rw [← HR.out]; exact tt_no (fun h => hh (h.2 j _ HXm.out HB2.out HLK.out))
        subst hf
        clear hh
        refine wp_region_det ?_
        repeat (go_big_quiet_step (fail))
        refine wpQuiet_nil ?_
        rintro _ ⟨qq, rfl⟩
        have hq := below_regrown wr qq.d qq.os
        clear gB7 gB12 gm0 gm1 gm2 gm3 gm4 gm5 gr4
        have B_1 := Lib.hid (B_0.out.later hq)
        have HB_1 := Lib.hid (HB_0.out.trans (hq.mono HB_0.out.size))
        clear B_0 HB_0 hq 
        repeat (first | go_values | go_skip | go_guarded | go_step | go_upon | go_back)
        go_ret
        exact ⟨rfl, HB_1.out⟩
    · obtain rfl : j = nM := by omega
      have HLP : Hid (LockP M ho) := Lib.hid (fun k m hm hb hl => HQ.out k m (by have := (List.getElem?_eq_some_iff.1 hm).1; rw [HV.out.nM] at this; exact this) hm hb hl)
      clear HQ hlt hj
      have g7 := B_0.out.cell 7 _ HV.out.c7
      have g12 := B_0.out.cell 12 _ HV.out.c12
      have g13 := B_0.out.cell 13 _ HV.out.c13
      by_cases h0 : ho = -1
      · subst h0
        by_cases h1 : he = 0
        · subst h1
          have hf : R = true := by rw [← HR.out]; exact tt_yes ⟨.inl ⟨rfl, rfl⟩, HLP.out⟩
          subst hf
          repeat (first | go_values | go_skip | go_guarded | go_step | go_upon | go_back)
          go_ret
          exact ⟨rfl, HB_0.out⟩
        have h2 : (he == 0) = false := by simp [h1]
        have h3 : decide (he = 0) = false := by simp [h1]
        have hf : R = false := by
          rw [← HR.out]
          refine tt_no (fun h => ?_)
          rcases h.1 with g | ⟨_, k, m, g, _⟩
          · exact h1 g.2
          · omega
        subst hf
        repeat (first | go_values | go_skip | go_guarded | go_step | go_upon | go_back)
        go_ret
        exact ⟨rfl, HB_0.out⟩
      have h2 : (ho == -1) = false := by simp [h0]
      have h3 : decide (ho = -1) = false := by simp [h0]
      have H0 := Lib.hid h0
      clear h0
      go_upto_region 8 with fail
      clear g7 g12 g13
      have gB5 := fun d os => cell_regrown (B_0.out.cell 5 _ HV.out.c5) d os
      have gB7 := fun d os => cell_regrown (B_0.out.cell 7 _ HV.out.c7) d os
      have gB12 := fun d os => cell_regrown (B_0.out.cell 12 _ HV.out.c12) d os
      have gB13 := fun d os => cell_regrown (B_0.out.cell 13 _ HV.out.c13) d os
      obtain ⟨c1, hc1⟩ : ∃ c, inB ho 0 ((j : Int) - 1) = c := ⟨_, rfl⟩
      have C1 := Lib.hid hc1
      clear hc1
      obtain ⟨c3, hc3⟩ : ∃ c, inB he 0 lm = c := ⟨_, rfl⟩
      have C3 := Lib.hid hc3
      clear hc3
      cases c1
      · skip
        have hf : R = false := by
          rw [← HR.out]
          refine tt_no (fun h => ?_)
          rcases h.1 with g | ⟨g0, k, m, g1, g2, g3, g4⟩
          · exact absurd g.1 H0.out
          · have h5 := (List.getElem?_eq_some_iff.1 g2).1
            rw [HV.out.nM] at h5
            have h6 : inB ho 0 ((j : Int) - 1) = true := inB_iff.2 (by omega)
            rw [C1.out] at h6; cases h6
        subst hf
        refine wp_region_det ?_
        repeat (go_big_quiet_step (first
          | (go_at_call 19; exact Calls.regrown_of (l1In_isC C1.out _))))
        refine wpQuiet_nil ?_
        rintro _ ⟨qq, rfl⟩
        have hq := below_regrown wr qq.d qq.os
        clear gB5 gB7 gB12 gB13
        have B_1 := Lib.hid (B_0.out.later hq)
        have HB_1 := Lib.hid (HB_0.out.trans (hq.mono HB_0.out.size))
        clear B_0 HB_0 hq 
        repeat (first | go_values | go_skip | go_guarded | go_step | go_upon | go_back)
        go_ret
        exact ⟨rfl, HB_1.out⟩
      cases c3
      · skip
        have hf : R = false := by
          rw [← HR.out]
          refine tt_no (fun h => ?_)
          rcases h.1 with g | ⟨g0, k, m, g1, g2, g3, g4⟩
          · exact absurd g.1 H0.out
          · have h6 := inB_iff.2 g0; rw [C3.out] at h6; cases h6
        subst hf
        refine wp_region_det ?_
        repeat (go_big_quiet_step (first
          | (go_at_call 19; with_reducible exact Calls.regrown_of (l1In_isC C1.out _))
          | (go_at_call 19; with_reducible exact Calls.regrown_of (l1In_isC C3.out _))))
        refine wpQuiet_nil ?_
        rintro _ ⟨qq, rfl⟩
        have hq := below_regrown wr qq.d qq.os
        clear gB5 gB7 gB12 gB13
        have B_1 := Lib.hid (B_0.out.later hq)
        have HB_1 := Lib.hid (HB_0.out.trans (hq.mono HB_0.out.size))
        clear B_0 HB_0 hq 
        repeat (first | go_values | go_skip | go_guarded | go_step | go_upon | go_back)
        go_ret
        exact ⟨rfl, HB_1.out⟩
      refine wp_region_det ?_
      repeat (go_big_quiet_step (first
        | (go_at_call 19; with_reducible exact Calls.regrown_of (l1In_isC C1.out _))
        | (go_at_call 19; with_reducible exact Calls.regrown_of (l1In_isC C3.out _))))
      refine wpQuiet_nil ?_
      rintro _ ⟨qq, rfl⟩
      have hq := below_regrown wr qq.d qq.os
      clear gB5 gB7 gB12 gB13
      have B_1 := Lib.hid (B_0.out.later hq)
      have HB_1 := Lib.hid (HB_0.out.trans (hq.mono HB_0.out.size))
      clear B_0 HB_0 hq 
      generalize Sort.grow (redrawn wr qq.d) qq.os = w3 at B_1 HB_1 ⊢
      have hi := inB_iff.1 C1.out
      obtain ⟨k, hk⟩ : ∃ k : Nat, ho = (k : Int) := ⟨ho.toNat, by omega⟩
      subst hk
      have hkn : k < j := by omega
      clear hi
      obtain ⟨m, hxm⟩ := get_of (l := M) (i := k) (by rw [HV.out.nM]; exact hkn)
      have HXm := Lib.hid hxm
      obtain ⟨bm, om, _, esm, em, _, _, ltm, cm, rm⟩ := row_rd HV.out.rM hxm
      simp at em
      obtain ⟨rfl, -, rfl⟩ := em
      obtain ⟨m0, m1, m2, m3, m4, m5⟩ := m
      have Rm := Lib.hid rm
      obtain ⟨am, pm, rfl, _⟩ := mst_form rm
      have Em0 := Lib.hid (show w.cell? ⟨bm, om + k * 6, none⟩ = some (.slice am m0.length pm) from cm 0 _ rfl)
      have Em1 := Lib.hid (show w.cell? ⟨bm, om + k * 6 + 1, none⟩ = some (.int .i64 m1) from cm 1 _ rfl)
      have Em2 := Lib.hid (show w.cell? ⟨bm, om + k * 6 + 2, none⟩ = some (.int .i64 m2) from cm 2 _ rfl)
      have Em3 := Lib.hid (show w.cell? ⟨bm, om + k * 6 + 3, none⟩ = some (.int .i64 m3) from cm 3 _ rfl)
      have Em4 := Lib.hid (show w.cell? ⟨bm, om + k * 6 + 4, none⟩ = some (.bool m4) from cm 4 _ rfl)
      have Em5 := Lib.hid (show w.cell? ⟨bm, om + k * 6 + 5, none⟩ = some (.bool m5) from cm 5 _ rfl)
      have LTm := Lib.hid ltm
      clear hxm cm rm ltm
      obtain ⟨s, hxs⟩ := get_of (l := sp) (i := k) (by rw [HV.out.nsp]; exact hkn)
      obtain ⟨bs, os, es, lts, cs⟩ := ints_el HV.out.rsp hxs
      obtain rfl := es
      have HXs := Lib.hid hxs
      have Es0 := Lib.hid cs
      have LTs := Lib.hid lts
      clear hxs cs lts
      have hin : (0 : Int) ≤ (k : Int) ∧ (k : Int) < ((j : Nat) : Int) := by omega
      have g7 := B_1.out.cell 7 _ HV.out.c7
      have g12 := B_1.out.cell 12 _ HV.out.c12
      have hm0 := ((bel_cells HB_1.out LTm.out _).trans Em0.out)
      have hm1 := ((bel_cells HB_1.out LTm.out _).trans Em1.out)
      have hm2 := ((bel_cells HB_1.out LTm.out _).trans Em2.out)
      have hm3 := ((bel_cells HB_1.out LTm.out _).trans Em3.out)
      have hm4 := ((bel_cells HB_1.out LTm.out _).trans Em4.out)
      have hm5 := ((bel_cells HB_1.out LTm.out _).trans Em5.out)
      clear h2 h3
      have h2 : ((k : Int) == -1) = false := by first | (simp; done) | (simp; omega)
      have hba := (Below.refl w3.heap.size w3).alloc (Nat.le_refl _) (Obj.cells #[.slice am m0.length pm, .int .i64 m1, .int .i64 m2, .int .i64 m3, .bool m4, .bool m5] 70)
      have B_5 := Lib.hid (B_1.out.later hba)
      have HB_5 := Lib.hid (HB_1.out.trans (hba.mono HB_1.out.size))
      have X_5 := Lib.hid (Bx.new 70 #[.slice am m0.length pm, .int .i64 m1, .int .i64 m2, .int .i64 m3, .bool m4, .bool m5] w3)
      clear hba
      go_upto_region 11 with fail
      clear hm0 hm1 hm2 hm3 hm4 hm5 g7 g12 B_1 HB_1
      generalize w3.alloc (Obj.cells #[.slice am m0.length pm, .int .i64 m1, .int .i64 m2, .int .i64 m3, .bool m4, .bool m5] 70) = w4 at B_5 HB_5 X_5 ⊢
      have gB11 := fun d os => cell_regrown (B_5.out.cell 11 _ HV.out.c11) d os
      have gB12 := fun d os => cell_regrown (B_5.out.cell 12 _ HV.out.c12) d os
      have gX0 := fun d os => cell_regrown (X_5.out.cell 0 _ rfl) d os
      have gX1 := fun d os => cell_regrown (X_5.out.cell 1 _ rfl) d os
      have gX2 := fun d os => cell_regrown (X_5.out.cell 2 _ rfl) d os
      have gX3 := fun d os => cell_regrown (X_5.out.cell 3 _ rfl) d os
      have gX4 := fun d os => cell_regrown (X_5.out.cell 4 _ rfl) d os
      have gX5 := fun d os => cell_regrown (X_5.out.cell 5 _ rfl) d os
      have gs0 := fun d os => cell_regrown ((bel_cells HB_5.out LTs.out _).trans Es0.out) d os
      cases m0 with
      | nil =>
        have hf : R = false := by
          rw [← HR.out]
          refine tt_no (fun h => ?_)
          rcases h.1 with g | ⟨g0, k2, m, g1, g2, g3, g4⟩
          · exact absurd g.1 H0.out
          · obtain rfl : k = k2 := by omega
            rw [HXm.out] at g2
            rw [HXs.out] at g3
            cases g2
            cases g4
        subst hf
        refine wp_region_det ?_
        repeat (go_big_quiet_step (fail))
        refine wpQuiet_nil ?_
        rintro _ ⟨qq, rfl⟩
        have hq := below_regrown w4 qq.d qq.os
        clear gB11 gB12 gX0 gX1 gX2 gX3 gX4 gX5 gs0
        have B_6 := Lib.hid (B_5.out.later hq)
        have HB_6 := Lib.hid (HB_5.out.trans (hq.mono HB_5.out.size))
        clear B_5 HB_5 hq 
        repeat (first | go_values | go_skip | go_guarded | go_step | go_upon | go_back)
        go_ret
        exact ⟨rfl, HB_6.out⟩
      | cons r qs =>
        obtain ⟨am2, pm2, e2, hr2⟩ := mst_form Rm.out
        simp at e2
        obtain ⟨rfl, rfl⟩ := e2
        obtain ⟨br_, or_, _, er_, e3, _, _, ltr, cr_, rr_⟩ := row_rd hr2 (i := 0) (x := r) rfl
        simp at e3
        obtain ⟨rfl, -⟩ := e3
        obtain ⟨r0, r1, r2, r3, r4, r5⟩ := r
        obtain ⟨ar_, pr_, rfl, _⟩ := rd_req rr_
        have k4 : w.cell? ⟨br_, or_ + 0 * 6 + 4, none⟩ = some (.bool r4) := cr_ 4 _ rfl
        rw [Nat.zero_mul, Nat.add_zero] at k4
        have gr4 := fun d os => cell_regrown ((bel_cells HB_5.out ltr _).trans k4) d os
        obtain ⟨nq, hnq⟩ : ∃ n, ((r0, r1, r2, r3, r4, r5) :: qs : List ReqX).length = n := ⟨_, rfl⟩
        have hnq0 : 0 < nq := by rw [← hnq]; simp
        rw [hnq] at gX0
        have hnqi : (0 : Int) < (nq : Int) := by omega
        have hnqb : decide ((0 : Int) < (nq : Int)) = true := decide_eq_true hnqi
        have HLK : Hid (locksM ((r0, r1, r2, r3, r4, r5) :: qs, m1, m2, m3, m4, m5) = (r4 && !m5)) := Lib.hid rfl
        clear hr2 cr_ rr_ k4 hnq X_5
        cases r4
        · skip
          have hf : R = false := by
            rw [← HR.out]
            refine tt_no (fun h => ?_)
            rcases h.1 with g | ⟨g0, k2, m, g1, g2, g3, g4⟩
            · exact absurd g.1 H0.out
            · obtain rfl : k = k2 := by omega
              rw [HXm.out] at g2
              rw [HXs.out] at g3
              cases g2
              rw [HLK.out] at g4; cases g4
          subst hf
          refine wp_region_det ?_
          repeat (go_big_quiet_step (fail))
          refine wpQuiet_nil ?_
          rintro _ ⟨qq, rfl⟩
          have hq := below_regrown w4 qq.d qq.os
          clear gB11 gB12 gX0 gX1 gX2 gX3 gX4 gX5 gs0 gr4
          have B_6 := Lib.hid (B_5.out.later hq)
          have HB_6 := Lib.hid (HB_5.out.trans (hq.mono HB_5.out.size))
          clear B_5 HB_5 hq 
          repeat (first | go_values | go_skip | go_guarded | go_step | go_upon | go_back)
          go_ret
          exact ⟨rfl, HB_6.out⟩
        cases m5
        rotate_left
        · skip
          have hf : R = false := by
            rw [← HR.out]
            refine tt_no (fun h => ?_)
            rcases h.1 with g | ⟨g0, k2, m, g1, g2, g3, g4⟩
            · exact absurd g.1 H0.out
            · obtain rfl : k = k2 := by omega
              rw [HXm.out] at g2
              rw [HXs.out] at g3
              cases g2
              rw [HLK.out] at g4; cases g4
          subst hf
          refine wp_region_det ?_
          repeat (go_big_quiet_step (fail))
          refine wpQuiet_nil ?_
          rintro _ ⟨qq, rfl⟩
          have hq := below_regrown w4 qq.d qq.os
          clear gB11 gB12 gX0 gX1 gX2 gX3 gX4 gX5 gs0 gr4
          have B_6 := Lib.hid (B_5.out.later hq)
          have HB_6 := Lib.hid (HB_5.out.trans (hq.mono HB_5.out.size))
          clear B_5 HB_5 hq 
          repeat (first | go_values | go_skip | go_guarded | go_step | go_upon | go_back)
          go_ret
          exact ⟨rfl, HB_6.out⟩
        by_cases hs : s = 0
        · subst hs
          have hf : R = true := by
            rw [← HR.out]
            exact tt_yes ⟨.inr ⟨inB_iff.1 C3.out, k, _, rfl, HXm.out, HXs.out, HLK.out⟩, HLP.out⟩
          subst hf
          refine wp_region_det ?_
          repeat (go_big_quiet_step (fail))
          refine wpQuiet_nil ?_
          rintro _ ⟨qq, rfl⟩
          have hq := below_regrown w4 qq.d qq.os
          clear gB11 gB12 gX0 gX1 gX2 gX3 gX4 gX5 gs0 gr4
          have B_6 := Lib.hid (B_5.out.later hq)
          have HB_6 := Lib.hid (HB_5.out.trans (hq.mono HB_5.out.size))
          clear B_5 HB_5 hq 
          repeat (first | go_values | go_skip | go_guarded | go_step | go_upon | go_back)
          go_ret
          exact ⟨rfl, HB_6.out⟩
        have hs2 : (s == 0) = false := by simp [hs]
        have HS := Lib.hid hs
        clear hs
        have hf : R = false := by
          rw [← HR.out]
          refine tt_no (fun h => ?_)
          rcases h.1 with g | ⟨g0, k2, m, g1, g2, g3, g4⟩
          · exact absurd g.1 H0.out
          · obtain rfl : k = k2 := by omega
            rw [HXm.out] at g2
            rw [HXs.out] at g3
            cases g2
            cases g3
            exact HS.out rfl
        subst hf
        refine wp_region_det ?_
        repeat (go_big_quiet_step (fail))
        refine wpQuiet_nil ?_
        rintro _ ⟨qq, rfl⟩
        have hq := below_regrown w4 qq.d qq.os
        clear gB11 gB12 gX0 gX1 gX2 gX3 gX4 gX5 gs0 gr4
        have B_6 := Lib.hid (B_5.out.later hq)
        have HB_6 := Lib.hid (HB_5.out.trans (hq.mono HB_5.out.size))
        clear B_5 HB_5 hq 
        repeat (first | go_values | go_skip | go_guarded | go_step | go_upon | go_back)
        go_ret
        exact ⟨rfl, HB_6.out⟩

end Go.Proofs.YtdhaelaoackfkaaGreat.KD
