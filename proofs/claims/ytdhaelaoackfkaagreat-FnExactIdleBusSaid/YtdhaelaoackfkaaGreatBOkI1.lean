
/-
  The parts of the whole bus: partsOk of the program. (Made by wip/gbus.py.)
-/
import Derived.Test.YtdhaelaoackfkaaGreatBOk0
import Derived.Test.YtdhaelaoackfkaaGreatQDet
import Derived.Test.YtdhaelaoackfkaaGreatWrrI1
import Derived.Test.YtdhaelaoackfkaaGreatIsM
import Derived.Deep.Cut
namespace Go.Proofs.YtdhaelaoackfkaaGreat.KD
open Go.RowKit Rows3 GR Num
set_option linter.unusedVariables false
theorem below_rg {w y : World} (h : Below w.heap.size w y) (d : Nat) (os : Array Obj) : Below w.heap.size w (Sort.grow (redrawn y d) os) := h.trans ((below_regrown y d os).mono h.size)
theorem iWrrIs {ws : List Value} {a c : Int} {b : Bool} {w0 : World} {cs : List Value} {l : List (Int × Bool × Int × Int)} {q mw mr ms lm : Int} (hb : okWr a c (l, q, mw, mr, ms, lm) = b) (hw : wrrK.rd ws (a, c) w0) (hl : l.length ≤ 2000000) (w : World) (h : confK.rd cs (l, q, mw, mr, ms, lm) w) :
    Calls Tryz.prog 70 #[agg ws, agg cs] w fun e w' => e = .returned (.bool b) ∧ Below w.heap.size w w' := hb ▸ implWrrOk ws a c hw cs l q mw mr ms lm hl w h
theorem iModelIs {cs : List Value} {l r : List Int} {t : Int} {f : List Int} {b : Bool} (hb : okM l r t f = b) (hl : l.length ≤ 2000000) (hr : r.length ≤ 2000000) (hf : f.length ≤ 2000000) (w : World) (h : modelK.rd cs (l, (r, t, f)) w) :
    Calls Tryz.prog 72 #[agg cs] w fun e w' => e = .returned (.bool b) ∧ Below w.heap.size w w' := hb ▸ implModelOk cs l r t f hl hr hf w h
set_option maxHeartbeats 16000000 in
set_option maxRecDepth 100000 in
theorem implParts (arr : Array Value) (l : List (Int × Bool × Int × Int)) (qu : Int) (mw : Int) (mr : Int) (ms : Int) (lm : Int) (now : Int) (M : List (List (Bool × Int × Int × Int × Bool × List Int) × Int × Int × Int × Bool × Bool)) (tu : Int) (cr : Int) (bk : List (Int × Int)) (sp : List Int) (ho : Int) (he : Int) (la : Int) (av : Bool) (aw : Int) (ab : Int) (af : Bool) (ay : Int) (al : Int) (ar : Int) (az : Bool) (dv : Bool) (dw : Int) (db : Int) (df : Bool) (dy : Int) (dl : Int) (dr : Int) (dz : Bool) (mem : List Int) (rg : List Int) (ti : Int) (ff : List Int) (pk : Int) (lg : List (Int × Int × Bool × Int × Int × Int × Int)) (Al : Option Addr) (Pl : Nat) (AM : Option Addr) (PM : Nat) (Abk : Option Addr) (Pbk : Nat) (Asp : Option Addr) (Psp : Nat) (Amem : Option Addr) (Pmem : Nat) (Arg : Option Addr) (Prg : Nat) (Aff : Option Addr) (Pff : Nat) (Alg : Option Addr) (Plg : Nat) (nl nM nb ns ng : Nat) (w : World) (v : BV arr l qu mw mr ms lm now M tu cr bk sp ho he la av aw ab af ay al ar az dv dw db df dy dl dr dz mem rg ti ff pk lg Al Pl AM PM Abk Pbk Asp Psp Amem Pmem Arg Prg Aff Pff Alg Plg nl nM nb ns ng w) (z : BZ 0 l M bk sp mem rg ff lg) :
    Calls Tryz.prog 36 #[.agg arr] w fun e w' => e = .returned (.bool (tt (PartsP l qu mw mr ms lm now tu cr la pk mem rg ti ff))) ∧ Below w.heap.size w w' := by
  have HV := Lib.hid v
  have HZ := Lib.hid z
  clear v z
  obtain ⟨R, hR0⟩ : ∃ R, (tt (PartsP l qu mw mr ms lm now tu cr la pk mem rg ti ff)) = R := ⟨_, rfl⟩
  rw [hR0]
  have HR := Lib.hid hR0
  clear hR0
  have B := Bx.new 53 arr w
  have hb0 := (Below.refl w.heap.size w).alloc (Nat.le_refl _) (Obj.cells arr 53)
  obtain ⟨y0, hy0⟩ : ∃ y, w.alloc (Obj.cells arr 53) = y := ⟨_, rfl⟩
  rw [hy0] at B hb0
  have B_0 := Lib.hid B
  have HB_0 := Lib.hid hb0
  clear B hb0
  go_enter Tryz.func36, Tryz.ntmps36
  go_upto_region 1 with fail
  try dsimp only [List.append]
  clear hy0
  have hnl : nl ≤ 2000000 := by rw [← HV.out.nl]; exact HZ.out.zl
  have gB0 := fun d os => cell_regrown (B_0.out.cell 0 _ HV.out.c0) d os
  have gB1 := fun d os => cell_regrown (B_0.out.cell 1 _ HV.out.c1) d os
  have gB2 := fun d os => cell_regrown (B_0.out.cell 2 _ HV.out.c2) d os
  have gB3 := fun d os => cell_regrown (B_0.out.cell 3 _ HV.out.c3) d os
  have gB4 := fun d os => cell_regrown (B_0.out.cell 4 _ HV.out.c4) d os
  have gB5 := fun d os => cell_regrown (B_0.out.cell 5 _ HV.out.c5) d os
  have gB6 := fun d os => cell_regrown (B_0.out.cell 6 _ HV.out.c6) d os
  have gB8 := fun d os => cell_regrown (B_0.out.cell 8 _ HV.out.c8) d os
  have gB9 := fun d os => cell_regrown (B_0.out.cell 9 _ HV.out.c9) d os
  have gB14 := fun d os => cell_regrown (B_0.out.cell 14 _ HV.out.c14) d os
  have gB31 := fun d os => cell_regrown (B_0.out.cell 31 _ HV.out.c31) d os
  have gB32 := fun d os => cell_regrown (B_0.out.cell 32 _ HV.out.c32) d os
  have gB33 := fun d os => cell_regrown (B_0.out.cell 33 _ HV.out.c33) d os
  have gB34 := fun d os => cell_regrown (B_0.out.cell 34 _ HV.out.c34) d os
  have gB35 := fun d os => cell_regrown (B_0.out.cell 35 _ HV.out.c35) d os
  obtain ⟨c1, hc1⟩ : ∃ c, okX (l, qu, mw, mr, ms, lm) = c := ⟨_, rfl⟩
  have C1 := Lib.hid hc1
  clear hc1
  obtain ⟨c2, hc2⟩ : ∃ c, inB now 0 4000 = c := ⟨_, rfl⟩
  have C2 := Lib.hid hc2
  clear hc2
  obtain ⟨c3, hc3⟩ : ∃ c, okWr tu cr (l, qu, mw, mr, ms, lm) = c := ⟨_, rfl⟩
  have C3 := Lib.hid hc3
  clear hc3
  obtain ⟨c4, hc4⟩ : ∃ c, inB la 0 ((nl : Int) - 1) = c := ⟨_, rfl⟩
  have C4 := Lib.hid hc4
  clear hc4
  obtain ⟨c5, hc5⟩ : ∃ c, okM mem rg ti ff = c := ⟨_, rfl⟩
  have C5 := Lib.hid hc5
  clear hc5
  obtain ⟨c6, hc6⟩ : ∃ c, inB pk 0 now = c := ⟨_, rfl⟩
  have C6 := Lib.hid hc6
  clear hc6
  cases c1
  · skip
    have hf : R = false := by
      rw [← HR.out]
      exact tt_no (fun h => by have h2 := h.1; rw [C1.out] at h2; cases h2)
    subst hf
    refine wp_region_det ?_
    repeat (go_big_quiet_step (first
      | (go_at_call 68; exact Calls.regrown_of (iConfIs C1.out HZ.out.zl (conf_rd (mConfS.rd_later HV.out.rl (below_rg HB_0.out _ _)))))
      | (go_at_call 69; with_reducible exact Calls.regrown_of (within_isC C2.out _))
      | (go_at_call 69; with_reducible exact Calls.regrown_of (within_isC C6.out _))
      | (go_at_call 70; exact Calls.regrown_of (iWrrIs (w0 := w) (ws := [.int .i64 tu, .int .i64 cr]) C3.out wrr_rd HZ.out.zl _ (conf_rd (mConfS.rd_later HV.out.rl (below_rg HB_0.out _ _)))))
      | (go_at_call 71; exact Calls.regrown_of (isMaster_is C4.out hnl _ _ _ _ _ _ _ _))
      | (go_at_call 72; exact Calls.regrown_of (iModelIs C5.out HZ.out.zm HZ.out.zr HZ.out.zf _ (model_rd (ints.rd_later HV.out.rmem (below_rg HB_0.out _ _)) (ints.rd_later HV.out.rrg (below_rg HB_0.out _ _)) (ints.rd_later HV.out.rff (below_rg HB_0.out _ _)))))))
    refine wpQuiet_nil ?_
    rintro _ ⟨qq, rfl⟩
    have hq := below_regrown y0 qq.d qq.os
    clear gB0 gB1 gB2 gB3 gB4 gB5 gB6 gB8 gB9 gB14 gB31 gB32 gB33 gB34 gB35
    have B_1 := Lib.hid (B_0.out.later hq)
    have HB_1 := Lib.hid (HB_0.out.trans (hq.mono HB_0.out.size))
    clear B_0 HB_0 hq 
    repeat (first | go_values | go_skip | go_guarded | go_step | go_upon | go_back)
    go_ret
    exact ⟨rfl, HB_1.out⟩
  cases c2
  · skip
    have hf : R = false := by
      rw [← HR.out]
      exact tt_no (fun h => by have h2 := inB_iff.2 h.2.1; rw [C2.out] at h2; cases h2)
    subst hf
    refine wp_region_det ?_
    repeat (go_big_quiet_step (first
      | (go_at_call 68; exact Calls.regrown_of (iConfIs C1.out HZ.out.zl (conf_rd (mConfS.rd_later HV.out.rl (below_rg HB_0.out _ _)))))
      | (go_at_call 69; with_reducible exact Calls.regrown_of (within_isC C2.out _))
      | (go_at_call 69; with_reducible exact Calls.regrown_of (within_isC C6.out _))
      | (go_at_call 70; exact Calls.regrown_of (iWrrIs (w0 := w) (ws := [.int .i64 tu, .int .i64 cr]) C3.out wrr_rd HZ.out.zl _ (conf_rd (mConfS.rd_later HV.out.rl (below_rg HB_0.out _ _)))))
      | (go_at_call 71; exact Calls.regrown_of (isMaster_is C4.out hnl _ _ _ _ _ _ _ _))
      | (go_at_call 72; exact Calls.regrown_of (iModelIs C5.out HZ.out.zm HZ.out.zr HZ.out.zf _ (model_rd (ints.rd_later HV.out.rmem (below_rg HB_0.out _ _)) (ints.rd_later HV.out.rrg (below_rg HB_0.out _ _)) (ints.rd_later HV.out.rff (below_rg HB_0.out _ _)))))))
    refine wpQuiet_nil ?_
    rintro _ ⟨qq, rfl⟩
    have hq := below_regrown y0 qq.d qq.os
    clear gB0 gB1 gB2 gB3 gB4 gB5 gB6 gB8 gB9 gB14 gB31 gB32 gB33 gB34 gB35
    have B_1 := Lib.hid (B_0.out.later hq)
    have HB_1 := Lib.hid (HB_0.out.trans (hq.mono HB_0.out.size))
    clear B_0 HB_0 hq 
    repeat (first | go_values | go_skip | go_guarded | go_step | go_upon | go_back)
    go_ret
    exact ⟨rfl, HB_1.out⟩
  cases c3
  · skip
    have hf : R = false := by
      rw [← HR.out]
      exact tt_no (fun h => by have h2 := h.2.2.1; rw [C3.out] at h2; cases h2)
    subst hf
    refine wp_region_det ?_
    repeat (go_big_quiet_step (first
      | (go_at_call 68; exact Calls.regrown_of (iConfIs C1.out HZ.out.zl (conf_rd (mConfS.rd_later HV.out.rl (below_rg HB_0.out _ _)))))
      | (go_at_call 69; with_reducible exact Calls.regrown_of (within_isC C2.out _))
      | (go_at_call 69; with_reducible exact Calls.regrown_of (within_isC C6.out _))
      | (go_at_call 70; exact Calls.regrown_of (iWrrIs (w0 := w) (ws := [.int .i64 tu, .int .i64 cr]) C3.out wrr_rd HZ.out.zl _ (conf_rd (mConfS.rd_later HV.out.rl (below_rg HB_0.out _ _)))))
      | (go_at_call 71; exact Calls.regrown_of (isMaster_is C4.out hnl _ _ _ _ _ _ _ _))
      | (go_at_call 72; exact Calls.regrown_of (iModelIs C5.out HZ.out.zm HZ.out.zr HZ.out.zf _ (model_rd (ints.rd_later HV.out.rmem (below_rg HB_0.out _ _)) (ints.rd_later HV.out.rrg (below_rg HB_0.out _ _)) (ints.rd_later HV.out.rff (below_rg HB_0.out _ _)))))))
    refine wpQuiet_nil ?_
    rintro _ ⟨qq, rfl⟩
    have hq := below_regrown y0 qq.d qq.os
    clear gB0 gB1 gB2 gB3 gB4 gB5 gB6 gB8 gB9 gB14 gB31 gB32 gB33 gB34 gB35
    have B_1 := Lib.hid (B_0.out.later hq)
    have HB_1 := Lib.hid (HB_0.out.trans (hq.mono HB_0.out.size))
    clear B_0 HB_0 hq 
    repeat (first | go_values | go_skip | go_guarded | go_step | go_upon | go_back)
    go_ret
    exact ⟨rfl, HB_1.out⟩
  by_cases hla : la = -1
  · subst hla
    cases c5
    · skip
      have hf : R = false := by
        rw [← HR.out]
        exact tt_no (fun h => by have h2 := h.2.2.2.2.1; rw [C5.out] at h2; cases h2)
      subst hf
      refine wp_region_det ?_
      repeat (go_big_quiet_step (first
        | (go_at_call 68; exact Calls.regrown_of (iConfIs C1.out HZ.out.zl (conf_rd (mConfS.rd_later HV.out.rl (below_rg HB_0.out _ _)))))
        | (go_at_call 69; with_reducible exact Calls.regrown_of (within_isC C2.out _))
        | (go_at_call 69; with_reducible exact Calls.regrown_of (within_isC C6.out _))
        | (go_at_call 70; exact Calls.regrown_of (iWrrIs (w0 := w) (ws := [.int .i64 tu, .int .i64 cr]) C3.out wrr_rd HZ.out.zl _ (conf_rd (mConfS.rd_later HV.out.rl (below_rg HB_0.out _ _)))))
        | (go_at_call 71; exact Calls.regrown_of (isMaster_is C4.out hnl _ _ _ _ _ _ _ _))
        | (go_at_call 72; exact Calls.regrown_of (iModelIs C5.out HZ.out.zm HZ.out.zr HZ.out.zf _ (model_rd (ints.rd_later HV.out.rmem (below_rg HB_0.out _ _)) (ints.rd_later HV.out.rrg (below_rg HB_0.out _ _)) (ints.rd_later HV.out.rff (below_rg HB_0.out _ _)))))))
      refine wpQuiet_nil ?_
      rintro _ ⟨qq, rfl⟩
      have hq := below_regrown y0 qq.d qq.os
      clear gB0 gB1 gB2 gB3 gB4 gB5 gB6 gB8 gB9 gB14 gB31 gB32 gB33 gB34 gB35
      have B_1 := Lib.hid (B_0.out.later hq)
      have HB_1 := Lib.hid (HB_0.out.trans (hq.mono HB_0.out.size))
      clear B_0 HB_0 hq 
      repeat (first | go_values | go_skip | go_guarded | go_step | go_upon | go_back)
      go_ret
      exact ⟨rfl, HB_1.out⟩
    cases c6
    · skip
      have hf : R = false := by
        rw [← HR.out]
        exact tt_no (fun h => by have h2 := inB_iff.2 h.2.2.2.2.2; rw [C6.out] at h2; cases h2)
      subst hf
      refine wp_region_det ?_
      repeat (go_big_quiet_step (first
        | (go_at_call 68; exact Calls.regrown_of (iConfIs C1.out HZ.out.zl (conf_rd (mConfS.rd_later HV.out.rl (below_rg HB_0.out _ _)))))
        | (go_at_call 69; with_reducible exact Calls.regrown_of (within_isC C2.out _))
        | (go_at_call 69; with_reducible exact Calls.regrown_of (within_isC C6.out _))
        | (go_at_call 70; exact Calls.regrown_of (iWrrIs (w0 := w) (ws := [.int .i64 tu, .int .i64 cr]) C3.out wrr_rd HZ.out.zl _ (conf_rd (mConfS.rd_later HV.out.rl (below_rg HB_0.out _ _)))))
        | (go_at_call 71; exact Calls.regrown_of (isMaster_is C4.out hnl _ _ _ _ _ _ _ _))
        | (go_at_call 72; exact Calls.regrown_of (iModelIs C5.out HZ.out.zm HZ.out.zr HZ.out.zf _ (model_rd (ints.rd_later HV.out.rmem (below_rg HB_0.out _ _)) (ints.rd_later HV.out.rrg (below_rg HB_0.out _ _)) (ints.rd_later HV.out.rff (below_rg HB_0.out _ _)))))))
      refine wpQuiet_nil ?_
      rintro _ ⟨qq, rfl⟩
      have hq := below_regrown y0 qq.d qq.os
      clear gB0 gB1 gB2 gB3 gB4 gB5 gB6 gB8 gB9 gB14 gB31 gB32 gB33 gB34 gB35
      have B_1 := Lib.hid (B_0.out.later hq)
      have HB_1 := Lib.hid (HB_0.out.trans (hq.mono HB_0.out.size))
      clear B_0 HB_0 hq 
      repeat (first | go_values | go_skip | go_guarded | go_step | go_upon | go_back)
      go_ret
      exact ⟨rfl, HB_1.out⟩
    have hf : R = true := by
      rw [← HR.out]
      exact tt_yes ⟨C1.out, inB_iff.1 C2.out, C3.out, (by have := HV.out.nl; omega), C5.out, inB_iff.1 C6.out⟩
    subst hf
    refine wp_region_det ?_
    repeat (go_big_quiet_step (first
      | (go_at_call 68; exact Calls.regrown_of (iConfIs C1.out HZ.out.zl (conf_rd (mConfS.rd_later HV.out.rl (below_rg HB_0.out _ _)))))
      | (go_at_call 69; with_reducible exact Calls.regrown_of (within_isC C2.out _))
      | (go_at_call 69; with_reducible exact Calls.regrown_of (within_isC C6.out _))
      | (go_at_call 70; exact Calls.regrown_of (iWrrIs (w0 := w) (ws := [.int .i64 tu, .int .i64 cr]) C3.out wrr_rd HZ.out.zl _ (conf_rd (mConfS.rd_later HV.out.rl (below_rg HB_0.out _ _)))))
      | (go_at_call 71; exact Calls.regrown_of (isMaster_is C4.out hnl _ _ _ _ _ _ _ _))
      | (go_at_call 72; exact Calls.regrown_of (iModelIs C5.out HZ.out.zm HZ.out.zr HZ.out.zf _ (model_rd (ints.rd_later HV.out.rmem (below_rg HB_0.out _ _)) (ints.rd_later HV.out.rrg (below_rg HB_0.out _ _)) (ints.rd_later HV.out.rff (below_rg HB_0.out _ _)))))))
    refine wpQuiet_nil ?_
    rintro _ ⟨qq, rfl⟩
    have hq := below_regrown y0 qq.d qq.os
    clear gB0 gB1 gB2 gB3 gB4 gB5 gB6 gB8 gB9 gB14 gB31 gB32 gB33 gB34 gB35
    have B_1 := Lib.hid (B_0.out.later hq)
    have HB_1 := Lib.hid (HB_0.out.trans (hq.mono HB_0.out.size))
    clear B_0 HB_0 hq 
    repeat (first | go_values | go_skip | go_guarded | go_step | go_upon | go_back)
    go_ret
    exact ⟨rfl, HB_1.out⟩
  have hla2 : (la == -1) = false := by simp [hla]
  have hla3 : decide (la = -1) = false := by simp [hla]
  cases c4
  · skip
    have hf : R = false := by
      rw [← HR.out]
      exact tt_no (fun h => by have h2 : inB la 0 ((nl : Int) - 1) = true := inB_iff.2 (by have := h.2.2.2.1; rw [HV.out.nl] at this; omega); rw [C4.out] at h2; cases h2)
    subst hf
    refine wp_region_det ?_
    repeat (go_big_quiet_step (first
      | (go_at_call 68; exact Calls.regrown_of (iConfIs C1.out HZ.out.zl (conf_rd (mConfS.rd_later HV.out.rl (below_rg HB_0.out _ _)))))
      | (go_at_call 69; with_reducible exact Calls.regrown_of (within_isC C2.out _))
      | (go_at_call 69; with_reducible exact Calls.regrown_of (within_isC C6.out _))
      | (go_at_call 70; exact Calls.regrown_of (iWrrIs (w0 := w) (ws := [.int .i64 tu, .int .i64 cr]) C3.out wrr_rd HZ.out.zl _ (conf_rd (mConfS.rd_later HV.out.rl (below_rg HB_0.out _ _)))))
      | (go_at_call 71; exact Calls.regrown_of (isMaster_is C4.out hnl _ _ _ _ _ _ _ _))
      | (go_at_call 72; exact Calls.regrown_of (iModelIs C5.out HZ.out.zm HZ.out.zr HZ.out.zf _ (model_rd (ints.rd_later HV.out.rmem (below_rg HB_0.out _ _)) (ints.rd_later HV.out.rrg (below_rg HB_0.out _ _)) (ints.rd_later HV.out.rff (below_rg HB_0.out _ _)))))))
    refine wpQuiet_nil ?_
    rintro _ ⟨qq, rfl⟩
    have hq := below_regrown y0 qq.d qq.os
    clear gB0 gB1 gB2 gB3 gB4 gB5 gB6 gB8 gB9 gB14 gB31 gB32 gB33 gB34 gB35
    have B_1 := Lib.hid (B_0.out.later hq)
    have HB_1 := Lib.hid (HB_0.out.trans (hq.mono HB_0.out.size))
    clear B_0 HB_0 hq 
    repeat (first | go_values | go_skip | go_guarded | go_step | go_upon | go_back)
    go_ret
    exact ⟨rfl, HB_1.out⟩
  cases c5
  · skip
    have hf : R = false := by
      rw [← HR.out]
      exact tt_no (fun h => by have h2 := h.2.2.2.2.1; rw [C5.out] at h2; cases h2)
    subst hf
    refine wp_region_det ?_
    repeat (go_big_quiet_step (first
      | (go_at_call 68; exact Calls.regrown_of (iConfIs C1.out HZ.out.zl (conf_rd (mConfS.rd_later HV.out.rl (below_rg HB_0.out _ _)))))
      | (go_at_call 69; with_reducible exact Calls.regrown_of (within_isC C2.out _))
      | (go_at_call 69; with_reducible exact Calls.regrown_of (within_isC C6.out _))
      | (go_at_call 70; exact Calls.regrown_of (iWrrIs (w0 := w) (ws := [.int .i64 tu, .int .i64 cr]) C3.out wrr_rd HZ.out.zl _ (conf_rd (mConfS.rd_later HV.out.rl (below_rg HB_0.out _ _)))))
      | (go_at_call 71; exact Calls.regrown_of (isMaster_is C4.out hnl _ _ _ _ _ _ _ _))
      | (go_at_call 72; exact Calls.regrown_of (iModelIs C5.out HZ.out.zm HZ.out.zr HZ.out.zf _ (model_rd (ints.rd_later HV.out.rmem (below_rg HB_0.out _ _)) (ints.rd_later HV.out.rrg (below_rg HB_0.out _ _)) (ints.rd_later HV.out.rff (below_rg HB_0.out _ _)))))))
    refine wpQuiet_nil ?_
    rintro _ ⟨qq, rfl⟩
    have hq := below_regrown y0 qq.d qq.os
    clear gB0 gB1 gB2 gB3 gB4 gB5 gB6 gB8 gB9 gB14 gB31 gB32 gB33 gB34 gB35
    have B_1 := Lib.hid (B_0.out.later hq)
    have HB_1 := Lib.hid (HB_0.out.trans (hq.mono HB_0.out.size))
    clear B_0 HB_0 hq 
    repeat (first | go_values | go_skip | go_guarded | go_step | go_upon | go_back)
    go_ret
    exact ⟨rfl, HB_1.out⟩
  cases c6
  · skip
    have hf : R = false := by
      rw [← HR.out]
      exact tt_no (fun h => by have h2 := inB_iff.2 h.2.2.2.2.2; rw [C6.out] at h2; cases h2)
    subst hf
    refine wp_region_det ?_
    repeat (go_big_quiet_step (first
      | (go_at_call 68; exact Calls.regrown_of (iConfIs C1.out HZ.out.zl (conf_rd (mConfS.rd_later HV.out.rl (below_rg HB_0.out _ _)))))
      | (go_at_call 69; with_reducible exact Calls.regrown_of (within_isC C2.out _))
      | (go_at_call 69; with_reducible exact Calls.regrown_of (within_isC C6.out _))
      | (go_at_call 70; exact Calls.regrown_of (iWrrIs (w0 := w) (ws := [.int .i64 tu, .int .i64 cr]) C3.out wrr_rd HZ.out.zl _ (conf_rd (mConfS.rd_later HV.out.rl (below_rg HB_0.out _ _)))))
      | (go_at_call 71; exact Calls.regrown_of (isMaster_is C4.out hnl _ _ _ _ _ _ _ _))
      | (go_at_call 72; exact Calls.regrown_of (iModelIs C5.out HZ.out.zm HZ.out.zr HZ.out.zf _ (model_rd (ints.rd_later HV.out.rmem (below_rg HB_0.out _ _)) (ints.rd_later HV.out.rrg (below_rg HB_0.out _ _)) (ints.rd_later HV.out.rff (below_rg HB_0.out _ _)))))))
    refine wpQuiet_nil ?_
    rintro _ ⟨qq, rfl⟩
    have hq := below_regrown y0 qq.d qq.os
    clear gB0 gB1 gB2 gB3 gB4 gB5 gB6 gB8 gB9 gB14 gB31 gB32 gB33 gB34 gB35
    have B_1 := Lib.hid (B_0.out.later hq)
    have HB_1 := Lib.hid (HB_0.out.trans (hq.mono HB_0.out.size))
    clear B_0 HB_0 hq 
    repeat (first | go_values | go_skip | go_guarded | go_step | go_upon | go_back)
    go_ret
    exact ⟨rfl, HB_1.out⟩
  have hf : R = true := by
    rw [← HR.out]
    exact tt_yes ⟨C1.out, inB_iff.1 C2.out, C3.out, (by have h4 := inB_iff.1 C4.out; have := HV.out.nl; omega), C5.out, inB_iff.1 C6.out⟩
  subst hf
  refine wp_region_det ?_
  repeat (go_big_quiet_step (first
    | (go_at_call 68; exact Calls.regrown_of (iConfIs C1.out HZ.out.zl (conf_rd (mConfS.rd_later HV.out.rl (below_rg HB_0.out _ _)))))
    | (go_at_call 69; with_reducible exact Calls.regrown_of (within_isC C2.out _))
    | (go_at_call 69; with_reducible exact Calls.regrown_of (within_isC C6.out _))
    | (go_at_call 70; exact Calls.regrown_of (iWrrIs (w0 := w) (ws := [.int .i64 tu, .int .i64 cr]) C3.out wrr_rd HZ.out.zl _ (conf_rd (mConfS.rd_later HV.out.rl (below_rg HB_0.out _ _)))))
    | (go_at_call 71; exact Calls.regrown_of (isMaster_is C4.out hnl _ _ _ _ _ _ _ _))
    | (go_at_call 72; exact Calls.regrown_of (iModelIs C5.out HZ.out.zm HZ.out.zr HZ.out.zf _ (model_rd (ints.rd_later HV.out.rmem (below_rg HB_0.out _ _)) (ints.rd_later HV.out.rrg (below_rg HB_0.out _ _)) (ints.rd_later HV.out.rff (below_rg HB_0.out _ _)))))))
  refine wpQuiet_nil ?_
  rintro _ ⟨qq, rfl⟩
  have hq := below_regrown y0 qq.d qq.os
  clear gB0 gB1 gB2 gB3 gB4 gB5 gB6 gB8 gB9 gB14 gB31 gB32 gB33 gB34 gB35
  have B_1 := Lib.hid (B_0.out.later hq)
  have HB_1 := Lib.hid (HB_0.out.trans (hq.mono HB_0.out.size))
  clear B_0 HB_0 hq 
  repeat (first | go_values | go_skip | go_guarded | go_step | go_upon | go_back)
  go_ret
  exact ⟨rfl, HB_1.out⟩

end Go.Proofs.YtdhaelaoackfkaaGreat.KD
