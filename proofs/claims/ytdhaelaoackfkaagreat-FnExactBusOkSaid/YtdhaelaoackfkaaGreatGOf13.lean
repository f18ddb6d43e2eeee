/-
  Several texts in one: BOkS4, BOkIa, BOkS5.
-/
import Derived.Test.YtdhaelaoackfkaaGreatGOb13
import Derived.Test.YtdhaelaoackfkaaGreatBOkS3
import Derived.Test.YtdhaelaoackfkaaGreatGOe13
namespace Go.Proofs.YtdhaelaoackfkaaGreat.KD
open Go.RowKit Rows3 GR Num
set_option linter.unusedVariables false
theorem sWrrIs {ws : List Value} {a c : Int} {b : Bool} {w0 : World} {cs : List Value} {l : List (Int × Bool × Int × Int)} {q mw mr ms lm : Int} (hb : okWr a c (l, q, mw, mr, ms, lm) = b) (hw : wrrK.rd ws (a, c) w0) (hl : l.length ≤ 2000000) (w : World) (h : confK.rd cs (l, q, mw, mr, ms, lm) w) :
    Calls Tryz.prog 20 #[agg ws, agg cs] w fun e w' => e = .returned (.bool b) ∧ Below w.heap.size w w' := hb ▸ specWrrOk ws a c hw cs l q mw mr ms lm hl w h
theorem sModelIs {cs : List Value} {l r : List Int} {t : Int} {f : List Int} {b : Bool} (hb : okM l r t f = b) (hl : l.length ≤ 2000000) (hr : r.length ≤ 2000000) (hf : f.length ≤ 2000000) (w : World) (h : modelK.rd cs (l, (r, t, f)) w) :
    Calls Tryz.prog 21 #[agg cs] w fun e w' => e = .returned (.bool b) ∧ Below w.heap.size w w' := hb ▸ specModelOk cs l r t f hl hr hf w h
theorem sMstIs {cs ds : List Value} {q : List ReqX} {be dn tr : Int} {pa br : Bool} {l : List (Int × Bool × Int × Int)} {qu mw mr ms lm : Int} {b : Bool} (hb : okMst q be dn tr pa br (l, qu, mw, mr, ms, lm) = b) (hs : mstK.sz (q, be, dn, tr, pa, br) ≤ 2000000) (hc : confK.sz (l, qu, mw, mr, ms, lm) ≤ 2000000) {w : World} (h : mstK.rd cs (q, be, dn, tr, pa, br) w) (h' : confK.rd ds (l, qu, mw, mr, ms, lm) w) :
    Calls Tryz.prog 22 #[agg cs, agg ds] w fun e w' => e = .returned (.bool b) ∧ Below w.heap.size w w' := hb ▸ specMstOk cs ds q be dn tr pa br l qu mw mr ms lm hs hc w h h'
theorem sBuckIs {wt : Int} {p : Bool} {ev cap t c : Int} {b : Bool} (hb : okB p ev cap t c = b) (hs : EvOk ev) (w : World) :
    Calls Tryz.prog 23 #[.agg #[.int .i64 t, .int .i64 c], .agg #[.int .i64 wt, .bool p, .int .i64 ev, .int .i64 cap]] w fun e w' => e = .returned (.bool b) ∧ Below w.heap.size w w' := hb ▸ specOkB wt p ev cap t c hs w
theorem ways_is {arr : Array Value} {l : List (Int × Bool × Int × Int)} {qu : Int} {mw : Int} {mr : Int} {ms : Int} {lm : Int} {now : Int} {M : List (List (Bool × Int × Int × Int × Bool × List Int) × Int × Int × Int × Bool × Bool)} {tu : Int} {cr : Int} {bk : List (Int × Int)} {sp : List Int} {ho : Int} {he : Int} {la : Int} {av : Bool} {aw : Int} {ab : Int} {af : Bool} {ay : Int} {al : Int} {ar : Int} {az : Bool} {dv : Bool} {dw : Int} {db : Int} {df : Bool} {dy : Int} {dl : Int} {dr : Int} {dz : Bool} {mem : List Int} {rg : List Int} {ti : Int} {ff : List Int} {pk : Int} {lg : List (Int × Int × Bool × Int × Int × Int × Int)} {Al : Option Addr} {Pl : Nat} {AM : Option Addr} {PM : Nat} {Abk : Option Addr} {Pbk : Nat} {Asp : Option Addr} {Psp : Nat} {Amem : Option Addr} {Pmem : Nat} {Arg : Option Addr} {Prg : Nat} {Aff : Option Addr} {Pff : Nat} {Alg : Option Addr} {Plg : Nat} {nl nM nb ns ng : Nat} {w y : World} {i x : Int} (hx : waysW av aw dv dw i = x) (v : BV arr l qu mw mr ms lm now M tu cr bk sp ho he la av aw ab af ay al ar az dv dw db df dy dl dr dz mem rg ti ff pk lg Al Pl AM PM Abk Pbk Asp Psp Amem Pmem Arg Prg Aff Pff Alg Plg nl nM nb ns ng w) (z : BZ 0 l M bk sp mem rg ff lg) (hb : Below w.heap.size w y) :
    Calls Tryz.prog 24 #[.agg arr, .int .i64 i] y fun e w' => e = .returned (.int .i64 x) ∧ Below y.heap.size y w' := hx ▸ specWays _ _ _ _ _ _ _ _ _ _ _ _ _ _ _ _ _ _ _ _ _ _ _ _ _ _ _ _ _ _ _ _ _ _ _ _ _ _ _ _ _ _ _ _ _ _ _ _ _ _ _ _ _ _ _ _ _ _ _ _ (v.later hb) z i
theorem msts_q {l : List (Int × Bool × Int × Int)} {qu mw mr ms lm : Int} {M : List MstX} {bk : List (Int × Int)} {sp : List Int} (hL : LensP l M bk sp) (hA : AllP l qu mw mr ms lm M bk sp) : MstsQ M := by
  intro i m hm hp
  have hi := (List.getElem?_eq_some_iff.1 hm).1
  obtain ⟨b, hb⟩ := GR.get_of (l := bk) (i := i) (by rw [hL.2.1, ← hL.1]; exact hi)
  obtain ⟨s, hs⟩ := GR.get_of (l := sp) (i := i) (by rw [hL.2.2, ← hL.1]; exact hi)
  obtain ⟨c, hc⟩ := GR.get_of (l := l) (i := i) (by rw [← hL.1]; exact hi)
  have h := (hA i m b s c hm hb hs hc).1
  intro e
  obtain ⟨q, be, dn, tr, pa, br⟩ := m
  dsimp only at e h hp
  subst e
  unfold okMst rightM at h
  simp at h
  omega
theorem sp_pos {l : List (Int × Bool × Int × Int)} {qu mw mr ms lm : Int} {M : List MstX} {bk : List (Int × Int)} {sp : List Int} (hL : LensP l M bk sp) (hA : AllP l qu mw mr ms lm M bk sp) : ∀ s ∈ sp, 0 ≤ s := by
  intro s hs
  obtain ⟨i, hi, e⟩ := List.mem_iff_getElem.1 hs
  have hs : sp[i]? = some s := by rw [List.getElem?_eq_getElem hi, e]
  obtain ⟨m, hm⟩ := GR.get_of (l := M) (i := i) (by rw [hL.1, ← hL.2.2]; exact hi)
  obtain ⟨b, hb⟩ := GR.get_of (l := bk) (i := i) (by rw [hL.2.1, ← hL.2.2]; exact hi)
  obtain ⟨c, hc⟩ := GR.get_of (l := l) (i := i) (by rw [← hL.2.2]; exact hi)
  exact (hA i m b s c hm hb hs hc).2.2.1
set_option maxHeartbeats 16000000 in
set_option maxRecDepth 100000 in
theorem specBusOkV (arr : Array Value) (l : List (Int × Bool × Int × Int)) (qu : Int) (mw : Int) (mr : Int) (ms : Int) (lm : Int) (now : Int) (M : List (List (Bool × Int × Int × Int × Bool × List Int) × Int × Int × Int × Bool × Bool)) (tu : Int) (cr : Int) (bk : List (Int × Int)) (sp : List Int) (ho : Int) (he : Int) (la : Int) (av : Bool) (aw : Int) (ab : Int) (af : Bool) (ay : Int) (al : Int) (ar : Int) (az : Bool) (dv : Bool) (dw : Int) (db : Int) (df : Bool) (dy : Int) (dl : Int) (dr : Int) (dz : Bool) (mem : List Int) (rg : List Int) (ti : Int) (ff : List Int) (pk : Int) (lg : List (Int × Int × Bool × Int × Int × Int × Int)) (Al : Option Addr) (Pl : Nat) (AM : Option Addr) (PM : Nat) (Abk : Option Addr) (Pbk : Nat) (Asp : Option Addr) (Psp : Nat) (Amem : Option Addr) (Pmem : Nat) (Arg : Option Addr) (Prg : Nat) (Aff : Option Addr) (Pff : Nat) (Alg : Option Addr) (Plg : Nat) (nl nM nb ns ng : Nat) (w : World) (v : BV arr l qu mw mr ms lm now M tu cr bk sp ho he la av aw ab af ay al ar az dv dw db df dy dl dr dz mem rg ti ff pk lg Al Pl AM PM Abk Pbk Asp Psp Amem Pmem Arg Prg Aff Pff Alg Plg nl nM nb ns ng w) (z : BZ 0 l M bk sp mem rg ff lg) :
    Calls Tryz.prog 6 #[.agg arr] w fun e w' => e = .returned (.bool (tt (GoodBus ((l, qu, mw, mr, ms, lm), now, M, (tu, cr), bk, sp, ho, he, la, (av, aw, ab, af, ay, al, ar, az), (dv, dw, db, df, dy, dl, dr, dz), (mem, (rg, ti, ff)), pk, lg)))) ∧ Below w.heap.size w w' := by
  have HV := Lib.hid v
  have HZ := Lib.hid z
  clear v z
  obtain ⟨R, hR0⟩ : ∃ R, (tt (GoodBus ((l, qu, mw, mr, ms, lm), now, M, (tu, cr), bk, sp, ho, he, la, (av, aw, ab, af, ay, al, ar, az), (dv, dw, db, df, dy, dl, dr, dz), (mem, (rg, ti, ff)), pk, lg))) = R := ⟨_, rfl⟩
  rw [hR0]
  have HR := Lib.hid hR0
  clear hR0
  have B := Bx.new 53 arr w
  have hb0 := (Below.refl w.heap.size w).alloc (Nat.le_refl _) (Obj.cells arr 53)
  obtain ⟨y0, hy0⟩ : ∃ y, w.alloc (Obj.cells arr 53) = y := ⟨_, rfl⟩
  rw [hy0] at B hb0
  have B_0 := Lib.hid B
  have HB_0 := Lib.hid hb0
  clear B hb0
  have HG : Hid (GoodBus ((l, qu, mw, mr, ms, lm), now, M, (tu, cr), bk, sp, ho, he, la, (av, aw, ab, af, ay, al, ar, az), (dv, dw, db, df, dy, dl, dr, dz), (mem, (rg, ti, ff)), pk, lg) ↔ (PartsP l qu mw mr ms lm now tu cr la pk mem rg ti ff ∧ LensP l M bk sp ∧ AllP l qu mw mr ms lm M bk sp ∧ AddrP M sp av aw ab af ay al ar az ∧ DataP M sp mw mr ho av dv dw db df dy dl dr dz ∧ AheadP M av aw dv dw ∧ HoldP M sp ho he lm ∧ LockP M ho ∧ LogP l.length now lg)) := Lib.hid Iff.rfl
  have hnl : nl ≤ 2000000 := by rw [← HV.out.nl]; exact HZ.out.zl
  go_enter Tryz.func6, Tryz.ntmps6
  go_upto_region 1 with fail
  have gB0 := B_0.out.cell 0 _ HV.out.c0
  go_upto_region 2 with fail
  dsimp only [List.append]
  clear hy0
  clear gB0
  have gB0 := fun d os => cell_regrown (B_0.out.cell 0 _ HV.out.c0) d os
  have gB1 := fun d os => cell_regrown (B_0.out.cell 1 _ HV.out.c1) d os
  have gB2 := fun d os => cell_regrown (B_0.out.cell 2 _ HV.out.c2) d os
  have gB3 := fun d os => cell_regrown (B_0.out.cell 3 _ HV.out.c3) d os
  have gB4 := fun d os => cell_regrown (B_0.out.cell 4 _ HV.out.c4) d os
  have gB5 := fun d os => cell_regrown (B_0.out.cell 5 _ HV.out.c5) d os
  have gB6 := fun d os => cell_regrown (B_0.out.cell 6 _ HV.out.c6) d os
  have gB7 := fun d os => cell_regrown (B_0.out.cell 7 _ HV.out.c7) d os
  have gB8 := fun d os => cell_regrown (B_0.out.cell 8 _ HV.out.c8) d os
  have gB9 := fun d os => cell_regrown (B_0.out.cell 9 _ HV.out.c9) d os
  have gB10 := fun d os => cell_regrown (B_0.out.cell 10 _ HV.out.c10) d os
  have gB11 := fun d os => cell_regrown (B_0.out.cell 11 _ HV.out.c11) d os
  have gB14 := fun d os => cell_regrown (B_0.out.cell 14 _ HV.out.c14) d os
  have gB31 := fun d os => cell_regrown (B_0.out.cell 31 _ HV.out.c31) d os
  have gB32 := fun d os => cell_regrown (B_0.out.cell 32 _ HV.out.c32) d os
  have gB33 := fun d os => cell_regrown (B_0.out.cell 33 _ HV.out.c33) d os
  have gB34 := fun d os => cell_regrown (B_0.out.cell 34 _ HV.out.c34) d os
  have gB35 := fun d os => cell_regrown (B_0.out.cell 35 _ HV.out.c35) d os
  obtain ⟨c1, hc1⟩ : ∃ c, okX (l, qu, mw, mr, ms, lm) = c := ⟨_, rfl⟩
  have C1 := Lib.hid hc1
  clear hc1
  obtain ⟨c2, hc2⟩ : ∃ c, inB now 0 4000 = c := ⟨_, rfl⟩
  have C2 := Lib.hid hc2
  clear hc2
  obtain ⟨c6, hc6⟩ : ∃ c, okWr tu cr (l, qu, mw, mr, ms, lm) = c := ⟨_, rfl⟩
  have C6 := Lib.hid hc6
  clear hc6
  obtain ⟨c7, hc7⟩ : ∃ c, inB la (-1) ((nl : Int) - 1) = c := ⟨_, rfl⟩
  have C7 := Lib.hid hc7
  clear hc7
  obtain ⟨c8, hc8⟩ : ∃ c, okM mem rg ti ff = c := ⟨_, rfl⟩
  have C8 := Lib.hid hc8
  clear hc8
  cases c1
  · skip
    have hf : R = false := by
      rw [← HR.out]
      refine tt_no (fun g => ?_)
      have h := HG.out.1 g
      have g2 := h.1.1
      rw [C1.out] at g2; cases g2
    subst hf
    refine wp_region_det ?_
    repeat (go_big_quiet_step (first
      | (go_at_call 18; exact Calls.regrown_of (sConfIs C1.out HZ.out.zl (conf_rd (mConfS.rd_later HV.out.rl (below_rg HB_0.out _ _)))))))
    refine wpQuiet_nil ?_
    rintro _ ⟨qq, rfl⟩
    have hq := below_regrown y0 qq.d qq.os
    clear gB0 gB1 gB2 gB3 gB4 gB5 gB6 gB7 gB8 gB9 gB10 gB11 gB14 gB31 gB32 gB33 gB34 gB35
    have B_1 := Lib.hid (B_0.out.later hq)
    have HB_1 := Lib.hid (HB_0.out.trans (hq.mono HB_0.out.size))
    clear B_0 HB_0 hq 
    repeat (first | go_values | go_skip | go_guarded | go_step | go_upon | go_back)
    go_ret
    exact ⟨rfl, HB_1.out⟩
  cases c2
  · skip
    have hf : R = false := by
      rw [← HR.out]
      refine tt_no (fun g => ?_)
      have h := HG.out.1 g
      have g2 := inB_iff.2 h.1.2.1
      rw [C2.out] at g2; cases g2
    subst hf
    refine wp_region_det ?_
    repeat (go_big_quiet_step (first
      | (go_at_call 18; exact Calls.regrown_of (sConfIs C1.out HZ.out.zl (conf_rd (mConfS.rd_later HV.out.rl (below_rg HB_0.out _ _)))))
      | (go_at_call 19; exact Calls.regrown_of (l1In_isC C2.out _))))
    refine wpQuiet_nil ?_
    rintro _ ⟨qq, rfl⟩
    have hq := below_regrown y0 qq.d qq.os
    clear gB0 gB1 gB2 gB3 gB4 gB5 gB6 gB7 gB8 gB9 gB10 gB11 gB14 gB31 gB32 gB33 gB34 gB35
    have B_1 := Lib.hid (B_0.out.later hq)
    have HB_1 := Lib.hid (HB_0.out.trans (hq.mono HB_0.out.size))
    clear B_0 HB_0 hq 
    repeat (first | go_values | go_skip | go_guarded | go_step | go_upon | go_back)
    go_ret
    exact ⟨rfl, HB_1.out⟩
  by_cases hdM : nl = nM
  rotate_left
  · have hneM : (((nM : Nat) : Int) != ((nl : Nat) : Int)) = true := by simp; omega
    have hf : R = false := by
      rw [← HR.out]
      refine tt_no (fun g => ?_)
      have h := HG.out.1 g
      exact hdM (by rw [← HV.out.nM, ← HV.out.nl]; exact h.2.1.1.symm)
    subst hf
    refine wp_region_det ?_
    repeat (go_big_quiet_step (first
      | (go_at_call 18; exact Calls.regrown_of (sConfIs C1.out HZ.out.zl (conf_rd (mConfS.rd_later HV.out.rl (below_rg HB_0.out _ _)))))
      | (go_at_call 19; exact Calls.regrown_of (l1In_isC C2.out _))))
    refine wpQuiet_nil ?_
    rintro _ ⟨qq, rfl⟩
    have hq := below_regrown y0 qq.d qq.os
    clear gB0 gB1 gB2 gB3 gB4 gB5 gB6 gB7 gB8 gB9 gB10 gB11 gB14 gB31 gB32 gB33 gB34 gB35
    have B_1 := Lib.hid (B_0.out.later hq)
    have HB_1 := Lib.hid (HB_0.out.trans (hq.mono HB_0.out.size))
    clear B_0 HB_0 hq 
    repeat (first | go_values | go_skip | go_guarded | go_step | go_upon | go_back)
    go_ret
    exact ⟨rfl, HB_1.out⟩
  subst hdM
  have hneM : (((nl : Nat) : Int) != ((nl : Nat) : Int)) = false := by simp
  by_cases hdbk : nl = nb
  rotate_left
  · have hnebk : (((nb : Nat) : Int) != ((nl : Nat) : Int)) = true := by simp; omega
    have hf : R = false := by
      rw [← HR.out]
      refine tt_no (fun g => ?_)
      have h := HG.out.1 g
      exact hdbk (by rw [← HV.out.nbk, ← HV.out.nl]; exact h.2.1.2.1.symm)
    subst hf
    refine wp_region_det ?_
    repeat (go_big_quiet_step (first
      | (go_at_call 18; exact Calls.regrown_of (sConfIs C1.out HZ.out.zl (conf_rd (mConfS.rd_later HV.out.rl (below_rg HB_0.out _ _)))))
      | (go_at_call 19; exact Calls.regrown_of (l1In_isC C2.out _))))
    refine wpQuiet_nil ?_
    rintro _ ⟨qq, rfl⟩
    have hq := below_regrown y0 qq.d qq.os
    clear gB0 gB1 gB2 gB3 gB4 gB5 gB6 gB7 gB8 gB9 gB10 gB11 gB14 gB31 gB32 gB33 gB34 gB35
    have B_1 := Lib.hid (B_0.out.later hq)
    have HB_1 := Lib.hid (HB_0.out.trans (hq.mono HB_0.out.size))
    clear B_0 HB_0 hq 
    repeat (first | go_values | go_skip | go_guarded | go_step | go_upon | go_back)
    go_ret
    exact ⟨rfl, HB_1.out⟩
  subst hdbk
  by_cases hdsp : nl = ns
  rotate_left
  · have hnesp : (((ns : Nat) : Int) != ((nl : Nat) : Int)) = true := by simp; omega
    have hf : R = false := by
      rw [← HR.out]
      refine tt_no (fun g => ?_)
      have h := HG.out.1 g
      exact hdsp (by rw [← HV.out.nsp, ← HV.out.nl]; exact h.2.1.2.2.symm)
    subst hf
    refine wp_region_det ?_
    repeat (go_big_quiet_step (first
      | (go_at_call 18; exact Calls.regrown_of (sConfIs C1.out HZ.out.zl (conf_rd (mConfS.rd_later HV.out.rl (below_rg HB_0.out _ _)))))
      | (go_at_call 19; exact Calls.regrown_of (l1In_isC C2.out _))))
    refine wpQuiet_nil ?_
    rintro _ ⟨qq, rfl⟩
    have hq := below_regrown y0 qq.d qq.os
    clear gB0 gB1 gB2 gB3 gB4 gB5 gB6 gB7 gB8 gB9 gB10 gB11 gB14 gB31 gB32 gB33 gB34 gB35
    have B_1 := Lib.hid (B_0.out.later hq)
    have HB_1 := Lib.hid (HB_0.out.trans (hq.mono HB_0.out.size))
    clear B_0 HB_0 hq 
    repeat (first | go_values | go_skip | go_guarded | go_step | go_upon | go_back)
    go_ret
    exact ⟨rfl, HB_1.out⟩
  subst hdsp
  cases c6
  · skip
    have hf : R = false := by
      rw [← HR.out]
      refine tt_no (fun g => ?_)
      have h := HG.out.1 g
      have g2 := h.1.2.2.1
      rw [C6.out] at g2; cases g2
    subst hf
    refine wp_region_det ?_
    repeat (go_big_quiet_step (first
      | (go_at_call 18; exact Calls.regrown_of (sConfIs C1.out HZ.out.zl (conf_rd (mConfS.rd_later HV.out.rl (below_rg HB_0.out _ _)))))
      | (go_at_call 19; exact Calls.regrown_of (l1In_isC C2.out _))
      | (go_at_call 20; exact Calls.regrown_of (sWrrIs (w0 := w) (ws := [.int .i64 tu, .int .i64 cr]) C6.out wrr_rd HZ.out.zl _ (conf_rd (mConfS.rd_later HV.out.rl (below_rg HB_0.out _ _)))))))
    refine wpQuiet_nil ?_
    rintro _ ⟨qq, rfl⟩
    have hq := below_regrown y0 qq.d qq.os
    clear gB0 gB1 gB2 gB3 gB4 gB5 gB6 gB7 gB8 gB9 gB10 gB11 gB14 gB31 gB32 gB33 gB34 gB35
    have B_1 := Lib.hid (B_0.out.later hq)
    have HB_1 := Lib.hid (HB_0.out.trans (hq.mono HB_0.out.size))
    clear B_0 HB_0 hq 
    repeat (first | go_values | go_skip | go_guarded | go_step | go_upon | go_back)
    go_ret
    exact ⟨rfl, HB_1.out⟩
  cases c7
  · skip
    have hf : R = false := by
      rw [← HR.out]
      refine tt_no (fun g => ?_)
      have h := HG.out.1 g
      have g3 := h.1.2.2.2.1
      rw [HV.out.nl] at g3
      have g2 := inB_iff.2 g3
      rw [C7.out] at g2; cases g2
    subst hf
    refine wp_region_det ?_
    repeat (go_big_quiet_step (first
      | (go_at_call 18; exact Calls.regrown_of (sConfIs C1.out HZ.out.zl (conf_rd (mConfS.rd_later HV.out.rl (below_rg HB_0.out _ _)))))
      | (go_at_call 19; with_reducible exact Calls.regrown_of (l1In_isC C2.out _))
      | (go_at_call 20; exact Calls.regrown_of (sWrrIs (w0 := w) (ws := [.int .i64 tu, .int .i64 cr]) C6.out wrr_rd HZ.out.zl _ (conf_rd (mConfS.rd_later HV.out.rl (below_rg HB_0.out _ _)))))
      | (go_at_call 19; with_reducible exact Calls.regrown_of (l1In_isC C7.out _))))
    refine wpQuiet_nil ?_
    rintro _ ⟨qq, rfl⟩
    have hq := below_regrown y0 qq.d qq.os
    clear gB0 gB1 gB2 gB3 gB4 gB5 gB6 gB7 gB8 gB9 gB10 gB11 gB14 gB31 gB32 gB33 gB34 gB35
    have B_1 := Lib.hid (B_0.out.later hq)
    have HB_1 := Lib.hid (HB_0.out.trans (hq.mono HB_0.out.size))
    clear B_0 HB_0 hq 
    repeat (first | go_values | go_skip | go_guarded | go_step | go_upon | go_back)
    go_ret
    exact ⟨rfl, HB_1.out⟩
  cases c8
  · skip
    have hf : R = false := by
      rw [← HR.out]
      refine tt_no (fun g => ?_)
      have h := HG.out.1 g
      have g2 := h.1.2.2.2.2.1
      rw [C8.out] at g2; cases g2
    subst hf
    refine wp_region_det ?_
    repeat (go_big_quiet_step (first
      | (go_at_call 18; exact Calls.regrown_of (sConfIs C1.out HZ.out.zl (conf_rd (mConfS.rd_later HV.out.rl (below_rg HB_0.out _ _)))))
      | (go_at_call 19; with_reducible exact Calls.regrown_of (l1In_isC C2.out _))
      | (go_at_call 20; exact Calls.regrown_of (sWrrIs (w0 := w) (ws := [.int .i64 tu, .int .i64 cr]) C6.out wrr_rd HZ.out.zl _ (conf_rd (mConfS.rd_later HV.out.rl (below_rg HB_0.out _ _)))))
      | (go_at_call 19; with_reducible exact Calls.regrown_of (l1In_isC C7.out _))
      | (go_at_call 21; exact Calls.regrown_of (sModelIs C8.out HZ.out.zm HZ.out.zr HZ.out.zf _ (model_rd (ints.rd_later HV.out.rmem (below_rg HB_0.out _ _)) (ints.rd_later HV.out.rrg (below_rg HB_0.out _ _)) (ints.rd_later HV.out.rff (below_rg HB_0.out _ _)))))))
    refine wpQuiet_nil ?_
    rintro _ ⟨qq, rfl⟩
    have hq := below_regrown y0 qq.d qq.os
    clear gB0 gB1 gB2 gB3 gB4 gB5 gB6 gB7 gB8 gB9 gB10 gB11 gB14 gB31 gB32 gB33 gB34 gB35
    have B_1 := Lib.hid (B_0.out.later hq)
    have HB_1 := Lib.hid (HB_0.out.trans (hq.mono HB_0.out.size))
    clear B_0 HB_0 hq 
    repeat (first | go_values | go_skip | go_guarded | go_step | go_upon | go_back)
    go_ret
    exact ⟨rfl, HB_1.out⟩
  by_cases hp : pk < 0
  · have hpb : decide (pk < 0) = true := decide_eq_true hp
    have HPK := Lib.hid hp
    clear hp
    have hf : R = false := by
      rw [← HR.out]
      refine tt_no (fun g => ?_)
      have h := HG.out.1 g
      have g2 := h.1.2.2.2.2.2.1
      have := HPK.out
      omega
    subst hf
    refine wp_region_det ?_
    repeat (go_big_quiet_step (first
      | (go_at_call 18; exact Calls.regrown_of (sConfIs C1.out HZ.out.zl (conf_rd (mConfS.rd_later HV.out.rl (below_rg HB_0.out _ _)))))
      | (go_at_call 19; with_reducible exact Calls.regrown_of (l1In_isC C2.out _))
      | (go_at_call 20; exact Calls.regrown_of (sWrrIs (w0 := w) (ws := [.int .i64 tu, .int .i64 cr]) C6.out wrr_rd HZ.out.zl _ (conf_rd (mConfS.rd_later HV.out.rl (below_rg HB_0.out _ _)))))
      | (go_at_call 19; with_reducible exact Calls.regrown_of (l1In_isC C7.out _))
      | (go_at_call 21; exact Calls.regrown_of (sModelIs C8.out HZ.out.zm HZ.out.zr HZ.out.zf _ (model_rd (ints.rd_later HV.out.rmem (below_rg HB_0.out _ _)) (ints.rd_later HV.out.rrg (below_rg HB_0.out _ _)) (ints.rd_later HV.out.rff (below_rg HB_0.out _ _)))))))
    refine wpQuiet_nil ?_
    rintro _ ⟨qq, rfl⟩
    have hq := below_regrown y0 qq.d qq.os
    clear gB0 gB1 gB2 gB3 gB4 gB5 gB6 gB7 gB8 gB9 gB10 gB11 gB14 gB31 gB32 gB33 gB34 gB35
    have B_1 := Lib.hid (B_0.out.later hq)
    have HB_1 := Lib.hid (HB_0.out.trans (hq.mono HB_0.out.size))
    clear B_0 HB_0 hq 
    repeat (first | go_values | go_skip | go_guarded | go_step | go_upon | go_back)
    go_ret
    exact ⟨rfl, HB_1.out⟩
  have hpb : decide (pk < 0) = false := decide_eq_false hp
  by_cases hp2 : now < pk
  · have hpb2 : decide (now < pk) = true := decide_eq_true hp2
    have HPK := Lib.hid hp2
    clear hp hp2
    have hf : R = false := by
      rw [← HR.out]
      refine tt_no (fun g => ?_)
      have h := HG.out.1 g
      have g2 := h.1.2.2.2.2.2.2
      have := HPK.out
      omega
    subst hf
    refine wp_region_det ?_
    repeat (go_big_quiet_step (first
      | (go_at_call 18; exact Calls.regrown_of (sConfIs C1.out HZ.out.zl (conf_rd (mConfS.rd_later HV.out.rl (below_rg HB_0.out _ _)))))
      | (go_at_call 19; with_reducible exact Calls.regrown_of (l1In_isC C2.out _))
      | (go_at_call 20; exact Calls.regrown_of (sWrrIs (w0 := w) (ws := [.int .i64 tu, .int .i64 cr]) C6.out wrr_rd HZ.out.zl _ (conf_rd (mConfS.rd_later HV.out.rl (below_rg HB_0.out _ _)))))
      | (go_at_call 19; with_reducible exact Calls.regrown_of (l1In_isC C7.out _))
      | (go_at_call 21; exact Calls.regrown_of (sModelIs C8.out HZ.out.zm HZ.out.zr HZ.out.zf _ (model_rd (ints.rd_later HV.out.rmem (below_rg HB_0.out _ _)) (ints.rd_later HV.out.rrg (below_rg HB_0.out _ _)) (ints.rd_later HV.out.rff (below_rg HB_0.out _ _)))))))
    refine wpQuiet_nil ?_
    rintro _ ⟨qq, rfl⟩
    have hq := below_regrown y0 qq.d qq.os
    clear gB0 gB1 gB2 gB3 gB4 gB5 gB6 gB7 gB8 gB9 gB10 gB11 gB14 gB31 gB32 gB33 gB34 gB35
    have B_1 := Lib.hid (B_0.out.later hq)
    have HB_1 := Lib.hid (HB_0.out.trans (hq.mono HB_0.out.size))
    clear B_0 HB_0 hq 
    repeat (first | go_values | go_skip | go_guarded | go_step | go_upon | go_back)
    go_ret
    exact ⟨rfl, HB_1.out⟩
  have hpb2 : decide (now < pk) = false := decide_eq_false hp2
  have HP1 : Hid (PartsP l qu mw mr ms lm now tu cr la pk mem rg ti ff) := Lib.hid ⟨C1.out, inB_iff.1 C2.out, C6.out, by rw [HV.out.nl]; exact inB_iff.1 C7.out, C8.out, by omega, by omega⟩
  have HL : Hid (LensP l M bk sp) := Lib.hid ⟨by rw [HV.out.nM, HV.out.nl], by rw [HV.out.nbk, HV.out.nl], by rw [HV.out.nsp, HV.out.nl]⟩
  clear hp hp2
  refine wp_region_det ?_
  repeat (go_big_quiet_step (first
    | (go_at_call 18; exact Calls.regrown_of (sConfIs C1.out HZ.out.zl (conf_rd (mConfS.rd_later HV.out.rl (below_rg HB_0.out _ _)))))
    | (go_at_call 19; with_reducible exact Calls.regrown_of (l1In_isC C2.out _))
    | (go_at_call 20; exact Calls.regrown_of (sWrrIs (w0 := w) (ws := [.int .i64 tu, .int .i64 cr]) C6.out wrr_rd HZ.out.zl _ (conf_rd (mConfS.rd_later HV.out.rl (below_rg HB_0.out _ _)))))
    | (go_at_call 19; with_reducible exact Calls.regrown_of (l1In_isC C7.out _))
    | (go_at_call 21; exact Calls.regrown_of (sModelIs C8.out HZ.out.zm HZ.out.zr HZ.out.zf _ (model_rd (ints.rd_later HV.out.rmem (below_rg HB_0.out _ _)) (ints.rd_later HV.out.rrg (below_rg HB_0.out _ _)) (ints.rd_later HV.out.rff (below_rg HB_0.out _ _)))))))
  refine wpQuiet_nil ?_
  rintro _ ⟨qq, rfl⟩
  have hq := below_regrown y0 qq.d qq.os
  clear gB0 gB1 gB2 gB3 gB4 gB5 gB6 gB7 gB8 gB9 gB10 gB11 gB14 gB31 gB32 gB33 gB34 gB35
  have B_1 := Lib.hid (B_0.out.later hq)
  have HB_1 := Lib.hid (HB_0.out.trans (hq.mono HB_0.out.size))
  clear B_0 HB_0 hq 
  generalize Sort.grow (redrawn y0 qq.d) qq.os = y1 at B_1 HB_1 ⊢
  clear hpb hpb2 hneM
  repeat (first | go_values | go_skip | go_guarded | go_step | go_upon | go_back)
  go_loopw [4] (fun i wr => ∃ j : Nat, j ≤ nl ∧ i = .int .i64 j ∧ Hid (∀ k, k < j → EachP l qu mw mr ms lm M bk sp k ∧ ∀ m, M[k]? = some m → m.2.1 - m.2.2.1 = waysW av aw dv dw (k : Int)) ∧ Hid (Bx 53 w.heap.size arr wr) ∧ Hid (Below w.heap.size w wr)) (fun i _ => nl - (intOf i).toNat)
  case atStart => exact ⟨0, by omega, rfl, Lib.hid (fun k hk => by omega), B_1, HB_1⟩
  case round =>
    clear B_1 HB_1
    obtain ⟨j, hj, rfl, HQ, B_0, HB_0⟩ := hrel
    by_cases hlt : j < nl
    · skip
      obtain ⟨c, hxc⟩ := get_of (l := l) (i := j) (by rw [HV.out.nl]; exact hlt)
      have HXc := Lib.hid hxc
      obtain ⟨bc, oc, _, esc, ec, _, _, ltc, cc, rc⟩ := row_rd HV.out.rl hxc
      simp at ec
      obtain ⟨rfl, -, rfl⟩ := ec
      obtain ⟨c0, c1, c2, c3⟩ := c
      have Rc := Lib.hid rc
      obtain rfl := mConf_form rc
      have Ec0 := Lib.hid (show w.cell? ⟨bc, oc + j * 4, none⟩ = some (.int .i64 c0) from cc 0 _ rfl)
      have Ec1 := Lib.hid (show w.cell? ⟨bc, oc + j * 4 + 1, none⟩ = some (.bool c1) from cc 1 _ rfl)
      have Ec2 := Lib.hid (show w.cell? ⟨bc, oc + j * 4 + 2, none⟩ = some (.int .i64 c2) from cc 2 _ rfl)
      have Ec3 := Lib.hid (show w.cell? ⟨bc, oc + j * 4 + 3, none⟩ = some (.int .i64 c3) from cc 3 _ rfl)
      have LTc := Lib.hid ltc
      clear hxc cc rc ltc
      obtain ⟨m, hxm⟩ := get_of (l := M) (i := j) (by rw [HV.out.nM]; exact hlt)
      have HXm := Lib.hid hxm
      obtain ⟨bm, om, _, esm, em, _, _, ltm, cm, rm⟩ := row_rd HV.out.rM hxm
      simp at em
      obtain ⟨rfl, -, rfl⟩ := em
      obtain ⟨m0, m1, m2, m3, m4, m5⟩ := m
      have Rm := Lib.hid rm
      obtain ⟨am, pm, rfl, _⟩ := mst_form rm
      have Em0 := Lib.hid (show w.cell? ⟨bm, om + j * 6, none⟩ = some (.slice am m0.length pm) from cm 0 _ rfl)
      have Em1 := Lib.hid (show w.cell? ⟨bm, om + j * 6 + 1, none⟩ = some (.int .i64 m1) from cm 1 _ rfl)
      have Em2 := Lib.hid (show w.cell? ⟨bm, om + j * 6 + 2, none⟩ = some (.int .i64 m2) from cm 2 _ rfl)
      have Em3 := Lib.hid (show w.cell? ⟨bm, om + j * 6 + 3, none⟩ = some (.int .i64 m3) from cm 3 _ rfl)
      have Em4 := Lib.hid (show w.cell? ⟨bm, om + j * 6 + 4, none⟩ = some (.bool m4) from cm 4 _ rfl)
      have Em5 := Lib.hid (show w.cell? ⟨bm, om + j * 6 + 5, none⟩ = some (.bool m5) from cm 5 _ rfl)
      have LTm := Lib.hid ltm
      clear hxm cm rm ltm
      obtain ⟨t, hxt⟩ := get_of (l := bk) (i := j) (by rw [HV.out.nbk]; exact hlt)
      have HXt := Lib.hid hxt
      obtain ⟨bt, ot, _, est, et, _, _, ltt, ct, rt⟩ := row_rd HV.out.rbk hxt
      simp at et
      obtain ⟨rfl, -, rfl⟩ := et
      obtain ⟨t0, t1⟩ := t
      have Rt := Lib.hid rt
      obtain rfl := bucket_form rt
      have Et0 := Lib.hid (show w.cell? ⟨bt, ot + j * 2, none⟩ = some (.int .i64 t0) from ct 0 _ rfl)
      have Et1 := Lib.hid (show w.cell? ⟨bt, ot + j * 2 + 1, none⟩ = some (.int .i64 t1) from ct 1 _ rfl)
      have LTt := Lib.hid ltt
      clear hxt ct rt ltt
      obtain ⟨s, hxs⟩ := get_of (l := sp) (i := j) (by rw [HV.out.nsp]; exact hlt)
      obtain ⟨bs, os, es, lts, cs⟩ := ints_el HV.out.rsp hxs
      obtain rfl := es
      have HXs := Lib.hid hxs
      have Es0 := Lib.hid cs
      have LTs := Lib.hid lts
      clear hxs cs lts
      have hin : (0 : Int) ≤ (j : Int) ∧ (j : Int) < ((nl : Nat) : Int) := by omega
      go_upto_region 7 with fail
      have gB0 := fun d os => cell_regrown (B_0.out.cell 0 _ HV.out.c0) d os
      have gB1 := fun d os => cell_regrown (B_0.out.cell 1 _ HV.out.c1) d os
      have gB2 := fun d os => cell_regrown (B_0.out.cell 2 _ HV.out.c2) d os
      have gB3 := fun d os => cell_regrown (B_0.out.cell 3 _ HV.out.c3) d os
      have gB4 := fun d os => cell_regrown (B_0.out.cell 4 _ HV.out.c4) d os
      have gB5 := fun d os => cell_regrown (B_0.out.cell 5 _ HV.out.c5) d os
      have gB7 := fun d os => cell_regrown (B_0.out.cell 7 _ HV.out.c7) d os
      have gB10 := fun d os => cell_regrown (B_0.out.cell 10 _ HV.out.c10) d os
      have gB11 := fun d os => cell_regrown (B_0.out.cell 11 _ HV.out.c11) d os
      have gm0 := fun d os => cell_regrown ((bel_cells HB_0.out LTm.out _).trans Em0.out) d os
      have gm1 := fun d os => cell_regrown ((bel_cells HB_0.out LTm.out _).trans Em1.out) d os
      have gm2 := fun d os => cell_regrown ((bel_cells HB_0.out LTm.out _).trans Em2.out) d os
      have gm3 := fun d os => cell_regrown ((bel_cells HB_0.out LTm.out _).trans Em3.out) d os
      have gm4 := fun d os => cell_regrown ((bel_cells HB_0.out LTm.out _).trans Em4.out) d os
      have gm5 := fun d os => cell_regrown ((bel_cells HB_0.out LTm.out _).trans Em5.out) d os
      have gt0 := fun d os => cell_regrown ((bel_cells HB_0.out LTt.out _).trans Et0.out) d os
      have gt1 := fun d os => cell_regrown ((bel_cells HB_0.out LTt.out _).trans Et1.out) d os
      have gs0 := fun d os => cell_regrown ((bel_cells HB_0.out LTs.out _).trans Es0.out) d os
      have gc0 := fun d os => cell_regrown ((bel_cells HB_0.out LTc.out _).trans Ec0.out) d os
      have gc1 := fun d os => cell_regrown ((bel_cells HB_0.out LTc.out _).trans Ec1.out) d os
      have gc2 := fun d os => cell_regrown ((bel_cells HB_0.out LTc.out _).trans Ec2.out) d os
      have gc3 := fun d os => cell_regrown ((bel_cells HB_0.out LTc.out _).trans Ec3.out) d os
      have hEv := Lib.hid (conf_ev HP1.out.1 (List.mem_of_getElem? HXc.out))
      have HZm := Lib.hid (HZ.out.zi _ (List.mem_of_getElem? HXm.out))
      obtain ⟨d1, hd1⟩ : ∃ d, okMst m0 m1 m2 m3 m4 m5 (l, qu, mw, mr, ms, lm) = d := ⟨_, rfl⟩
      have D1 := Lib.hid hd1
      clear hd1
      obtain ⟨d2, hd2⟩ : ∃ d, okB c1 c2 c3 t0 t1 = d := ⟨_, rfl⟩
      have D2 := Lib.hid hd2
      clear hd2
      obtain ⟨d3, hd3⟩ : ∃ d, inB s 0 ms = d := ⟨_, rfl⟩
      have D3 := Lib.hid hd3
      clear hd3
      obtain ⟨x, hx⟩ : ∃ x, waysW av aw dv dw (j : Int) = x := ⟨_, rfl⟩
      have HX := Lib.hid hx
      clear hx
      cases d1
      · skip
        have hf : R = false := by
          rw [← HR.out]
          refine tt_no (fun gg => ?_)
          have h := HG.out.1 gg
          have g := h.2.2.1 j _ _ _ _ HXm.out HXt.out HXs.out HXc.out
          have g2 := g.1
          rw [D1.out] at g2; cases g2
        subst hf
        refine wp_region_quiet_below (by kernel_rfl) (by kernel_rfl) ?_
        repeat (first
          | (go_big_quiet_want; refine quiet_load (T := 53) (x := .tmp 1) (g := w.heap.size) (cs := arr) rfl rfl B_0.out Tryz.underlying53 rfl (by rw [HV.out.size]; kernel_rfl) ?_; simp only [Act.put, List.setIfInBounds_toArray, List.set_cons_succ, List.set_cons_zero]; go_big_quiet_on)
          | go_big_quiet_step (first
          | (go_at_call 22; exact Calls.regrown_of (sMstIs D1.out HZm.out (conf_zc HZ.out.zc) (mstK.rd_later Rm.out (below_rg HB_0.out _ _)) (conf_rd (mConfS.rd_later HV.out.rl (below_rg HB_0.out _ _)))))))
        refine wpQuiet_nil ?_
        rintro _ ⟨qq, rfl⟩
        have hq := below_regrown wr qq.d qq.os
        clear gB0 gB1 gB2 gB3 gB4 gB5 gB7 gB10 gB11 gm0 gm1 gm2 gm3 gm4 gm5 gt0 gt1 gs0 gc0 gc1 gc2 gc3
        have B_1 := Lib.hid (B_0.out.later hq)
        have HB_1 := Lib.hid (HB_0.out.trans (hq.mono HB_0.out.size))
        clear B_0 HB_0 hq 
        repeat (first | go_values | go_skip | go_guarded | go_step | go_upon | go_back)
        go_ret
        exact ⟨rfl, HB_1.out⟩
      cases d2
      · skip
        have hf : R = false := by
          rw [← HR.out]
          refine tt_no (fun gg => ?_)
          have h := HG.out.1 gg
          have g := h.2.2.1 j _ _ _ _ HXm.out HXt.out HXs.out HXc.out
          have g2 := g.2.1
          rw [D2.out] at g2; cases g2
        subst hf
        refine wp_region_quiet_below (by kernel_rfl) (by kernel_rfl) ?_
        repeat (first
          | (go_big_quiet_want; refine quiet_load (T := 53) (x := .tmp 1) (g := w.heap.size) (cs := arr) rfl rfl B_0.out Tryz.underlying53 rfl (by rw [HV.out.size]; kernel_rfl) ?_; simp only [Act.put, List.setIfInBounds_toArray, List.set_cons_succ, List.set_cons_zero]; go_big_quiet_on)
          | go_big_quiet_step (first
          | (go_at_call 22; exact Calls.regrown_of (sMstIs D1.out HZm.out (conf_zc HZ.out.zc) (mstK.rd_later Rm.out (below_rg HB_0.out _ _)) (conf_rd (mConfS.rd_later HV.out.rl (below_rg HB_0.out _ _)))))
          | (go_at_call 23; exact Calls.regrown_of (sBuckIs D2.out hEv.out _))))
        refine wpQuiet_nil ?_
        rintro _ ⟨qq, rfl⟩
        have hq := below_regrown wr qq.d qq.os
        clear gB0 gB1 gB2 gB3 gB4 gB5 gB7 gB10 gB11 gm0 gm1 gm2 gm3 gm4 gm5 gt0 gt1 gs0 gc0 gc1 gc2 gc3
        have B_1 := Lib.hid (B_0.out.later hq)
        have HB_1 := Lib.hid (HB_0.out.trans (hq.mono HB_0.out.size))
        clear B_0 HB_0 hq 
        repeat (first | go_values | go_skip | go_guarded | go_step | go_upon | go_back)
        go_ret
        exact ⟨rfl, HB_1.out⟩
      cases d3
      · skip
        have hf : R = false := by
          rw [← HR.out]
          refine tt_no (fun gg => ?_)
          have h := HG.out.1 gg
          have g := h.2.2.1 j _ _ _ _ HXm.out HXt.out HXs.out HXc.out
          have g2 := inB_iff.2 g.2.2
          rw [D3.out] at g2; cases g2
        subst hf
        refine wp_region_quiet_below (by kernel_rfl) (by kernel_rfl) ?_
        repeat (first
          | (go_big_quiet_want; refine quiet_load (T := 53) (x := .tmp 1) (g := w.heap.size) (cs := arr) rfl rfl B_0.out Tryz.underlying53 rfl (by rw [HV.out.size]; kernel_rfl) ?_; simp only [Act.put, List.setIfInBounds_toArray, List.set_cons_succ, List.set_cons_zero]; go_big_quiet_on)
          | go_big_quiet_step (first
          | (go_at_call 22; exact Calls.regrown_of (sMstIs D1.out HZm.out (conf_zc HZ.out.zc) (mstK.rd_later Rm.out (below_rg HB_0.out _ _)) (conf_rd (mConfS.rd_later HV.out.rl (below_rg HB_0.out _ _)))))
          | (go_at_call 23; exact Calls.regrown_of (sBuckIs D2.out hEv.out _))
          | (go_at_call 19; exact Calls.regrown_of (l1In_isC D3.out _))))
        refine wpQuiet_nil ?_
        rintro _ ⟨qq, rfl⟩
        have hq := below_regrown wr qq.d qq.os
        clear gB0 gB1 gB2 gB3 gB4 gB5 gB7 gB10 gB11 gm0 gm1 gm2 gm3 gm4 gm5 gt0 gt1 gs0 gc0 gc1 gc2 gc3
        have B_1 := Lib.hid (B_0.out.later hq)
        have HB_1 := Lib.hid (HB_0.out.trans (hq.mono HB_0.out.size))
        clear B_0 HB_0 hq 
        repeat (first | go_values | go_skip | go_guarded | go_step | go_upon | go_back)
        go_ret
        exact ⟨rfl, HB_1.out⟩
      have hbm := mst_bd D1.out
      obtain ⟨hbm0, hbm1, hbm2⟩ := hbm
      by_cases hw : m1 - m2 = x
      rotate_left
      · have hwb : (m1 - m2 != x) = true := by simp [hw]
        have HW := Lib.hid hw
        clear hw
        have hf : R = false := by
          rw [← HR.out]
          refine tt_no (fun gg => ?_)
          have h := HG.out.1 gg
          have g := h.2.2.1 j _ _ _ _ HXm.out HXt.out HXs.out HXc.out
          have g2 := h.2.2.2.2.2.1 j _ HXm.out
          rw [HX.out] at g2
          exact HW.out g2
        subst hf
        refine wp_region_quiet_below (by kernel_rfl) (by kernel_rfl) ?_
        repeat (first
          | (go_big_quiet_want; refine quiet_load (T := 53) (x := .tmp 1) (g := w.heap.size) (cs := arr) rfl rfl B_0.out Tryz.underlying53 rfl (by rw [HV.out.size]; kernel_rfl) ?_; simp only [Act.put, List.setIfInBounds_toArray, List.set_cons_succ, List.set_cons_zero]; go_big_quiet_on)
          | go_big_quiet_step (first
          | (go_at_call 22; exact Calls.regrown_of (sMstIs D1.out HZm.out (conf_zc HZ.out.zc) (mstK.rd_later Rm.out (below_rg HB_0.out _ _)) (conf_rd (mConfS.rd_later HV.out.rl (below_rg HB_0.out _ _)))))
          | (go_at_call 23; exact Calls.regrown_of (sBuckIs D2.out hEv.out _))
          | (go_at_call 19; exact Calls.regrown_of (l1In_isC D3.out _))
          | (go_at_call 24; exact Calls.regrown_of (ways_is HX.out HV.out HZ.out (below_rg HB_0.out _ _)))))
        refine wpQuiet_nil ?_
        rintro _ ⟨qq, rfl⟩
        have hq := below_regrown wr qq.d qq.os
        clear gB0 gB1 gB2 gB3 gB4 gB5 gB7 gB10 gB11 gm0 gm1 gm2 gm3 gm4 gm5 gt0 gt1 gs0 gc0 gc1 gc2 gc3
        have B_1 := Lib.hid (B_0.out.later hq)
        have HB_1 := Lib.hid (HB_0.out.trans (hq.mono HB_0.out.size))
        clear B_0 HB_0 hq 
        repeat (first | go_values | go_skip | go_guarded | go_step | go_upon | go_back)
        go_ret
        exact ⟨rfl, HB_1.out⟩
      have hwb : (m1 - m2 != x) = false := by simp [hw]
      have HW := Lib.hid hw
      clear hw
      refine wp_region_quiet_below (by kernel_rfl) (by kernel_rfl) ?_
      repeat (first
        | (go_big_quiet_want; refine quiet_load (T := 53) (x := .tmp 1) (g := w.heap.size) (cs := arr) rfl rfl B_0.out Tryz.underlying53 rfl (by rw [HV.out.size]; kernel_rfl) ?_; simp only [Act.put, List.setIfInBounds_toArray, List.set_cons_succ, List.set_cons_zero]; go_big_quiet_on)
        | go_big_quiet_step (first
        | (go_at_call 22; exact Calls.regrown_of (sMstIs D1.out HZm.out (conf_zc HZ.out.zc) (mstK.rd_later Rm.out (below_rg HB_0.out _ _)) (conf_rd (mConfS.rd_later HV.out.rl (below_rg HB_0.out _ _)))))
        | (go_at_call 23; exact Calls.regrown_of (sBuckIs D2.out hEv.out _))
        | (go_at_call 19; exact Calls.regrown_of (l1In_isC D3.out _))
        | (go_at_call 24; exact Calls.regrown_of (ways_is HX.out HV.out HZ.out (below_rg HB_0.out _ _)))))
      refine wpQuiet_nil ?_
      rintro _ ⟨qq, rfl⟩
      have hq := below_regrown wr qq.d qq.os
      clear gB0 gB1 gB2 gB3 gB4 gB5 gB7 gB10 gB11 gm0 gm1 gm2 gm3 gm4 gm5 gt0 gt1 gs0 gc0 gc1 gc2 gc3
      have B_1 := Lib.hid (B_0.out.later hq)
      have HB_1 := Lib.hid (HB_0.out.trans (hq.mono HB_0.out.size))
      clear B_0 HB_0 hq 
      generalize Sort.grow (redrawn wr qq.d) qq.os = w3 at B_1 HB_1 ⊢
      have HQ2 : Hid (∀ k, k < j + 1 → EachP l qu mw mr ms lm M bk sp k ∧ ∀ m, M[k]? = some m → m.2.1 - m.2.2.1 = waysW av aw dv dw (k : Int)) := Lib.hid (fun k hk => by
        by_cases e : k = j
        · subst e
          refine ⟨?_, fun m hm => ?_⟩
          · intro m b s' c h1 h2 h3 h4
            rw [HXm.out] at h1; rw [HXt.out] at h2; rw [HXs.out] at h3; rw [HXc.out] at h4
            cases h1; cases h2; cases h3; cases h4
            exact ⟨D1.out, D2.out, inB_iff.1 D3.out⟩
          · rw [HXm.out] at hm
            cases hm
            dsimp only
            rw [HW.out, HX.out]
        · exact HQ.out k (by omega))
      repeat (first | go_values | go_skip | go_guarded | go_step | go_upon | go_back)
      go_roundw
      case rel => exact ⟨j + 1, by omega, by go_num, HQ2, B_1, HB_1⟩
      case measure => simp [intOf]; omega
    · obtain rfl : j = nl := by omega
      have HA : Hid (AllP l qu mw mr ms lm M bk sp) := Lib.hid (fun k => by
        by_cases hk : k < j
        · exact (HQ.out k hk).1
        · intro m b s c h1 h2 h3 h4
          have := (List.getElem?_eq_some_iff.1 h4).1
          rw [HV.out.nl] at this
          omega)
      have HAH : Hid (AheadP M av aw dv dw) := Lib.hid (fun k m hm => (HQ.out k (by have := (List.getElem?_eq_some_iff.1 hm).1; rw [HV.out.nM] at this; exact this)).2 m hm)
      have HMB := Lib.hid (msts_bd HL.out HA.out)
      have HMQ := Lib.hid (msts_q HL.out HA.out)
      have HSP := Lib.hid (sp_pos HL.out HA.out)
      have HMW := Lib.hid (conf_bd HP1.out.1).2.2.1
      clear HQ hlt hj
      go_upto_region 9 with fail
      have gB15 := fun d os => cell_regrown (B_0.out.cell 15 _ HV.out.c15) d os
      have gB16 := fun d os => cell_regrown (B_0.out.cell 16 _ HV.out.c16) d os
      have gB17 := fun d os => cell_regrown (B_0.out.cell 17 _ HV.out.c17) d os
      have gB18 := fun d os => cell_regrown (B_0.out.cell 18 _ HV.out.c18) d os
      have gB19 := fun d os => cell_regrown (B_0.out.cell 19 _ HV.out.c19) d os
      have gB20 := fun d os => cell_regrown (B_0.out.cell 20 _ HV.out.c20) d os
      have gB21 := fun d os => cell_regrown (B_0.out.cell 21 _ HV.out.c21) d os
      have gB22 := fun d os => cell_regrown (B_0.out.cell 22 _ HV.out.c22) d os
      have gB23 := fun d os => cell_regrown (B_0.out.cell 23 _ HV.out.c23) d os
      have gB24 := fun d os => cell_regrown (B_0.out.cell 24 _ HV.out.c24) d os
      have gB25 := fun d os => cell_regrown (B_0.out.cell 25 _ HV.out.c25) d os
      have gB26 := fun d os => cell_regrown (B_0.out.cell 26 _ HV.out.c26) d os
      have gB27 := fun d os => cell_regrown (B_0.out.cell 27 _ HV.out.c27) d os
      have gB28 := fun d os => cell_regrown (B_0.out.cell 28 _ HV.out.c28) d os
      have gB29 := fun d os => cell_regrown (B_0.out.cell 29 _ HV.out.c29) d os
      have gB30 := fun d os => cell_regrown (B_0.out.cell 30 _ HV.out.c30) d os
      obtain ⟨e1, he1⟩ : ∃ c, tt (DataP M sp mw mr ho av dv dw db df dy dl dr dz) = c := ⟨_, rfl⟩
      have E1 := Lib.hid he1
      clear he1
      have SB1 := fun (d : Nat) (os : Array Obj) => ret_is E1.out (specBeatD arr l qu mw mr ms lm now M tu cr bk sp ho he la av aw ab af ay al ar az dv dw db df dy dl dr dz mem rg ti ff pk lg Al Pl AM PM Abk Pbk Asp Psp Amem Pmem Arg Prg Aff Pff Alg Plg j j j j ng _ (HV.out.later (below_rg HB_0.out d os)) HZ.out dv dw db df dy dl dr dz HL.out.1 HL.out.2.2 HMB.out HMW.out HSP.out)
      cases e1
      · have hf : R = false := by rw [← HR.out]; exact tt_no (fun g => tt_not E1.out (by have h := HG.out.1 g; exact h.2.2.2.2.1))
        subst hf
        refine wp_region_det ?_
        repeat (first
          | (go_big_quiet_want; refine quiet_load (T := 53) (x := .tmp 1) (g := w.heap.size) (cs := arr) rfl rfl B_0.out Tryz.underlying53 rfl (by rw [HV.out.size]; kernel_rfl) ?_; simp only [Act.put, List.setIfInBounds_toArray, List.set_cons_succ, List.set_cons_zero]; go_big_quiet_on)
          | go_big_quiet_step (first
          | (go_at_call 25; exact Calls.regrown_of (SB1 _ _))))
        refine wpQuiet_nil ?_
        rintro _ ⟨qq, rfl⟩
        have hq := below_regrown wr qq.d qq.os
        clear gB15 gB16 gB17 gB18 gB19 gB20 gB21 gB22 gB23 gB24 gB25 gB26 gB27 gB28 gB29 gB30
        have B_1 := Lib.hid (B_0.out.later hq)
        have HB_1 := Lib.hid (HB_0.out.trans (hq.mono HB_0.out.size))
        clear B_0 HB_0 hq 
        repeat (first | go_values | go_skip | go_guarded | go_step | go_upon | go_back)
        go_ret
        exact ⟨rfl, HB_1.out⟩
      obtain ⟨e2, he2⟩ : ∃ c, tt (AddrP M sp av aw ab af ay al ar az) = c := ⟨_, rfl⟩
      have E2 := Lib.hid he2
      clear he2
      have SB2 := fun (d : Nat) (os : Array Obj) => ret_is E2.out (specBeatA arr l qu mw mr ms lm now M tu cr bk sp ho he la av aw ab af ay al ar az dv dw db df dy dl dr dz mem rg ti ff pk lg Al Pl AM PM Abk Pbk Asp Psp Amem Pmem Arg Prg Aff Pff Alg Plg j j j j ng _ (HV.out.later (below_rg HB_0.out d os)) HZ.out av aw ab af ay al ar az HL.out.1 HL.out.2.2 HMB.out HMW.out HSP.out)
      cases e2
      · have hf : R = false := by rw [← HR.out]; exact tt_no (fun g => tt_not E2.out (by have h := HG.out.1 g; exact h.2.2.2.1))
        subst hf
        refine wp_region_det ?_
        repeat (first
          | (go_big_quiet_want; refine quiet_load (T := 53) (x := .tmp 1) (g := w.heap.size) (cs := arr) rfl rfl B_0.out Tryz.underlying53 rfl (by rw [HV.out.size]; kernel_rfl) ?_; simp only [Act.put, List.setIfInBounds_toArray, List.set_cons_succ, List.set_cons_zero]; go_big_quiet_on)
          | go_big_quiet_step (first
          | (go_at_call 25; with_reducible exact Calls.regrown_of (SB1 _ _))
          | (go_at_call 25; with_reducible exact Calls.regrown_of (SB2 _ _))))
        refine wpQuiet_nil ?_
        rintro _ ⟨qq, rfl⟩
        have hq := below_regrown wr qq.d qq.os
        clear gB15 gB16 gB17 gB18 gB19 gB20 gB21 gB22 gB23 gB24 gB25 gB26 gB27 gB28 gB29 gB30
        have B_1 := Lib.hid (B_0.out.later hq)
        have HB_1 := Lib.hid (HB_0.out.trans (hq.mono HB_0.out.size))
        clear B_0 HB_0 hq 
        repeat (first | go_values | go_skip | go_guarded | go_step | go_upon | go_back)
        go_ret
        exact ⟨rfl, HB_1.out⟩
      obtain ⟨e3, he3⟩ : ∃ c, tt (HoldP M sp ho he lm ∧ LockP M ho) = c := ⟨_, rfl⟩
      have E3 := Lib.hid he3
      clear he3
      have SB3 := fun (d : Nat) (os : Array Obj) => ret_is E3.out (specLock arr l qu mw mr ms lm now M tu cr bk sp ho he la av aw ab af ay al ar az dv dw db df dy dl dr dz mem rg ti ff pk lg Al Pl AM PM Abk Pbk Asp Psp Amem Pmem Arg Prg Aff Pff Alg Plg j j j j ng _ (HV.out.later (below_rg HB_0.out d os)) HZ.out HL.out.1 HL.out.2.2 HMQ.out)
      cases e3
      · have hf : R = false := by rw [← HR.out]; exact tt_no (fun g => tt_not E3.out (by have h := HG.out.1 g; exact ⟨h.2.2.2.2.2.2.1, h.2.2.2.2.2.2.2.1⟩))
        subst hf
        refine wp_region_det ?_
        repeat (first
          | (go_big_quiet_want; refine quiet_load (T := 53) (x := .tmp 1) (g := w.heap.size) (cs := arr) rfl rfl B_0.out Tryz.underlying53 rfl (by rw [HV.out.size]; kernel_rfl) ?_; simp only [Act.put, List.setIfInBounds_toArray, List.set_cons_succ, List.set_cons_zero]; go_big_quiet_on)
          | go_big_quiet_step (first
          | (go_at_call 25; with_reducible exact Calls.regrown_of (SB1 _ _))
          | (go_at_call 25; with_reducible exact Calls.regrown_of (SB2 _ _))
          | (go_at_call 26; exact Calls.regrown_of (SB3 _ _))))
        refine wpQuiet_nil ?_
        rintro _ ⟨qq, rfl⟩
        have hq := below_regrown wr qq.d qq.os
        clear gB15 gB16 gB17 gB18 gB19 gB20 gB21 gB22 gB23 gB24 gB25 gB26 gB27 gB28 gB29 gB30
        have B_1 := Lib.hid (B_0.out.later hq)
        have HB_1 := Lib.hid (HB_0.out.trans (hq.mono HB_0.out.size))
        clear B_0 HB_0 hq 
        repeat (first | go_values | go_skip | go_guarded | go_step | go_upon | go_back)
        go_ret
        exact ⟨rfl, HB_1.out⟩
      obtain ⟨e4, he4⟩ : ∃ c, tt (LogP l.length now lg) = c := ⟨_, rfl⟩
      have E4 := Lib.hid he4
      clear he4
      have SB4 := fun (d : Nat) (os : Array Obj) => ret_is E4.out (specLog arr l qu mw mr ms lm now M tu cr bk sp ho he la av aw ab af ay al ar az dv dw db df dy dl dr dz mem rg ti ff pk lg Al Pl AM PM Abk Pbk Asp Psp Amem Pmem Arg Prg Aff Pff Alg Plg j j j j ng _ (HV.out.later (below_rg HB_0.out d os)) HZ.out HL.out.1 HP1.out.2.1)
      cases e4
      · have hf : R = false := by rw [← HR.out]; exact tt_no (fun g => tt_not E4.out (by have h := HG.out.1 g; exact h.2.2.2.2.2.2.2.2))
        subst hf
        refine wp_region_det ?_
        repeat (first
          | (go_big_quiet_want; refine quiet_load (T := 53) (x := .tmp 1) (g := w.heap.size) (cs := arr) rfl rfl B_0.out Tryz.underlying53 rfl (by rw [HV.out.size]; kernel_rfl) ?_; simp only [Act.put, List.setIfInBounds_toArray, List.set_cons_succ, List.set_cons_zero]; go_big_quiet_on)
          | go_big_quiet_step (first
          | (go_at_call 25; with_reducible exact Calls.regrown_of (SB1 _ _))
          | (go_at_call 25; with_reducible exact Calls.regrown_of (SB2 _ _))
          | (go_at_call 26; exact Calls.regrown_of (SB3 _ _))
          | (go_at_call 27; exact Calls.regrown_of (SB4 _ _))))
        refine wpQuiet_nil ?_
        rintro _ ⟨qq, rfl⟩
        have hq := below_regrown wr qq.d qq.os
        clear gB15 gB16 gB17 gB18 gB19 gB20 gB21 gB22 gB23 gB24 gB25 gB26 gB27 gB28 gB29 gB30
        have B_1 := Lib.hid (B_0.out.later hq)
        have HB_1 := Lib.hid (HB_0.out.trans (hq.mono HB_0.out.size))
        clear B_0 HB_0 hq 
        repeat (first | go_values | go_skip | go_guarded | go_step | go_upon | go_back)
        go_ret
        exact ⟨rfl, HB_1.out⟩
      have hf : R = true := by rw [← HR.out]; exact tt_yes (HG.out.2 ⟨HP1.out, HL.out, HA.out, tt_of E2.out, tt_of E1.out, HAH.out, (tt_of E3.out).1, (tt_of E3.out).2, tt_of E4.out⟩)
      subst hf
      refine wp_region_det ?_
      repeat (first
        | (go_big_quiet_want; refine quiet_load (T := 53) (x := .tmp 1) (g := w.heap.size) (cs := arr) rfl rfl B_0.out Tryz.underlying53 rfl (by rw [HV.out.size]; kernel_rfl) ?_; simp only [Act.put, List.setIfInBounds_toArray, List.set_cons_succ, List.set_cons_zero]; go_big_quiet_on)
        | go_big_quiet_step (first
        | (go_at_call 25; with_reducible exact Calls.regrown_of (SB1 _ _))
        | (go_at_call 25; with_reducible exact Calls.regrown_of (SB2 _ _))
        | (go_at_call 26; exact Calls.regrown_of (SB3 _ _))
        | (go_at_call 27; exact Calls.regrown_of (SB4 _ _))))
      refine wpQuiet_nil ?_
      rintro _ ⟨qq, rfl⟩
      have hq := below_regrown wr qq.d qq.os
      clear gB15 gB16 gB17 gB18 gB19 gB20 gB21 gB22 gB23 gB24 gB25 gB26 gB27 gB28 gB29 gB30
      have B_1 := Lib.hid (B_0.out.later hq)
      have HB_1 := Lib.hid (HB_0.out.trans (hq.mono HB_0.out.size))
      clear B_0 HB_0 hq 
      repeat (first | go_values | go_skip | go_guarded | go_step | go_upon | go_back)
      go_ret
      exact ⟨rfl, HB_1.out⟩
theorem specBusOk (cs : List Value) (x : BusX) (hs : busK.sz x ≤ 2000000) (w : World) (h : busK.rd cs x w) :
    Calls Tryz.prog 6 #[agg cs] w fun e w' => e = .returned (.bool (tt (GoodBus x))) ∧ Below w.heap.size w w' := by
  have h := (by simpa using h : busK.rd cs.toArray.toList x w)
  unfold agg
  generalize cs.toArray = arr at h ⊢
  obtain ⟨⟨l, qu, mw, mr, ms, lm⟩, now, M, ⟨tu, cr⟩, bk, sp, ho, he, la, ⟨av, aw, ab, af, ay, al, ar, az⟩, ⟨dv, dw, db, df, dy, dl, dr, dz⟩, ⟨mem, ⟨rg, ti, ff⟩⟩, pk, lg⟩ := x
  obtain ⟨Al, Pl, AM, PM, Abk, Pbk, Asp, Psp, Amem, Pmem, Arg, Prg, Aff, Pff, Alg, Plg, nl, nM, nb, ns, ng, v⟩ := bus_at h
  exact specBusOkV _ _ _ _ _ _ _ _ _ _ _ _ _ _ _ _ _ _ _ _ _ _ _ _ _ _ _ _ _ _ _ _ _ _ _ _ _ _ _ _ _ _ _ _ _ _ _ _ _ _ _ _ _ _ _ _ _ _ _ _ v (bus_z hs)

end Go.Proofs.YtdhaelaoackfkaaGreat.KD

namespace Go.Proofs.YtdhaelaoackfkaaGreat.KD
open Go.RowKit Rows3 GR Num
set_option linter.unusedVariables false
/-- has no master a request. -/
def IdleP (x : BusX) : Prop := GoodBus x ∧ ∀ (i : Nat) (m : MstX), x.2.2.1[i]? = some m → m.1 = []
theorem implBusOk_is {arr : Array Value} {l : List (Int × Bool × Int × Int)} {qu : Int} {mw : Int} {mr : Int} {ms : Int} {lm : Int} {now : Int} {M : List (List (Bool × Int × Int × Int × Bool × List Int) × Int × Int × Int × Bool × Bool)} {tu : Int} {cr : Int} {bk : List (Int × Int)} {sp : List Int} {ho : Int} {he : Int} {la : Int} {av : Bool} {aw : Int} {ab : Int} {af : Bool} {ay : Int} {al : Int} {ar : Int} {az : Bool} {dv : Bool} {dw : Int} {db : Int} {df : Bool} {dy : Int} {dl : Int} {dr : Int} {dz : Bool} {mem : List Int} {rg : List Int} {ti : Int} {ff : List Int} {pk : Int} {lg : List (Int × Int × Bool × Int × Int × Int × Int)} {Al : Option Addr} {Pl : Nat} {AM : Option Addr} {PM : Nat} {Abk : Option Addr} {Pbk : Nat} {Asp : Option Addr} {Psp : Nat} {Amem : Option Addr} {Pmem : Nat} {Arg : Option Addr} {Prg : Nat} {Aff : Option Addr} {Pff : Nat} {Alg : Option Addr} {Plg : Nat} {nl nM nb ns ng : Nat} {w y : World} {c : Bool} (hc : tt (GoodBus ((l, qu, mw, mr, ms, lm), now, M, (tu, cr), bk, sp, ho, he, la, (av, aw, ab, af, ay, al, ar, az), (dv, dw, db, df, dy, dl, dr, dz), (mem, (rg, ti, ff)), pk, lg)) = c) (v : BV arr l qu mw mr ms lm now M tu cr bk sp ho he la av aw ab af ay al ar az dv dw db df dy dl dr dz mem rg ti ff pk lg Al Pl AM PM Abk Pbk Asp Psp Amem Pmem Arg Prg Aff Pff Alg Plg nl nM nb ns ng w) (z : BZ 0 l M bk sp mem rg ff lg) (hb : Below w.heap.size w y) :
    Calls Tryz.prog 8 #[.agg arr] y fun e w' => e = .returned (.bool c) ∧ Below y.heap.size y w' := hc ▸ implBusOkV _ _ _ _ _ _ _ _ _ _ _ _ _ _ _ _ _ _ _ _ _ _ _ _ _ _ _ _ _ _ _ _ _ _ _ _ _ _ _ _ _ _ _ _ _ _ _ _ _ _ _ _ _ _ _ _ _ _ _ _ (v.later hb) z
set_option maxHeartbeats 16000000 in
set_option maxRecDepth 100000 in
theorem implIdleV (arr : Array Value) (l : List (Int × Bool × Int × Int)) (qu : Int) (mw : Int) (mr : Int) (ms : Int) (lm : Int) (now : Int) (M : List (List (Bool × Int × Int × Int × Bool × List Int) × Int × Int × Int × Bool × Bool)) (tu : Int) (cr : Int) (bk : List (Int × Int)) (sp : List Int) (ho : Int) (he : Int) (la : Int) (av : Bool) (aw : Int) (ab : Int) (af : Bool) (ay : Int) (al : Int) (ar : Int) (az : Bool) (dv : Bool) (dw : Int) (db : Int) (df : Bool) (dy : Int) (dl : Int) (dr : Int) (dz : Bool) (mem : List Int) (rg : List Int) (ti : Int) (ff : List Int) (pk : Int) (lg : List (Int × Int × Bool × Int × Int × Int × Int)) (Al : Option Addr) (Pl : Nat) (AM : Option Addr) (PM : Nat) (Abk : Option Addr) (Pbk : Nat) (Asp : Option Addr) (Psp : Nat) (Amem : Option Addr) (Pmem : Nat) (Arg : Option Addr) (Prg : Nat) (Aff : Option Addr) (Pff : Nat) (Alg : Option Addr) (Plg : Nat) (nl nM nb ns ng : Nat) (w : World) (v : BV arr l qu mw mr ms lm now M tu cr bk sp ho he la av aw ab af ay al ar az dv dw db df dy dl dr dz mem rg ti ff pk lg Al Pl AM PM Abk Pbk Asp Psp Amem Pmem Arg Prg Aff Pff Alg Plg nl nM nb ns ng w) (z : BZ 0 l M bk sp mem rg ff lg) :
    Calls Tryz.prog 11 #[.agg arr] w fun e w' => e = .returned (.bool (tt (IdleP ((l, qu, mw, mr, ms, lm), now, M, (tu, cr), bk, sp, ho, he, la, (av, aw, ab, af, ay, al, ar, az), (dv, dw, db, df, dy, dl, dr, dz), (mem, (rg, ti, ff)), pk, lg)))) ∧ Below w.heap.size w w' := by
  have HV := Lib.hid v
  have HZ := Lib.hid z
  clear v z
  obtain ⟨R, hR0⟩ : ∃ R, (tt (IdleP ((l, qu, mw, mr, ms, lm), now, M, (tu, cr), bk, sp, ho, he, la, (av, aw, ab, af, ay, al, ar, az), (dv, dw, db, df, dy, dl, dr, dz), (mem, (rg, ti, ff)), pk, lg))) = R := ⟨_, rfl⟩
  rw [hR0]
  have HR := Lib.hid hR0
  clear hR0
  have B := Bx.new 53 arr w
  have hb0 := (Below.refl w.heap.size w).alloc (Nat.le_refl _) (Obj.cells arr 53)
  obtain ⟨y0, hy0⟩ : ∃ y, w.alloc (Obj.cells arr 53) = y := ⟨_, rfl⟩
  rw [hy0] at B hb0
  have B_0 := Lib.hid B
  have HB_0 := Lib.hid hb0
  clear B hb0
  have HG : Hid (IdleP ((l, qu, mw, mr, ms, lm), now, M, (tu, cr), bk, sp, ho, he, la, (av, aw, ab, af, ay, al, ar, az), (dv, dw, db, df, dy, dl, dr, dz), (mem, (rg, ti, ff)), pk, lg) ↔ (GoodBus ((l, qu, mw, mr, ms, lm), now, M, (tu, cr), bk, sp, ho, he, la, (av, aw, ab, af, ay, al, ar, az), (dv, dw, db, df, dy, dl, dr, dz), (mem, (rg, ti, ff)), pk, lg) ∧ ∀ (i : Nat) (m : MstX), M[i]? = some m → m.1 = [])) := Lib.hid Iff.rfl
  have hlM2 : nM ≤ 2000000 := by rw [← HV.out.nM]; exact HZ.out.zMl
  go_enter Tryz.func11, Tryz.ntmps11
  go_upto_region 1 with fail
  clear hy0
  obtain ⟨c1, hc1⟩ : ∃ c, tt (GoodBus ((l, qu, mw, mr, ms, lm), now, M, (tu, cr), bk, sp, ho, he, la, (av, aw, ab, af, ay, al, ar, az), (dv, dw, db, df, dy, dl, dr, dz), (mem, (rg, ti, ff)), pk, lg)) = c := ⟨_, rfl⟩
  have C1 := Lib.hid hc1
  clear hc1
  cases c1
  · have hf : R = false := by rw [← HR.out]; exact tt_no (fun g => tt_not C1.out (HG.out.1 g).1)
    subst hf
    refine wp_region_det ?_
    repeat (first
      | (go_big_quiet_want; refine quiet_load (T := 53) (x := .tmp 1) (g := w.heap.size) (cs := arr) rfl rfl B_0.out Tryz.underlying53 rfl (by rw [HV.out.size]; kernel_rfl) ?_; simp only [Act.put, List.setIfInBounds_toArray, List.set_cons_succ, List.set_cons_zero]; go_big_quiet_on)
      | go_big_quiet_step (first
      | (go_at_call 8; exact Calls.regrown_of (implBusOk_is C1.out HV.out HZ.out (below_rg HB_0.out _ _)))))
    refine wpQuiet_nil ?_
    rintro _ ⟨qq, rfl⟩
    have hq := below_regrown y0 qq.d qq.os
    have B_1 := Lib.hid (B_0.out.later hq)
    have HB_1 := Lib.hid (HB_0.out.trans (hq.mono HB_0.out.size))
    clear B_0 HB_0 hq 
    repeat (first | go_values | go_skip | go_guarded | go_step | go_upon | go_back)
    go_ret
    exact ⟨rfl, HB_1.out⟩
  refine wp_region_det ?_
  repeat (first
    | (go_big_quiet_want; refine quiet_load (T := 53) (x := .tmp 1) (g := w.heap.size) (cs := arr) rfl rfl B_0.out Tryz.underlying53 rfl (by rw [HV.out.size]; kernel_rfl) ?_; simp only [Act.put, List.setIfInBounds_toArray, List.set_cons_succ, List.set_cons_zero]; go_big_quiet_on)
    | go_big_quiet_step (first
    | (go_at_call 8; exact Calls.regrown_of (implBusOk_is C1.out HV.out HZ.out (below_rg HB_0.out _ _)))))
  refine wpQuiet_nil ?_
  rintro _ ⟨qq, rfl⟩
  have hq := below_regrown y0 qq.d qq.os
  have B_1 := Lib.hid (B_0.out.later hq)
  have HB_1 := Lib.hid (HB_0.out.trans (hq.mono HB_0.out.size))
  clear B_0 HB_0 hq 
  generalize Sort.grow (redrawn y0 qq.d) qq.os = y1 at B_1 HB_1 ⊢
  have g7 := B_1.out.cell 7 _ HV.out.c7
  repeat (first | go_values | go_skip | go_guarded | go_step | go_upon | go_back)
  clear g7
  go_loopw [11] (fun i wr => ∃ j : Nat, j ≤ nM ∧ i = .int .i64 j ∧ Hid (∀ k m, k < j → M[k]? = some m → m.1 = []) ∧ Hid (Below w.heap.size w wr)) (fun i _ => nM - (intOf i).toNat)
  case atStart => exact ⟨0, by omega, rfl, Lib.hid (fun k m hk => by omega), HB_1⟩
  case round =>
    clear B_1 HB_1
    obtain ⟨j, hj, rfl, HQ, HB_0⟩ := hrel
    by_cases hlt : j < nM
    · skip
      obtain ⟨m, hxm⟩ := get_of (l := M) (i := j) (by rw [HV.out.nM]; exact hlt)
      have HXm := Lib.hid hxm
      obtain ⟨bm, om, _, esm, em, _, _, ltm, cm, rm⟩ := row_rd HV.out.rM hxm
      simp at em
      obtain ⟨rfl, -, rfl⟩ := em
      obtain ⟨m0, m1, m2, m3, m4, m5⟩ := m
      have Rm := Lib.hid rm
      obtain ⟨am, pm, rfl, _⟩ := mst_form rm
      have Em0 := Lib.hid (show w.cell? ⟨bm, om + j * 6, none⟩ = some (.slice am m0.length pm) from cm 0 _ rfl)
      have Em1 := Lib.hid (show w.cell? ⟨bm, om + j * 6 + 1, none⟩ = some (.int .i64 m1) from cm 1 _ rfl)
      have Em2 := Lib.hid (show w.cell? ⟨bm, om + j * 6 + 2, none⟩ = some (.int .i64 m2) from cm 2 _ rfl)
      have Em3 := Lib.hid (show w.cell? ⟨bm, om + j * 6 + 3, none⟩ = some (.int .i64 m3) from cm 3 _ rfl)
      have Em4 := Lib.hid (show w.cell? ⟨bm, om + j * 6 + 4, none⟩ = some (.bool m4) from cm 4 _ rfl)
      have Em5 := Lib.hid (show w.cell? ⟨bm, om + j * 6 + 5, none⟩ = some (.bool m5) from cm 5 _ rfl)
      have LTm := Lib.hid ltm
      clear hxm cm rm ltm
      have hin : (0 : Int) ≤ (j : Int) ∧ (j : Int) < ((nM : Nat) : Int) := by omega
      have hm0 := ((bel_cells HB_0.out LTm.out _).trans Em0.out)
      have hm1 := ((bel_cells HB_0.out LTm.out _).trans Em1.out)
      have hm2 := ((bel_cells HB_0.out LTm.out _).trans Em2.out)
      have hm3 := ((bel_cells HB_0.out LTm.out _).trans Em3.out)
      have hm4 := ((bel_cells HB_0.out LTm.out _).trans Em4.out)
      have hm5 := ((bel_cells HB_0.out LTm.out _).trans Em5.out)
      have hba := (Below.refl wr.heap.size wr).alloc (Nat.le_refl _) (Obj.cells #[.slice am m0.length pm, .int .i64 m1, .int .i64 m2, .int .i64 m3, .bool m4, .bool m5] 70)
      have HB_1 := Lib.hid (HB_0.out.trans (hba.mono HB_0.out.size))
      have X_1 := Lib.hid (Bx.new 70 #[.slice am m0.length pm, .int .i64 m1, .int .i64 m2, .int .i64 m3, .bool m4, .bool m5] wr)
      clear hba HB_0
      go_upto_region 6 with fail
      clear hm0 hm1 hm2 hm3 hm4 hm5
      generalize wr.alloc (Obj.cells #[.slice am m0.length pm, .int .i64 m1, .int .i64 m2, .int .i64 m3, .bool m4, .bool m5] 70) = w2 at HB_1 X_1 ⊢
      obtain ⟨hx0, -, -, -, -, -⟩ := X_1.out.cells6
      obtain ⟨n, hn⟩ : ∃ n, m0.length = n := ⟨_, rfl⟩
      rw [hn] at hx0
      have HN := Lib.hid hn
      clear hn X_1
      by_cases h0 : n = 0
      · subst h0
        have HQ2 : Hid (∀ k m, k < j + 1 → M[k]? = some m → m.1 = []) := Lib.hid (fun k m hk hm => by
          by_cases e : k = j
          · subst e
            rw [HXm.out] at hm
            cases hm
            exact List.length_eq_zero_iff.1 HN.out
          · exact HQ.out k m (by omega) hm)
        repeat (first | go_values | go_skip | go_guarded | go_step | go_upon | go_back)
        go_roundw
        case rel => exact ⟨j + 1, by omega, by go_num, HQ2, HB_1⟩
        case measure => simp [intOf]; omega
      have hgt : decide ((0 : Int) < (n : Int)) = true := by simp; omega
      have hgt2 : (0 : Int) < (n : Int) := by omega
      have hf : R = false := by
        rw [← HR.out]
        exact tt_no (fun g => h0 (by have h1 := (HG.out.1 g).2 j _ HXm.out; dsimp only at h1; rw [← HN.out, h1]; rfl))
      subst hf
      repeat (first | go_values | go_skip | go_guarded | go_step | go_upon | go_back)
      go_ret
      exact ⟨rfl, HB_1.out⟩
    · obtain rfl : j = nM := by omega
      have hf : R = true := by
        rw [← HR.out]
        exact tt_yes (HG.out.2 ⟨tt_of C1.out, fun k m hm => HQ.out k m (by have := (List.getElem?_eq_some_iff.1 hm).1; rw [HV.out.nM] at this; exact this) hm⟩)
      subst hf
      repeat (first | go_values | go_skip | go_guarded | go_step | go_upon | go_back)
      go_ret
      exact ⟨rfl, HB_0.out⟩
theorem implIdleBus (cs : List Value) (x : BusX) (hs : busK.sz x ≤ 2000000) (w : World) (h : busK.rd cs x w) :
    Calls Tryz.prog 11 #[agg cs] w fun e w' => e = .returned (.bool (tt (IdleP x))) ∧ Below w.heap.size w w' := by
  have h := (by simpa using h : busK.rd cs.toArray.toList x w)
  unfold agg
  generalize cs.toArray = arr at h ⊢
  obtain ⟨⟨l, qu, mw, mr, ms, lm⟩, now, M, ⟨tu, cr⟩, bk, sp, ho, he, la, ⟨av, aw, ab, af, ay, al, ar, az⟩, ⟨dv, dw, db, df, dy, dl, dr, dz⟩, ⟨mem, ⟨rg, ti, ff⟩⟩, pk, lg⟩ := x
  obtain ⟨Al, Pl, AM, PM, Abk, Pbk, Asp, Psp, Amem, Pmem, Arg, Prg, Aff, Pff, Alg, Plg, nl, nM, nb, ns, ng, v⟩ := bus_at h
  exact implIdleV _ _ _ _ _ _ _ _ _ _ _ _ _ _ _ _ _ _ _ _ _ _ _ _ _ _ _ _ _ _ _ _ _ _ _ _ _ _ _ _ _ _ _ _ _ _ _ _ _ _ _ _ _ _ _ _ _ _ _ _ v (bus_z hs)

end Go.Proofs.YtdhaelaoackfkaaGreat.KD

namespace Go.Proofs.YtdhaelaoackfkaaGreat.KD
open Go.RowKit Rows3 GR Num
set_option linter.unusedVariables false
theorem specBusOk_is {arr : Array Value} {l : List (Int × Bool × Int × Int)} {qu : Int} {mw : Int} {mr : Int} {ms : Int} {lm : Int} {now : Int} {M : List (List (Bool × Int × Int × Int × Bool × List Int) × Int × Int × Int × Bool × Bool)} {tu : Int} {cr : Int} {bk : List (Int × Int)} {sp : List Int} {ho : Int} {he : Int} {la : Int} {av : Bool} {aw : Int} {ab : Int} {af : Bool} {ay : Int} {al : Int} {ar : Int} {az : Bool} {dv : Bool} {dw : Int} {db : Int} {df : Bool} {dy : Int} {dl : Int} {dr : Int} {dz : Bool} {mem : List Int} {rg : List Int} {ti : Int} {ff : List Int} {pk : Int} {lg : List (Int × Int × Bool × Int × Int × Int × Int)} {Al : Option Addr} {Pl : Nat} {AM : Option Addr} {PM : Nat} {Abk : Option Addr} {Pbk : Nat} {Asp : Option Addr} {Psp : Nat} {Amem : Option Addr} {Pmem : Nat} {Arg : Option Addr} {Prg : Nat} {Aff : Option Addr} {Pff : Nat} {Alg : Option Addr} {Plg : Nat} {nl nM nb ns ng : Nat} {w y : World} {c : Bool} (hc : tt (GoodBus ((l, qu, mw, mr, ms, lm), now, M, (tu, cr), bk, sp, ho, he, la, (av, aw, ab, af, ay, al, ar, az), (dv, dw, db, df, dy, dl, dr, dz), (mem, (rg, ti, ff)), pk, lg)) = c) (v : BV arr l qu mw mr ms lm now M tu cr bk sp ho he la av aw ab af ay al ar az dv dw db df dy dl dr dz mem rg ti ff pk lg Al Pl AM PM Abk Pbk Asp Psp Amem Pmem Arg Prg Aff Pff Alg Plg nl nM nb ns ng w) (z : BZ 0 l M bk sp mem rg ff lg) (hb : Below w.heap.size w y) :
    Calls Tryz.prog 6 #[.agg arr] y fun e w' => e = .returned (.bool c) ∧ Below y.heap.size y w' := hc ▸ specBusOkV _ _ _ _ _ _ _ _ _ _ _ _ _ _ _ _ _ _ _ _ _ _ _ _ _ _ _ _ _ _ _ _ _ _ _ _ _ _ _ _ _ _ _ _ _ _ _ _ _ _ _ _ _ _ _ _ _ _ _ _ (v.later hb) z
set_option maxHeartbeats 16000000 in
set_option maxRecDepth 100000 in
theorem specIdleV (arr : Array Value) (l : List (Int × Bool × Int × Int)) (qu : Int) (mw : Int) (mr : Int) (ms : Int) (lm : Int) (now : Int) (M : List (List (Bool × Int × Int × Int × Bool × List Int) × Int × Int × Int × Bool × Bool)) (tu : Int) (cr : Int) (bk : List (Int × Int)) (sp : List Int) (ho : Int) (he : Int) (la : Int) (av : Bool) (aw : Int) (ab : Int) (af : Bool) (ay : Int) (al : Int) (ar : Int) (az : Bool) (dv : Bool) (dw : Int) (db : Int) (df : Bool) (dy : Int) (dl : Int) (dr : Int) (dz : Bool) (mem : List Int) (rg : List Int) (ti : Int) (ff : List Int) (pk : Int) (lg : List (Int × Int × Bool × Int × Int × Int × Int)) (Al : Option Addr) (Pl : Nat) (AM : Option Addr) (PM : Nat) (Abk : Option Addr) (Pbk : Nat) (Asp : Option Addr) (Psp : Nat) (Amem : Option Addr) (Pmem : Nat) (Arg : Option Addr) (Prg : Nat) (Aff : Option Addr) (Pff : Nat) (Alg : Option Addr) (Plg : Nat) (nl nM nb ns ng : Nat) (w : World) (v : BV arr l qu mw mr ms lm now M tu cr bk sp ho he la av aw ab af ay al ar az dv dw db df dy dl dr dz mem rg ti ff pk lg Al Pl AM PM Abk Pbk Asp Psp Amem Pmem Arg Prg Aff Pff Alg Plg nl nM nb ns ng w) (z : BZ 0 l M bk sp mem rg ff lg) :
    Calls Tryz.prog 10 #[.agg arr] w fun e w' => e = .returned (.bool (tt (IdleP ((l, qu, mw, mr, ms, lm), now, M, (tu, cr), bk, sp, ho, he, la, (av, aw, ab, af, ay, al, ar, az), (dv, dw, db, df, dy, dl, dr, dz), (mem, (rg, ti, ff)), pk, lg)))) ∧ Below w.heap.size w w' := by
  have HV := Lib.hid v
  have HZ := Lib.hid z
  clear v z
  obtain ⟨R, hR0⟩ : ∃ R, (tt (IdleP ((l, qu, mw, mr, ms, lm), now, M, (tu, cr), bk, sp, ho, he, la, (av, aw, ab, af, ay, al, ar, az), (dv, dw, db, df, dy, dl, dr, dz), (mem, (rg, ti, ff)), pk, lg))) = R := ⟨_, rfl⟩
  rw [hR0]
  have HR := Lib.hid hR0
  clear hR0
  have B := Bx.new 53 arr w
  have hb0 := (Below.refl w.heap.size w).alloc (Nat.le_refl _) (Obj.cells arr 53)
  obtain ⟨y0, hy0⟩ : ∃ y, w.alloc (Obj.cells arr 53) = y := ⟨_, rfl⟩
  rw [hy0] at B hb0
  have B_0 := Lib.hid B
  have HB_0 := Lib.hid hb0
  clear B hb0
  have HG : Hid (IdleP ((l, qu, mw, mr, ms, lm), now, M, (tu, cr), bk, sp, ho, he, la, (av, aw, ab, af, ay, al, ar, az), (dv, dw, db, df, dy, dl, dr, dz), (mem, (rg, ti, ff)), pk, lg) ↔ (GoodBus ((l, qu, mw, mr, ms, lm), now, M, (tu, cr), bk, sp, ho, he, la, (av, aw, ab, af, ay, al, ar, az), (dv, dw, db, df, dy, dl, dr, dz), (mem, (rg, ti, ff)), pk, lg) ∧ ∀ (i : Nat) (m : MstX), M[i]? = some m → m.1 = [])) := Lib.hid Iff.rfl
  have hlM2 : nM ≤ 2000000 := by rw [← HV.out.nM]; exact HZ.out.zMl
  go_enter Tryz.func10, Tryz.ntmps10
  repeat (first | go_values | go_skip | go_guarded | go_step | go_upon | go_back)
  clear hy0
  go_loopw [3] (fun i wr => ∃ j : Nat, j ≤ nM ∧ i = .int .i64 j ∧ Hid (∀ k m, k < j → M[k]? = some m → m.1 = []) ∧ Hid (Bx 53 w.heap.size arr wr) ∧ Hid (Below w.heap.size w wr)) (fun i _ => nM - (intOf i).toNat)
  case atStart => exact ⟨0, by omega, rfl, Lib.hid (fun k m hk => by omega), B_0, HB_0⟩
  case round =>
    clear B_0 HB_0
    obtain ⟨j, hj, rfl, HQ, B_0, HB_0⟩ := hrel
    have g7 := B_0.out.cell 7 _ HV.out.c7
    by_cases hlt : j < nM
    · skip
      obtain ⟨m, hxm⟩ := get_of (l := M) (i := j) (by rw [HV.out.nM]; exact hlt)
      have HXm := Lib.hid hxm
      obtain ⟨bm, om, _, esm, em, _, _, ltm, cm, rm⟩ := row_rd HV.out.rM hxm
      simp at em
      obtain ⟨rfl, -, rfl⟩ := em
      obtain ⟨m0, m1, m2, m3, m4, m5⟩ := m
      have Rm := Lib.hid rm
      obtain ⟨am, pm, rfl, _⟩ := mst_form rm
      have Em0 := Lib.hid (show w.cell? ⟨bm, om + j * 6, none⟩ = some (.slice am m0.length pm) from cm 0 _ rfl)
      have Em1 := Lib.hid (show w.cell? ⟨bm, om + j * 6 + 1, none⟩ = some (.int .i64 m1) from cm 1 _ rfl)
      have Em2 := Lib.hid (show w.cell? ⟨bm, om + j * 6 + 2, none⟩ = some (.int .i64 m2) from cm 2 _ rfl)
      have Em3 := Lib.hid (show w.cell? ⟨bm, om + j * 6 + 3, none⟩ = some (.int .i64 m3) from cm 3 _ rfl)
      have Em4 := Lib.hid (show w.cell? ⟨bm, om + j * 6 + 4, none⟩ = some (.bool m4) from cm 4 _ rfl)
      have Em5 := Lib.hid (show w.cell? ⟨bm, om + j * 6 + 5, none⟩ = some (.bool m5) from cm 5 _ rfl)
      have LTm := Lib.hid ltm
      clear hxm cm rm ltm
      have hin : (0 : Int) ≤ (j : Int) ∧ (j : Int) < ((nM : Nat) : Int) := by omega
      have hm0 := ((bel_cells HB_0.out LTm.out _).trans Em0.out)
      have hm1 := ((bel_cells HB_0.out LTm.out _).trans Em1.out)
      have hm2 := ((bel_cells HB_0.out LTm.out _).trans Em2.out)
      have hm3 := ((bel_cells HB_0.out LTm.out _).trans Em3.out)
      have hm4 := ((bel_cells HB_0.out LTm.out _).trans Em4.out)
      have hm5 := ((bel_cells HB_0.out LTm.out _).trans Em5.out)
      obtain ⟨n, hn⟩ : ∃ n, m0.length = n := ⟨_, rfl⟩
      rw [hn] at hm0
      have HN := Lib.hid hn
      clear hn
      by_cases h0 : n = 0
      · subst h0
        have HQ2 : Hid (∀ k m, k < j + 1 → M[k]? = some m → m.1 = []) := Lib.hid (fun k m hk hm => by
          by_cases e : k = j
          · subst e
            rw [HXm.out] at hm
            cases hm
            exact List.length_eq_zero_iff.1 HN.out
          · exact HQ.out k m (by omega) hm)
        repeat (first | go_values | go_skip | go_guarded | go_step | go_upon | go_back)
        go_roundw
        case rel => exact ⟨j + 1, by omega, by go_num, HQ2, B_0, HB_0⟩
        case measure => simp [intOf]; omega
      have hgt : decide ((0 : Int) < (n : Int)) = true := by simp; omega
      have hgt2 : (0 : Int) < (n : Int) := by omega
      have hf : R = false := by
        rw [← HR.out]
        exact tt_no (fun g => h0 (by have h1 := (HG.out.1 g).2 j _ HXm.out; dsimp only at h1; rw [← HN.out, h1]; rfl))
      subst hf
      repeat (first | go_values | go_skip | go_guarded | go_step | go_upon | go_back)
      go_ret
      exact ⟨rfl, HB_0.out⟩
    · obtain rfl : j = nM := by omega
      go_upto_region 6 with fail
      clear g7
      obtain ⟨c1, hc1⟩ : ∃ c, tt (GoodBus ((l, qu, mw, mr, ms, lm), now, M, (tu, cr), bk, sp, ho, he, la, (av, aw, ab, af, ay, al, ar, az), (dv, dw, db, df, dy, dl, dr, dz), (mem, (rg, ti, ff)), pk, lg)) = c := ⟨_, rfl⟩
      have C1 := Lib.hid hc1
      clear hc1
      have hf : R = c1 := by
        rw [← HR.out, ← C1.out]
        exact tt_congr (HG.out.trans ⟨fun h => h.1, fun h => ⟨h, fun k m hm => HQ.out k m (by have := (List.getElem?_eq_some_iff.1 hm).1; rw [HV.out.nM] at this; exact this) hm⟩⟩)
      subst hf
      refine wp_region_det ?_
      repeat (first
        | (go_big_quiet_want; refine quiet_load (T := 53) (x := .tmp 1) (g := w.heap.size) (cs := arr) rfl rfl B_0.out Tryz.underlying53 rfl (by rw [HV.out.size]; kernel_rfl) ?_; simp only [Act.put, List.setIfInBounds_toArray, List.set_cons_succ, List.set_cons_zero]; go_big_quiet_on)
        | go_big_quiet_step (first
        | (go_at_call 6; exact Calls.regrown_of (specBusOk_is C1.out HV.out HZ.out (below_rg HB_0.out _ _)))))
      refine wpQuiet_nil ?_
      rintro _ ⟨qq, rfl⟩
      have hq := below_regrown wr qq.d qq.os
      have B_1 := Lib.hid (B_0.out.later hq)
      have HB_1 := Lib.hid (HB_0.out.trans (hq.mono HB_0.out.size))
      clear B_0 HB_0 hq 
      repeat (first | go_values | go_skip | go_guarded | go_step | go_upon | go_back)
      go_ret
      exact ⟨rfl, HB_1.out⟩
theorem specIdleBus (cs : List Value) (x : BusX) (hs : busK.sz x ≤ 2000000) (w : World) (h : busK.rd cs x w) :
    Calls Tryz.prog 10 #[agg cs] w fun e w' => e = .returned (.bool (tt (IdleP x))) ∧ Below w.heap.size w w' := by
  have h := (by simpa using h : busK.rd cs.toArray.toList x w)
  unfold agg
  generalize cs.toArray = arr at h ⊢
  obtain ⟨⟨l, qu, mw, mr, ms, lm⟩, now, M, ⟨tu, cr⟩, bk, sp, ho, he, la, ⟨av, aw, ab, af, ay, al, ar, az⟩, ⟨dv, dw, db, df, dy, dl, dr, dz⟩, ⟨mem, ⟨rg, ti, ff⟩⟩, pk, lg⟩ := x
  obtain ⟨Al, Pl, AM, PM, Abk, Pbk, Asp, Psp, Amem, Pmem, Arg, Prg, Aff, Pff, Alg, Plg, nl, nM, nb, ns, ng, v⟩ := bus_at h
  exact specIdleV _ _ _ _ _ _ _ _ _ _ _ _ _ _ _ _ _ _ _ _ _ _ _ _ _ _ _ _ _ _ _ _ _ _ _ _ _ _ _ _ _ _ _ _ _ _ _ _ _ _ _ _ _ _ _ _ _ _ _ _ v (bus_z hs)

end Go.Proofs.YtdhaelaoackfkaaGreat.KD
