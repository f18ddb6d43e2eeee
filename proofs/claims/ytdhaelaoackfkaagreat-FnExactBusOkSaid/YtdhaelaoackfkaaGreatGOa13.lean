/-
  Several texts in one: BOkI2, BOkI6.
-/
import Derived.Test.YtdhaelaoackfkaaGreatBOkI1
import Derived.Test.YtdhaelaoackfkaaGreatGMc13
import Derived.Deep.RegionHeld3
namespace Go.Proofs.YtdhaelaoackfkaaGreat.KD
open Go.RowKit Rows3 GR Num
set_option linter.unusedVariables false
theorem ints_el {ad : Option Addr} {n cp : Nat} {l : List Int} {w : World} {i : Nat} {x : Int} (h : ints.rd [.slice ad n cp] l w) (hx : l[i]? = some x) : ∃ b o, ad = some ⟨b, o, none⟩ ∧ b < w.heap.size ∧ w.cell? ⟨b, o + i, none⟩ = some (.int .i64 x) := by
  obtain ⟨_, _, e0, _, ad2, cp2, e1, R0⟩ := rd_ints h
  cases e0
  cases e1
  obtain ⟨hl, he⟩ := List.getElem?_eq_some_iff.1 hx
  obtain ⟨b, o, e, h1, h2⟩ := R0 i hl
  refine ⟨b, o, e, h1, ?_⟩
  rw [h2, List.getD_eq_getElem?_getD, hx]
  rfl
theorem conf_zc {l : List (Int × Bool × Int × Int)} {qu mw mr ms lm : Int} (h : mConfS.sz l ≤ 2000000) : confK.sz (l, qu, mw, mr, ms, lm) ≤ 2000000 := by rw [conf_sz]; exact h
/-- what a valid configuration's numbers are. -/
theorem conf_bd {l : List (Int × Bool × Int × Int)} {qu mw mr ms lm : Int} (h : okX (l, qu, mw, mr, ms, lm) = true) : (1 ≤ l.length ∧ l.length ≤ 4) ∧ (0 ≤ mr ∧ mr ≤ 3) ∧ (0 ≤ mw ∧ mw ≤ 3) ∧ (1 ≤ ms ∧ ms ≤ 12) ∧ (1 ≤ lm ∧ lm ≤ 40) ∧ ∀ x ∈ l, (0 ≤ x.2.2.1 ∧ x.2.2.1 ≤ 1000) ∧ (0 ≤ x.2.2.2 ∧ x.2.2.2 ≤ 8) := by
  unfold okX okC at h
  simp only [Bool.and_eq_true, decide_eq_true_eq, inB_iff, List.length_map] at h
  obtain ⟨h1, h2, h3, h4, h5, h6⟩ := h
  have hc : inB mr 0 3 = true ∧ inB mw 0 3 = true := by
    unfold costW at h4
    split at h4
    · rename_i g; simpa using g
    · omega
  rw [inB_iff, inB_iff] at hc
  refine ⟨by omega, hc.1, hc.2, h5, h6, fun x hx => ?_⟩
  have hm := List.all_eq_true.1 h1 (mcOf x) (List.mem_map_of_mem hx)
  have hL : 0 ≤ leastW (l.map mcOf) mr mw lm := by
    unfold leastW
    have := (slotW_bd mr mw lm).1
    exact Int.mul_nonneg (by omega) this
  generalize leastW (l.map mcOf) mr mw lm = L at hm hL
  obtain ⟨a, p, b, c⟩ := x
  unfold mcOf Num.okM at hm
  cases p
  · simp at hm; dsimp only; omega
  · simp [inB] at hm; dsimp only; omega
theorem conf_ev {l : List (Int × Bool × Int × Int)} {qu mw mr ms lm : Int} (h : okX (l, qu, mw, mr, ms, lm) = true) {x : Int × Bool × Int × Int} (hx : x ∈ l) : EvOk x.2.2.1 := ((conf_bd h).2.2.2.2.2 x hx).1
theorem iMstIs {cs ds : List Value} {q : List ReqX} {be dn tr : Int} {pa br : Bool} {l : List (Int × Bool × Int × Int)} {qu mw mr ms lm : Int} {b : Bool} (hb : okMst q be dn tr pa br (l, qu, mw, mr, ms, lm) = b) (hs : mstK.sz (q, be, dn, tr, pa, br) ≤ 2000000) (hc : confK.sz (l, qu, mw, mr, ms, lm) ≤ 2000000) {w : World} (h : mstK.rd cs (q, be, dn, tr, pa, br) w) (h' : confK.rd ds (l, qu, mw, mr, ms, lm) w) :
    Calls Tryz.prog 73 #[agg cs, agg ds] w fun e w' => e = .returned (.bool b) ∧ Below w.heap.size w w' := hb ▸ implMstOk cs ds q be dn tr pa br l qu mw mr ms lm hs hc w h h'
theorem iBuckIs {wt : Int} {p : Bool} {ev cap t c : Int} {b : Bool} (hb : okB p ev cap t c = b) (hs : EvOk ev) (w : World) :
    Calls Tryz.prog 74 #[.agg #[.int .i64 t, .int .i64 c], .agg #[.int .i64 wt, .bool p, .int .i64 ev, .int .i64 cap]] w fun e w' => e = .returned (.bool b) ∧ Below w.heap.size w w' := hb ▸ implOkB wt p ev cap t c hs w
set_option maxHeartbeats 16000000 in
set_option maxRecDepth 100000 in
theorem implMasters (arr : Array Value) (l : List (Int × Bool × Int × Int)) (qu : Int) (mw : Int) (mr : Int) (ms : Int) (lm : Int) (now : Int) (M : List (List (Bool × Int × Int × Int × Bool × List Int) × Int × Int × Int × Bool × Bool)) (tu : Int) (cr : Int) (bk : List (Int × Int)) (sp : List Int) (ho : Int) (he : Int) (la : Int) (av : Bool) (aw : Int) (ab : Int) (af : Bool) (ay : Int) (al : Int) (ar : Int) (az : Bool) (dv : Bool) (dw : Int) (db : Int) (df : Bool) (dy : Int) (dl : Int) (dr : Int) (dz : Bool) (mem : List Int) (rg : List Int) (ti : Int) (ff : List Int) (pk : Int) (lg : List (Int × Int × Bool × Int × Int × Int × Int)) (Al : Option Addr) (Pl : Nat) (AM : Option Addr) (PM : Nat) (Abk : Option Addr) (Pbk : Nat) (Asp : Option Addr) (Psp : Nat) (Amem : Option Addr) (Pmem : Nat) (Arg : Option Addr) (Prg : Nat) (Aff : Option Addr) (Pff : Nat) (Alg : Option Addr) (Plg : Nat) (nl nM nb ns ng : Nat) (w : World) (v : BV arr l qu mw mr ms lm now M tu cr bk sp ho he la av aw ab af ay al ar az dv dw db df dy dl dr dz mem rg ti ff pk lg Al Pl AM PM Abk Pbk Asp Psp Amem Pmem Arg Prg Aff Pff Alg Plg nl nM nb ns ng w) (z : BZ 0 l M bk sp mem rg ff lg) (hok : okX (l, qu, mw, mr, ms, lm) = true) :
    Calls Tryz.prog 37 #[.agg arr] w fun e w' => e = .returned (.bool (tt (LensP l M bk sp ∧ AllP l qu mw mr ms lm M bk sp))) ∧ Below w.heap.size w w' := by
  have HV := Lib.hid v
  have HZ := Lib.hid z
  clear v z
  obtain ⟨R, hR0⟩ : ∃ R, (tt (LensP l M bk sp ∧ AllP l qu mw mr ms lm M bk sp)) = R := ⟨_, rfl⟩
  rw [hR0]
  have HR := Lib.hid hR0
  clear hR0
  have B := Bx.new 53 arr w
  have hb0 := (Below.refl w.heap.size w).alloc (Nat.le_refl _) (Obj.cells arr 53)
  obtain ⟨y0, hy0⟩ : ∃ y, w.alloc (Obj.cells arr 53) = y := ⟨_, rfl⟩
  rw [hy0] at B hb0
  have B_0 := Lib.hid B
  have HB_0 := Lib.hid hb0
  clear B hb0
  have HOK := Lib.hid hok
  clear hok
  have hnl : nl ≤ 2000000 := by rw [← HV.out.nl]; exact HZ.out.zl
  go_enter Tryz.func37, Tryz.ntmps37
  go_upto_region 1 with fail
  have gB0 := B_0.out.cell 0 _ HV.out.c0
  have gB7 := B_0.out.cell 7 _ HV.out.c7
  have gB10 := B_0.out.cell 10 _ HV.out.c10
  have gB11 := B_0.out.cell 11 _ HV.out.c11
  by_cases hdM : nl = nM
  rotate_left
  · have hf : R = false := by rw [← HR.out]; exact tt_no (fun h => hdM (by rw [← HV.out.nM, ← HV.out.nl]; exact h.1.1.symm))
    subst hf
    have hneM : (((nM : Nat) : Int) != ((nl : Nat) : Int)) = true := by simp; omega
    clear hy0
    repeat (first | go_values | go_skip | go_guarded | go_step | go_upon | go_back)
    go_ret
    exact ⟨rfl, HB_0.out⟩
  subst hdM
  have hneM : (((nl : Nat) : Int) != ((nl : Nat) : Int)) = false := by simp
  by_cases hdbk : nl = nb
  rotate_left
  · have hf : R = false := by rw [← HR.out]; exact tt_no (fun h => hdbk (by rw [← HV.out.nbk, ← HV.out.nl]; exact h.1.2.1.symm))
    subst hf
    have hnebk : (((nb : Nat) : Int) != ((nl : Nat) : Int)) = true := by simp; omega
    clear hy0
    repeat (first | go_values | go_skip | go_guarded | go_step | go_upon | go_back)
    go_ret
    exact ⟨rfl, HB_0.out⟩
  subst hdbk
  by_cases hdsp : nl = ns
  rotate_left
  · have hf : R = false := by rw [← HR.out]; exact tt_no (fun h => hdsp (by rw [← HV.out.nsp, ← HV.out.nl]; exact h.1.2.2.symm))
    subst hf
    have hnesp : (((ns : Nat) : Int) != ((nl : Nat) : Int)) = true := by simp; omega
    clear hy0
    repeat (first | go_values | go_skip | go_guarded | go_step | go_upon | go_back)
    go_ret
    exact ⟨rfl, HB_0.out⟩
  subst hdsp
  clear hy0
  repeat (first | go_values | go_skip | go_guarded | go_step | go_upon | go_back)
  clear gB0 gB7 gB10 gB11
  have HL : Hid (LensP l M bk sp) := Lib.hid ⟨by rw [HV.out.nM, HV.out.nl], by rw [HV.out.nbk, HV.out.nl], by rw [HV.out.nsp, HV.out.nl]⟩
  go_loopw [33] (fun i wr => ∃ j : Nat, j ≤ nl ∧ i = .int .i64 j ∧ Hid (∀ k, k < j → EachP l qu mw mr ms lm M bk sp k) ∧ Hid (Bx 53 w.heap.size arr wr) ∧ Hid (Below w.heap.size w wr)) (fun i _ => nl - (intOf i).toNat)
  case atStart => exact ⟨0, by omega, rfl, Lib.hid (fun k hk => by omega), B_0, HB_0⟩
  case round =>
    clear B_0 HB_0
    obtain ⟨j, hj, rfl, HQ, B_0, HB_0⟩ := hrel
    by_cases hlt : j < nl
    · skip
      obtain ⟨c, hxc⟩ := get_of (l := l) (i := j) (by rw [HV.out.nl]; exact hlt)
      have HXc := Lib.hid hxc
      obtain ⟨bc, oc, _, esc, ec, _, _, ltc, cc, rc⟩ := row_rd HV.out.rl hxc
      simp at ec
      obtain ⟨rfl, -, rfl⟩ := ec
      obtain ⟨c0, c1, c2, c3⟩ := c
      have Rc := Lib.hid rc
      obtain rfl := mConf_form rc
      have Ec0 := Lib.hid (show w.cell? ⟨bc, oc + j * 4, none⟩ = some (.int .i64 c0) from cc 0 _ rfl)
      have Ec1 := Lib.hid (show w.cell? ⟨bc, oc + j * 4 + 1, none⟩ = some (.bool c1) from cc 1 _ rfl)
      have Ec2 := Lib.hid (show w.cell? ⟨bc, oc + j * 4 + 2, none⟩ = some (.int .i64 c2) from cc 2 _ rfl)
      have Ec3 := Lib.hid (show w.cell? ⟨bc, oc + j * 4 + 3, none⟩ = some (.int .i64 c3) from cc 3 _ rfl)
      have LTc := Lib.hid ltc
      clear hxc cc rc ltc
      obtain ⟨m, hxm⟩ := get_of (l := M) (i := j) (by rw [HV.out.nM]; exact hlt)
      have HXm := Lib.hid hxm
      obtain ⟨bm, om, _, esm, em, _, _, ltm, cm, rm⟩ := row_rd HV.out.rM hxm
      simp at em
      obtain ⟨rfl, -, rfl⟩ := em
      obtain ⟨m0, m1, m2, m3, m4, m5⟩ := m
      have Rm := Lib.hid rm
      obtain ⟨am, pm, rfl, _⟩ := mst_form rm
      have Em0 := Lib.hid (show w.cell? ⟨bm, om + j * 6, none⟩ = some (.slice am m0.length pm) from cm 0 _ rfl)
      have Em1 := Lib.hid (show w.cell? ⟨bm, om + j * 6 + 1, none⟩ = some (.int .i64 m1) from cm 1 _ rfl)
      have Em2 := Lib.hid (show w.cell? ⟨bm, om + j * 6 + 2, none⟩ = some (.int .i64 m2) from cm 2 _ rfl)
      have Em3 := Lib.hid (show w.cell? ⟨bm, om + j * 6 + 3, none⟩ = some (.int .i64 m3) from cm 3 _ rfl)
      have Em4 := Lib.hid (show w.cell? ⟨bm, om + j * 6 + 4, none⟩ = some (.bool m4) from cm 4 _ rfl)
      have Em5 := Lib.hid (show w.cell? ⟨bm, om + j * 6 + 5, none⟩ = some (.bool m5) from cm 5 _ rfl)
      have LTm := Lib.hid ltm
      clear hxm cm rm ltm
      obtain ⟨t, hxt⟩ := get_of (l := bk) (i := j) (by rw [HV.out.nbk]; exact hlt)
      have HXt := Lib.hid hxt
      obtain ⟨bt, ot, _, est, et, _, _, ltt, ct, rt⟩ := row_rd HV.out.rbk hxt
      simp at et
      obtain ⟨rfl, -, rfl⟩ := et
      obtain ⟨t0, t1⟩ := t
      have Rt := Lib.hid rt
      obtain rfl := bucket_form rt
      have Et0 := Lib.hid (show w.cell? ⟨bt, ot + j * 2, none⟩ = some (.int .i64 t0) from ct 0 _ rfl)
      have Et1 := Lib.hid (show w.cell? ⟨bt, ot + j * 2 + 1, none⟩ = some (.int .i64 t1) from ct 1 _ rfl)
      have LTt := Lib.hid ltt
      clear hxt ct rt ltt
      obtain ⟨s, hxs⟩ := get_of (l := sp) (i := j) (by rw [HV.out.nsp]; exact hlt)
      obtain ⟨bs, os, es, lts, cs⟩ := ints_el HV.out.rsp hxs
      obtain rfl := es
      have HXs := Lib.hid hxs
      have Es0 := Lib.hid cs
      have LTs := Lib.hid lts
      clear hxs cs lts
      have hin : (0 : Int) ≤ (j : Int) ∧ (j : Int) < ((nl : Nat) : Int) := by omega
      have hc0 := ((bel_cells HB_0.out LTc.out _).trans Ec0.out)
      have hc1 := ((bel_cells HB_0.out LTc.out _).trans Ec1.out)
      have hc2 := ((bel_cells HB_0.out LTc.out _).trans Ec2.out)
      have hc3 := ((bel_cells HB_0.out LTc.out _).trans Ec3.out)
      have hba := (Below.refl wr.heap.size wr).alloc (Nat.le_refl _) (Obj.cells #[.int .i64 c0, .bool c1, .int .i64 c2, .int .i64 c3] 75)
      have B_1 := Lib.hid (B_0.out.later hba)
      have HB_1 := Lib.hid (HB_0.out.trans (hba.mono HB_0.out.size))
      have X_1 := Lib.hid (Bx.new 75 #[.int .i64 c0, .bool c1, .int .i64 c2, .int .i64 c3] wr)
      clear hba B_0 HB_0
      go_upto_region 7 with fail
      clear hc0 hc1 hc2 hc3
      generalize wr.alloc (Obj.cells #[.int .i64 c0, .bool c1, .int .i64 c2, .int .i64 c3] 75) = w2 at B_1 HB_1 X_1 ⊢
      have gB0 := fun d os => cell_regrown (B_1.out.cell 0 _ HV.out.c0) d os
      have gB1 := fun d os => cell_regrown (B_1.out.cell 1 _ HV.out.c1) d os
      have gB2 := fun d os => cell_regrown (B_1.out.cell 2 _ HV.out.c2) d os
      have gB3 := fun d os => cell_regrown (B_1.out.cell 3 _ HV.out.c3) d os
      have gB4 := fun d os => cell_regrown (B_1.out.cell 4 _ HV.out.c4) d os
      have gB5 := fun d os => cell_regrown (B_1.out.cell 5 _ HV.out.c5) d os
      have gB7 := fun d os => cell_regrown (B_1.out.cell 7 _ HV.out.c7) d os
      have gB10 := fun d os => cell_regrown (B_1.out.cell 10 _ HV.out.c10) d os
      have gB11 := fun d os => cell_regrown (B_1.out.cell 11 _ HV.out.c11) d os
      have gm0 := fun d os => cell_regrown ((bel_cells HB_1.out LTm.out _).trans Em0.out) d os
      have gm1 := fun d os => cell_regrown ((bel_cells HB_1.out LTm.out _).trans Em1.out) d os
      have gm2 := fun d os => cell_regrown ((bel_cells HB_1.out LTm.out _).trans Em2.out) d os
      have gm3 := fun d os => cell_regrown ((bel_cells HB_1.out LTm.out _).trans Em3.out) d os
      have gm4 := fun d os => cell_regrown ((bel_cells HB_1.out LTm.out _).trans Em4.out) d os
      have gm5 := fun d os => cell_regrown ((bel_cells HB_1.out LTm.out _).trans Em5.out) d os
      have gt0 := fun d os => cell_regrown ((bel_cells HB_1.out LTt.out _).trans Et0.out) d os
      have gt1 := fun d os => cell_regrown ((bel_cells HB_1.out LTt.out _).trans Et1.out) d os
      have gs0 := fun d os => cell_regrown ((bel_cells HB_1.out LTs.out _).trans Es0.out) d os
      have gX0 := fun d os => cell_regrown (X_1.out.cell 0 _ rfl) d os
      have gX1 := fun d os => cell_regrown (X_1.out.cell 1 _ rfl) d os
      have gX2 := fun d os => cell_regrown (X_1.out.cell 2 _ rfl) d os
      have gX3 := fun d os => cell_regrown (X_1.out.cell 3 _ rfl) d os
      have hEv := Lib.hid (conf_ev HOK.out (List.mem_of_getElem? HXc.out))
      obtain ⟨d1, hd1⟩ : ∃ d, okMst m0 m1 m2 m3 m4 m5 (l, qu, mw, mr, ms, lm) = d := ⟨_, rfl⟩
      have D1 := Lib.hid hd1
      clear hd1
      obtain ⟨d2, hd2⟩ : ∃ d, okB c1 c2 c3 t0 t1 = d := ⟨_, rfl⟩
      have D2 := Lib.hid hd2
      clear hd2
      obtain ⟨d3, hd3⟩ : ∃ d, inB s 0 ms = d := ⟨_, rfl⟩
      have D3 := Lib.hid hd3
      clear hd3
      have HZm := Lib.hid (HZ.out.zi _ (List.mem_of_getElem? HXm.out))
      cases d1
      · skip
        have hf : R = false := by
          rw [← HR.out]
          exact tt_no (fun h => by have g := h.2 j _ _ _ _ HXm.out HXt.out HXs.out HXc.out; have g2 := g.1; rw [D1.out] at g2; cases g2)
        subst hf
        refine wp_region_quiet_below (by kernel_rfl) (by kernel_rfl) ?_
        repeat (go_big_quiet_step (first
          | (go_at_call 73; exact Calls.regrown_of (iMstIs D1.out HZm.out (conf_zc HZ.out.zc) (mstK.rd_later Rm.out (below_rg HB_1.out _ _)) (conf_rd (mConfS.rd_later HV.out.rl (below_rg HB_1.out _ _)))))
          | (go_at_call 74; exact Calls.regrown_of (iBuckIs D2.out hEv.out _))
          | (go_at_call 69; exact Calls.regrown_of (within_isC D3.out _))))
        refine wpQuiet_nil ?_
        rintro _ ⟨qq, rfl⟩
        have hq := below_regrown w2 qq.d qq.os
        clear gB0 gB1 gB2 gB3 gB4 gB5 gB7 gB10 gB11 gm0 gm1 gm2 gm3 gm4 gm5 gt0 gt1 gs0 gX0 gX1 gX2 gX3
        have B_2 := Lib.hid (B_1.out.later hq)
        have HB_2 := Lib.hid (HB_1.out.trans (hq.mono HB_1.out.size))
        clear B_1 HB_1 hq 
        repeat (first | go_values | go_skip | go_guarded | go_step | go_upon | go_back)
        go_ret
        exact ⟨rfl, HB_2.out⟩
      cases d2
      · skip
        have hf : R = false := by
          rw [← HR.out]
          exact tt_no (fun h => by have g := h.2 j _ _ _ _ HXm.out HXt.out HXs.out HXc.out; have g2 := g.2.1; rw [D2.out] at g2; cases g2)
        subst hf
        refine wp_region_quiet_below (by kernel_rfl) (by kernel_rfl) ?_
        repeat (go_big_quiet_step (first
          | (go_at_call 73; exact Calls.regrown_of (iMstIs D1.out HZm.out (conf_zc HZ.out.zc) (mstK.rd_later Rm.out (below_rg HB_1.out _ _)) (conf_rd (mConfS.rd_later HV.out.rl (below_rg HB_1.out _ _)))))
          | (go_at_call 74; exact Calls.regrown_of (iBuckIs D2.out hEv.out _))
          | (go_at_call 69; exact Calls.regrown_of (within_isC D3.out _))))
        refine wpQuiet_nil ?_
        rintro _ ⟨qq, rfl⟩
        have hq := below_regrown w2 qq.d qq.os
        clear gB0 gB1 gB2 gB3 gB4 gB5 gB7 gB10 gB11 gm0 gm1 gm2 gm3 gm4 gm5 gt0 gt1 gs0 gX0 gX1 gX2 gX3
        have B_2 := Lib.hid (B_1.out.later hq)
        have HB_2 := Lib.hid (HB_1.out.trans (hq.mono HB_1.out.size))
        clear B_1 HB_1 hq 
        repeat (first | go_values | go_skip | go_guarded | go_step | go_upon | go_back)
        go_ret
        exact ⟨rfl, HB_2.out⟩
      cases d3
      · skip
        have hf : R = false := by
          rw [← HR.out]
          exact tt_no (fun h => by have g := h.2 j _ _ _ _ HXm.out HXt.out HXs.out HXc.out; have g2 := inB_iff.2 g.2.2; rw [D3.out] at g2; cases g2)
        subst hf
        refine wp_region_quiet_below (by kernel_rfl) (by kernel_rfl) ?_
        repeat (go_big_quiet_step (first
          | (go_at_call 73; exact Calls.regrown_of (iMstIs D1.out HZm.out (conf_zc HZ.out.zc) (mstK.rd_later Rm.out (below_rg HB_1.out _ _)) (conf_rd (mConfS.rd_later HV.out.rl (below_rg HB_1.out _ _)))))
          | (go_at_call 74; exact Calls.regrown_of (iBuckIs D2.out hEv.out _))
          | (go_at_call 69; exact Calls.regrown_of (within_isC D3.out _))))
        refine wpQuiet_nil ?_
        rintro _ ⟨qq, rfl⟩
        have hq := below_regrown w2 qq.d qq.os
        clear gB0 gB1 gB2 gB3 gB4 gB5 gB7 gB10 gB11 gm0 gm1 gm2 gm3 gm4 gm5 gt0 gt1 gs0 gX0 gX1 gX2 gX3
        have B_2 := Lib.hid (B_1.out.later hq)
        have HB_2 := Lib.hid (HB_1.out.trans (hq.mono HB_1.out.size))
        clear B_1 HB_1 hq 
        repeat (first | go_values | go_skip | go_guarded | go_step | go_upon | go_back)
        go_ret
        exact ⟨rfl, HB_2.out⟩
      refine wp_region_quiet_below (by kernel_rfl) (by kernel_rfl) ?_
      repeat (go_big_quiet_step (first
        | (go_at_call 73; exact Calls.regrown_of (iMstIs D1.out HZm.out (conf_zc HZ.out.zc) (mstK.rd_later Rm.out (below_rg HB_1.out _ _)) (conf_rd (mConfS.rd_later HV.out.rl (below_rg HB_1.out _ _)))))
        | (go_at_call 74; exact Calls.regrown_of (iBuckIs D2.out hEv.out _))
        | (go_at_call 69; exact Calls.regrown_of (within_isC D3.out _))))
      refine wpQuiet_nil ?_
      rintro _ ⟨qq, rfl⟩
      have hq := below_regrown w2 qq.d qq.os
      clear gB0 gB1 gB2 gB3 gB4 gB5 gB7 gB10 gB11 gm0 gm1 gm2 gm3 gm4 gm5 gt0 gt1 gs0 gX0 gX1 gX2 gX3
      have B_2 := Lib.hid (B_1.out.later hq)
      have HB_2 := Lib.hid (HB_1.out.trans (hq.mono HB_1.out.size))
      clear B_1 HB_1 hq 
      generalize Sort.grow (redrawn w2 qq.d) qq.os = w3 at B_2 HB_2 ⊢
      have HQ2 : Hid (∀ k, k < j + 1 → EachP l qu mw mr ms lm M bk sp k) := Lib.hid (fun k hk => by
        by_cases e : k = j
        · subst e
          intro m b s' c h1 h2 h3 h4
          rw [HXm.out] at h1; rw [HXt.out] at h2; rw [HXs.out] at h3; rw [HXc.out] at h4
          cases h1; cases h2; cases h3; cases h4
          exact ⟨D1.out, D2.out, inB_iff.1 D3.out⟩
        · exact HQ.out k (by omega))
      repeat (first | go_values | go_skip | go_guarded | go_step | go_upon | go_back)
      go_roundw
      case rel => exact ⟨j + 1, by omega, by go_num, HQ2, B_2, HB_2⟩
      case measure => simp [intOf]; omega
    · obtain rfl : j = nl := by omega
      have hf : R = true := by
        rw [← HR.out]
        refine tt_yes ⟨HL.out, fun k => ?_⟩
        by_cases hk : k < j
        · exact HQ.out k hk
        · intro m b s c h1 h2 h3 h4
          have := (List.getElem?_eq_some_iff.1 h4).1
          rw [HV.out.nl] at this
          omega
      subst hf
      repeat (first | go_values | go_skip | go_guarded | go_step | go_upon | go_back)
      go_ret
      exact ⟨rfl, HB_0.out⟩

end Go.Proofs.YtdhaelaoackfkaaGreat.KD

namespace Go.Proofs.YtdhaelaoackfkaaGreat.KD
open Go.RowKit Rows3 GR Num
set_option linter.unusedVariables false
/-- may an entry stand in the log, its cycle aside. -/
def doneB (n : Nat) (d1 d3 d4 d5 d6 : Int) : Bool := inB d1 0 ((n : Int) - 1) && (alB d3 d4 && (decide (d3 < 512) && (inLB d5 d4 && (d6 == 0 || d6 == 1))))
theorem al_isB {a k : Int} {b : Bool} (h : alB a k = b) (w : World) : Calls Tryz.prog 102 #[.int .i64 a, .int .i64 k] w fun e w' => e = .returned (.bool b) ∧ Below w.heap.size w w' :=
  h ▸ (implAligned a k w).mono (fun e w' g => ⟨g.1, g.2 ▸ Below.refl _ _⟩)
theorem in_isB {v k : Int} {b : Bool} (h : inLB v k = b) (w : World) : Calls Tryz.prog 103 #[.int .i64 v, .int .i64 k] w fun e w' => e = .returned (.bool b) ∧ Below w.heap.size w w' :=
  h ▸ (implIn v k w).mono (fun e w' g => ⟨g.1, g.2 ▸ Below.refl _ _⟩)
set_option maxHeartbeats 8000000 in
set_option maxRecDepth 100000 in
theorem implDoneOk (d0 d1 : Int) (d2 : Bool) (d3 d4 d5 d6 : Int) {n : Nat} (hn : n ≤ 2000000) (ad : Option Addr) (cap : Nat) (q mw mr ms lm : Int) (w : World) :
    Calls Tryz.prog 81 #[.agg #[.int .i64 d0, .int .i64 d1, .bool d2, .int .i64 d3, .int .i64 d4, .int .i64 d5, .int .i64 d6], .agg #[.slice ad n cap, .int .i64 q, .int .i64 mw, .int .i64 mr, .int .i64 ms, .int .i64 lm]] w fun e w' => e = .returned (.bool (doneB n d1 d3 d4 d5 d6)) ∧ Below w.heap.size w w' := by
  have hsz : ∀ (w : World) o, (w.alloc o).heap.size = w.heap.size + 1 := fun w o => by simp
  have A := (Bx.new 109 #[.int .i64 d0, .int .i64 d1, .bool d2, .int .i64 d3, .int .i64 d4, .int .i64 d5, .int .i64 d6] w).alloc (Obj.cells #[.slice ad n cap, .int .i64 q, .int .i64 mw, .int .i64 mr, .int .i64 ms, .int .i64 lm] 43)
  have B := Bx.new 43 #[.slice ad n cap, .int .i64 q, .int .i64 mw, .int .i64 mr, .int .i64 ms, .int .i64 lm] (w.alloc (Obj.cells #[.int .i64 d0, .int .i64 d1, .bool d2, .int .i64 d3, .int .i64 d4, .int .i64 d5, .int .i64 d6] 109))
  rw [hsz] at B
  have hb := ((Below.refl w.heap.size w).alloc (Nat.le_refl _) (Obj.cells #[.int .i64 d0, .int .i64 d1, .bool d2, .int .i64 d3, .int .i64 d4, .int .i64 d5, .int .i64 d6] 109)).alloc (by simp) (Obj.cells #[.slice ad n cap, .int .i64 q, .int .i64 mw, .int .i64 mr, .int .i64 ms, .int .i64 lm] 43)
  have A_0 := Lib.hid A
  have B_0 := Lib.hid B
  have HB_0 := Lib.hid hb
  clear A B hb hsz
  obtain ⟨R, hR0⟩ : ∃ R, doneB n d1 d3 d4 d5 d6 = R := ⟨_, rfl⟩
  rw [hR0]
  have HR := Lib.hid hR0
  clear hR0
  go_enter Tryz.func81, Tryz.ntmps81
  go_upto_region 1 with fail
  generalize (w.alloc _).alloc _ = y0 at A_0 B_0 HB_0 ⊢
  have gA1 := fun d os => cell_regrown (A_0.out.cell 1 _ rfl) d os
  have gA3 := fun d os => cell_regrown (A_0.out.cell 3 _ rfl) d os
  have gA4 := fun d os => cell_regrown (A_0.out.cell 4 _ rfl) d os
  have gA5 := fun d os => cell_regrown (A_0.out.cell 5 _ rfl) d os
  have gA6 := fun d os => cell_regrown (A_0.out.cell 6 _ rfl) d os
  have gB0 := fun d os => cell_regrown (B_0.out.cell 0 _ rfl) d os
  have gB1 := fun d os => cell_regrown (B_0.out.cell 1 _ rfl) d os
  have gB2 := fun d os => cell_regrown (B_0.out.cell 2 _ rfl) d os
  have gB3 := fun d os => cell_regrown (B_0.out.cell 3 _ rfl) d os
  have gB4 := fun d os => cell_regrown (B_0.out.cell 4 _ rfl) d os
  have gB5 := fun d os => cell_regrown (B_0.out.cell 5 _ rfl) d os
  obtain ⟨c1, hc1⟩ : ∃ c, inB d1 0 ((n : Int) - 1) = c := ⟨_, rfl⟩
  have C1 := Lib.hid hc1
  clear hc1
  obtain ⟨c2, hc2⟩ : ∃ c, alB d3 d4 = c := ⟨_, rfl⟩
  have C2 := Lib.hid hc2
  clear hc2
  obtain ⟨c4, hc4⟩ : ∃ c, inLB d5 d4 = c := ⟨_, rfl⟩
  have C4 := Lib.hid hc4
  clear hc4
  cases c1
  · skip
    have hf : R = false := by rw [← HR.out]; unfold doneB; rw [C1.out]; rfl
    subst hf
    refine wp_region_det ?_
    repeat (go_big_quiet_step (first
      | (go_at_call 71; exact Calls.regrown_of (isMaster_is C1.out hn _ _ _ _ _ _ _ _))
      | (go_at_call 102; exact Calls.regrown_of (al_isB C2.out _))
      | (go_at_call 103; exact Calls.regrown_of (in_isB C4.out _))))
    refine wpQuiet_nil ?_
    rintro _ ⟨qq, rfl⟩
    have hq := below_regrown y0 qq.d qq.os
    clear gA1 gA3 gA4 gA5 gA6 gB0 gB1 gB2 gB3 gB4 gB5
    have A_1 := Lib.hid (A_0.out.later hq)
    have B_1 := Lib.hid (B_0.out.later hq)
    have HB_1 := Lib.hid (HB_0.out.trans (hq.mono HB_0.out.size))
    clear A_0 B_0 HB_0 hq 
    repeat (first | go_values | go_skip | go_guarded | go_step | go_upon | go_back)
    go_ret
    exact ⟨rfl, HB_1.out⟩
  cases c2
  · skip
    have hf : R = false := by rw [← HR.out]; unfold doneB; rw [C1.out, C2.out]; rfl
    subst hf
    refine wp_region_det ?_
    repeat (go_big_quiet_step (first
      | (go_at_call 71; exact Calls.regrown_of (isMaster_is C1.out hn _ _ _ _ _ _ _ _))
      | (go_at_call 102; exact Calls.regrown_of (al_isB C2.out _))
      | (go_at_call 103; exact Calls.regrown_of (in_isB C4.out _))))
    refine wpQuiet_nil ?_
    rintro _ ⟨qq, rfl⟩
    have hq := below_regrown y0 qq.d qq.os
    clear gA1 gA3 gA4 gA5 gA6 gB0 gB1 gB2 gB3 gB4 gB5
    have A_1 := Lib.hid (A_0.out.later hq)
    have B_1 := Lib.hid (B_0.out.later hq)
    have HB_1 := Lib.hid (HB_0.out.trans (hq.mono HB_0.out.size))
    clear A_0 B_0 HB_0 hq 
    repeat (first | go_values | go_skip | go_guarded | go_step | go_upon | go_back)
    go_ret
    exact ⟨rfl, HB_1.out⟩
  by_cases h3 : d3 < 512
  rotate_left
  · have h3b : decide (d3 < 512) = false := decide_eq_false h3
    have hf : R = false := by rw [← HR.out]; unfold doneB; rw [C1.out, C2.out, h3b]; rfl
    subst hf
    refine wp_region_det ?_
    repeat (go_big_quiet_step (first
      | (go_at_call 71; exact Calls.regrown_of (isMaster_is C1.out hn _ _ _ _ _ _ _ _))
      | (go_at_call 102; exact Calls.regrown_of (al_isB C2.out _))
      | (go_at_call 103; exact Calls.regrown_of (in_isB C4.out _))))
    refine wpQuiet_nil ?_
    rintro _ ⟨qq, rfl⟩
    have hq := below_regrown y0 qq.d qq.os
    clear gA1 gA3 gA4 gA5 gA6 gB0 gB1 gB2 gB3 gB4 gB5
    have A_1 := Lib.hid (A_0.out.later hq)
    have B_1 := Lib.hid (B_0.out.later hq)
    have HB_1 := Lib.hid (HB_0.out.trans (hq.mono HB_0.out.size))
    clear A_0 B_0 HB_0 hq 
    repeat (first | go_values | go_skip | go_guarded | go_step | go_upon | go_back)
    go_ret
    exact ⟨rfl, HB_1.out⟩
  have h3b : decide (d3 < 512) = true := decide_eq_true h3
  cases c4
  · skip
    have hf : R = false := by rw [← HR.out]; unfold doneB; rw [C1.out, C2.out, h3b, C4.out]; rfl
    subst hf
    refine wp_region_det ?_
    repeat (go_big_quiet_step (first
      | (go_at_call 71; exact Calls.regrown_of (isMaster_is C1.out hn _ _ _ _ _ _ _ _))
      | (go_at_call 102; exact Calls.regrown_of (al_isB C2.out _))
      | (go_at_call 103; exact Calls.regrown_of (in_isB C4.out _))))
    refine wpQuiet_nil ?_
    rintro _ ⟨qq, rfl⟩
    have hq := below_regrown y0 qq.d qq.os
    clear gA1 gA3 gA4 gA5 gA6 gB0 gB1 gB2 gB3 gB4 gB5
    have A_1 := Lib.hid (A_0.out.later hq)
    have B_1 := Lib.hid (B_0.out.later hq)
    have HB_1 := Lib.hid (HB_0.out.trans (hq.mono HB_0.out.size))
    clear A_0 B_0 HB_0 hq 
    repeat (first | go_values | go_skip | go_guarded | go_step | go_upon | go_back)
    go_ret
    exact ⟨rfl, HB_1.out⟩
  by_cases h6 : d6 = 0
  · subst h6
    have hf : R = true := by rw [← HR.out]; unfold doneB; rw [C1.out, C2.out, h3b, C4.out]; rfl
    subst hf
    refine wp_region_det ?_
    repeat (go_big_quiet_step (first
      | (go_at_call 71; exact Calls.regrown_of (isMaster_is C1.out hn _ _ _ _ _ _ _ _))
      | (go_at_call 102; exact Calls.regrown_of (al_isB C2.out _))
      | (go_at_call 103; exact Calls.regrown_of (in_isB C4.out _))))
    refine wpQuiet_nil ?_
    rintro _ ⟨qq, rfl⟩
    have hq := below_regrown y0 qq.d qq.os
    clear gA1 gA3 gA4 gA5 gA6 gB0 gB1 gB2 gB3 gB4 gB5
    have A_1 := Lib.hid (A_0.out.later hq)
    have B_1 := Lib.hid (B_0.out.later hq)
    have HB_1 := Lib.hid (HB_0.out.trans (hq.mono HB_0.out.size))
    clear A_0 B_0 HB_0 hq 
    repeat (first | go_values | go_skip | go_guarded | go_step | go_upon | go_back)
    go_ret
    exact ⟨rfl, HB_1.out⟩
  have h6b : (d6 == 0) = false := by simp [h6]
  by_cases h7 : d6 = 1
  · subst h7
    have hf : R = true := by rw [← HR.out]; unfold doneB; rw [C1.out, C2.out, h3b, C4.out]; rfl
    subst hf
    refine wp_region_det ?_
    repeat (go_big_quiet_step (first
      | (go_at_call 71; exact Calls.regrown_of (isMaster_is C1.out hn _ _ _ _ _ _ _ _))
      | (go_at_call 102; exact Calls.regrown_of (al_isB C2.out _))
      | (go_at_call 103; exact Calls.regrown_of (in_isB C4.out _))))
    refine wpQuiet_nil ?_
    rintro _ ⟨qq, rfl⟩
    have hq := below_regrown y0 qq.d qq.os
    clear gA1 gA3 gA4 gA5 gA6 gB0 gB1 gB2 gB3 gB4 gB5
    have A_1 := Lib.hid (A_0.out.later hq)
    have B_1 := Lib.hid (B_0.out.later hq)
    have HB_1 := Lib.hid (HB_0.out.trans (hq.mono HB_0.out.size))
    clear A_0 B_0 HB_0 hq 
    repeat (first | go_values | go_skip | go_guarded | go_step | go_upon | go_back)
    go_ret
    exact ⟨rfl, HB_1.out⟩
  have h7b : (d6 == 1) = false := by simp [h7]
  have hf : R = false := by rw [← HR.out]; unfold doneB; rw [C1.out, C2.out, h3b, C4.out, h6b, h7b]; rfl
  subst hf
  refine wp_region_det ?_
  repeat (go_big_quiet_step (first
    | (go_at_call 71; exact Calls.regrown_of (isMaster_is C1.out hn _ _ _ _ _ _ _ _))
    | (go_at_call 102; exact Calls.regrown_of (al_isB C2.out _))
    | (go_at_call 103; exact Calls.regrown_of (in_isB C4.out _))))
  refine wpQuiet_nil ?_
  rintro _ ⟨qq, rfl⟩
  have hq := below_regrown y0 qq.d qq.os
  clear gA1 gA3 gA4 gA5 gA6 gB0 gB1 gB2 gB3 gB4 gB5
  have A_1 := Lib.hid (A_0.out.later hq)
  have B_1 := Lib.hid (B_0.out.later hq)
  have HB_1 := Lib.hid (HB_0.out.trans (hq.mono HB_0.out.size))
  clear A_0 B_0 HB_0 hq 
  repeat (first | go_values | go_skip | go_guarded | go_step | go_upon | go_back)
  go_ret
  exact ⟨rfl, HB_1.out⟩
theorem done_is {d0 d1 : Int} {d2 : Bool} {d3 d4 d5 d6 : Int} {n : Nat} {b : Bool} (hb : doneB n d1 d3 d4 d5 d6 = b) (hn : n ≤ 2000000) {ad : Option Addr} {cap : Nat} {q mw mr ms lm : Int} (w : World) :
    Calls Tryz.prog 81 #[.agg #[.int .i64 d0, .int .i64 d1, .bool d2, .int .i64 d3, .int .i64 d4, .int .i64 d5, .int .i64 d6], .agg #[.slice ad n cap, .int .i64 q, .int .i64 mw, .int .i64 mr, .int .i64 ms, .int .i64 lm]] w fun e w' => e = .returned (.bool b) ∧ Below w.heap.size w w' := hb ▸ implDoneOk d0 d1 d2 d3 d4 d5 d6 hn ad cap q mw mr ms lm w
theorem doneB_iff {n : Nat} {d1 d3 d4 d5 d6 : Int} : doneB n d1 d3 d4 d5 d6 = true ↔ (0 ≤ d1 ∧ d1 ≤ (n : Int) - 1) ∧ alB d3 d4 = true ∧ (0 ≤ d3 ∧ d3 ≤ 511) ∧ (0 ≤ d5 ∧ d5 < limW d4) ∧ (d6 = 0 ∨ d6 = 1) := by
  unfold doneB inLB
  simp only [Bool.and_eq_true, Bool.or_eq_true, inB_iff, decide_eq_true_eq, beq_iff_eq]
  constructor
  · rintro ⟨h1, h2, h3, h4, h5⟩
    refine ⟨h1, h2, ⟨?_, by omega⟩, h4, h5⟩
    by_cases h : d3 < 0
    · rw [alB_neg d3 d4 h] at h2; cases h2
    · omega
  · rintro ⟨h1, h2, h3, h4, h5⟩
    exact ⟨h1, h2, by omega, h4, h5⟩
set_option maxHeartbeats 16000000 in
set_option maxRecDepth 100000 in
theorem implLog (arr : Array Value) (l : List (Int × Bool × Int × Int)) (qu : Int) (mw : Int) (mr : Int) (ms : Int) (lm : Int) (now : Int) (M : List (List (Bool × Int × Int × Int × Bool × List Int) × Int × Int × Int × Bool × Bool)) (tu : Int) (cr : Int) (bk : List (Int × Int)) (sp : List Int) (ho : Int) (he : Int) (la : Int) (av : Bool) (aw : Int) (ab : Int) (af : Bool) (ay : Int) (al : Int) (ar : Int) (az : Bool) (dv : Bool) (dw : Int) (db : Int) (df : Bool) (dy : Int) (dl : Int) (dr : Int) (dz : Bool) (mem : List Int) (rg : List Int) (ti : Int) (ff : List Int) (pk : Int) (lg : List (Int × Int × Bool × Int × Int × Int × Int)) (Al : Option Addr) (Pl : Nat) (AM : Option Addr) (PM : Nat) (Abk : Option Addr) (Pbk : Nat) (Asp : Option Addr) (Psp : Nat) (Amem : Option Addr) (Pmem : Nat) (Arg : Option Addr) (Prg : Nat) (Aff : Option Addr) (Pff : Nat) (Alg : Option Addr) (Plg : Nat) (nl nM nb ns ng : Nat) (w : World) (v : BV arr l qu mw mr ms lm now M tu cr bk sp ho he la av aw ab af ay al ar az dv dw db df dy dl dr dz mem rg ti ff pk lg Al Pl AM PM Abk Pbk Asp Psp Amem Pmem Arg Prg Aff Pff Alg Plg nl nM nb ns ng w) (z : BZ 0 l M bk sp mem rg ff lg) (hnow : 0 ≤ now ∧ now ≤ 4000) :
    Calls Tryz.prog 42 #[.agg arr] w fun e w' => e = .returned (.bool (tt (LogP l.length now lg))) ∧ Below w.heap.size w w' := by
  have HV := Lib.hid v
  have HZ := Lib.hid z
  clear v z
  obtain ⟨R, hR0⟩ : ∃ R, (tt (LogP l.length now lg)) = R := ⟨_, rfl⟩
  rw [hR0]
  have HR := Lib.hid hR0
  clear hR0
  have B := Bx.new 53 arr w
  have hb0 := (Below.refl w.heap.size w).alloc (Nat.le_refl _) (Obj.cells arr 53)
  obtain ⟨y0, hy0⟩ : ∃ y, w.alloc (Obj.cells arr 53) = y := ⟨_, rfl⟩
  rw [hy0] at B hb0
  have B_0 := Lib.hid B
  have HB_0 := Lib.hid hb0
  clear B hb0
  obtain ⟨hnw0, hnw1⟩ := hnow
  have hln : nl ≤ 2000000 := by rw [← HV.out.nl]; exact HZ.out.zl
  have hlg : ng ≤ 2000000 := by rw [← HV.out.nlg]; exact HZ.out.zg
  go_enter Tryz.func42, Tryz.ntmps42
  have gB36 := B_0.out.cell 36 _ HV.out.c36
  repeat (first | go_values | go_skip | go_guarded | go_step | go_upon | go_back)
  clear hy0
  clear gB36
  go_loopw [3, 9] (fun e i wr => ∃ (j : Nat) (el : Int), j ≤ ng ∧ i = .int .i64 j ∧ e = .int .i64 el ∧ Hid (∀ k, k < j → EntryP l.length now lg k) ∧ Hid ((j = 0 ∧ el = 0) ∨ ∃ k d, k + 1 = j ∧ lg[k]? = some d ∧ el = d.1 + 1) ∧ (0 ≤ el ∧ el ≤ 4000) ∧ Hid (Bx 53 w.heap.size arr wr) ∧ Hid (Below w.heap.size w wr)) (fun e i _ => ng - (intOf i).toNat)
  case atStart => exact ⟨0, 0, by omega, rfl, rfl, Lib.hid (fun k hk => by omega), Lib.hid (.inl ⟨rfl, rfl⟩), by omega, B_0, HB_0⟩
  case round =>
    clear B_0 HB_0
    obtain ⟨j, el, hj, rfl, rfl, HQ, HE, hel, B_0, HB_0⟩ := hrel
    by_cases hlt : j < ng
    · skip
      obtain ⟨d, hxd⟩ := get_of (l := lg) (i := j) (by rw [HV.out.nlg]; exact hlt)
      have HXd := Lib.hid hxd
      obtain ⟨bd, od, _, esd, ed, _, _, ltd, cd, rd⟩ := row_rd HV.out.rlg hxd
      simp at ed
      obtain ⟨rfl, -, rfl⟩ := ed
      obtain ⟨d0, d1, d2, d3, d4, d5, d6⟩ := d
      have Rd := Lib.hid rd
      obtain rfl := done_form rd
      have Ed0 := Lib.hid (show w.cell? ⟨bd, od + j * 7, none⟩ = some (.int .i64 d0) from cd 0 _ rfl)
      have Ed1 := Lib.hid (show w.cell? ⟨bd, od + j * 7 + 1, none⟩ = some (.int .i64 d1) from cd 1 _ rfl)
      have Ed2 := Lib.hid (show w.cell? ⟨bd, od + j * 7 + 2, none⟩ = some (.bool d2) from cd 2 _ rfl)
      have Ed3 := Lib.hid (show w.cell? ⟨bd, od + j * 7 + 3, none⟩ = some (.int .i64 d3) from cd 3 _ rfl)
      have Ed4 := Lib.hid (show w.cell? ⟨bd, od + j * 7 + 4, none⟩ = some (.int .i64 d4) from cd 4 _ rfl)
      have Ed5 := Lib.hid (show w.cell? ⟨bd, od + j * 7 + 5, none⟩ = some (.int .i64 d5) from cd 5 _ rfl)
      have Ed6 := Lib.hid (show w.cell? ⟨bd, od + j * 7 + 6, none⟩ = some (.int .i64 d6) from cd 6 _ rfl)
      have LTd := Lib.hid ltd
      clear hxd cd rd ltd
      have hin : (0 : Int) ≤ (j : Int) ∧ (j : Int) < ((ng : Nat) : Int) := by omega
      have hd0 := ((bel_cells HB_0.out LTd.out _).trans Ed0.out)
      have hd1 := ((bel_cells HB_0.out LTd.out _).trans Ed1.out)
      have hd2 := ((bel_cells HB_0.out LTd.out _).trans Ed2.out)
      have hd3 := ((bel_cells HB_0.out LTd.out _).trans Ed3.out)
      have hd4 := ((bel_cells HB_0.out LTd.out _).trans Ed4.out)
      have hd5 := ((bel_cells HB_0.out LTd.out _).trans Ed5.out)
      have hd6 := ((bel_cells HB_0.out LTd.out _).trans Ed6.out)
      have hba := (Below.refl wr.heap.size wr).alloc (Nat.le_refl _) (Obj.cells #[.int .i64 d0, .int .i64 d1, .bool d2, .int .i64 d3, .int .i64 d4, .int .i64 d5, .int .i64 d6] 109)
      have B_1 := Lib.hid (B_0.out.later hba)
      have HB_1 := Lib.hid (HB_0.out.trans (hba.mono HB_0.out.size))
      have X_1 := Lib.hid (Bx.new 109 #[.int .i64 d0, .int .i64 d1, .bool d2, .int .i64 d3, .int .i64 d4, .int .i64 d5, .int .i64 d6] wr)
      clear hba B_0 HB_0
      go_upto_region 5 with fail
      clear hd0 hd1 hd2 hd3 hd4 hd5 hd6
      generalize wr.alloc (Obj.cells #[.int .i64 d0, .int .i64 d1, .bool d2, .int .i64 d3, .int .i64 d4, .int .i64 d5, .int .i64 d6] 109) = w2 at B_1 HB_1 X_1 ⊢
      obtain ⟨hel0, hel1⟩ := hel
      have gB0 := fun d os => cell_regrown (B_1.out.cell 0 _ HV.out.c0) d os
      have gB1 := fun d os => cell_regrown (B_1.out.cell 1 _ HV.out.c1) d os
      have gB2 := fun d os => cell_regrown (B_1.out.cell 2 _ HV.out.c2) d os
      have gB3 := fun d os => cell_regrown (B_1.out.cell 3 _ HV.out.c3) d os
      have gB4 := fun d os => cell_regrown (B_1.out.cell 4 _ HV.out.c4) d os
      have gB5 := fun d os => cell_regrown (B_1.out.cell 5 _ HV.out.c5) d os
      have gB6 := fun d os => cell_regrown (B_1.out.cell 6 _ HV.out.c6) d os
      have gX0 := fun d os => cell_regrown (X_1.out.cell 0 _ rfl) d os
      have gX1 := fun d os => cell_regrown (X_1.out.cell 1 _ rfl) d os
      have gX2 := fun d os => cell_regrown (X_1.out.cell 2 _ rfl) d os
      have gX3 := fun d os => cell_regrown (X_1.out.cell 3 _ rfl) d os
      have gX4 := fun d os => cell_regrown (X_1.out.cell 4 _ rfl) d os
      have gX5 := fun d os => cell_regrown (X_1.out.cell 5 _ rfl) d os
      have gX6 := fun d os => cell_regrown (X_1.out.cell 6 _ rfl) d os
      obtain ⟨c1, hc1⟩ : ∃ c, inB d0 el (now - 1) = c := ⟨_, rfl⟩
      have C1 := Lib.hid hc1
      clear hc1
      obtain ⟨c2, hc2⟩ : ∃ c, doneB nl d1 d3 d4 d5 d6 = c := ⟨_, rfl⟩
      have C2 := Lib.hid hc2
      clear hc2
      cases c1
      · skip
        have hf : R = false := by
          rw [← HR.out]
          refine tt_no (fun h => ?_)
          obtain ⟨g1, g2, g3⟩ := h j _ HXd.out
          have g4 : inB d0 el (now - 1) = true := inB_iff.2 (by
            rcases HE.out with ⟨_, e⟩ | ⟨k, d, hk, hd, e⟩
            · rw [e]; exact g1
            · have := g2 k d hk hd
              dsimp only at g1 this
              omega)
          rw [C1.out] at g4; cases g4
        subst hf
        refine wp_region_det ?_
        repeat (go_big_quiet_step (first
          | (go_at_call 69; exact Calls.regrown_of (within_isC C1.out _))
          | (go_at_call 81; exact Calls.regrown_of (done_is C2.out hln _))))
        refine wpQuiet_nil ?_
        rintro _ ⟨qq, rfl⟩
        have hq := below_regrown w2 qq.d qq.os
        clear gB0 gB1 gB2 gB3 gB4 gB5 gB6 gX0 gX1 gX2 gX3 gX4 gX5 gX6
        have B_2 := Lib.hid (B_1.out.later hq)
        have HB_2 := Lib.hid (HB_1.out.trans (hq.mono HB_1.out.size))
        clear B_1 HB_1 hq 
        repeat (first | go_values | go_skip | go_guarded | go_step | go_upon | go_back)
        go_ret
        exact ⟨rfl, HB_2.out⟩
      cases c2
      · skip
        have hf : R = false := by
          rw [← HR.out]
          refine tt_no (fun h => ?_)
          obtain ⟨g1, g2, g3⟩ := h j _ HXd.out
          have g4 := doneB_iff.2 g3
          rw [HV.out.nl, C2.out] at g4; cases g4
        subst hf
        refine wp_region_det ?_
        repeat (go_big_quiet_step (first
          | (go_at_call 69; exact Calls.regrown_of (within_isC C1.out _))
          | (go_at_call 81; exact Calls.regrown_of (done_is C2.out hln _))))
        refine wpQuiet_nil ?_
        rintro _ ⟨qq, rfl⟩
        have hq := below_regrown w2 qq.d qq.os
        clear gB0 gB1 gB2 gB3 gB4 gB5 gB6 gX0 gX1 gX2 gX3 gX4 gX5 gX6
        have B_2 := Lib.hid (B_1.out.later hq)
        have HB_2 := Lib.hid (HB_1.out.trans (hq.mono HB_1.out.size))
        clear B_1 HB_1 hq 
        repeat (first | go_values | go_skip | go_guarded | go_step | go_upon | go_back)
        go_ret
        exact ⟨rfl, HB_2.out⟩
      refine wp_region_det ?_
      repeat (go_big_quiet_step (first
        | (go_at_call 69; exact Calls.regrown_of (within_isC C1.out _))
        | (go_at_call 81; exact Calls.regrown_of (done_is C2.out hln _))))
      refine wpQuiet_nil ?_
      rintro _ ⟨qq, rfl⟩
      have hq := below_regrown w2 qq.d qq.os
      clear gB0 gB1 gB2 gB3 gB4 gB5 gB6 gX0 gX1 gX2 gX3 gX4 gX5 gX6
      have B_2 := Lib.hid (B_1.out.later hq)
      have X_2 := Lib.hid (X_1.out.later hq)
      have HB_2 := Lib.hid (HB_1.out.trans (hq.mono HB_1.out.size))
      clear B_1 X_1 HB_1 hq 
      generalize Sort.grow (redrawn w2 qq.d) qq.os = w3 at B_2 X_2 HB_2 ⊢
      have hcy := inB_iff.1 C1.out
      have hcy1 : 0 ≤ d0 := by omega
      have hcy2 : d0 ≤ 3999 := by omega
      have HQ2 : Hid (∀ k, k < j + 1 → EntryP l.length now lg k) := Lib.hid (fun k hk => by
        by_cases e : k = j
        · subst e
          intro d hd
          rw [HXd.out] at hd
          cases hd
          have h3 := doneB_iff.1 C2.out
          rw [← HV.out.nl] at h3
          refine ⟨⟨hcy1, hcy.2⟩, fun i e hi he => ?_, h3⟩
          rcases HE.out with ⟨h0, _⟩ | ⟨i2, d, hi2, hd, e2⟩
          · omega
          · obtain rfl : i2 = i := by omega
            rw [hd] at he; cases he
            dsimp only
            omega
        · exact HQ.out k (by omega))
      have HE2 : Hid ((j + 1 = 0 ∧ d0 + 1 = 0) ∨ ∃ k d, k + 1 = j + 1 ∧ lg[k]? = some d ∧ d0 + 1 = d.1 + 1) := Lib.hid (.inr ⟨j, _, rfl, HXd.out, rfl⟩)
      clear hcy
      have gx0 := X_2.out.cell 0 _ rfl
      repeat (first | go_values | go_skip | go_guarded | go_step | go_upon | go_back)
      go_roundw
      case rel => exact ⟨j + 1, d0 + 1, by omega, by go_num, by go_num, HQ2, HE2, by omega, B_2, HB_2⟩
      case measure => simp [intOf]; omega
    · obtain rfl : j = ng := by omega
      have hf : R = true := by
        rw [← HR.out]
        refine tt_yes (fun k => ?_)
        by_cases hk : k < j
        · exact HQ.out k hk
        · intro d hd
          have := (List.getElem?_eq_some_iff.1 hd).1
          rw [HV.out.nlg] at this
          omega
      subst hf
      repeat (first | go_values | go_skip | go_guarded | go_step | go_upon | go_back)
      go_ret
      exact ⟨rfl, HB_0.out⟩

end Go.Proofs.YtdhaelaoackfkaaGreat.KD
