
/-
  The model's l13Beat. (Made by wip/gbus.py.)
-/
import Derived.Test.YtdhaelaoackfkaaGreatGOb13
import Derived.Test.YtdhaelaoackfkaaGreatGOd13
namespace Go.Proofs.YtdhaelaoackfkaaGreat.KD
open Go.RowKit Rows3 GR Num
set_option linter.unusedVariables false
theorem sresp_is {k : Int} {x : ByteArray} (h : respW k = x) (w : World) : Calls Tryz.prog 60 #[.int .i64 k] w fun e w' => e = .returned (.string x) ∧ Below w.heap.size w w' := h ▸ specResp k w
set_option maxHeartbeats 16000000 in
set_option maxRecDepth 100000 in
theorem specBeatA (arr : Array Value) (l : List (Int × Bool × Int × Int)) (qu : Int) (mw : Int) (mr : Int) (ms : Int) (lm : Int) (now : Int) (M : List (List (Bool × Int × Int × Int × Bool × List Int) × Int × Int × Int × Bool × Bool)) (tu : Int) (cr : Int) (bk : List (Int × Int)) (sp : List Int) (ho : Int) (he : Int) (la : Int) (av : Bool) (aw : Int) (ab : Int) (af : Bool) (ay : Int) (al : Int) (ar : Int) (az : Bool) (dv : Bool) (dw : Int) (db : Int) (df : Bool) (dy : Int) (dl : Int) (dr : Int) (dz : Bool) (mem : List Int) (rg : List Int) (ti : Int) (ff : List Int) (pk : Int) (lg : List (Int × Int × Bool × Int × Int × Int × Int)) (Al : Option Addr) (Pl : Nat) (AM : Option Addr) (PM : Nat) (Abk : Option Addr) (Pbk : Nat) (Asp : Option Addr) (Psp : Nat) (Amem : Option Addr) (Pmem : Nat) (Arg : Option Addr) (Prg : Nat) (Aff : Option Addr) (Pff : Nat) (Alg : Option Addr) (Plg : Nat) (nl nM nb ns ng : Nat) (w : World) (v : BV arr l qu mw mr ms lm now M tu cr bk sp ho he la av aw ab af ay al ar az dv dw db df dy dl dr dz mem rg ti ff pk lg Al Pl AM PM Abk Pbk Asp Psp Amem Pmem Arg Prg Aff Pff Alg Plg nl nM nb ns ng w) (z : BZ 0 l M bk sp mem rg ff lg) (bv : Bool) (bw : Int) (bb : Int) (bf : Bool) (by_ : Int) (bl : Int) (br : Int) (bz : Bool) (hlM : M.length = l.length) (hls : sp.length = l.length) (hbd : MstsBd M) (hmw : 0 ≤ mw ∧ mw ≤ 3) (hs0 : ∀ s ∈ sp, 0 ≤ s) :
    Calls Tryz.prog 25 #[.agg arr, .agg #[.bool bv, .int .i64 bw, .int .i64 bb, .bool bf, .int .i64 by_, .int .i64 bl, .int .i64 br, .bool bz], .bool false] w fun e w' => e = .returned (.bool (tt (AddrP M sp bv bw bb bf by_ bl br bz))) ∧ Below w.heap.size w w' := by
  have HV := Lib.hid v
  have HZ := Lib.hid z
  clear v z
  obtain ⟨R, hR0⟩ : ∃ R, (tt (AddrP M sp bv bw bb bf by_ bl br bz)) = R := ⟨_, rfl⟩
  rw [hR0]
  have HR := Lib.hid hR0
  clear hR0
  have B := Bx.new 53 arr w
  have hb0 := (Below.refl w.heap.size w).alloc (Nat.le_refl _) (Obj.cells arr 53)
  obtain ⟨y0, hy0⟩ : ∃ y, w.alloc (Obj.cells arr 53) = y := ⟨_, rfl⟩
  rw [hy0] at B hb0
  have B_0 := Lib.hid B
  have HB_0 := Lib.hid hb0
  clear B hb0
  obtain rfl : nM = nl := by rw [← HV.out.nM, ← HV.out.nl]; exact hlM
  obtain rfl : nM = ns := by rw [← HV.out.nsp, hls, ← hlM]; exact HV.out.nM.symm
  obtain ⟨hmw0, hmw1⟩ := hmw
  have HBD := Lib.hid hbd
  have HS0 := Lib.hid hs0
  clear hlM hls hbd hs0
  have hln : nM ≤ 2000000 := by rw [← HV.out.nM]; exact HZ.out.zMl
  have X0 := Bx.new 47 #[.bool bv, .int .i64 bw, .int .i64 bb, .bool bf, .int .i64 by_, .int .i64 bl, .int .i64 br, .bool bz] y0
  have hba := (Below.refl y0.heap.size y0).alloc (Nat.le_refl _) (Obj.cells #[.bool bv, .int .i64 bw, .int .i64 bb, .bool bf, .int .i64 by_, .int .i64 bl, .int .i64 br, .bool bz] 47)
  have B_1 := Lib.hid (B_0.out.later hba)
  have HB_1 := Lib.hid (HB_0.out.trans (hba.mono HB_0.out.size))
  obtain ⟨k1, hk1⟩ : ∃ k, y0.heap.size = k := ⟨_, rfl⟩
  rw [hk1] at X0
  have X_1 := Lib.hid X0
  clear hba X0 B_0 HB_0
  go_enter Tryz.func25, Tryz.ntmps25
  go_upto_region 1 with fail
  generalize y0.alloc (Obj.cells #[.bool bv, .int .i64 bw, .int .i64 bb, .bool bf, .int .i64 by_, .int .i64 bl, .int .i64 br, .bool bz] 47) = y1 at B_1 HB_1 X_1 ⊢
  try rw [hk1]
  clear hy0 hk1
  have x0 := X_1.out.cell 0 _ rfl
  have x1 := X_1.out.cell 1 _ rfl
  have x2 := X_1.out.cell 2 _ rfl
  have x3 := X_1.out.cell 3 _ rfl
  have x4 := X_1.out.cell 4 _ rfl
  have x5 := X_1.out.cell 5 _ rfl
  have x6 := X_1.out.cell 6 _ rfl
  have x7 := X_1.out.cell 7 _ rfl
  cases bv
  · skip
    have hq := fun w => eqlBeat false bw bb bf by_ bl br bz false 0 0 false 0 0 0 false w
    have hgd := guardBeat
    obtain ⟨c, hc⟩ : ∃ c, same ((false, bw, bb, bf, by_, bl, br, bz) : Bool × Int × Int × Bool × Int × Int × Int × Bool) (false, 0, 0, false, 0, 0, 0, false) = c := ⟨_, rfl⟩
    rw [hc] at hq
    have hf : R = c := by rw [← HR.out, ← hc]; exact tt_congr (by unfold AddrP; rw [if_neg (by decide)])
    subst hf
    clear hc
    repeat (first | go_values | go_skip | go_guarded | go_step | go_upon | go_back)
    go_ret
    exact ⟨rfl, HB_1.out⟩
  go_upto_region 3 with fail
  clear x0 x1 x2 x3 x4 x5 x6 x7
  have gB7 := fun d os => cell_regrown (B_1.out.cell 7 _ HV.out.c7) d os
  have gB11 := fun d os => cell_regrown (B_1.out.cell 11 _ HV.out.c11) d os
  have gX1 := fun d os => cell_regrown (X_1.out.cell 1 _ rfl) d os
  have gX4 := fun d os => cell_regrown (X_1.out.cell 4 _ rfl) d os
  obtain ⟨c1, hc1⟩ : ∃ c, inB bw 0 ((nM : Int) - 1) = c := ⟨_, rfl⟩
  have C1 := Lib.hid hc1
  clear hc1
  obtain ⟨c2, hc2⟩ : ∃ c, inB by_ 1 3 = c := ⟨_, rfl⟩
  have C2 := Lib.hid hc2
  clear hc2
  cases c1
  · skip
    have hf : R = false := by
      rw [← HR.out]
      refine tt_no (fun h => ?_)
      unfold AddrP at h
      rw [if_pos rfl] at h
      obtain ⟨g1, ⟨g7, g8, g9⟩, k, m, g2, g3, g4, g5⟩ := h
      have h5 := (List.getElem?_eq_some_iff.1 g3).1
      rw [HV.out.nM] at h5
      have h6 : inB bw 0 ((nM : Int) - 1) = true := inB_iff.2 (by omega)
      rw [C1.out] at h6; cases h6
    subst hf
    refine wp_region_det ?_
    repeat (go_big_quiet_step (first
      | (go_at_call 19; exact Calls.regrown_of (l1In_isC C1.out _))))
    refine wpQuiet_nil ?_
    rintro _ ⟨qq, rfl⟩
    have hq := below_regrown y1 qq.d qq.os
    clear gB7 gB11 gX1 gX4
    have B_2 := Lib.hid (B_1.out.later hq)
    have X_2 := Lib.hid (X_1.out.later hq)
    have HB_2 := Lib.hid (HB_1.out.trans (hq.mono HB_1.out.size))
    clear B_1 X_1 HB_1 hq 
    repeat (first | go_values | go_skip | go_guarded | go_step | go_upon | go_back)
    go_ret
    exact ⟨rfl, HB_2.out⟩
  cases c2
  · skip
    have hf : R = false := by
      rw [← HR.out]
      refine tt_no (fun h => ?_)
      unfold AddrP at h
      rw [if_pos rfl] at h
      obtain ⟨g1, ⟨g7, g8, g9⟩, k, m, g2, g3, g4, g5⟩ := h
      have h6 := inB_iff.2 g1
      rw [C2.out] at h6; cases h6
    subst hf
    refine wp_region_det ?_
    repeat (go_big_quiet_step (first
      | (go_at_call 19; with_reducible exact Calls.regrown_of (l1In_isC C1.out _))
      | (go_at_call 19; with_reducible exact Calls.regrown_of (l1In_isC C2.out _))))
    refine wpQuiet_nil ?_
    rintro _ ⟨qq, rfl⟩
    have hq := below_regrown y1 qq.d qq.os
    clear gB7 gB11 gX1 gX4
    have B_2 := Lib.hid (B_1.out.later hq)
    have X_2 := Lib.hid (X_1.out.later hq)
    have HB_2 := Lib.hid (HB_1.out.trans (hq.mono HB_1.out.size))
    clear B_1 X_1 HB_1 hq 
    repeat (first | go_values | go_skip | go_guarded | go_step | go_upon | go_back)
    go_ret
    exact ⟨rfl, HB_2.out⟩
  have hi := inB_iff.1 C1.out
  obtain ⟨j, hj⟩ : ∃ j : Nat, bw = (j : Int) := ⟨bw.toNat, by omega⟩
  subst hj
  have hjn : j < nM := by omega
  clear hi
  obtain ⟨m, hxm⟩ := get_of (l := M) (i := j) (by rw [HV.out.nM]; exact hjn)
  have HXm := Lib.hid hxm
  obtain ⟨bm, om, _, esm, em, _, _, ltm, cm, rm⟩ := row_rd HV.out.rM hxm
  simp at em
  obtain ⟨rfl, -, rfl⟩ := em
  obtain ⟨m0, m1, m2, m3, m4, m5⟩ := m
  have Rm := Lib.hid rm
  obtain ⟨am, pm, rfl, _⟩ := mst_form rm
  have Em0 := Lib.hid (show w.cell? ⟨bm, om + j * 6, none⟩ = some (.slice am m0.length pm) from cm 0 _ rfl)
  have Em1 := Lib.hid (show w.cell? ⟨bm, om + j * 6 + 1, none⟩ = some (.int .i64 m1) from cm 1 _ rfl)
  have Em2 := Lib.hid (show w.cell? ⟨bm, om + j * 6 + 2, none⟩ = some (.int .i64 m2) from cm 2 _ rfl)
  have Em3 := Lib.hid (show w.cell? ⟨bm, om + j * 6 + 3, none⟩ = some (.int .i64 m3) from cm 3 _ rfl)
  have Em4 := Lib.hid (show w.cell? ⟨bm, om + j * 6 + 4, none⟩ = some (.bool m4) from cm 4 _ rfl)
  have Em5 := Lib.hid (show w.cell? ⟨bm, om + j * 6 + 5, none⟩ = some (.bool m5) from cm 5 _ rfl)
  have LTm := Lib.hid ltm
  clear hxm cm rm ltm
  obtain ⟨s, hxs⟩ := get_of (l := sp) (i := j) (by rw [HV.out.nsp]; exact hjn)
  obtain ⟨bs, os, es, lts, cs⟩ := ints_el HV.out.rsp hxs
  obtain rfl := es
  have HXs := Lib.hid hxs
  have Es0 := Lib.hid cs
  have LTs := Lib.hid lts
  clear hxs cs lts
  have hin : (0 : Int) ≤ (j : Int) ∧ (j : Int) < ((nM : Nat) : Int) := by omega
  have hs00 := HS0.out _ (List.mem_of_getElem? HXs.out)
  have gs0 := fun d os => cell_regrown ((bel_cells HB_1.out LTs.out _).trans Es0.out) d os
  by_cases hs : 0 < s
  · have hsb : decide (0 < s) = true := decide_eq_true hs
    have HS := Lib.hid hs
    clear hs
    have hf : R = false := by
      rw [← HR.out]
      refine tt_no (fun h => ?_)
      unfold AddrP at h
      rw [if_pos rfl] at h
      obtain ⟨g1, ⟨g7, g8, g9⟩, k, m, g2, g3, g4, g5⟩ := h
      obtain rfl : j = k := by omega
      rw [HXm.out] at g3
      cases g3
      rw [HXs.out] at g4
      cases g4
      exact absurd HS.out (by omega)
    subst hf
    refine wp_region_det ?_
    repeat (go_big_quiet_step (first
      | (go_at_call 19; with_reducible exact Calls.regrown_of (l1In_isC C1.out _))
      | (go_at_call 19; with_reducible exact Calls.regrown_of (l1In_isC C2.out _))))
    refine wpQuiet_nil ?_
    rintro _ ⟨qq, rfl⟩
    have hq := below_regrown y1 qq.d qq.os
    clear gB7 gB11 gX1 gX4 gs0
    have B_2 := Lib.hid (B_1.out.later hq)
    have X_2 := Lib.hid (X_1.out.later hq)
    have HB_2 := Lib.hid (HB_1.out.trans (hq.mono HB_1.out.size))
    clear B_1 X_1 HB_1 hq 
    repeat (first | go_values | go_skip | go_guarded | go_step | go_upon | go_back)
    go_ret
    exact ⟨rfl, HB_2.out⟩
  obtain rfl : s = 0 := by omega
  refine wp_region_det ?_
  repeat (go_big_quiet_step (first
    | (go_at_call 19; with_reducible exact Calls.regrown_of (l1In_isC C1.out _))
    | (go_at_call 19; with_reducible exact Calls.regrown_of (l1In_isC C2.out _))))
  refine wpQuiet_nil ?_
  rintro _ ⟨qq, rfl⟩
  have hq := below_regrown y1 qq.d qq.os
  clear gB7 gB11 gX1 gX4 gs0
  have B_2 := Lib.hid (B_1.out.later hq)
  have X_2 := Lib.hid (X_1.out.later hq)
  have HB_2 := Lib.hid (HB_1.out.trans (hq.mono HB_1.out.size))
  clear B_1 X_1 HB_1 hq 
  generalize Sort.grow (redrawn y1 qq.d) qq.os = y2 at B_2 X_2 HB_2 ⊢
  have g7 := B_2.out.cell 7 _ HV.out.c7
  have x1 := X_2.out.cell 1 _ rfl
  have hm0 := ((bel_cells HB_2.out LTm.out _).trans Em0.out)
  have hm1 := ((bel_cells HB_2.out LTm.out _).trans Em1.out)
  have hm2 := ((bel_cells HB_2.out LTm.out _).trans Em2.out)
  have hm3 := ((bel_cells HB_2.out LTm.out _).trans Em3.out)
  have hm4 := ((bel_cells HB_2.out LTm.out _).trans Em4.out)
  have hm5 := ((bel_cells HB_2.out LTm.out _).trans Em5.out)
  have hba := (Below.refl y2.heap.size y2).alloc (Nat.le_refl _) (Obj.cells #[.slice am m0.length pm, .int .i64 m1, .int .i64 m2, .int .i64 m3, .bool m4, .bool m5] 70)
  have B_5 := Lib.hid (B_2.out.later hba)
  have X_5 := Lib.hid (X_2.out.later hba)
  have HB_5 := Lib.hid (HB_2.out.trans (hba.mono HB_2.out.size))
  have Y_5 := Lib.hid (Bx.new 70 #[.slice am m0.length pm, .int .i64 m1, .int .i64 m2, .int .i64 m3, .bool m4, .bool m5] y2)
  clear hba
  go_upto_region 7 with fail
  clear hm0 hm1 hm2 hm3 hm4 hm5 g7 x1 B_2 X_2 HB_2
  generalize y2.alloc (Obj.cells #[.slice am m0.length pm, .int .i64 m1, .int .i64 m2, .int .i64 m3, .bool m4, .bool m5] 70) = y3 at B_5 X_5 HB_5 Y_5 ⊢
  have hbm := HBD.out j _ HXm.out
  dsimp only at hbm
  obtain ⟨hbm0, hbm1, hbm2⟩ := hbm
  have gX2 := fun d os => cell_regrown (X_5.out.cell 2 _ rfl) d os
  have gX5 := fun d os => cell_regrown (X_5.out.cell 5 _ rfl) d os
  have gX6 := fun d os => cell_regrown (X_5.out.cell 6 _ rfl) d os
  have gX7 := fun d os => cell_regrown (X_5.out.cell 7 _ rfl) d os
  have gY1 := fun d os => cell_regrown (Y_5.out.cell 1 _ rfl) d os
  by_cases h2 : bb = m1 - 1
  rotate_left
  · skip
    have h2b : (bb == m1 - 1) = false := by simp [h2]
    have h2d : decide (bb = m1 - 1) = false := decide_eq_false h2
    have H2 := Lib.hid h2
    clear h2
    have hf : R = false := by
      rw [← HR.out]
      refine tt_no (fun h => ?_)
      unfold AddrP at h
      rw [if_pos rfl] at h
      obtain ⟨g1, ⟨g7, g8, g9⟩, k, m, g2, g3, g4, g5⟩ := h
      obtain rfl : j = k := by omega
      rw [HXm.out] at g3
      cases g3
      exact H2.out g5
    subst hf
    refine wp_region_det ?_
    repeat (go_big_quiet_step (fail))
    refine wpQuiet_nil ?_
    rintro _ ⟨qq, rfl⟩
    have hq := below_regrown y3 qq.d qq.os
    clear gX2 gX5 gX6 gX7 gY1
    have B_6 := Lib.hid (B_5.out.later hq)
    have X_6 := Lib.hid (X_5.out.later hq)
    have Y_6 := Lib.hid (Y_5.out.later hq)
    have HB_6 := Lib.hid (HB_5.out.trans (hq.mono HB_5.out.size))
    clear B_5 X_5 Y_5 HB_5 hq 
    repeat (first | go_values | go_skip | go_guarded | go_step | go_upon | go_back)
    go_ret
    exact ⟨rfl, HB_6.out⟩
  have h2b : (bb == m1 - 1) = true := by simp [h2]
  have h2d : decide (bb = m1 - 1) = true := decide_eq_true h2
  have H2 := Lib.hid h2
  clear h2
  by_cases h3 : bl = 0
  rotate_left
  · skip
    have h3b : (bl == 0) = false := by simp [h3]
    have h3d : decide (bl = 0) = false := decide_eq_false h3
    have H3 := Lib.hid h3
    clear h3
    have hf : R = false := by
      rw [← HR.out]
      refine tt_no (fun h => ?_)
      unfold AddrP at h
      rw [if_pos rfl] at h
      obtain ⟨g1, ⟨g7, g8, g9⟩, k, m, g2, g3, g4, g5⟩ := h
      exact H3.out g7
    subst hf
    refine wp_region_det ?_
    repeat (go_big_quiet_step (fail))
    refine wpQuiet_nil ?_
    rintro _ ⟨qq, rfl⟩
    have hq := below_regrown y3 qq.d qq.os
    clear gX2 gX5 gX6 gX7 gY1
    have B_6 := Lib.hid (B_5.out.later hq)
    have X_6 := Lib.hid (X_5.out.later hq)
    have Y_6 := Lib.hid (Y_5.out.later hq)
    have HB_6 := Lib.hid (HB_5.out.trans (hq.mono HB_5.out.size))
    clear B_5 X_5 Y_5 HB_5 hq 
    repeat (first | go_values | go_skip | go_guarded | go_step | go_upon | go_back)
    go_ret
    exact ⟨rfl, HB_6.out⟩
  subst h3
  by_cases h4 : br = 0
  rotate_left
  · skip
    have h4b : (br == 0) = false := by simp [h4]
    have h4d : decide (br = 0) = false := decide_eq_false h4
    have H4 := Lib.hid h4
    clear h4
    have hf : R = false := by
      rw [← HR.out]
      refine tt_no (fun h => ?_)
      unfold AddrP at h
      rw [if_pos rfl] at h
      obtain ⟨g1, ⟨g7, g8, g9⟩, k, m, g2, g3, g4, g5⟩ := h
      exact H4.out g8
    subst hf
    refine wp_region_det ?_
    repeat (go_big_quiet_step (fail))
    refine wpQuiet_nil ?_
    rintro _ ⟨qq, rfl⟩
    have hq := below_regrown y3 qq.d qq.os
    clear gX2 gX5 gX6 gX7 gY1
    have B_6 := Lib.hid (B_5.out.later hq)
    have X_6 := Lib.hid (X_5.out.later hq)
    have Y_6 := Lib.hid (Y_5.out.later hq)
    have HB_6 := Lib.hid (HB_5.out.trans (hq.mono HB_5.out.size))
    clear B_5 X_5 Y_5 HB_5 hq 
    repeat (first | go_values | go_skip | go_guarded | go_step | go_upon | go_back)
    go_ret
    exact ⟨rfl, HB_6.out⟩
  subst h4
  cases bz
  rotate_left
  · skip
    have hf : R = false := by
      rw [← HR.out]
      refine tt_no (fun h => ?_)
      unfold AddrP at h
      rw [if_pos rfl] at h
      obtain ⟨g1, ⟨g7, g8, g9⟩, k, m, g2, g3, g4, g5⟩ := h
      cases g9
    subst hf
    refine wp_region_det ?_
    repeat (go_big_quiet_step (fail))
    refine wpQuiet_nil ?_
    rintro _ ⟨qq, rfl⟩
    have hq := below_regrown y3 qq.d qq.os
    clear gX2 gX5 gX6 gX7 gY1
    have B_6 := Lib.hid (B_5.out.later hq)
    have X_6 := Lib.hid (X_5.out.later hq)
    have Y_6 := Lib.hid (Y_5.out.later hq)
    have HB_6 := Lib.hid (HB_5.out.trans (hq.mono HB_5.out.size))
    clear B_5 X_5 Y_5 HB_5 hq 
    repeat (first | go_values | go_skip | go_guarded | go_step | go_upon | go_back)
    go_ret
    exact ⟨rfl, HB_6.out⟩
  have hf : R = true := by
    rw [← HR.out]
    refine tt_yes ?_
    unfold AddrP
    rw [if_pos rfl]
    exact ⟨inB_iff.1 C2.out, ⟨rfl, rfl, rfl⟩, j, _, rfl, HXm.out, HXs.out, H2.out⟩
  subst hf
  refine wp_region_det ?_
  repeat (go_big_quiet_step (fail))
  refine wpQuiet_nil ?_
  rintro _ ⟨qq, rfl⟩
  have hq := below_regrown y3 qq.d qq.os
  clear gX2 gX5 gX6 gX7 gY1
  have B_6 := Lib.hid (B_5.out.later hq)
  have X_6 := Lib.hid (X_5.out.later hq)
  have Y_6 := Lib.hid (Y_5.out.later hq)
  have HB_6 := Lib.hid (HB_5.out.trans (hq.mono HB_5.out.size))
  clear B_5 X_5 Y_5 HB_5 hq 
  repeat (first | go_values | go_skip | go_guarded | go_step | go_upon | go_back)
  go_ret
  exact ⟨rfl, HB_6.out⟩
set_option maxHeartbeats 16000000 in
set_option maxRecDepth 100000 in
theorem specBeatD (arr : Array Value) (l : List (Int × Bool × Int × Int)) (qu : Int) (mw : Int) (mr : Int) (ms : Int) (lm : Int) (now : Int) (M : List (List (Bool × Int × Int × Int × Bool × List Int) × Int × Int × Int × Bool × Bool)) (tu : Int) (cr : Int) (bk : List (Int × Int)) (sp : List Int) (ho : Int) (he : Int) (la : Int) (av : Bool) (aw : Int) (ab : Int) (af : Bool) (ay : Int) (al : Int) (ar : Int) (az : Bool) (dv : Bool) (dw : Int) (db : Int) (df : Bool) (dy : Int) (dl : Int) (dr : Int) (dz : Bool) (mem : List Int) (rg : List Int) (ti : Int) (ff : List Int) (pk : Int) (lg : List (Int × Int × Bool × Int × Int × Int × Int)) (Al : Option Addr) (Pl : Nat) (AM : Option Addr) (PM : Nat) (Abk : Option Addr) (Pbk : Nat) (Asp : Option Addr) (Psp : Nat) (Amem : Option Addr) (Pmem : Nat) (Arg : Option Addr) (Prg : Nat) (Aff : Option Addr) (Pff : Nat) (Alg : Option Addr) (Plg : Nat) (nl nM nb ns ng : Nat) (w : World) (v : BV arr l qu mw mr ms lm now M tu cr bk sp ho he la av aw ab af ay al ar az dv dw db df dy dl dr dz mem rg ti ff pk lg Al Pl AM PM Abk Pbk Asp Psp Amem Pmem Arg Prg Aff Pff Alg Plg nl nM nb ns ng w) (z : BZ 0 l M bk sp mem rg ff lg) (bv : Bool) (bw : Int) (bb : Int) (bf : Bool) (by_ : Int) (bl : Int) (br : Int) (bz : Bool) (hlM : M.length = l.length) (hls : sp.length = l.length) (hbd : MstsBd M) (hmw : 0 ≤ mw ∧ mw ≤ 3) (hs0 : ∀ s ∈ sp, 0 ≤ s) :
    Calls Tryz.prog 25 #[.agg arr, .agg #[.bool bv, .int .i64 bw, .int .i64 bb, .bool bf, .int .i64 by_, .int .i64 bl, .int .i64 br, .bool bz], .bool true] w fun e w' => e = .returned (.bool (tt (DataP M sp mw mr ho av bv bw bb bf by_ bl br bz))) ∧ Below w.heap.size w w' := by
  have HV := Lib.hid v
  have HZ := Lib.hid z
  clear v z
  obtain ⟨R, hR0⟩ : ∃ R, (tt (DataP M sp mw mr ho av bv bw bb bf by_ bl br bz)) = R := ⟨_, rfl⟩
  rw [hR0]
  have HR := Lib.hid hR0
  clear hR0
  have B := Bx.new 53 arr w
  have hb0 := (Below.refl w.heap.size w).alloc (Nat.le_refl _) (Obj.cells arr 53)
  obtain ⟨y0, hy0⟩ : ∃ y, w.alloc (Obj.cells arr 53) = y := ⟨_, rfl⟩
  rw [hy0] at B hb0
  have B_0 := Lib.hid B
  have HB_0 := Lib.hid hb0
  clear B hb0
  obtain rfl : nM = nl := by rw [← HV.out.nM, ← HV.out.nl]; exact hlM
  obtain rfl : nM = ns := by rw [← HV.out.nsp, hls, ← hlM]; exact HV.out.nM.symm
  obtain ⟨hmw0, hmw1⟩ := hmw
  have HBD := Lib.hid hbd
  have HS0 := Lib.hid hs0
  clear hlM hls hbd hs0
  have hln : nM ≤ 2000000 := by rw [← HV.out.nM]; exact HZ.out.zMl
  have X0 := Bx.new 47 #[.bool bv, .int .i64 bw, .int .i64 bb, .bool bf, .int .i64 by_, .int .i64 bl, .int .i64 br, .bool bz] y0
  have hba := (Below.refl y0.heap.size y0).alloc (Nat.le_refl _) (Obj.cells #[.bool bv, .int .i64 bw, .int .i64 bb, .bool bf, .int .i64 by_, .int .i64 bl, .int .i64 br, .bool bz] 47)
  have B_1 := Lib.hid (B_0.out.later hba)
  have HB_1 := Lib.hid (HB_0.out.trans (hba.mono HB_0.out.size))
  obtain ⟨k1, hk1⟩ : ∃ k, y0.heap.size = k := ⟨_, rfl⟩
  rw [hk1] at X0
  have X_1 := Lib.hid X0
  clear hba X0 B_0 HB_0
  go_enter Tryz.func25, Tryz.ntmps25
  go_upto_region 1 with fail
  generalize y0.alloc (Obj.cells #[.bool bv, .int .i64 bw, .int .i64 bb, .bool bf, .int .i64 by_, .int .i64 bl, .int .i64 br, .bool bz] 47) = y1 at B_1 HB_1 X_1 ⊢
  try rw [hk1]
  clear hy0 hk1
  have x0 := X_1.out.cell 0 _ rfl
  have x1 := X_1.out.cell 1 _ rfl
  have x2 := X_1.out.cell 2 _ rfl
  have x3 := X_1.out.cell 3 _ rfl
  have x4 := X_1.out.cell 4 _ rfl
  have x5 := X_1.out.cell 5 _ rfl
  have x6 := X_1.out.cell 6 _ rfl
  have x7 := X_1.out.cell 7 _ rfl
  cases bv
  · skip
    have hq := fun w => eqlBeat false bw bb bf by_ bl br bz false 0 0 false 0 0 0 false w
    have hgd := guardBeat
    obtain ⟨c, hc⟩ : ∃ c, same ((false, bw, bb, bf, by_, bl, br, bz) : Bool × Int × Int × Bool × Int × Int × Int × Bool) (false, 0, 0, false, 0, 0, 0, false) = c := ⟨_, rfl⟩
    rw [hc] at hq
    have hf : R = c := by rw [← HR.out, ← hc]; exact tt_congr (by unfold DataP; rw [if_neg (by decide)])
    subst hf
    clear hc
    repeat (first | go_values | go_skip | go_guarded | go_step | go_upon | go_back)
    go_ret
    exact ⟨rfl, HB_1.out⟩
  go_upto_region 3 with fail
  clear x0 x1 x2 x3 x4 x5 x6 x7
  have gB7 := fun d os => cell_regrown (B_1.out.cell 7 _ HV.out.c7) d os
  have gB11 := fun d os => cell_regrown (B_1.out.cell 11 _ HV.out.c11) d os
  have gX1 := fun d os => cell_regrown (X_1.out.cell 1 _ rfl) d os
  have gX4 := fun d os => cell_regrown (X_1.out.cell 4 _ rfl) d os
  obtain ⟨c1, hc1⟩ : ∃ c, inB bw 0 ((nM : Int) - 1) = c := ⟨_, rfl⟩
  have C1 := Lib.hid hc1
  clear hc1
  obtain ⟨c2, hc2⟩ : ∃ c, inB by_ 1 3 = c := ⟨_, rfl⟩
  have C2 := Lib.hid hc2
  clear hc2
  cases c1
  · skip
    have hf : R = false := by
      rw [← HR.out]
      refine tt_no (fun h => ?_)
      unfold DataP at h
      rw [if_pos rfl] at h
      obtain ⟨g1, g6, g7, k, m, g2, g3, g4, g5, g8⟩ := h
      have h5 := (List.getElem?_eq_some_iff.1 g3).1
      rw [HV.out.nM] at h5
      have h6 : inB bw 0 ((nM : Int) - 1) = true := inB_iff.2 (by omega)
      rw [C1.out] at h6; cases h6
    subst hf
    refine wp_region_det ?_
    repeat (go_big_quiet_step (first
      | (go_at_call 19; exact Calls.regrown_of (l1In_isC C1.out _))))
    refine wpQuiet_nil ?_
    rintro _ ⟨qq, rfl⟩
    have hq := below_regrown y1 qq.d qq.os
    clear gB7 gB11 gX1 gX4
    have B_2 := Lib.hid (B_1.out.later hq)
    have X_2 := Lib.hid (X_1.out.later hq)
    have HB_2 := Lib.hid (HB_1.out.trans (hq.mono HB_1.out.size))
    clear B_1 X_1 HB_1 hq 
    repeat (first | go_values | go_skip | go_guarded | go_step | go_upon | go_back)
    go_ret
    exact ⟨rfl, HB_2.out⟩
  cases c2
  · skip
    have hf : R = false := by
      rw [← HR.out]
      refine tt_no (fun h => ?_)
      unfold DataP at h
      rw [if_pos rfl] at h
      obtain ⟨g1, g6, g7, k, m, g2, g3, g4, g5, g8⟩ := h
      have h6 := inB_iff.2 g1
      rw [C2.out] at h6; cases h6
    subst hf
    refine wp_region_det ?_
    repeat (go_big_quiet_step (first
      | (go_at_call 19; with_reducible exact Calls.regrown_of (l1In_isC C1.out _))
      | (go_at_call 19; with_reducible exact Calls.regrown_of (l1In_isC C2.out _))))
    refine wpQuiet_nil ?_
    rintro _ ⟨qq, rfl⟩
    have hq := below_regrown y1 qq.d qq.os
    clear gB7 gB11 gX1 gX4
    have B_2 := Lib.hid (B_1.out.later hq)
    have X_2 := Lib.hid (X_1.out.later hq)
    have HB_2 := Lib.hid (HB_1.out.trans (hq.mono HB_1.out.size))
    clear B_1 X_1 HB_1 hq 
    repeat (first | go_values | go_skip | go_guarded | go_step | go_upon | go_back)
    go_ret
    exact ⟨rfl, HB_2.out⟩
  have hi := inB_iff.1 C1.out
  obtain ⟨j, hj⟩ : ∃ j : Nat, bw = (j : Int) := ⟨bw.toNat, by omega⟩
  subst hj
  have hjn : j < nM := by omega
  clear hi
  obtain ⟨m, hxm⟩ := get_of (l := M) (i := j) (by rw [HV.out.nM]; exact hjn)
  have HXm := Lib.hid hxm
  obtain ⟨bm, om, _, esm, em, _, _, ltm, cm, rm⟩ := row_rd HV.out.rM hxm
  simp at em
  obtain ⟨rfl, -, rfl⟩ := em
  obtain ⟨m0, m1, m2, m3, m4, m5⟩ := m
  have Rm := Lib.hid rm
  obtain ⟨am, pm, rfl, _⟩ := mst_form rm
  have Em0 := Lib.hid (show w.cell? ⟨bm, om + j * 6, none⟩ = some (.slice am m0.length pm) from cm 0 _ rfl)
  have Em1 := Lib.hid (show w.cell? ⟨bm, om + j * 6 + 1, none⟩ = some (.int .i64 m1) from cm 1 _ rfl)
  have Em2 := Lib.hid (show w.cell? ⟨bm, om + j * 6 + 2, none⟩ = some (.int .i64 m2) from cm 2 _ rfl)
  have Em3 := Lib.hid (show w.cell? ⟨bm, om + j * 6 + 3, none⟩ = some (.int .i64 m3) from cm 3 _ rfl)
  have Em4 := Lib.hid (show w.cell? ⟨bm, om + j * 6 + 4, none⟩ = some (.bool m4) from cm 4 _ rfl)
  have Em5 := Lib.hid (show w.cell? ⟨bm, om + j * 6 + 5, none⟩ = some (.bool m5) from cm 5 _ rfl)
  have LTm := Lib.hid ltm
  clear hxm cm rm ltm
  obtain ⟨s, hxs⟩ := get_of (l := sp) (i := j) (by rw [HV.out.nsp]; exact hjn)
  obtain ⟨bs, os, es, lts, cs⟩ := ints_el HV.out.rsp hxs
  obtain rfl := es
  have HXs := Lib.hid hxs
  have Es0 := Lib.hid cs
  have LTs := Lib.hid lts
  clear hxs cs lts
  have hin : (0 : Int) ≤ (j : Int) ∧ (j : Int) < ((nM : Nat) : Int) := by omega
  have hs00 := HS0.out _ (List.mem_of_getElem? HXs.out)
  have gs0 := fun d os => cell_regrown ((bel_cells HB_1.out LTs.out _).trans Es0.out) d os
  by_cases hs : 0 < s
  · have hsb : decide (0 < s) = true := decide_eq_true hs
    have HS := Lib.hid hs
    clear hs
    have hf : R = false := by
      rw [← HR.out]
      refine tt_no (fun h => ?_)
      unfold DataP at h
      rw [if_pos rfl] at h
      obtain ⟨g1, g6, g7, k, m, g2, g3, g4, g5, g8⟩ := h
      obtain rfl : j = k := by omega
      rw [HXm.out] at g3
      cases g3
      rw [HXs.out] at g4
      cases g4
      exact absurd HS.out (by omega)
    subst hf
    refine wp_region_det ?_
    repeat (go_big_quiet_step (first
      | (go_at_call 19; with_reducible exact Calls.regrown_of (l1In_isC C1.out _))
      | (go_at_call 19; with_reducible exact Calls.regrown_of (l1In_isC C2.out _))))
    refine wpQuiet_nil ?_
    rintro _ ⟨qq, rfl⟩
    have hq := below_regrown y1 qq.d qq.os
    clear gB7 gB11 gX1 gX4 gs0
    have B_2 := Lib.hid (B_1.out.later hq)
    have X_2 := Lib.hid (X_1.out.later hq)
    have HB_2 := Lib.hid (HB_1.out.trans (hq.mono HB_1.out.size))
    clear B_1 X_1 HB_1 hq 
    repeat (first | go_values | go_skip | go_guarded | go_step | go_upon | go_back)
    go_ret
    exact ⟨rfl, HB_2.out⟩
  obtain rfl : s = 0 := by omega
  refine wp_region_det ?_
  repeat (go_big_quiet_step (first
    | (go_at_call 19; with_reducible exact Calls.regrown_of (l1In_isC C1.out _))
    | (go_at_call 19; with_reducible exact Calls.regrown_of (l1In_isC C2.out _))))
  refine wpQuiet_nil ?_
  rintro _ ⟨qq, rfl⟩
  have hq := below_regrown y1 qq.d qq.os
  clear gB7 gB11 gX1 gX4 gs0
  have B_2 := Lib.hid (B_1.out.later hq)
  have X_2 := Lib.hid (X_1.out.later hq)
  have HB_2 := Lib.hid (HB_1.out.trans (hq.mono HB_1.out.size))
  clear B_1 X_1 HB_1 hq 
  generalize Sort.grow (redrawn y1 qq.d) qq.os = y2 at B_2 X_2 HB_2 ⊢
  have g7 := B_2.out.cell 7 _ HV.out.c7
  have x1 := X_2.out.cell 1 _ rfl
  have hm0 := ((bel_cells HB_2.out LTm.out _).trans Em0.out)
  have hm1 := ((bel_cells HB_2.out LTm.out _).trans Em1.out)
  have hm2 := ((bel_cells HB_2.out LTm.out _).trans Em2.out)
  have hm3 := ((bel_cells HB_2.out LTm.out _).trans Em3.out)
  have hm4 := ((bel_cells HB_2.out LTm.out _).trans Em4.out)
  have hm5 := ((bel_cells HB_2.out LTm.out _).trans Em5.out)
  have hba := (Below.refl y2.heap.size y2).alloc (Nat.le_refl _) (Obj.cells #[.slice am m0.length pm, .int .i64 m1, .int .i64 m2, .int .i64 m3, .bool m4, .bool m5] 70)
  have B_5 := Lib.hid (B_2.out.later hba)
  have X_5 := Lib.hid (X_2.out.later hba)
  have HB_5 := Lib.hid (HB_2.out.trans (hba.mono HB_2.out.size))
  have Y_5 := Lib.hid (Bx.new 70 #[.slice am m0.length pm, .int .i64 m1, .int .i64 m2, .int .i64 m3, .bool m4, .bool m5] y2)
  clear hba
  go_upto_region 8 with fail
  clear hm0 hm1 hm2 hm3 hm4 hm5 g7 x1 B_2 X_2 HB_2
  generalize y2.alloc (Obj.cells #[.slice am m0.length pm, .int .i64 m1, .int .i64 m2, .int .i64 m3, .bool m4, .bool m5] 70) = y3 at B_5 X_5 HB_5 Y_5 ⊢
  have hbm := HBD.out j _ HXm.out
  dsimp only at hbm
  obtain ⟨hbm0, hbm1, hbm2⟩ := hbm
  obtain ⟨c3, hc3⟩ : ∃ c, inB bl 0 (mw + 2) = c := ⟨_, rfl⟩
  have C3 := Lib.hid hc3
  clear hc3
  by_cases hr0 : br = 0
  · subst hr0
    have HW := Lib.hid (show respW 0 = respW 0 from rfl)
    obtain ⟨rw_, hrw⟩ : ∃ x, respW 0 = x := ⟨_, rfl⟩
    have hrl : rw_.toList = [111, 107, 97, 121] := by rw [← hrw, ByteArray.toList_eq]; rfl
    have HW := Lib.hid hrw
    clear hrw
    have HRESP : Hid ((0 : Int) = 0 ∨ (0 : Int) = 1 ∨ ((0 : Int) = 2 ∧ m3 < mr) ∨ ((0 : Int) = 3 ∧ m4 = false ∧ ho ≠ (j : Int))) := Lib.hid (.inl rfl)
    cases bz
    · skip
      by_cases h2 : bb = m2
      rotate_left
      · skip
        have h2b : (bb == m2) = false := by simp [h2]
        have h2d : decide (bb = m2) = false := decide_eq_false h2
        have H2 := Lib.hid h2
        clear h2
        have hf : R = false := by
          rw [← HR.out]
          refine tt_no (fun h => ?_)
          unfold DataP at h
          rw [if_pos rfl] at h
          obtain ⟨g1, g6, g7, k, m, g2, g3, g4, g5, g8⟩ := h
          obtain rfl : j = k := by omega
          rw [HXm.out] at g3
          cases g3
          exact H2.out g5
        subst hf
        have gB3 := fun d os => cell_regrown (B_5.out.cell 3 _ HV.out.c3) d os
        have gB12 := fun d os => cell_regrown (B_5.out.cell 12 _ HV.out.c12) d os
        have gB15 := fun d os => cell_regrown (B_5.out.cell 15 _ HV.out.c15) d os
        have gX1 := fun d os => cell_regrown (X_5.out.cell 1 _ rfl) d os
        have gX6 := fun d os => cell_regrown (X_5.out.cell 6 _ rfl) d os
        have gX7 := fun d os => cell_regrown (X_5.out.cell 7 _ rfl) d os
        have gY3 := fun d os => cell_regrown (Y_5.out.cell 3 _ rfl) d os
        have gY4 := fun d os => cell_regrown (Y_5.out.cell 4 _ rfl) d os
        refine wp_region_det ?_
        repeat (go_big_quiet_step (fail))
        refine wpQuiet_nil ?_
        rintro _ ⟨qq, rfl⟩
        have hq := below_regrown y3 qq.d qq.os
        clear gB3 gB12 gB15 gX1 gX6 gX7 gY3 gY4
        have B_6 := Lib.hid (B_5.out.later hq)
        have X_6 := Lib.hid (X_5.out.later hq)
        have Y_6 := Lib.hid (Y_5.out.later hq)
        have HB_6 := Lib.hid (HB_5.out.trans (hq.mono HB_5.out.size))
        clear B_5 X_5 Y_5 HB_5 hq 
        generalize Sort.grow (redrawn y3 qq.d) qq.os = y4 at B_6 X_6 Y_6 HB_6 ⊢
        go_upto_region 10 with fail
        have gB2 := fun d os => cell_regrown (B_6.out.cell 2 _ HV.out.c2) d os
        have gX2 := fun d os => cell_regrown (X_6.out.cell 2 _ rfl) d os
        have gX5 := fun d os => cell_regrown (X_6.out.cell 5 _ rfl) d os
        have gX6 := fun d os => cell_regrown (X_6.out.cell 6 _ rfl) d os
        have gX7 := fun d os => cell_regrown (X_6.out.cell 7 _ rfl) d os
        have gY2 := fun d os => cell_regrown (Y_6.out.cell 2 _ rfl) d os
        refine wp_region_det ?_
        repeat (go_big_quiet_step (fail))
        refine wpQuiet_nil ?_
        rintro _ ⟨qq, rfl⟩
        have hq := below_regrown y4 qq.d qq.os
        clear gB2 gX2 gX5 gX6 gX7 gY2
        have B_7 := Lib.hid (B_6.out.later hq)
        have X_7 := Lib.hid (X_6.out.later hq)
        have Y_7 := Lib.hid (Y_6.out.later hq)
        have HB_7 := Lib.hid (HB_6.out.trans (hq.mono HB_6.out.size))
        clear B_6 X_6 Y_6 HB_6 hq 
        repeat (first | go_values | go_skip | go_guarded | go_step | go_upon | go_back)
        go_ret
        exact ⟨rfl, HB_7.out⟩
      have h2b : (bb == m2) = true := by simp [h2]
      have h2d : decide (bb = m2) = true := decide_eq_true h2
      have H2 := Lib.hid h2
      clear h2
      cases c3
      · skip
        have hf : R = false := by
          rw [← HR.out]
          refine tt_no (fun h => ?_)
          unfold DataP at h
          rw [if_pos rfl] at h
          obtain ⟨g1, g6, g7, k, m, g2, g3, g4, g5, g8⟩ := h
          have h6 := inB_iff.2 g6
          rw [C3.out] at h6; cases h6
        subst hf
        have gB3 := fun d os => cell_regrown (B_5.out.cell 3 _ HV.out.c3) d os
        have gB12 := fun d os => cell_regrown (B_5.out.cell 12 _ HV.out.c12) d os
        have gB15 := fun d os => cell_regrown (B_5.out.cell 15 _ HV.out.c15) d os
        have gX1 := fun d os => cell_regrown (X_5.out.cell 1 _ rfl) d os
        have gX6 := fun d os => cell_regrown (X_5.out.cell 6 _ rfl) d os
        have gX7 := fun d os => cell_regrown (X_5.out.cell 7 _ rfl) d os
        have gY3 := fun d os => cell_regrown (Y_5.out.cell 3 _ rfl) d os
        have gY4 := fun d os => cell_regrown (Y_5.out.cell 4 _ rfl) d os
        refine wp_region_det ?_
        repeat (go_big_quiet_step (fail))
        refine wpQuiet_nil ?_
        rintro _ ⟨qq, rfl⟩
        have hq := below_regrown y3 qq.d qq.os
        clear gB3 gB12 gB15 gX1 gX6 gX7 gY3 gY4
        have B_6 := Lib.hid (B_5.out.later hq)
        have X_6 := Lib.hid (X_5.out.later hq)
        have Y_6 := Lib.hid (Y_5.out.later hq)
        have HB_6 := Lib.hid (HB_5.out.trans (hq.mono HB_5.out.size))
        clear B_5 X_5 Y_5 HB_5 hq 
        generalize Sort.grow (redrawn y3 qq.d) qq.os = y4 at B_6 X_6 Y_6 HB_6 ⊢
        go_upto_region 10 with fail
        have gB2 := fun d os => cell_regrown (B_6.out.cell 2 _ HV.out.c2) d os
        have gX2 := fun d os => cell_regrown (X_6.out.cell 2 _ rfl) d os
        have gX5 := fun d os => cell_regrown (X_6.out.cell 5 _ rfl) d os
        have gX6 := fun d os => cell_regrown (X_6.out.cell 6 _ rfl) d os
        have gX7 := fun d os => cell_regrown (X_6.out.cell 7 _ rfl) d os
        have gY2 := fun d os => cell_regrown (Y_6.out.cell 2 _ rfl) d os
        refine wp_region_det ?_
        repeat (go_big_quiet_step (first
          | (go_at_call 19; exact Calls.regrown_of (l1In_isC C3.out _))))
        refine wpQuiet_nil ?_
        rintro _ ⟨qq, rfl⟩
        have hq := below_regrown y4 qq.d qq.os
        clear gB2 gX2 gX5 gX6 gX7 gY2
        have B_7 := Lib.hid (B_6.out.later hq)
        have X_7 := Lib.hid (X_6.out.later hq)
        have Y_7 := Lib.hid (Y_6.out.later hq)
        have HB_7 := Lib.hid (HB_6.out.trans (hq.mono HB_6.out.size))
        clear B_6 X_6 Y_6 HB_6 hq 
        repeat (first | go_values | go_skip | go_guarded | go_step | go_upon | go_back)
        go_ret
        exact ⟨rfl, HB_7.out⟩
      have hf : R = true := by
        rw [← HR.out]
        refine tt_yes ?_
        unfold DataP
        rw [if_pos rfl]
        exact ⟨inB_iff.1 C2.out, inB_iff.1 C3.out, fun e => (by cases e), j, _, rfl, HXm.out, HXs.out, H2.out, HRESP.out⟩
      subst hf
      have gB3 := fun d os => cell_regrown (B_5.out.cell 3 _ HV.out.c3) d os
      have gB12 := fun d os => cell_regrown (B_5.out.cell 12 _ HV.out.c12) d os
      have gB15 := fun d os => cell_regrown (B_5.out.cell 15 _ HV.out.c15) d os
      have gX1 := fun d os => cell_regrown (X_5.out.cell 1 _ rfl) d os
      have gX6 := fun d os => cell_regrown (X_5.out.cell 6 _ rfl) d os
      have gX7 := fun d os => cell_regrown (X_5.out.cell 7 _ rfl) d os
      have gY3 := fun d os => cell_regrown (Y_5.out.cell 3 _ rfl) d os
      have gY4 := fun d os => cell_regrown (Y_5.out.cell 4 _ rfl) d os
      refine wp_region_det ?_
      repeat (go_big_quiet_step (fail))
      refine wpQuiet_nil ?_
      rintro _ ⟨qq, rfl⟩
      have hq := below_regrown y3 qq.d qq.os
      clear gB3 gB12 gB15 gX1 gX6 gX7 gY3 gY4
      have B_6 := Lib.hid (B_5.out.later hq)
      have X_6 := Lib.hid (X_5.out.later hq)
      have Y_6 := Lib.hid (Y_5.out.later hq)
      have HB_6 := Lib.hid (HB_5.out.trans (hq.mono HB_5.out.size))
      clear B_5 X_5 Y_5 HB_5 hq 
      generalize Sort.grow (redrawn y3 qq.d) qq.os = y4 at B_6 X_6 Y_6 HB_6 ⊢
      go_upto_region 10 with fail
      have gB2 := fun d os => cell_regrown (B_6.out.cell 2 _ HV.out.c2) d os
      have gX2 := fun d os => cell_regrown (X_6.out.cell 2 _ rfl) d os
      have gX5 := fun d os => cell_regrown (X_6.out.cell 5 _ rfl) d os
      have gX6 := fun d os => cell_regrown (X_6.out.cell 6 _ rfl) d os
      have gX7 := fun d os => cell_regrown (X_6.out.cell 7 _ rfl) d os
      have gY2 := fun d os => cell_regrown (Y_6.out.cell 2 _ rfl) d os
      refine wp_region_det ?_
      repeat (go_big_quiet_step (first
        | (go_at_call 19; exact Calls.regrown_of (l1In_isC C3.out _))
        | (go_at_call 60; exact Calls.regrown_of (sresp_is HW.out _))))
      refine wpQuiet_nil ?_
      rintro _ ⟨qq, rfl⟩
      have hq := below_regrown y4 qq.d qq.os
      clear gB2 gX2 gX5 gX6 gX7 gY2
      have B_7 := Lib.hid (B_6.out.later hq)
      have X_7 := Lib.hid (X_6.out.later hq)
      have Y_7 := Lib.hid (Y_6.out.later hq)
      have HB_7 := Lib.hid (HB_6.out.trans (hq.mono HB_6.out.size))
      clear B_6 X_6 Y_6 HB_6 hq 
      repeat (first | go_values | go_skip | go_guarded | go_step | go_upon | go_back)
      go_ret
      exact ⟨rfl, HB_7.out⟩
    cases av
    rotate_left
    · skip
      have hf : R = false := by
        rw [← HR.out]
        refine tt_no (fun h => ?_)
        unfold DataP at h
        rw [if_pos rfl] at h
        obtain ⟨g1, g6, g7, k, m, g2, g3, g4, g5, g8⟩ := h
        cases (g7 rfl).2.2
      subst hf
      have gB3 := fun d os => cell_regrown (B_5.out.cell 3 _ HV.out.c3) d os
      have gB12 := fun d os => cell_regrown (B_5.out.cell 12 _ HV.out.c12) d os
      have gB15 := fun d os => cell_regrown (B_5.out.cell 15 _ HV.out.c15) d os
      have gX1 := fun d os => cell_regrown (X_5.out.cell 1 _ rfl) d os
      have gX6 := fun d os => cell_regrown (X_5.out.cell 6 _ rfl) d os
      have gX7 := fun d os => cell_regrown (X_5.out.cell 7 _ rfl) d os
      have gY3 := fun d os => cell_regrown (Y_5.out.cell 3 _ rfl) d os
      have gY4 := fun d os => cell_regrown (Y_5.out.cell 4 _ rfl) d os
      refine wp_region_det ?_
      repeat (go_big_quiet_step (fail))
      refine wpQuiet_nil ?_
      rintro _ ⟨qq, rfl⟩
      have hq := below_regrown y3 qq.d qq.os
      clear gB3 gB12 gB15 gX1 gX6 gX7 gY3 gY4
      have B_6 := Lib.hid (B_5.out.later hq)
      have X_6 := Lib.hid (X_5.out.later hq)
      have Y_6 := Lib.hid (Y_5.out.later hq)
      have HB_6 := Lib.hid (HB_5.out.trans (hq.mono HB_5.out.size))
      clear B_5 X_5 Y_5 HB_5 hq 
      repeat (first | go_values | go_skip | go_guarded | go_step | go_upon | go_back)
      go_ret
      exact ⟨rfl, HB_6.out⟩
    by_cases h2 : bb = m2
    rotate_left
    · skip
      have h2b : (bb == m2) = false := by simp [h2]
      have h2d : decide (bb = m2) = false := decide_eq_false h2
      have H2 := Lib.hid h2
      clear h2
      have hf : R = false := by
        rw [← HR.out]
        refine tt_no (fun h => ?_)
        unfold DataP at h
        rw [if_pos rfl] at h
        obtain ⟨g1, g6, g7, k, m, g2, g3, g4, g5, g8⟩ := h
        obtain rfl : j = k := by omega
        rw [HXm.out] at g3
        cases g3
        exact H2.out g5
      subst hf
      have gB3 := fun d os => cell_regrown (B_5.out.cell 3 _ HV.out.c3) d os
      have gB12 := fun d os => cell_regrown (B_5.out.cell 12 _ HV.out.c12) d os
      have gB15 := fun d os => cell_regrown (B_5.out.cell 15 _ HV.out.c15) d os
      have gX1 := fun d os => cell_regrown (X_5.out.cell 1 _ rfl) d os
      have gX6 := fun d os => cell_regrown (X_5.out.cell 6 _ rfl) d os
      have gX7 := fun d os => cell_regrown (X_5.out.cell 7 _ rfl) d os
      have gY3 := fun d os => cell_regrown (Y_5.out.cell 3 _ rfl) d os
      have gY4 := fun d os => cell_regrown (Y_5.out.cell 4 _ rfl) d os
      refine wp_region_det ?_
      repeat (go_big_quiet_step (fail))
      refine wpQuiet_nil ?_
      rintro _ ⟨qq, rfl⟩
      have hq := below_regrown y3 qq.d qq.os
      clear gB3 gB12 gB15 gX1 gX6 gX7 gY3 gY4
      have B_6 := Lib.hid (B_5.out.later hq)
      have X_6 := Lib.hid (X_5.out.later hq)
      have Y_6 := Lib.hid (Y_5.out.later hq)
      have HB_6 := Lib.hid (HB_5.out.trans (hq.mono HB_5.out.size))
      clear B_5 X_5 Y_5 HB_5 hq 
      generalize Sort.grow (redrawn y3 qq.d) qq.os = y4 at B_6 X_6 Y_6 HB_6 ⊢
      go_upto_region 10 with fail
      have gB2 := fun d os => cell_regrown (B_6.out.cell 2 _ HV.out.c2) d os
      have gX2 := fun d os => cell_regrown (X_6.out.cell 2 _ rfl) d os
      have gX5 := fun d os => cell_regrown (X_6.out.cell 5 _ rfl) d os
      have gX6 := fun d os => cell_regrown (X_6.out.cell 6 _ rfl) d os
      have gX7 := fun d os => cell_regrown (X_6.out.cell 7 _ rfl) d os
      have gY2 := fun d os => cell_regrown (Y_6.out.cell 2 _ rfl) d os
      refine wp_region_det ?_
      repeat (go_big_quiet_step (fail))
      refine wpQuiet_nil ?_
      rintro _ ⟨qq, rfl⟩
      have hq := below_regrown y4 qq.d qq.os
      clear gB2 gX2 gX5 gX6 gX7 gY2
      have B_7 := Lib.hid (B_6.out.later hq)
      have X_7 := Lib.hid (X_6.out.later hq)
      have Y_7 := Lib.hid (Y_6.out.later hq)
      have HB_7 := Lib.hid (HB_6.out.trans (hq.mono HB_6.out.size))
      clear B_6 X_6 Y_6 HB_6 hq 
      repeat (first | go_values | go_skip | go_guarded | go_step | go_upon | go_back)
      go_ret
      exact ⟨rfl, HB_7.out⟩
    have h2b : (bb == m2) = true := by simp [h2]
    have h2d : decide (bb = m2) = true := decide_eq_true h2
    have H2 := Lib.hid h2
    clear h2
    cases c3
    · skip
      have hf : R = false := by
        rw [← HR.out]
        refine tt_no (fun h => ?_)
        unfold DataP at h
        rw [if_pos rfl] at h
        obtain ⟨g1, g6, g7, k, m, g2, g3, g4, g5, g8⟩ := h
        have h6 := inB_iff.2 g6
        rw [C3.out] at h6; cases h6
      subst hf
      have gB3 := fun d os => cell_regrown (B_5.out.cell 3 _ HV.out.c3) d os
      have gB12 := fun d os => cell_regrown (B_5.out.cell 12 _ HV.out.c12) d os
      have gB15 := fun d os => cell_regrown (B_5.out.cell 15 _ HV.out.c15) d os
      have gX1 := fun d os => cell_regrown (X_5.out.cell 1 _ rfl) d os
      have gX6 := fun d os => cell_regrown (X_5.out.cell 6 _ rfl) d os
      have gX7 := fun d os => cell_regrown (X_5.out.cell 7 _ rfl) d os
      have gY3 := fun d os => cell_regrown (Y_5.out.cell 3 _ rfl) d os
      have gY4 := fun d os => cell_regrown (Y_5.out.cell 4 _ rfl) d os
      refine wp_region_det ?_
      repeat (go_big_quiet_step (fail))
      refine wpQuiet_nil ?_
      rintro _ ⟨qq, rfl⟩
      have hq := below_regrown y3 qq.d qq.os
      clear gB3 gB12 gB15 gX1 gX6 gX7 gY3 gY4
      have B_6 := Lib.hid (B_5.out.later hq)
      have X_6 := Lib.hid (X_5.out.later hq)
      have Y_6 := Lib.hid (Y_5.out.later hq)
      have HB_6 := Lib.hid (HB_5.out.trans (hq.mono HB_5.out.size))
      clear B_5 X_5 Y_5 HB_5 hq 
      generalize Sort.grow (redrawn y3 qq.d) qq.os = y4 at B_6 X_6 Y_6 HB_6 ⊢
      go_upto_region 10 with fail
      have gB2 := fun d os => cell_regrown (B_6.out.cell 2 _ HV.out.c2) d os
      have gX2 := fun d os => cell_regrown (X_6.out.cell 2 _ rfl) d os
      have gX5 := fun d os => cell_regrown (X_6.out.cell 5 _ rfl) d os
      have gX6 := fun d os => cell_regrown (X_6.out.cell 6 _ rfl) d os
      have gX7 := fun d os => cell_regrown (X_6.out.cell 7 _ rfl) d os
      have gY2 := fun d os => cell_regrown (Y_6.out.cell 2 _ rfl) d os
      refine wp_region_det ?_
      repeat (go_big_quiet_step (first
        | (go_at_call 19; exact Calls.regrown_of (l1In_isC C3.out _))))
      refine wpQuiet_nil ?_
      rintro _ ⟨qq, rfl⟩
      have hq := below_regrown y4 qq.d qq.os
      clear gB2 gX2 gX5 gX6 gX7 gY2
      have B_7 := Lib.hid (B_6.out.later hq)
      have X_7 := Lib.hid (X_6.out.later hq)
      have Y_7 := Lib.hid (Y_6.out.later hq)
      have HB_7 := Lib.hid (HB_6.out.trans (hq.mono HB_6.out.size))
      clear B_6 X_6 Y_6 HB_6 hq 
      repeat (first | go_values | go_skip | go_guarded | go_step | go_upon | go_back)
      go_ret
      exact ⟨rfl, HB_7.out⟩
    have hf : R = false := by
      rw [← HR.out]
      refine tt_no (fun h => ?_)
      unfold DataP at h
      rw [if_pos rfl] at h
      obtain ⟨g1, g6, g7, k, m, g2, g3, g4, g5, g8⟩ := h
      exact (g7 rfl).2.1 rfl
    subst hf
    have gB3 := fun d os => cell_regrown (B_5.out.cell 3 _ HV.out.c3) d os
    have gB12 := fun d os => cell_regrown (B_5.out.cell 12 _ HV.out.c12) d os
    have gB15 := fun d os => cell_regrown (B_5.out.cell 15 _ HV.out.c15) d os
    have gX1 := fun d os => cell_regrown (X_5.out.cell 1 _ rfl) d os
    have gX6 := fun d os => cell_regrown (X_5.out.cell 6 _ rfl) d os
    have gX7 := fun d os => cell_regrown (X_5.out.cell 7 _ rfl) d os
    have gY3 := fun d os => cell_regrown (Y_5.out.cell 3 _ rfl) d os
    have gY4 := fun d os => cell_regrown (Y_5.out.cell 4 _ rfl) d os
    refine wp_region_det ?_
    repeat (go_big_quiet_step (fail))
    refine wpQuiet_nil ?_
    rintro _ ⟨qq, rfl⟩
    have hq := below_regrown y3 qq.d qq.os
    clear gB3 gB12 gB15 gX1 gX6 gX7 gY3 gY4
    have B_6 := Lib.hid (B_5.out.later hq)
    have X_6 := Lib.hid (X_5.out.later hq)
    have Y_6 := Lib.hid (Y_5.out.later hq)
    have HB_6 := Lib.hid (HB_5.out.trans (hq.mono HB_5.out.size))
    clear B_5 X_5 Y_5 HB_5 hq 
    generalize Sort.grow (redrawn y3 qq.d) qq.os = y4 at B_6 X_6 Y_6 HB_6 ⊢
    go_upto_region 10 with fail
    have gB2 := fun d os => cell_regrown (B_6.out.cell 2 _ HV.out.c2) d os
    have gX2 := fun d os => cell_regrown (X_6.out.cell 2 _ rfl) d os
    have gX5 := fun d os => cell_regrown (X_6.out.cell 5 _ rfl) d os
    have gX6 := fun d os => cell_regrown (X_6.out.cell 6 _ rfl) d os
    have gX7 := fun d os => cell_regrown (X_6.out.cell 7 _ rfl) d os
    have gY2 := fun d os => cell_regrown (Y_6.out.cell 2 _ rfl) d os
    refine wp_region_det ?_
    repeat (go_big_quiet_step (first
      | (go_at_call 19; exact Calls.regrown_of (l1In_isC C3.out _))
      | (go_at_call 60; exact Calls.regrown_of (sresp_is HW.out _))))
    refine wpQuiet_nil ?_
    rintro _ ⟨qq, rfl⟩
    have hq := below_regrown y4 qq.d qq.os
    clear gB2 gX2 gX5 gX6 gX7 gY2
    have B_7 := Lib.hid (B_6.out.later hq)
    have X_7 := Lib.hid (X_6.out.later hq)
    have Y_7 := Lib.hid (Y_6.out.later hq)
    have HB_7 := Lib.hid (HB_6.out.trans (hq.mono HB_6.out.size))
    clear B_6 X_6 Y_6 HB_6 hq 
    repeat (first | go_values | go_skip | go_guarded | go_step | go_upon | go_back)
    go_ret
    exact ⟨rfl, HB_7.out⟩
  by_cases hr1 : br = 1
  · subst hr1
    have HW := Lib.hid (show respW 1 = respW 1 from rfl)
    obtain ⟨rw_, hrw⟩ : ∃ x, respW 1 = x := ⟨_, rfl⟩
    have hrl : rw_.toList = [101, 114, 114, 111, 114] := by rw [← hrw, ByteArray.toList_eq]; rfl
    have HW := Lib.hid hrw
    clear hrw
    have HRESP : Hid ((1 : Int) = 0 ∨ (1 : Int) = 1 ∨ ((1 : Int) = 2 ∧ m3 < mr) ∨ ((1 : Int) = 3 ∧ m4 = false ∧ ho ≠ (j : Int))) := Lib.hid (.inr (.inl rfl))
    cases bz
    · skip
      by_cases h2 : bb = m2
      rotate_left
      · skip
        have h2b : (bb == m2) = false := by simp [h2]
        have h2d : decide (bb = m2) = false := decide_eq_false h2
        have H2 := Lib.hid h2
        clear h2
        have hf : R = false := by
          rw [← HR.out]
          refine tt_no (fun h => ?_)
          unfold DataP at h
          rw [if_pos rfl] at h
          obtain ⟨g1, g6, g7, k, m, g2, g3, g4, g5, g8⟩ := h
          obtain rfl : j = k := by omega
          rw [HXm.out] at g3
          cases g3
          exact H2.out g5
        subst hf
        have gB3 := fun d os => cell_regrown (B_5.out.cell 3 _ HV.out.c3) d os
        have gB12 := fun d os => cell_regrown (B_5.out.cell 12 _ HV.out.c12) d os
        have gB15 := fun d os => cell_regrown (B_5.out.cell 15 _ HV.out.c15) d os
        have gX1 := fun d os => cell_regrown (X_5.out.cell 1 _ rfl) d os
        have gX6 := fun d os => cell_regrown (X_5.out.cell 6 _ rfl) d os
        have gX7 := fun d os => cell_regrown (X_5.out.cell 7 _ rfl) d os
        have gY3 := fun d os => cell_regrown (Y_5.out.cell 3 _ rfl) d os
        have gY4 := fun d os => cell_regrown (Y_5.out.cell 4 _ rfl) d os
        refine wp_region_det ?_
        repeat (go_big_quiet_step (fail))
        refine wpQuiet_nil ?_
        rintro _ ⟨qq, rfl⟩
        have hq := below_regrown y3 qq.d qq.os
        clear gB3 gB12 gB15 gX1 gX6 gX7 gY3 gY4
        have B_6 := Lib.hid (B_5.out.later hq)
        have X_6 := Lib.hid (X_5.out.later hq)
        have Y_6 := Lib.hid (Y_5.out.later hq)
        have HB_6 := Lib.hid (HB_5.out.trans (hq.mono HB_5.out.size))
        clear B_5 X_5 Y_5 HB_5 hq 
        generalize Sort.grow (redrawn y3 qq.d) qq.os = y4 at B_6 X_6 Y_6 HB_6 ⊢
        go_upto_region 10 with fail
        have gB2 := fun d os => cell_regrown (B_6.out.cell 2 _ HV.out.c2) d os
        have gX2 := fun d os => cell_regrown (X_6.out.cell 2 _ rfl) d os
        have gX5 := fun d os => cell_regrown (X_6.out.cell 5 _ rfl) d os
        have gX6 := fun d os => cell_regrown (X_6.out.cell 6 _ rfl) d os
        have gX7 := fun d os => cell_regrown (X_6.out.cell 7 _ rfl) d os
        have gY2 := fun d os => cell_regrown (Y_6.out.cell 2 _ rfl) d os
        refine wp_region_det ?_
        repeat (go_big_quiet_step (fail))
        refine wpQuiet_nil ?_
        rintro _ ⟨qq, rfl⟩
        have hq := below_regrown y4 qq.d qq.os
        clear gB2 gX2 gX5 gX6 gX7 gY2
        have B_7 := Lib.hid (B_6.out.later hq)
        have X_7 := Lib.hid (X_6.out.later hq)
        have Y_7 := Lib.hid (Y_6.out.later hq)
        have HB_7 := Lib.hid (HB_6.out.trans (hq.mono HB_6.out.size))
        clear B_6 X_6 Y_6 HB_6 hq 
        repeat (first | go_values | go_skip | go_guarded | go_step | go_upon | go_back)
        go_ret
        exact ⟨rfl, HB_7.out⟩
      have h2b : (bb == m2) = true := by simp [h2]
      have h2d : decide (bb = m2) = true := decide_eq_true h2
      have H2 := Lib.hid h2
      clear h2
      cases c3
      · skip
        have hf : R = false := by
          rw [← HR.out]
          refine tt_no (fun h => ?_)
          unfold DataP at h
          rw [if_pos rfl] at h
          obtain ⟨g1, g6, g7, k, m, g2, g3, g4, g5, g8⟩ := h
          have h6 := inB_iff.2 g6
          rw [C3.out] at h6; cases h6
        subst hf
        have gB3 := fun d os => cell_regrown (B_5.out.cell 3 _ HV.out.c3) d os
        have gB12 := fun d os => cell_regrown (B_5.out.cell 12 _ HV.out.c12) d os
        have gB15 := fun d os => cell_regrown (B_5.out.cell 15 _ HV.out.c15) d os
        have gX1 := fun d os => cell_regrown (X_5.out.cell 1 _ rfl) d os
        have gX6 := fun d os => cell_regrown (X_5.out.cell 6 _ rfl) d os
        have gX7 := fun d os => cell_regrown (X_5.out.cell 7 _ rfl) d os
        have gY3 := fun d os => cell_regrown (Y_5.out.cell 3 _ rfl) d os
        have gY4 := fun d os => cell_regrown (Y_5.out.cell 4 _ rfl) d os
        refine wp_region_det ?_
        repeat (go_big_quiet_step (fail))
        refine wpQuiet_nil ?_
        rintro _ ⟨qq, rfl⟩
        have hq := below_regrown y3 qq.d qq.os
        clear gB3 gB12 gB15 gX1 gX6 gX7 gY3 gY4
        have B_6 := Lib.hid (B_5.out.later hq)
        have X_6 := Lib.hid (X_5.out.later hq)
        have Y_6 := Lib.hid (Y_5.out.later hq)
        have HB_6 := Lib.hid (HB_5.out.trans (hq.mono HB_5.out.size))
        clear B_5 X_5 Y_5 HB_5 hq 
        generalize Sort.grow (redrawn y3 qq.d) qq.os = y4 at B_6 X_6 Y_6 HB_6 ⊢
        go_upto_region 10 with fail
        have gB2 := fun d os => cell_regrown (B_6.out.cell 2 _ HV.out.c2) d os
        have gX2 := fun d os => cell_regrown (X_6.out.cell 2 _ rfl) d os
        have gX5 := fun d os => cell_regrown (X_6.out.cell 5 _ rfl) d os
        have gX6 := fun d os => cell_regrown (X_6.out.cell 6 _ rfl) d os
        have gX7 := fun d os => cell_regrown (X_6.out.cell 7 _ rfl) d os
        have gY2 := fun d os => cell_regrown (Y_6.out.cell 2 _ rfl) d os
        refine wp_region_det ?_
        repeat (go_big_quiet_step (first
          | (go_at_call 19; exact Calls.regrown_of (l1In_isC C3.out _))))
        refine wpQuiet_nil ?_
        rintro _ ⟨qq, rfl⟩
        have hq := below_regrown y4 qq.d qq.os
        clear gB2 gX2 gX5 gX6 gX7 gY2
        have B_7 := Lib.hid (B_6.out.later hq)
        have X_7 := Lib.hid (X_6.out.later hq)
        have Y_7 := Lib.hid (Y_6.out.later hq)
        have HB_7 := Lib.hid (HB_6.out.trans (hq.mono HB_6.out.size))
        clear B_6 X_6 Y_6 HB_6 hq 
        repeat (first | go_values | go_skip | go_guarded | go_step | go_upon | go_back)
        go_ret
        exact ⟨rfl, HB_7.out⟩
      have hf : R = true := by
        rw [← HR.out]
        refine tt_yes ?_
        unfold DataP
        rw [if_pos rfl]
        exact ⟨inB_iff.1 C2.out, inB_iff.1 C3.out, fun e => (by cases e), j, _, rfl, HXm.out, HXs.out, H2.out, HRESP.out⟩
      subst hf
      have gB3 := fun d os => cell_regrown (B_5.out.cell 3 _ HV.out.c3) d os
      have gB12 := fun d os => cell_regrown (B_5.out.cell 12 _ HV.out.c12) d os
      have gB15 := fun d os => cell_regrown (B_5.out.cell 15 _ HV.out.c15) d os
      have gX1 := fun d os => cell_regrown (X_5.out.cell 1 _ rfl) d os
      have gX6 := fun d os => cell_regrown (X_5.out.cell 6 _ rfl) d os
      have gX7 := fun d os => cell_regrown (X_5.out.cell 7 _ rfl) d os
      have gY3 := fun d os => cell_regrown (Y_5.out.cell 3 _ rfl) d os
      have gY4 := fun d os => cell_regrown (Y_5.out.cell 4 _ rfl) d os
      refine wp_region_det ?_
      repeat (go_big_quiet_step (fail))
      refine wpQuiet_nil ?_
      rintro _ ⟨qq, rfl⟩
      have hq := below_regrown y3 qq.d qq.os
      clear gB3 gB12 gB15 gX1 gX6 gX7 gY3 gY4
      have B_6 := Lib.hid (B_5.out.later hq)
      have X_6 := Lib.hid (X_5.out.later hq)
      have Y_6 := Lib.hid (Y_5.out.later hq)
      have HB_6 := Lib.hid (HB_5.out.trans (hq.mono HB_5.out.size))
      clear B_5 X_5 Y_5 HB_5 hq 
      generalize Sort.grow (redrawn y3 qq.d) qq.os = y4 at B_6 X_6 Y_6 HB_6 ⊢
      go_upto_region 10 with fail
      have gB2 := fun d os => cell_regrown (B_6.out.cell 2 _ HV.out.c2) d os
      have gX2 := fun d os => cell_regrown (X_6.out.cell 2 _ rfl) d os
      have gX5 := fun d os => cell_regrown (X_6.out.cell 5 _ rfl) d os
      have gX6 := fun d os => cell_regrown (X_6.out.cell 6 _ rfl) d os
      have gX7 := fun d os => cell_regrown (X_6.out.cell 7 _ rfl) d os
      have gY2 := fun d os => cell_regrown (Y_6.out.cell 2 _ rfl) d os
      refine wp_region_det ?_
      repeat (go_big_quiet_step (first
        | (go_at_call 19; exact Calls.regrown_of (l1In_isC C3.out _))
        | (go_at_call 60; exact Calls.regrown_of (sresp_is HW.out _))))
      refine wpQuiet_nil ?_
      rintro _ ⟨qq, rfl⟩
      have hq := below_regrown y4 qq.d qq.os
      clear gB2 gX2 gX5 gX6 gX7 gY2
      have B_7 := Lib.hid (B_6.out.later hq)
      have X_7 := Lib.hid (X_6.out.later hq)
      have Y_7 := Lib.hid (Y_6.out.later hq)
      have HB_7 := Lib.hid (HB_6.out.trans (hq.mono HB_6.out.size))
      clear B_6 X_6 Y_6 HB_6 hq 
      repeat (first | go_values | go_skip | go_guarded | go_step | go_upon | go_back)
      go_ret
      exact ⟨rfl, HB_7.out⟩
    cases av
    rotate_left
    · skip
      have hf : R = false := by
        rw [← HR.out]
        refine tt_no (fun h => ?_)
        unfold DataP at h
        rw [if_pos rfl] at h
        obtain ⟨g1, g6, g7, k, m, g2, g3, g4, g5, g8⟩ := h
        cases (g7 rfl).2.2
      subst hf
      have gB3 := fun d os => cell_regrown (B_5.out.cell 3 _ HV.out.c3) d os
      have gB12 := fun d os => cell_regrown (B_5.out.cell 12 _ HV.out.c12) d os
      have gB15 := fun d os => cell_regrown (B_5.out.cell 15 _ HV.out.c15) d os
      have gX1 := fun d os => cell_regrown (X_5.out.cell 1 _ rfl) d os
      have gX6 := fun d os => cell_regrown (X_5.out.cell 6 _ rfl) d os
      have gX7 := fun d os => cell_regrown (X_5.out.cell 7 _ rfl) d os
      have gY3 := fun d os => cell_regrown (Y_5.out.cell 3 _ rfl) d os
      have gY4 := fun d os => cell_regrown (Y_5.out.cell 4 _ rfl) d os
      refine wp_region_det ?_
      repeat (go_big_quiet_step (fail))
      refine wpQuiet_nil ?_
      rintro _ ⟨qq, rfl⟩
      have hq := below_regrown y3 qq.d qq.os
      clear gB3 gB12 gB15 gX1 gX6 gX7 gY3 gY4
      have B_6 := Lib.hid (B_5.out.later hq)
      have X_6 := Lib.hid (X_5.out.later hq)
      have Y_6 := Lib.hid (Y_5.out.later hq)
      have HB_6 := Lib.hid (HB_5.out.trans (hq.mono HB_5.out.size))
      clear B_5 X_5 Y_5 HB_5 hq 
      repeat (first | go_values | go_skip | go_guarded | go_step | go_upon | go_back)
      go_ret
      exact ⟨rfl, HB_6.out⟩
    by_cases h2 : bb = m2
    rotate_left
    · skip
      have h2b : (bb == m2) = false := by simp [h2]
      have h2d : decide (bb = m2) = false := decide_eq_false h2
      have H2 := Lib.hid h2
      clear h2
      have hf : R = false := by
        rw [← HR.out]
        refine tt_no (fun h => ?_)
        unfold DataP at h
        rw [if_pos rfl] at h
        obtain ⟨g1, g6, g7, k, m, g2, g3, g4, g5, g8⟩ := h
        obtain rfl : j = k := by omega
        rw [HXm.out] at g3
        cases g3
        exact H2.out g5
      subst hf
      have gB3 := fun d os => cell_regrown (B_5.out.cell 3 _ HV.out.c3) d os
      have gB12 := fun d os => cell_regrown (B_5.out.cell 12 _ HV.out.c12) d os
      have gB15 := fun d os => cell_regrown (B_5.out.cell 15 _ HV.out.c15) d os
      have gX1 := fun d os => cell_regrown (X_5.out.cell 1 _ rfl) d os
      have gX6 := fun d os => cell_regrown (X_5.out.cell 6 _ rfl) d os
      have gX7 := fun d os => cell_regrown (X_5.out.cell 7 _ rfl) d os
      have gY3 := fun d os => cell_regrown (Y_5.out.cell 3 _ rfl) d os
      have gY4 := fun d os => cell_regrown (Y_5.out.cell 4 _ rfl) d os
      refine wp_region_det ?_
      repeat (go_big_quiet_step (fail))
      refine wpQuiet_nil ?_
      rintro _ ⟨qq, rfl⟩
      have hq := below_regrown y3 qq.d qq.os
      clear gB3 gB12 gB15 gX1 gX6 gX7 gY3 gY4
      have B_6 := Lib.hid (B_5.out.later hq)
      have X_6 := Lib.hid (X_5.out.later hq)
      have Y_6 := Lib.hid (Y_5.out.later hq)
      have HB_6 := Lib.hid (HB_5.out.trans (hq.mono HB_5.out.size))
      clear B_5 X_5 Y_5 HB_5 hq 
      generalize Sort.grow (redrawn y3 qq.d) qq.os = y4 at B_6 X_6 Y_6 HB_6 ⊢
      go_upto_region 10 with fail
      have gB2 := fun d os => cell_regrown (B_6.out.cell 2 _ HV.out.c2) d os
      have gX2 := fun d os => cell_regrown (X_6.out.cell 2 _ rfl) d os
      have gX5 := fun d os => cell_regrown (X_6.out.cell 5 _ rfl) d os
      have gX6 := fun d os => cell_regrown (X_6.out.cell 6 _ rfl) d os
      have gX7 := fun d os => cell_regrown (X_6.out.cell 7 _ rfl) d os
      have gY2 := fun d os => cell_regrown (Y_6.out.cell 2 _ rfl) d os
      refine wp_region_det ?_
      repeat (go_big_quiet_step (fail))
      refine wpQuiet_nil ?_
      rintro _ ⟨qq, rfl⟩
      have hq := below_regrown y4 qq.d qq.os
      clear gB2 gX2 gX5 gX6 gX7 gY2
      have B_7 := Lib.hid (B_6.out.later hq)
      have X_7 := Lib.hid (X_6.out.later hq)
      have Y_7 := Lib.hid (Y_6.out.later hq)
      have HB_7 := Lib.hid (HB_6.out.trans (hq.mono HB_6.out.size))
      clear B_6 X_6 Y_6 HB_6 hq 
      repeat (first | go_values | go_skip | go_guarded | go_step | go_upon | go_back)
      go_ret
      exact ⟨rfl, HB_7.out⟩
    have h2b : (bb == m2) = true := by simp [h2]
    have h2d : decide (bb = m2) = true := decide_eq_true h2
    have H2 := Lib.hid h2
    clear h2
    cases c3
    · skip
      have hf : R = false := by
        rw [← HR.out]
        refine tt_no (fun h => ?_)
        unfold DataP at h
        rw [if_pos rfl] at h
        obtain ⟨g1, g6, g7, k, m, g2, g3, g4, g5, g8⟩ := h
        have h6 := inB_iff.2 g6
        rw [C3.out] at h6; cases h6
      subst hf
      have gB3 := fun d os => cell_regrown (B_5.out.cell 3 _ HV.out.c3) d os
      have gB12 := fun d os => cell_regrown (B_5.out.cell 12 _ HV.out.c12) d os
      have gB15 := fun d os => cell_regrown (B_5.out.cell 15 _ HV.out.c15) d os
      have gX1 := fun d os => cell_regrown (X_5.out.cell 1 _ rfl) d os
      have gX6 := fun d os => cell_regrown (X_5.out.cell 6 _ rfl) d os
      have gX7 := fun d os => cell_regrown (X_5.out.cell 7 _ rfl) d os
      have gY3 := fun d os => cell_regrown (Y_5.out.cell 3 _ rfl) d os
      have gY4 := fun d os => cell_regrown (Y_5.out.cell 4 _ rfl) d os
      refine wp_region_det ?_
      repeat (go_big_quiet_step (fail))
      refine wpQuiet_nil ?_
      rintro _ ⟨qq, rfl⟩
      have hq := below_regrown y3 qq.d qq.os
      clear gB3 gB12 gB15 gX1 gX6 gX7 gY3 gY4
      have B_6 := Lib.hid (B_5.out.later hq)
      have X_6 := Lib.hid (X_5.out.later hq)
      have Y_6 := Lib.hid (Y_5.out.later hq)
      have HB_6 := Lib.hid (HB_5.out.trans (hq.mono HB_5.out.size))
      clear B_5 X_5 Y_5 HB_5 hq 
      generalize Sort.grow (redrawn y3 qq.d) qq.os = y4 at B_6 X_6 Y_6 HB_6 ⊢
      go_upto_region 10 with fail
      have gB2 := fun d os => cell_regrown (B_6.out.cell 2 _ HV.out.c2) d os
      have gX2 := fun d os => cell_regrown (X_6.out.cell 2 _ rfl) d os
      have gX5 := fun d os => cell_regrown (X_6.out.cell 5 _ rfl) d os
      have gX6 := fun d os => cell_regrown (X_6.out.cell 6 _ rfl) d os
      have gX7 := fun d os => cell_regrown (X_6.out.cell 7 _ rfl) d os
      have gY2 := fun d os => cell_regrown (Y_6.out.cell 2 _ rfl) d os
      refine wp_region_det ?_
      repeat (go_big_quiet_step (first
        | (go_at_call 19; exact Calls.regrown_of (l1In_isC C3.out _))))
      refine wpQuiet_nil ?_
      rintro _ ⟨qq, rfl⟩
      have hq := below_regrown y4 qq.d qq.os
      clear gB2 gX2 gX5 gX6 gX7 gY2
      have B_7 := Lib.hid (B_6.out.later hq)
      have X_7 := Lib.hid (X_6.out.later hq)
      have Y_7 := Lib.hid (Y_6.out.later hq)
      have HB_7 := Lib.hid (HB_6.out.trans (hq.mono HB_6.out.size))
      clear B_6 X_6 Y_6 HB_6 hq 
      repeat (first | go_values | go_skip | go_guarded | go_step | go_upon | go_back)
      go_ret
      exact ⟨rfl, HB_7.out⟩
    by_cases h5 : bl = 0
    rotate_left
    · skip
      have h5b : (bl == 0) = false := by simp [h5]
      have h5d : decide (bl = 0) = false := decide_eq_false h5
      have H5 := Lib.hid h5
      clear h5
      have hf : R = false := by
        rw [← HR.out]
        refine tt_no (fun h => ?_)
        unfold DataP at h
        rw [if_pos rfl] at h
        obtain ⟨g1, g6, g7, k, m, g2, g3, g4, g5, g8⟩ := h
        exact H5.out (g7 rfl).1
      subst hf
      have gB3 := fun d os => cell_regrown (B_5.out.cell 3 _ HV.out.c3) d os
      have gB12 := fun d os => cell_regrown (B_5.out.cell 12 _ HV.out.c12) d os
      have gB15 := fun d os => cell_regrown (B_5.out.cell 15 _ HV.out.c15) d os
      have gX1 := fun d os => cell_regrown (X_5.out.cell 1 _ rfl) d os
      have gX6 := fun d os => cell_regrown (X_5.out.cell 6 _ rfl) d os
      have gX7 := fun d os => cell_regrown (X_5.out.cell 7 _ rfl) d os
      have gY3 := fun d os => cell_regrown (Y_5.out.cell 3 _ rfl) d os
      have gY4 := fun d os => cell_regrown (Y_5.out.cell 4 _ rfl) d os
      refine wp_region_det ?_
      repeat (go_big_quiet_step (fail))
      refine wpQuiet_nil ?_
      rintro _ ⟨qq, rfl⟩
      have hq := below_regrown y3 qq.d qq.os
      clear gB3 gB12 gB15 gX1 gX6 gX7 gY3 gY4
      have B_6 := Lib.hid (B_5.out.later hq)
      have X_6 := Lib.hid (X_5.out.later hq)
      have Y_6 := Lib.hid (Y_5.out.later hq)
      have HB_6 := Lib.hid (HB_5.out.trans (hq.mono HB_5.out.size))
      clear B_5 X_5 Y_5 HB_5 hq 
      generalize Sort.grow (redrawn y3 qq.d) qq.os = y4 at B_6 X_6 Y_6 HB_6 ⊢
      go_upto_region 10 with fail
      have gB2 := fun d os => cell_regrown (B_6.out.cell 2 _ HV.out.c2) d os
      have gX2 := fun d os => cell_regrown (X_6.out.cell 2 _ rfl) d os
      have gX5 := fun d os => cell_regrown (X_6.out.cell 5 _ rfl) d os
      have gX6 := fun d os => cell_regrown (X_6.out.cell 6 _ rfl) d os
      have gX7 := fun d os => cell_regrown (X_6.out.cell 7 _ rfl) d os
      have gY2 := fun d os => cell_regrown (Y_6.out.cell 2 _ rfl) d os
      refine wp_region_det ?_
      repeat (go_big_quiet_step (first
        | (go_at_call 19; exact Calls.regrown_of (l1In_isC C3.out _))
        | (go_at_call 60; exact Calls.regrown_of (sresp_is HW.out _))))
      refine wpQuiet_nil ?_
      rintro _ ⟨qq, rfl⟩
      have hq := below_regrown y4 qq.d qq.os
      clear gB2 gX2 gX5 gX6 gX7 gY2
      have B_7 := Lib.hid (B_6.out.later hq)
      have X_7 := Lib.hid (X_6.out.later hq)
      have Y_7 := Lib.hid (Y_6.out.later hq)
      have HB_7 := Lib.hid (HB_6.out.trans (hq.mono HB_6.out.size))
      clear B_6 X_6 Y_6 HB_6 hq 
      repeat (first | go_values | go_skip | go_guarded | go_step | go_upon | go_back)
      go_ret
      exact ⟨rfl, HB_7.out⟩
    subst h5
    have hf : R = true := by
      rw [← HR.out]
      refine tt_yes ?_
      unfold DataP
      rw [if_pos rfl]
      exact ⟨inB_iff.1 C2.out, inB_iff.1 C3.out, fun _ => ⟨rfl, by decide, rfl⟩, j, _, rfl, HXm.out, HXs.out, H2.out, HRESP.out⟩
    subst hf
    have gB3 := fun d os => cell_regrown (B_5.out.cell 3 _ HV.out.c3) d os
    have gB12 := fun d os => cell_regrown (B_5.out.cell 12 _ HV.out.c12) d os
    have gB15 := fun d os => cell_regrown (B_5.out.cell 15 _ HV.out.c15) d os
    have gX1 := fun d os => cell_regrown (X_5.out.cell 1 _ rfl) d os
    have gX6 := fun d os => cell_regrown (X_5.out.cell 6 _ rfl) d os
    have gX7 := fun d os => cell_regrown (X_5.out.cell 7 _ rfl) d os
    have gY3 := fun d os => cell_regrown (Y_5.out.cell 3 _ rfl) d os
    have gY4 := fun d os => cell_regrown (Y_5.out.cell 4 _ rfl) d os
    refine wp_region_det ?_
    repeat (go_big_quiet_step (fail))
    refine wpQuiet_nil ?_
    rintro _ ⟨qq, rfl⟩
    have hq := below_regrown y3 qq.d qq.os
    clear gB3 gB12 gB15 gX1 gX6 gX7 gY3 gY4
    have B_6 := Lib.hid (B_5.out.later hq)
    have X_6 := Lib.hid (X_5.out.later hq)
    have Y_6 := Lib.hid (Y_5.out.later hq)
    have HB_6 := Lib.hid (HB_5.out.trans (hq.mono HB_5.out.size))
    clear B_5 X_5 Y_5 HB_5 hq 
    generalize Sort.grow (redrawn y3 qq.d) qq.os = y4 at B_6 X_6 Y_6 HB_6 ⊢
    go_upto_region 10 with fail
    have gB2 := fun d os => cell_regrown (B_6.out.cell 2 _ HV.out.c2) d os
    have gX2 := fun d os => cell_regrown (X_6.out.cell 2 _ rfl) d os
    have gX5 := fun d os => cell_regrown (X_6.out.cell 5 _ rfl) d os
    have gX6 := fun d os => cell_regrown (X_6.out.cell 6 _ rfl) d os
    have gX7 := fun d os => cell_regrown (X_6.out.cell 7 _ rfl) d os
    have gY2 := fun d os => cell_regrown (Y_6.out.cell 2 _ rfl) d os
    refine wp_region_det ?_
    repeat (go_big_quiet_step (first
      | (go_at_call 19; exact Calls.regrown_of (l1In_isC C3.out _))
      | (go_at_call 60; exact Calls.regrown_of (sresp_is HW.out _))))
    refine wpQuiet_nil ?_
    rintro _ ⟨qq, rfl⟩
    have hq := below_regrown y4 qq.d qq.os
    clear gB2 gX2 gX5 gX6 gX7 gY2
    have B_7 := Lib.hid (B_6.out.later hq)
    have X_7 := Lib.hid (X_6.out.later hq)
    have Y_7 := Lib.hid (Y_6.out.later hq)
    have HB_7 := Lib.hid (HB_6.out.trans (hq.mono HB_6.out.size))
    clear B_6 X_6 Y_6 HB_6 hq 
    repeat (first | go_values | go_skip | go_guarded | go_step | go_upon | go_back)
    go_ret
    exact ⟨rfl, HB_7.out⟩
  by_cases hr2 : br = 2
  · subst hr2
    have HW := Lib.hid (show respW 2 = respW 2 from rfl)
    obtain ⟨rw_, hrw⟩ : ∃ x, respW 2 = x := ⟨_, rfl⟩
    have hrl : rw_.toList = [114, 101, 116, 114, 121] := by rw [← hrw, ByteArray.toList_eq]; rfl
    have HW := Lib.hid hrw
    clear hrw
    by_cases ht : mr ≤ m3
    · have htb : decide (mr ≤ m3) = true := decide_eq_true ht
      have HT := Lib.hid ht
      clear ht
      have hf : R = false := by
        rw [← HR.out]
        refine tt_no (fun h => ?_)
        unfold DataP at h
        rw [if_pos rfl] at h
        obtain ⟨g1, g6, g7, k, m, g2, g3, g4, g5, g8⟩ := h
        obtain rfl : j = k := by omega
        rw [HXm.out] at g3
        cases g3
        have := HT.out
        dsimp only at g8
        omega
      subst hf
      have gB3 := fun d os => cell_regrown (B_5.out.cell 3 _ HV.out.c3) d os
      have gB12 := fun d os => cell_regrown (B_5.out.cell 12 _ HV.out.c12) d os
      have gB15 := fun d os => cell_regrown (B_5.out.cell 15 _ HV.out.c15) d os
      have gX1 := fun d os => cell_regrown (X_5.out.cell 1 _ rfl) d os
      have gX6 := fun d os => cell_regrown (X_5.out.cell 6 _ rfl) d os
      have gX7 := fun d os => cell_regrown (X_5.out.cell 7 _ rfl) d os
      have gY3 := fun d os => cell_regrown (Y_5.out.cell 3 _ rfl) d os
      have gY4 := fun d os => cell_regrown (Y_5.out.cell 4 _ rfl) d os
      refine wp_region_det ?_
      repeat (go_big_quiet_step (fail))
      refine wpQuiet_nil ?_
      rintro _ ⟨qq, rfl⟩
      have hq := below_regrown y3 qq.d qq.os
      clear gB3 gB12 gB15 gX1 gX6 gX7 gY3 gY4
      have B_6 := Lib.hid (B_5.out.later hq)
      have X_6 := Lib.hid (X_5.out.later hq)
      have Y_6 := Lib.hid (Y_5.out.later hq)
      have HB_6 := Lib.hid (HB_5.out.trans (hq.mono HB_5.out.size))
      clear B_5 X_5 Y_5 HB_5 hq 
      repeat (first | go_values | go_skip | go_guarded | go_step | go_upon | go_back)
      go_ret
      exact ⟨rfl, HB_6.out⟩
    have htb : decide (mr ≤ m3) = false := decide_eq_false ht
    have HT := Lib.hid ht
    clear ht
    have HRESP : Hid ((2 : Int) = 0 ∨ (2 : Int) = 1 ∨ ((2 : Int) = 2 ∧ m3 < mr) ∨ ((2 : Int) = 3 ∧ m4 = false ∧ ho ≠ (j : Int))) := Lib.hid (.inr (.inr (.inl ⟨rfl, by have := HT.out; omega⟩)))
    cases bz
    · skip
      by_cases h2 : bb = m2
      rotate_left
      · skip
        have h2b : (bb == m2) = false := by simp [h2]
        have h2d : decide (bb = m2) = false := decide_eq_false h2
        have H2 := Lib.hid h2
        clear h2
        have hf : R = false := by
          rw [← HR.out]
          refine tt_no (fun h => ?_)
          unfold DataP at h
          rw [if_pos rfl] at h
          obtain ⟨g1, g6, g7, k, m, g2, g3, g4, g5, g8⟩ := h
          obtain rfl : j = k := by omega
          rw [HXm.out] at g3
          cases g3
          exact H2.out g5
        subst hf
        have gB3 := fun d os => cell_regrown (B_5.out.cell 3 _ HV.out.c3) d os
        have gB12 := fun d os => cell_regrown (B_5.out.cell 12 _ HV.out.c12) d os
        have gB15 := fun d os => cell_regrown (B_5.out.cell 15 _ HV.out.c15) d os
        have gX1 := fun d os => cell_regrown (X_5.out.cell 1 _ rfl) d os
        have gX6 := fun d os => cell_regrown (X_5.out.cell 6 _ rfl) d os
        have gX7 := fun d os => cell_regrown (X_5.out.cell 7 _ rfl) d os
        have gY3 := fun d os => cell_regrown (Y_5.out.cell 3 _ rfl) d os
        have gY4 := fun d os => cell_regrown (Y_5.out.cell 4 _ rfl) d os
        refine wp_region_det ?_
        repeat (go_big_quiet_step (fail))
        refine wpQuiet_nil ?_
        rintro _ ⟨qq, rfl⟩
        have hq := below_regrown y3 qq.d qq.os
        clear gB3 gB12 gB15 gX1 gX6 gX7 gY3 gY4
        have B_6 := Lib.hid (B_5.out.later hq)
        have X_6 := Lib.hid (X_5.out.later hq)
        have Y_6 := Lib.hid (Y_5.out.later hq)
        have HB_6 := Lib.hid (HB_5.out.trans (hq.mono HB_5.out.size))
        clear B_5 X_5 Y_5 HB_5 hq 
        generalize Sort.grow (redrawn y3 qq.d) qq.os = y4 at B_6 X_6 Y_6 HB_6 ⊢
        go_upto_region 10 with fail
        have gB2 := fun d os => cell_regrown (B_6.out.cell 2 _ HV.out.c2) d os
        have gX2 := fun d os => cell_regrown (X_6.out.cell 2 _ rfl) d os
        have gX5 := fun d os => cell_regrown (X_6.out.cell 5 _ rfl) d os
        have gX6 := fun d os => cell_regrown (X_6.out.cell 6 _ rfl) d os
        have gX7 := fun d os => cell_regrown (X_6.out.cell 7 _ rfl) d os
        have gY2 := fun d os => cell_regrown (Y_6.out.cell 2 _ rfl) d os
        refine wp_region_det ?_
        repeat (go_big_quiet_step (fail))
        refine wpQuiet_nil ?_
        rintro _ ⟨qq, rfl⟩
        have hq := below_regrown y4 qq.d qq.os
        clear gB2 gX2 gX5 gX6 gX7 gY2
        have B_7 := Lib.hid (B_6.out.later hq)
        have X_7 := Lib.hid (X_6.out.later hq)
        have Y_7 := Lib.hid (Y_6.out.later hq)
        have HB_7 := Lib.hid (HB_6.out.trans (hq.mono HB_6.out.size))
        clear B_6 X_6 Y_6 HB_6 hq 
        repeat (first | go_values | go_skip | go_guarded | go_step | go_upon | go_back)
        go_ret
        exact ⟨rfl, HB_7.out⟩
      have h2b : (bb == m2) = true := by simp [h2]
      have h2d : decide (bb = m2) = true := decide_eq_true h2
      have H2 := Lib.hid h2
      clear h2
      cases c3
      · skip
        have hf : R = false := by
          rw [← HR.out]
          refine tt_no (fun h => ?_)
          unfold DataP at h
          rw [if_pos rfl] at h
          obtain ⟨g1, g6, g7, k, m, g2, g3, g4, g5, g8⟩ := h
          have h6 := inB_iff.2 g6
          rw [C3.out] at h6; cases h6
        subst hf
        have gB3 := fun d os => cell_regrown (B_5.out.cell 3 _ HV.out.c3) d os
        have gB12 := fun d os => cell_regrown (B_5.out.cell 12 _ HV.out.c12) d os
        have gB15 := fun d os => cell_regrown (B_5.out.cell 15 _ HV.out.c15) d os
        have gX1 := fun d os => cell_regrown (X_5.out.cell 1 _ rfl) d os
        have gX6 := fun d os => cell_regrown (X_5.out.cell 6 _ rfl) d os
        have gX7 := fun d os => cell_regrown (X_5.out.cell 7 _ rfl) d os
        have gY3 := fun d os => cell_regrown (Y_5.out.cell 3 _ rfl) d os
        have gY4 := fun d os => cell_regrown (Y_5.out.cell 4 _ rfl) d os
        refine wp_region_det ?_
        repeat (go_big_quiet_step (fail))
        refine wpQuiet_nil ?_
        rintro _ ⟨qq, rfl⟩
        have hq := below_regrown y3 qq.d qq.os
        clear gB3 gB12 gB15 gX1 gX6 gX7 gY3 gY4
        have B_6 := Lib.hid (B_5.out.later hq)
        have X_6 := Lib.hid (X_5.out.later hq)
        have Y_6 := Lib.hid (Y_5.out.later hq)
        have HB_6 := Lib.hid (HB_5.out.trans (hq.mono HB_5.out.size))
        clear B_5 X_5 Y_5 HB_5 hq 
        generalize Sort.grow (redrawn y3 qq.d) qq.os = y4 at B_6 X_6 Y_6 HB_6 ⊢
        go_upto_region 10 with fail
        have gB2 := fun d os => cell_regrown (B_6.out.cell 2 _ HV.out.c2) d os
        have gX2 := fun d os => cell_regrown (X_6.out.cell 2 _ rfl) d os
        have gX5 := fun d os => cell_regrown (X_6.out.cell 5 _ rfl) d os
        have gX6 := fun d os => cell_regrown (X_6.out.cell 6 _ rfl) d os
        have gX7 := fun d os => cell_regrown (X_6.out.cell 7 _ rfl) d os
        have gY2 := fun d os => cell_regrown (Y_6.out.cell 2 _ rfl) d os
        refine wp_region_det ?_
        repeat (go_big_quiet_step (first
          | (go_at_call 19; exact Calls.regrown_of (l1In_isC C3.out _))))
        refine wpQuiet_nil ?_
        rintro _ ⟨qq, rfl⟩
        have hq := below_regrown y4 qq.d qq.os
        clear gB2 gX2 gX5 gX6 gX7 gY2
        have B_7 := Lib.hid (B_6.out.later hq)
        have X_7 := Lib.hid (X_6.out.later hq)
        have Y_7 := Lib.hid (Y_6.out.later hq)
        have HB_7 := Lib.hid (HB_6.out.trans (hq.mono HB_6.out.size))
        clear B_6 X_6 Y_6 HB_6 hq 
        repeat (first | go_values | go_skip | go_guarded | go_step | go_upon | go_back)
        go_ret
        exact ⟨rfl, HB_7.out⟩
      have hf : R = true := by
        rw [← HR.out]
        refine tt_yes ?_
        unfold DataP
        rw [if_pos rfl]
        exact ⟨inB_iff.1 C2.out, inB_iff.1 C3.out, fun e => (by cases e), j, _, rfl, HXm.out, HXs.out, H2.out, HRESP.out⟩
      subst hf
      have gB3 := fun d os => cell_regrown (B_5.out.cell 3 _ HV.out.c3) d os
      have gB12 := fun d os => cell_regrown (B_5.out.cell 12 _ HV.out.c12) d os
      have gB15 := fun d os => cell_regrown (B_5.out.cell 15 _ HV.out.c15) d os
      have gX1 := fun d os => cell_regrown (X_5.out.cell 1 _ rfl) d os
      have gX6 := fun d os => cell_regrown (X_5.out.cell 6 _ rfl) d os
      have gX7 := fun d os => cell_regrown (X_5.out.cell 7 _ rfl) d os
      have gY3 := fun d os => cell_regrown (Y_5.out.cell 3 _ rfl) d os
      have gY4 := fun d os => cell_regrown (Y_5.out.cell 4 _ rfl) d os
      refine wp_region_det ?_
      repeat (go_big_quiet_step (fail))
      refine wpQuiet_nil ?_
      rintro _ ⟨qq, rfl⟩
      have hq := below_regrown y3 qq.d qq.os
      clear gB3 gB12 gB15 gX1 gX6 gX7 gY3 gY4
      have B_6 := Lib.hid (B_5.out.later hq)
      have X_6 := Lib.hid (X_5.out.later hq)
      have Y_6 := Lib.hid (Y_5.out.later hq)
      have HB_6 := Lib.hid (HB_5.out.trans (hq.mono HB_5.out.size))
      clear B_5 X_5 Y_5 HB_5 hq 
      generalize Sort.grow (redrawn y3 qq.d) qq.os = y4 at B_6 X_6 Y_6 HB_6 ⊢
      go_upto_region 10 with fail
      have gB2 := fun d os => cell_regrown (B_6.out.cell 2 _ HV.out.c2) d os
      have gX2 := fun d os => cell_regrown (X_6.out.cell 2 _ rfl) d os
      have gX5 := fun d os => cell_regrown (X_6.out.cell 5 _ rfl) d os
      have gX6 := fun d os => cell_regrown (X_6.out.cell 6 _ rfl) d os
      have gX7 := fun d os => cell_regrown (X_6.out.cell 7 _ rfl) d os
      have gY2 := fun d os => cell_regrown (Y_6.out.cell 2 _ rfl) d os
      refine wp_region_det ?_
      repeat (go_big_quiet_step (first
        | (go_at_call 19; exact Calls.regrown_of (l1In_isC C3.out _))
        | (go_at_call 60; exact Calls.regrown_of (sresp_is HW.out _))))
      refine wpQuiet_nil ?_
      rintro _ ⟨qq, rfl⟩
      have hq := below_regrown y4 qq.d qq.os
      clear gB2 gX2 gX5 gX6 gX7 gY2
      have B_7 := Lib.hid (B_6.out.later hq)
      have X_7 := Lib.hid (X_6.out.later hq)
      have Y_7 := Lib.hid (Y_6.out.later hq)
      have HB_7 := Lib.hid (HB_6.out.trans (hq.mono HB_6.out.size))
      clear B_6 X_6 Y_6 HB_6 hq 
      repeat (first | go_values | go_skip | go_guarded | go_step | go_upon | go_back)
      go_ret
      exact ⟨rfl, HB_7.out⟩
    cases av
    rotate_left
    · skip
      have hf : R = false := by
        rw [← HR.out]
        refine tt_no (fun h => ?_)
        unfold DataP at h
        rw [if_pos rfl] at h
        obtain ⟨g1, g6, g7, k, m, g2, g3, g4, g5, g8⟩ := h
        cases (g7 rfl).2.2
      subst hf
      have gB3 := fun d os => cell_regrown (B_5.out.cell 3 _ HV.out.c3) d os
      have gB12 := fun d os => cell_regrown (B_5.out.cell 12 _ HV.out.c12) d os
      have gB15 := fun d os => cell_regrown (B_5.out.cell 15 _ HV.out.c15) d os
      have gX1 := fun d os => cell_regrown (X_5.out.cell 1 _ rfl) d os
      have gX6 := fun d os => cell_regrown (X_5.out.cell 6 _ rfl) d os
      have gX7 := fun d os => cell_regrown (X_5.out.cell 7 _ rfl) d os
      have gY3 := fun d os => cell_regrown (Y_5.out.cell 3 _ rfl) d os
      have gY4 := fun d os => cell_regrown (Y_5.out.cell 4 _ rfl) d os
      refine wp_region_det ?_
      repeat (go_big_quiet_step (fail))
      refine wpQuiet_nil ?_
      rintro _ ⟨qq, rfl⟩
      have hq := below_regrown y3 qq.d qq.os
      clear gB3 gB12 gB15 gX1 gX6 gX7 gY3 gY4
      have B_6 := Lib.hid (B_5.out.later hq)
      have X_6 := Lib.hid (X_5.out.later hq)
      have Y_6 := Lib.hid (Y_5.out.later hq)
      have HB_6 := Lib.hid (HB_5.out.trans (hq.mono HB_5.out.size))
      clear B_5 X_5 Y_5 HB_5 hq 
      repeat (first | go_values | go_skip | go_guarded | go_step | go_upon | go_back)
      go_ret
      exact ⟨rfl, HB_6.out⟩
    by_cases h2 : bb = m2
    rotate_left
    · skip
      have h2b : (bb == m2) = false := by simp [h2]
      have h2d : decide (bb = m2) = false := decide_eq_false h2
      have H2 := Lib.hid h2
      clear h2
      have hf : R = false := by
        rw [← HR.out]
        refine tt_no (fun h => ?_)
        unfold DataP at h
        rw [if_pos rfl] at h
        obtain ⟨g1, g6, g7, k, m, g2, g3, g4, g5, g8⟩ := h
        obtain rfl : j = k := by omega
        rw [HXm.out] at g3
        cases g3
        exact H2.out g5
      subst hf
      have gB3 := fun d os => cell_regrown (B_5.out.cell 3 _ HV.out.c3) d os
      have gB12 := fun d os => cell_regrown (B_5.out.cell 12 _ HV.out.c12) d os
      have gB15 := fun d os => cell_regrown (B_5.out.cell 15 _ HV.out.c15) d os
      have gX1 := fun d os => cell_regrown (X_5.out.cell 1 _ rfl) d os
      have gX6 := fun d os => cell_regrown (X_5.out.cell 6 _ rfl) d os
      have gX7 := fun d os => cell_regrown (X_5.out.cell 7 _ rfl) d os
      have gY3 := fun d os => cell_regrown (Y_5.out.cell 3 _ rfl) d os
      have gY4 := fun d os => cell_regrown (Y_5.out.cell 4 _ rfl) d os
      refine wp_region_det ?_
      repeat (go_big_quiet_step (fail))
      refine wpQuiet_nil ?_
      rintro _ ⟨qq, rfl⟩
      have hq := below_regrown y3 qq.d qq.os
      clear gB3 gB12 gB15 gX1 gX6 gX7 gY3 gY4
      have B_6 := Lib.hid (B_5.out.later hq)
      have X_6 := Lib.hid (X_5.out.later hq)
      have Y_6 := Lib.hid (Y_5.out.later hq)
      have HB_6 := Lib.hid (HB_5.out.trans (hq.mono HB_5.out.size))
      clear B_5 X_5 Y_5 HB_5 hq 
      generalize Sort.grow (redrawn y3 qq.d) qq.os = y4 at B_6 X_6 Y_6 HB_6 ⊢
      go_upto_region 10 with fail
      have gB2 := fun d os => cell_regrown (B_6.out.cell 2 _ HV.out.c2) d os
      have gX2 := fun d os => cell_regrown (X_6.out.cell 2 _ rfl) d os
      have gX5 := fun d os => cell_regrown (X_6.out.cell 5 _ rfl) d os
      have gX6 := fun d os => cell_regrown (X_6.out.cell 6 _ rfl) d os
      have gX7 := fun d os => cell_regrown (X_6.out.cell 7 _ rfl) d os
      have gY2 := fun d os => cell_regrown (Y_6.out.cell 2 _ rfl) d os
      refine wp_region_det ?_
      repeat (go_big_quiet_step (fail))
      refine wpQuiet_nil ?_
      rintro _ ⟨qq, rfl⟩
      have hq := below_regrown y4 qq.d qq.os
      clear gB2 gX2 gX5 gX6 gX7 gY2
      have B_7 := Lib.hid (B_6.out.later hq)
      have X_7 := Lib.hid (X_6.out.later hq)
      have Y_7 := Lib.hid (Y_6.out.later hq)
      have HB_7 := Lib.hid (HB_6.out.trans (hq.mono HB_6.out.size))
      clear B_6 X_6 Y_6 HB_6 hq 
      repeat (first | go_values | go_skip | go_guarded | go_step | go_upon | go_back)
      go_ret
      exact ⟨rfl, HB_7.out⟩
    have h2b : (bb == m2) = true := by simp [h2]
    have h2d : decide (bb = m2) = true := decide_eq_true h2
    have H2 := Lib.hid h2
    clear h2
    cases c3
    · skip
      have hf : R = false := by
        rw [← HR.out]
        refine tt_no (fun h => ?_)
        unfold DataP at h
        rw [if_pos rfl] at h
        obtain ⟨g1, g6, g7, k, m, g2, g3, g4, g5, g8⟩ := h
        have h6 := inB_iff.2 g6
        rw [C3.out] at h6; cases h6
      subst hf
      have gB3 := fun d os => cell_regrown (B_5.out.cell 3 _ HV.out.c3) d os
      have gB12 := fun d os => cell_regrown (B_5.out.cell 12 _ HV.out.c12) d os
      have gB15 := fun d os => cell_regrown (B_5.out.cell 15 _ HV.out.c15) d os
      have gX1 := fun d os => cell_regrown (X_5.out.cell 1 _ rfl) d os
      have gX6 := fun d os => cell_regrown (X_5.out.cell 6 _ rfl) d os
      have gX7 := fun d os => cell_regrown (X_5.out.cell 7 _ rfl) d os
      have gY3 := fun d os => cell_regrown (Y_5.out.cell 3 _ rfl) d os
      have gY4 := fun d os => cell_regrown (Y_5.out.cell 4 _ rfl) d os
      refine wp_region_det ?_
      repeat (go_big_quiet_step (fail))
      refine wpQuiet_nil ?_
      rintro _ ⟨qq, rfl⟩
      have hq := below_regrown y3 qq.d qq.os
      clear gB3 gB12 gB15 gX1 gX6 gX7 gY3 gY4
      have B_6 := Lib.hid (B_5.out.later hq)
      have X_6 := Lib.hid (X_5.out.later hq)
      have Y_6 := Lib.hid (Y_5.out.later hq)
      have HB_6 := Lib.hid (HB_5.out.trans (hq.mono HB_5.out.size))
      clear B_5 X_5 Y_5 HB_5 hq 
      generalize Sort.grow (redrawn y3 qq.d) qq.os = y4 at B_6 X_6 Y_6 HB_6 ⊢
      go_upto_region 10 with fail
      have gB2 := fun d os => cell_regrown (B_6.out.cell 2 _ HV.out.c2) d os
      have gX2 := fun d os => cell_regrown (X_6.out.cell 2 _ rfl) d os
      have gX5 := fun d os => cell_regrown (X_6.out.cell 5 _ rfl) d os
      have gX6 := fun d os => cell_regrown (X_6.out.cell 6 _ rfl) d os
      have gX7 := fun d os => cell_regrown (X_6.out.cell 7 _ rfl) d os
      have gY2 := fun d os => cell_regrown (Y_6.out.cell 2 _ rfl) d os
      refine wp_region_det ?_
      repeat (go_big_quiet_step (first
        | (go_at_call 19; exact Calls.regrown_of (l1In_isC C3.out _))))
      refine wpQuiet_nil ?_
      rintro _ ⟨qq, rfl⟩
      have hq := below_regrown y4 qq.d qq.os
      clear gB2 gX2 gX5 gX6 gX7 gY2
      have B_7 := Lib.hid (B_6.out.later hq)
      have X_7 := Lib.hid (X_6.out.later hq)
      have Y_7 := Lib.hid (Y_6.out.later hq)
      have HB_7 := Lib.hid (HB_6.out.trans (hq.mono HB_6.out.size))
      clear B_6 X_6 Y_6 HB_6 hq 
      repeat (first | go_values | go_skip | go_guarded | go_step | go_upon | go_back)
      go_ret
      exact ⟨rfl, HB_7.out⟩
    by_cases h5 : bl = 0
    rotate_left
    · skip
      have h5b : (bl == 0) = false := by simp [h5]
      have h5d : decide (bl = 0) = false := decide_eq_false h5
      have H5 := Lib.hid h5
      clear h5
      have hf : R = false := by
        rw [← HR.out]
        refine tt_no (fun h => ?_)
        unfold DataP at h
        rw [if_pos rfl] at h
        obtain ⟨g1, g6, g7, k, m, g2, g3, g4, g5, g8⟩ := h
        exact H5.out (g7 rfl).1
      subst hf
      have gB3 := fun d os => cell_regrown (B_5.out.cell 3 _ HV.out.c3) d os
      have gB12 := fun d os => cell_regrown (B_5.out.cell 12 _ HV.out.c12) d os
      have gB15 := fun d os => cell_regrown (B_5.out.cell 15 _ HV.out.c15) d os
      have gX1 := fun d os => cell_regrown (X_5.out.cell 1 _ rfl) d os
      have gX6 := fun d os => cell_regrown (X_5.out.cell 6 _ rfl) d os
      have gX7 := fun d os => cell_regrown (X_5.out.cell 7 _ rfl) d os
      have gY3 := fun d os => cell_regrown (Y_5.out.cell 3 _ rfl) d os
      have gY4 := fun d os => cell_regrown (Y_5.out.cell 4 _ rfl) d os
      refine wp_region_det ?_
      repeat (go_big_quiet_step (fail))
      refine wpQuiet_nil ?_
      rintro _ ⟨qq, rfl⟩
      have hq := below_regrown y3 qq.d qq.os
      clear gB3 gB12 gB15 gX1 gX6 gX7 gY3 gY4
      have B_6 := Lib.hid (B_5.out.later hq)
      have X_6 := Lib.hid (X_5.out.later hq)
      have Y_6 := Lib.hid (Y_5.out.later hq)
      have HB_6 := Lib.hid (HB_5.out.trans (hq.mono HB_5.out.size))
      clear B_5 X_5 Y_5 HB_5 hq 
      generalize Sort.grow (redrawn y3 qq.d) qq.os = y4 at B_6 X_6 Y_6 HB_6 ⊢
      go_upto_region 10 with fail
      have gB2 := fun d os => cell_regrown (B_6.out.cell 2 _ HV.out.c2) d os
      have gX2 := fun d os => cell_regrown (X_6.out.cell 2 _ rfl) d os
      have gX5 := fun d os => cell_regrown (X_6.out.cell 5 _ rfl) d os
      have gX6 := fun d os => cell_regrown (X_6.out.cell 6 _ rfl) d os
      have gX7 := fun d os => cell_regrown (X_6.out.cell 7 _ rfl) d os
      have gY2 := fun d os => cell_regrown (Y_6.out.cell 2 _ rfl) d os
      refine wp_region_det ?_
      repeat (go_big_quiet_step (first
        | (go_at_call 19; exact Calls.regrown_of (l1In_isC C3.out _))
        | (go_at_call 60; exact Calls.regrown_of (sresp_is HW.out _))))
      refine wpQuiet_nil ?_
      rintro _ ⟨qq, rfl⟩
      have hq := below_regrown y4 qq.d qq.os
      clear gB2 gX2 gX5 gX6 gX7 gY2
      have B_7 := Lib.hid (B_6.out.later hq)
      have X_7 := Lib.hid (X_6.out.later hq)
      have Y_7 := Lib.hid (Y_6.out.later hq)
      have HB_7 := Lib.hid (HB_6.out.trans (hq.mono HB_6.out.size))
      clear B_6 X_6 Y_6 HB_6 hq 
      repeat (first | go_values | go_skip | go_guarded | go_step | go_upon | go_back)
      go_ret
      exact ⟨rfl, HB_7.out⟩
    subst h5
    have hf : R = true := by
      rw [← HR.out]
      refine tt_yes ?_
      unfold DataP
      rw [if_pos rfl]
      exact ⟨inB_iff.1 C2.out, inB_iff.1 C3.out, fun _ => ⟨rfl, by decide, rfl⟩, j, _, rfl, HXm.out, HXs.out, H2.out, HRESP.out⟩
    subst hf
    have gB3 := fun d os => cell_regrown (B_5.out.cell 3 _ HV.out.c3) d os
    have gB12 := fun d os => cell_regrown (B_5.out.cell 12 _ HV.out.c12) d os
    have gB15 := fun d os => cell_regrown (B_5.out.cell 15 _ HV.out.c15) d os
    have gX1 := fun d os => cell_regrown (X_5.out.cell 1 _ rfl) d os
    have gX6 := fun d os => cell_regrown (X_5.out.cell 6 _ rfl) d os
    have gX7 := fun d os => cell_regrown (X_5.out.cell 7 _ rfl) d os
    have gY3 := fun d os => cell_regrown (Y_5.out.cell 3 _ rfl) d os
    have gY4 := fun d os => cell_regrown (Y_5.out.cell 4 _ rfl) d os
    refine wp_region_det ?_
    repeat (go_big_quiet_step (fail))
    refine wpQuiet_nil ?_
    rintro _ ⟨qq, rfl⟩
    have hq := below_regrown y3 qq.d qq.os
    clear gB3 gB12 gB15 gX1 gX6 gX7 gY3 gY4
    have B_6 := Lib.hid (B_5.out.later hq)
    have X_6 := Lib.hid (X_5.out.later hq)
    have Y_6 := Lib.hid (Y_5.out.later hq)
    have HB_6 := Lib.hid (HB_5.out.trans (hq.mono HB_5.out.size))
    clear B_5 X_5 Y_5 HB_5 hq 
    generalize Sort.grow (redrawn y3 qq.d) qq.os = y4 at B_6 X_6 Y_6 HB_6 ⊢
    go_upto_region 10 with fail
    have gB2 := fun d os => cell_regrown (B_6.out.cell 2 _ HV.out.c2) d os
    have gX2 := fun d os => cell_regrown (X_6.out.cell 2 _ rfl) d os
    have gX5 := fun d os => cell_regrown (X_6.out.cell 5 _ rfl) d os
    have gX6 := fun d os => cell_regrown (X_6.out.cell 6 _ rfl) d os
    have gX7 := fun d os => cell_regrown (X_6.out.cell 7 _ rfl) d os
    have gY2 := fun d os => cell_regrown (Y_6.out.cell 2 _ rfl) d os
    refine wp_region_det ?_
    repeat (go_big_quiet_step (first
      | (go_at_call 19; exact Calls.regrown_of (l1In_isC C3.out _))
      | (go_at_call 60; exact Calls.regrown_of (sresp_is HW.out _))))
    refine wpQuiet_nil ?_
    rintro _ ⟨qq, rfl⟩
    have hq := below_regrown y4 qq.d qq.os
    clear gB2 gX2 gX5 gX6 gX7 gY2
    have B_7 := Lib.hid (B_6.out.later hq)
    have X_7 := Lib.hid (X_6.out.later hq)
    have Y_7 := Lib.hid (Y_6.out.later hq)
    have HB_7 := Lib.hid (HB_6.out.trans (hq.mono HB_6.out.size))
    clear B_6 X_6 Y_6 HB_6 hq 
    repeat (first | go_values | go_skip | go_guarded | go_step | go_upon | go_back)
    go_ret
    exact ⟨rfl, HB_7.out⟩
  by_cases hr3 : br = 3
  · subst hr3
    have HW := Lib.hid (show respW 3 = respW 3 from rfl)
    obtain ⟨rw_, hrw⟩ : ∃ x, respW 3 = x := ⟨_, rfl⟩
    have hrl : rw_.toList = [115, 112, 108, 105, 116] := by rw [← hrw, ByteArray.toList_eq]; rfl
    have HW := Lib.hid hrw
    clear hrw
    cases m4
    rotate_left
    · skip
      have hf : R = false := by
        rw [← HR.out]
        refine tt_no (fun h => ?_)
        unfold DataP at h
        rw [if_pos rfl] at h
        obtain ⟨g1, g6, g7, k, m, g2, g3, g4, g5, g8⟩ := h
        obtain rfl : j = k := by omega
        rw [HXm.out] at g3
        cases g3
        rcases g8 with g8 | g8 | g8 | g8
        · cases g8
        · cases g8
        · exact absurd g8.1 (by decide)
        · cases g8.2.1
      subst hf
      have gB3 := fun d os => cell_regrown (B_5.out.cell 3 _ HV.out.c3) d os
      have gB12 := fun d os => cell_regrown (B_5.out.cell 12 _ HV.out.c12) d os
      have gB15 := fun d os => cell_regrown (B_5.out.cell 15 _ HV.out.c15) d os
      have gX1 := fun d os => cell_regrown (X_5.out.cell 1 _ rfl) d os
      have gX6 := fun d os => cell_regrown (X_5.out.cell 6 _ rfl) d os
      have gX7 := fun d os => cell_regrown (X_5.out.cell 7 _ rfl) d os
      have gY3 := fun d os => cell_regrown (Y_5.out.cell 3 _ rfl) d os
      have gY4 := fun d os => cell_regrown (Y_5.out.cell 4 _ rfl) d os
      refine wp_region_det ?_
      repeat (go_big_quiet_step (fail))
      refine wpQuiet_nil ?_
      rintro _ ⟨qq, rfl⟩
      have hq := below_regrown y3 qq.d qq.os
      clear gB3 gB12 gB15 gX1 gX6 gX7 gY3 gY4
      have B_6 := Lib.hid (B_5.out.later hq)
      have X_6 := Lib.hid (X_5.out.later hq)
      have Y_6 := Lib.hid (Y_5.out.later hq)
      have HB_6 := Lib.hid (HB_5.out.trans (hq.mono HB_5.out.size))
      clear B_5 X_5 Y_5 HB_5 hq 
      repeat (first | go_values | go_skip | go_guarded | go_step | go_upon | go_back)
      go_ret
      exact ⟨rfl, HB_6.out⟩
    by_cases hh : ho = (j : Int)
    · have hhb : (ho == (j : Int)) = true := by simp [hh]
      have HH := Lib.hid hh
      clear hh
      have hf : R = false := by
        rw [← HR.out]
        refine tt_no (fun h => ?_)
        unfold DataP at h
        rw [if_pos rfl] at h
        obtain ⟨g1, g6, g7, k, m, g2, g3, g4, g5, g8⟩ := h
        obtain rfl : j = k := by omega
        rw [HXm.out] at g3
        cases g3
        rcases g8 with g8 | g8 | g8 | g8
        · cases g8
        · cases g8
        · exact absurd g8.1 (by decide)
        · exact g8.2.2 HH.out
      subst hf
      have gB3 := fun d os => cell_regrown (B_5.out.cell 3 _ HV.out.c3) d os
      have gB12 := fun d os => cell_regrown (B_5.out.cell 12 _ HV.out.c12) d os
      have gB15 := fun d os => cell_regrown (B_5.out.cell 15 _ HV.out.c15) d os
      have gX1 := fun d os => cell_regrown (X_5.out.cell 1 _ rfl) d os
      have gX6 := fun d os => cell_regrown (X_5.out.cell 6 _ rfl) d os
      have gX7 := fun d os => cell_regrown (X_5.out.cell 7 _ rfl) d os
      have gY3 := fun d os => cell_regrown (Y_5.out.cell 3 _ rfl) d os
      have gY4 := fun d os => cell_regrown (Y_5.out.cell 4 _ rfl) d os
      refine wp_region_det ?_
      repeat (go_big_quiet_step (fail))
      refine wpQuiet_nil ?_
      rintro _ ⟨qq, rfl⟩
      have hq := below_regrown y3 qq.d qq.os
      clear gB3 gB12 gB15 gX1 gX6 gX7 gY3 gY4
      have B_6 := Lib.hid (B_5.out.later hq)
      have X_6 := Lib.hid (X_5.out.later hq)
      have Y_6 := Lib.hid (Y_5.out.later hq)
      have HB_6 := Lib.hid (HB_5.out.trans (hq.mono HB_5.out.size))
      clear B_5 X_5 Y_5 HB_5 hq 
      repeat (first | go_values | go_skip | go_guarded | go_step | go_upon | go_back)
      go_ret
      exact ⟨rfl, HB_6.out⟩
    have hhb : (ho == (j : Int)) = false := by simp [hh]
    have hhd : decide (ho = (j : Int)) = false := decide_eq_false hh
    have HH := Lib.hid hh
    clear hh
    have HRESP : Hid ((3 : Int) = 0 ∨ (3 : Int) = 1 ∨ ((3 : Int) = 2 ∧ m3 < mr) ∨ ((3 : Int) = 3 ∧ false = false ∧ ho ≠ (j : Int))) := Lib.hid (.inr (.inr (.inr ⟨rfl, rfl, HH.out⟩)))
    cases bz
    · skip
      by_cases h2 : bb = m2
      rotate_left
      · skip
        have h2b : (bb == m2) = false := by simp [h2]
        have h2d : decide (bb = m2) = false := decide_eq_false h2
        have H2 := Lib.hid h2
        clear h2
        have hf : R = false := by
          rw [← HR.out]
          refine tt_no (fun h => ?_)
          unfold DataP at h
          rw [if_pos rfl] at h
          obtain ⟨g1, g6, g7, k, m, g2, g3, g4, g5, g8⟩ := h
          obtain rfl : j = k := by omega
          rw [HXm.out] at g3
          cases g3
          exact H2.out g5
        subst hf
        have gB3 := fun d os => cell_regrown (B_5.out.cell 3 _ HV.out.c3) d os
        have gB12 := fun d os => cell_regrown (B_5.out.cell 12 _ HV.out.c12) d os
        have gB15 := fun d os => cell_regrown (B_5.out.cell 15 _ HV.out.c15) d os
        have gX1 := fun d os => cell_regrown (X_5.out.cell 1 _ rfl) d os
        have gX6 := fun d os => cell_regrown (X_5.out.cell 6 _ rfl) d os
        have gX7 := fun d os => cell_regrown (X_5.out.cell 7 _ rfl) d os
        have gY3 := fun d os => cell_regrown (Y_5.out.cell 3 _ rfl) d os
        have gY4 := fun d os => cell_regrown (Y_5.out.cell 4 _ rfl) d os
        refine wp_region_det ?_
        repeat (go_big_quiet_step (fail))
        refine wpQuiet_nil ?_
        rintro _ ⟨qq, rfl⟩
        have hq := below_regrown y3 qq.d qq.os
        clear gB3 gB12 gB15 gX1 gX6 gX7 gY3 gY4
        have B_6 := Lib.hid (B_5.out.later hq)
        have X_6 := Lib.hid (X_5.out.later hq)
        have Y_6 := Lib.hid (Y_5.out.later hq)
        have HB_6 := Lib.hid (HB_5.out.trans (hq.mono HB_5.out.size))
        clear B_5 X_5 Y_5 HB_5 hq 
        generalize Sort.grow (redrawn y3 qq.d) qq.os = y4 at B_6 X_6 Y_6 HB_6 ⊢
        go_upto_region 10 with fail
        have gB2 := fun d os => cell_regrown (B_6.out.cell 2 _ HV.out.c2) d os
        have gX2 := fun d os => cell_regrown (X_6.out.cell 2 _ rfl) d os
        have gX5 := fun d os => cell_regrown (X_6.out.cell 5 _ rfl) d os
        have gX6 := fun d os => cell_regrown (X_6.out.cell 6 _ rfl) d os
        have gX7 := fun d os => cell_regrown (X_6.out.cell 7 _ rfl) d os
        have gY2 := fun d os => cell_regrown (Y_6.out.cell 2 _ rfl) d os
        refine wp_region_det ?_
        repeat (go_big_quiet_step (fail))
        refine wpQuiet_nil ?_
        rintro _ ⟨qq, rfl⟩
        have hq := below_regrown y4 qq.d qq.os
        clear gB2 gX2 gX5 gX6 gX7 gY2
        have B_7 := Lib.hid (B_6.out.later hq)
        have X_7 := Lib.hid (X_6.out.later hq)
        have Y_7 := Lib.hid (Y_6.out.later hq)
        have HB_7 := Lib.hid (HB_6.out.trans (hq.mono HB_6.out.size))
        clear B_6 X_6 Y_6 HB_6 hq 
        repeat (first | go_values | go_skip | go_guarded | go_step | go_upon | go_back)
        go_ret
        exact ⟨rfl, HB_7.out⟩
      have h2b : (bb == m2) = true := by simp [h2]
      have h2d : decide (bb = m2) = true := decide_eq_true h2
      have H2 := Lib.hid h2
      clear h2
      cases c3
      · skip
        have hf : R = false := by
          rw [← HR.out]
          refine tt_no (fun h => ?_)
          unfold DataP at h
          rw [if_pos rfl] at h
          obtain ⟨g1, g6, g7, k, m, g2, g3, g4, g5, g8⟩ := h
          have h6 := inB_iff.2 g6
          rw [C3.out] at h6; cases h6
        subst hf
        have gB3 := fun d os => cell_regrown (B_5.out.cell 3 _ HV.out.c3) d os
        have gB12 := fun d os => cell_regrown (B_5.out.cell 12 _ HV.out.c12) d os
        have gB15 := fun d os => cell_regrown (B_5.out.cell 15 _ HV.out.c15) d os
        have gX1 := fun d os => cell_regrown (X_5.out.cell 1 _ rfl) d os
        have gX6 := fun d os => cell_regrown (X_5.out.cell 6 _ rfl) d os
        have gX7 := fun d os => cell_regrown (X_5.out.cell 7 _ rfl) d os
        have gY3 := fun d os => cell_regrown (Y_5.out.cell 3 _ rfl) d os
        have gY4 := fun d os => cell_regrown (Y_5.out.cell 4 _ rfl) d os
        refine wp_region_det ?_
        repeat (go_big_quiet_step (fail))
        refine wpQuiet_nil ?_
        rintro _ ⟨qq, rfl⟩
        have hq := below_regrown y3 qq.d qq.os
        clear gB3 gB12 gB15 gX1 gX6 gX7 gY3 gY4
        have B_6 := Lib.hid (B_5.out.later hq)
        have X_6 := Lib.hid (X_5.out.later hq)
        have Y_6 := Lib.hid (Y_5.out.later hq)
        have HB_6 := Lib.hid (HB_5.out.trans (hq.mono HB_5.out.size))
        clear B_5 X_5 Y_5 HB_5 hq 
        generalize Sort.grow (redrawn y3 qq.d) qq.os = y4 at B_6 X_6 Y_6 HB_6 ⊢
        go_upto_region 10 with fail
        have gB2 := fun d os => cell_regrown (B_6.out.cell 2 _ HV.out.c2) d os
        have gX2 := fun d os => cell_regrown (X_6.out.cell 2 _ rfl) d os
        have gX5 := fun d os => cell_regrown (X_6.out.cell 5 _ rfl) d os
        have gX6 := fun d os => cell_regrown (X_6.out.cell 6 _ rfl) d os
        have gX7 := fun d os => cell_regrown (X_6.out.cell 7 _ rfl) d os
        have gY2 := fun d os => cell_regrown (Y_6.out.cell 2 _ rfl) d os
        refine wp_region_det ?_
        repeat (go_big_quiet_step (first
          | (go_at_call 19; exact Calls.regrown_of (l1In_isC C3.out _))))
        refine wpQuiet_nil ?_
        rintro _ ⟨qq, rfl⟩
        have hq := below_regrown y4 qq.d qq.os
        clear gB2 gX2 gX5 gX6 gX7 gY2
        have B_7 := Lib.hid (B_6.out.later hq)
        have X_7 := Lib.hid (X_6.out.later hq)
        have Y_7 := Lib.hid (Y_6.out.later hq)
        have HB_7 := Lib.hid (HB_6.out.trans (hq.mono HB_6.out.size))
        clear B_6 X_6 Y_6 HB_6 hq 
        repeat (first | go_values | go_skip | go_guarded | go_step | go_upon | go_back)
        go_ret
        exact ⟨rfl, HB_7.out⟩
      have hf : R = true := by
        rw [← HR.out]
        refine tt_yes ?_
        unfold DataP
        rw [if_pos rfl]
        exact ⟨inB_iff.1 C2.out, inB_iff.1 C3.out, fun e => (by cases e), j, _, rfl, HXm.out, HXs.out, H2.out, HRESP.out⟩
      subst hf
      have gB3 := fun d os => cell_regrown (B_5.out.cell 3 _ HV.out.c3) d os
      have gB12 := fun d os => cell_regrown (B_5.out.cell 12 _ HV.out.c12) d os
      have gB15 := fun d os => cell_regrown (B_5.out.cell 15 _ HV.out.c15) d os
      have gX1 := fun d os => cell_regrown (X_5.out.cell 1 _ rfl) d os
      have gX6 := fun d os => cell_regrown (X_5.out.cell 6 _ rfl) d os
      have gX7 := fun d os => cell_regrown (X_5.out.cell 7 _ rfl) d os
      have gY3 := fun d os => cell_regrown (Y_5.out.cell 3 _ rfl) d os
      have gY4 := fun d os => cell_regrown (Y_5.out.cell 4 _ rfl) d os
      refine wp_region_det ?_
      repeat (go_big_quiet_step (fail))
      refine wpQuiet_nil ?_
      rintro _ ⟨qq, rfl⟩
      have hq := below_regrown y3 qq.d qq.os
      clear gB3 gB12 gB15 gX1 gX6 gX7 gY3 gY4
      have B_6 := Lib.hid (B_5.out.later hq)
      have X_6 := Lib.hid (X_5.out.later hq)
      have Y_6 := Lib.hid (Y_5.out.later hq)
      have HB_6 := Lib.hid (HB_5.out.trans (hq.mono HB_5.out.size))
      clear B_5 X_5 Y_5 HB_5 hq 
      generalize Sort.grow (redrawn y3 qq.d) qq.os = y4 at B_6 X_6 Y_6 HB_6 ⊢
      go_upto_region 10 with fail
      have gB2 := fun d os => cell_regrown (B_6.out.cell 2 _ HV.out.c2) d os
      have gX2 := fun d os => cell_regrown (X_6.out.cell 2 _ rfl) d os
      have gX5 := fun d os => cell_regrown (X_6.out.cell 5 _ rfl) d os
      have gX6 := fun d os => cell_regrown (X_6.out.cell 6 _ rfl) d os
      have gX7 := fun d os => cell_regrown (X_6.out.cell 7 _ rfl) d os
      have gY2 := fun d os => cell_regrown (Y_6.out.cell 2 _ rfl) d os
      refine wp_region_det ?_
      repeat (go_big_quiet_step (first
        | (go_at_call 19; exact Calls.regrown_of (l1In_isC C3.out _))
        | (go_at_call 60; exact Calls.regrown_of (sresp_is HW.out _))))
      refine wpQuiet_nil ?_
      rintro _ ⟨qq, rfl⟩
      have hq := below_regrown y4 qq.d qq.os
      clear gB2 gX2 gX5 gX6 gX7 gY2
      have B_7 := Lib.hid (B_6.out.later hq)
      have X_7 := Lib.hid (X_6.out.later hq)
      have Y_7 := Lib.hid (Y_6.out.later hq)
      have HB_7 := Lib.hid (HB_6.out.trans (hq.mono HB_6.out.size))
      clear B_6 X_6 Y_6 HB_6 hq 
      repeat (first | go_values | go_skip | go_guarded | go_step | go_upon | go_back)
      go_ret
      exact ⟨rfl, HB_7.out⟩
    cases av
    rotate_left
    · skip
      have hf : R = false := by
        rw [← HR.out]
        refine tt_no (fun h => ?_)
        unfold DataP at h
        rw [if_pos rfl] at h
        obtain ⟨g1, g6, g7, k, m, g2, g3, g4, g5, g8⟩ := h
        cases (g7 rfl).2.2
      subst hf
      have gB3 := fun d os => cell_regrown (B_5.out.cell 3 _ HV.out.c3) d os
      have gB12 := fun d os => cell_regrown (B_5.out.cell 12 _ HV.out.c12) d os
      have gB15 := fun d os => cell_regrown (B_5.out.cell 15 _ HV.out.c15) d os
      have gX1 := fun d os => cell_regrown (X_5.out.cell 1 _ rfl) d os
      have gX6 := fun d os => cell_regrown (X_5.out.cell 6 _ rfl) d os
      have gX7 := fun d os => cell_regrown (X_5.out.cell 7 _ rfl) d os
      have gY3 := fun d os => cell_regrown (Y_5.out.cell 3 _ rfl) d os
      have gY4 := fun d os => cell_regrown (Y_5.out.cell 4 _ rfl) d os
      refine wp_region_det ?_
      repeat (go_big_quiet_step (fail))
      refine wpQuiet_nil ?_
      rintro _ ⟨qq, rfl⟩
      have hq := below_regrown y3 qq.d qq.os
      clear gB3 gB12 gB15 gX1 gX6 gX7 gY3 gY4
      have B_6 := Lib.hid (B_5.out.later hq)
      have X_6 := Lib.hid (X_5.out.later hq)
      have Y_6 := Lib.hid (Y_5.out.later hq)
      have HB_6 := Lib.hid (HB_5.out.trans (hq.mono HB_5.out.size))
      clear B_5 X_5 Y_5 HB_5 hq 
      repeat (first | go_values | go_skip | go_guarded | go_step | go_upon | go_back)
      go_ret
      exact ⟨rfl, HB_6.out⟩
    by_cases h2 : bb = m2
    rotate_left
    · skip
      have h2b : (bb == m2) = false := by simp [h2]
      have h2d : decide (bb = m2) = false := decide_eq_false h2
      have H2 := Lib.hid h2
      clear h2
      have hf : R = false := by
        rw [← HR.out]
        refine tt_no (fun h => ?_)
        unfold DataP at h
        rw [if_pos rfl] at h
        obtain ⟨g1, g6, g7, k, m, g2, g3, g4, g5, g8⟩ := h
        obtain rfl : j = k := by omega
        rw [HXm.out] at g3
        cases g3
        exact H2.out g5
      subst hf
      have gB3 := fun d os => cell_regrown (B_5.out.cell 3 _ HV.out.c3) d os
      have gB12 := fun d os => cell_regrown (B_5.out.cell 12 _ HV.out.c12) d os
      have gB15 := fun d os => cell_regrown (B_5.out.cell 15 _ HV.out.c15) d os
      have gX1 := fun d os => cell_regrown (X_5.out.cell 1 _ rfl) d os
      have gX6 := fun d os => cell_regrown (X_5.out.cell 6 _ rfl) d os
      have gX7 := fun d os => cell_regrown (X_5.out.cell 7 _ rfl) d os
      have gY3 := fun d os => cell_regrown (Y_5.out.cell 3 _ rfl) d os
      have gY4 := fun d os => cell_regrown (Y_5.out.cell 4 _ rfl) d os
      refine wp_region_det ?_
      repeat (go_big_quiet_step (fail))
      refine wpQuiet_nil ?_
      rintro _ ⟨qq, rfl⟩
      have hq := below_regrown y3 qq.d qq.os
      clear gB3 gB12 gB15 gX1 gX6 gX7 gY3 gY4
      have B_6 := Lib.hid (B_5.out.later hq)
      have X_6 := Lib.hid (X_5.out.later hq)
      have Y_6 := Lib.hid (Y_5.out.later hq)
      have HB_6 := Lib.hid (HB_5.out.trans (hq.mono HB_5.out.size))
      clear B_5 X_5 Y_5 HB_5 hq 
      generalize Sort.grow (redrawn y3 qq.d) qq.os = y4 at B_6 X_6 Y_6 HB_6 ⊢
      go_upto_region 10 with fail
      have gB2 := fun d os => cell_regrown (B_6.out.cell 2 _ HV.out.c2) d os
      have gX2 := fun d os => cell_regrown (X_6.out.cell 2 _ rfl) d os
      have gX5 := fun d os => cell_regrown (X_6.out.cell 5 _ rfl) d os
      have gX6 := fun d os => cell_regrown (X_6.out.cell 6 _ rfl) d os
      have gX7 := fun d os => cell_regrown (X_6.out.cell 7 _ rfl) d os
      have gY2 := fun d os => cell_regrown (Y_6.out.cell 2 _ rfl) d os
      refine wp_region_det ?_
      repeat (go_big_quiet_step (fail))
      refine wpQuiet_nil ?_
      rintro _ ⟨qq, rfl⟩
      have hq := below_regrown y4 qq.d qq.os
      clear gB2 gX2 gX5 gX6 gX7 gY2
      have B_7 := Lib.hid (B_6.out.later hq)
      have X_7 := Lib.hid (X_6.out.later hq)
      have Y_7 := Lib.hid (Y_6.out.later hq)
      have HB_7 := Lib.hid (HB_6.out.trans (hq.mono HB_6.out.size))
      clear B_6 X_6 Y_6 HB_6 hq 
      repeat (first | go_values | go_skip | go_guarded | go_step | go_upon | go_back)
      go_ret
      exact ⟨rfl, HB_7.out⟩
    have h2b : (bb == m2) = true := by simp [h2]
    have h2d : decide (bb = m2) = true := decide_eq_true h2
    have H2 := Lib.hid h2
    clear h2
    cases c3
    · skip
      have hf : R = false := by
        rw [← HR.out]
        refine tt_no (fun h => ?_)
        unfold DataP at h
        rw [if_pos rfl] at h
        obtain ⟨g1, g6, g7, k, m, g2, g3, g4, g5, g8⟩ := h
        have h6 := inB_iff.2 g6
        rw [C3.out] at h6; cases h6
      subst hf
      have gB3 := fun d os => cell_regrown (B_5.out.cell 3 _ HV.out.c3) d os
      have gB12 := fun d os => cell_regrown (B_5.out.cell 12 _ HV.out.c12) d os
      have gB15 := fun d os => cell_regrown (B_5.out.cell 15 _ HV.out.c15) d os
      have gX1 := fun d os => cell_regrown (X_5.out.cell 1 _ rfl) d os
      have gX6 := fun d os => cell_regrown (X_5.out.cell 6 _ rfl) d os
      have gX7 := fun d os => cell_regrown (X_5.out.cell 7 _ rfl) d os
      have gY3 := fun d os => cell_regrown (Y_5.out.cell 3 _ rfl) d os
      have gY4 := fun d os => cell_regrown (Y_5.out.cell 4 _ rfl) d os
      refine wp_region_det ?_
      repeat (go_big_quiet_step (fail))
      refine wpQuiet_nil ?_
      rintro _ ⟨qq, rfl⟩
      have hq := below_regrown y3 qq.d qq.os
      clear gB3 gB12 gB15 gX1 gX6 gX7 gY3 gY4
      have B_6 := Lib.hid (B_5.out.later hq)
      have X_6 := Lib.hid (X_5.out.later hq)
      have Y_6 := Lib.hid (Y_5.out.later hq)
      have HB_6 := Lib.hid (HB_5.out.trans (hq.mono HB_5.out.size))
      clear B_5 X_5 Y_5 HB_5 hq 
      generalize Sort.grow (redrawn y3 qq.d) qq.os = y4 at B_6 X_6 Y_6 HB_6 ⊢
      go_upto_region 10 with fail
      have gB2 := fun d os => cell_regrown (B_6.out.cell 2 _ HV.out.c2) d os
      have gX2 := fun d os => cell_regrown (X_6.out.cell 2 _ rfl) d os
      have gX5 := fun d os => cell_regrown (X_6.out.cell 5 _ rfl) d os
      have gX6 := fun d os => cell_regrown (X_6.out.cell 6 _ rfl) d os
      have gX7 := fun d os => cell_regrown (X_6.out.cell 7 _ rfl) d os
      have gY2 := fun d os => cell_regrown (Y_6.out.cell 2 _ rfl) d os
      refine wp_region_det ?_
      repeat (go_big_quiet_step (first
        | (go_at_call 19; exact Calls.regrown_of (l1In_isC C3.out _))))
      refine wpQuiet_nil ?_
      rintro _ ⟨qq, rfl⟩
      have hq := below_regrown y4 qq.d qq.os
      clear gB2 gX2 gX5 gX6 gX7 gY2
      have B_7 := Lib.hid (B_6.out.later hq)
      have X_7 := Lib.hid (X_6.out.later hq)
      have Y_7 := Lib.hid (Y_6.out.later hq)
      have HB_7 := Lib.hid (HB_6.out.trans (hq.mono HB_6.out.size))
      clear B_6 X_6 Y_6 HB_6 hq 
      repeat (first | go_values | go_skip | go_guarded | go_step | go_upon | go_back)
      go_ret
      exact ⟨rfl, HB_7.out⟩
    by_cases h5 : bl = 0
    rotate_left
    · skip
      have h5b : (bl == 0) = false := by simp [h5]
      have h5d : decide (bl = 0) = false := decide_eq_false h5
      have H5 := Lib.hid h5
      clear h5
      have hf : R = false := by
        rw [← HR.out]
        refine tt_no (fun h => ?_)
        unfold DataP at h
        rw [if_pos rfl] at h
        obtain ⟨g1, g6, g7, k, m, g2, g3, g4, g5, g8⟩ := h
        exact H5.out (g7 rfl).1
      subst hf
      have gB3 := fun d os => cell_regrown (B_5.out.cell 3 _ HV.out.c3) d os
      have gB12 := fun d os => cell_regrown (B_5.out.cell 12 _ HV.out.c12) d os
      have gB15 := fun d os => cell_regrown (B_5.out.cell 15 _ HV.out.c15) d os
      have gX1 := fun d os => cell_regrown (X_5.out.cell 1 _ rfl) d os
      have gX6 := fun d os => cell_regrown (X_5.out.cell 6 _ rfl) d os
      have gX7 := fun d os => cell_regrown (X_5.out.cell 7 _ rfl) d os
      have gY3 := fun d os => cell_regrown (Y_5.out.cell 3 _ rfl) d os
      have gY4 := fun d os => cell_regrown (Y_5.out.cell 4 _ rfl) d os
      refine wp_region_det ?_
      repeat (go_big_quiet_step (fail))
      refine wpQuiet_nil ?_
      rintro _ ⟨qq, rfl⟩
      have hq := below_regrown y3 qq.d qq.os
      clear gB3 gB12 gB15 gX1 gX6 gX7 gY3 gY4
      have B_6 := Lib.hid (B_5.out.later hq)
      have X_6 := Lib.hid (X_5.out.later hq)
      have Y_6 := Lib.hid (Y_5.out.later hq)
      have HB_6 := Lib.hid (HB_5.out.trans (hq.mono HB_5.out.size))
      clear B_5 X_5 Y_5 HB_5 hq 
      generalize Sort.grow (redrawn y3 qq.d) qq.os = y4 at B_6 X_6 Y_6 HB_6 ⊢
      go_upto_region 10 with fail
      have gB2 := fun d os => cell_regrown (B_6.out.cell 2 _ HV.out.c2) d os
      have gX2 := fun d os => cell_regrown (X_6.out.cell 2 _ rfl) d os
      have gX5 := fun d os => cell_regrown (X_6.out.cell 5 _ rfl) d os
      have gX6 := fun d os => cell_regrown (X_6.out.cell 6 _ rfl) d os
      have gX7 := fun d os => cell_regrown (X_6.out.cell 7 _ rfl) d os
      have gY2 := fun d os => cell_regrown (Y_6.out.cell 2 _ rfl) d os
      refine wp_region_det ?_
      repeat (go_big_quiet_step (first
        | (go_at_call 19; exact Calls.regrown_of (l1In_isC C3.out _))
        | (go_at_call 60; exact Calls.regrown_of (sresp_is HW.out _))))
      refine wpQuiet_nil ?_
      rintro _ ⟨qq, rfl⟩
      have hq := below_regrown y4 qq.d qq.os
      clear gB2 gX2 gX5 gX6 gX7 gY2
      have B_7 := Lib.hid (B_6.out.later hq)
      have X_7 := Lib.hid (X_6.out.later hq)
      have Y_7 := Lib.hid (Y_6.out.later hq)
      have HB_7 := Lib.hid (HB_6.out.trans (hq.mono HB_6.out.size))
      clear B_6 X_6 Y_6 HB_6 hq 
      repeat (first | go_values | go_skip | go_guarded | go_step | go_upon | go_back)
      go_ret
      exact ⟨rfl, HB_7.out⟩
    subst h5
    have hf : R = true := by
      rw [← HR.out]
      refine tt_yes ?_
      unfold DataP
      rw [if_pos rfl]
      exact ⟨inB_iff.1 C2.out, inB_iff.1 C3.out, fun _ => ⟨rfl, by decide, rfl⟩, j, _, rfl, HXm.out, HXs.out, H2.out, HRESP.out⟩
    subst hf
    have gB3 := fun d os => cell_regrown (B_5.out.cell 3 _ HV.out.c3) d os
    have gB12 := fun d os => cell_regrown (B_5.out.cell 12 _ HV.out.c12) d os
    have gB15 := fun d os => cell_regrown (B_5.out.cell 15 _ HV.out.c15) d os
    have gX1 := fun d os => cell_regrown (X_5.out.cell 1 _ rfl) d os
    have gX6 := fun d os => cell_regrown (X_5.out.cell 6 _ rfl) d os
    have gX7 := fun d os => cell_regrown (X_5.out.cell 7 _ rfl) d os
    have gY3 := fun d os => cell_regrown (Y_5.out.cell 3 _ rfl) d os
    have gY4 := fun d os => cell_regrown (Y_5.out.cell 4 _ rfl) d os
    refine wp_region_det ?_
    repeat (go_big_quiet_step (fail))
    refine wpQuiet_nil ?_
    rintro _ ⟨qq, rfl⟩
    have hq := below_regrown y3 qq.d qq.os
    clear gB3 gB12 gB15 gX1 gX6 gX7 gY3 gY4
    have B_6 := Lib.hid (B_5.out.later hq)
    have X_6 := Lib.hid (X_5.out.later hq)
    have Y_6 := Lib.hid (Y_5.out.later hq)
    have HB_6 := Lib.hid (HB_5.out.trans (hq.mono HB_5.out.size))
    clear B_5 X_5 Y_5 HB_5 hq 
    generalize Sort.grow (redrawn y3 qq.d) qq.os = y4 at B_6 X_6 Y_6 HB_6 ⊢
    go_upto_region 10 with fail
    have gB2 := fun d os => cell_regrown (B_6.out.cell 2 _ HV.out.c2) d os
    have gX2 := fun d os => cell_regrown (X_6.out.cell 2 _ rfl) d os
    have gX5 := fun d os => cell_regrown (X_6.out.cell 5 _ rfl) d os
    have gX6 := fun d os => cell_regrown (X_6.out.cell 6 _ rfl) d os
    have gX7 := fun d os => cell_regrown (X_6.out.cell 7 _ rfl) d os
    have gY2 := fun d os => cell_regrown (Y_6.out.cell 2 _ rfl) d os
    refine wp_region_det ?_
    repeat (go_big_quiet_step (first
      | (go_at_call 19; exact Calls.regrown_of (l1In_isC C3.out _))
      | (go_at_call 60; exact Calls.regrown_of (sresp_is HW.out _))))
    refine wpQuiet_nil ?_
    rintro _ ⟨qq, rfl⟩
    have hq := below_regrown y4 qq.d qq.os
    clear gB2 gX2 gX5 gX6 gX7 gY2
    have B_7 := Lib.hid (B_6.out.later hq)
    have X_7 := Lib.hid (X_6.out.later hq)
    have Y_7 := Lib.hid (Y_6.out.later hq)
    have HB_7 := Lib.hid (HB_6.out.trans (hq.mono HB_6.out.size))
    clear B_6 X_6 Y_6 HB_6 hq 
    repeat (first | go_values | go_skip | go_guarded | go_step | go_upon | go_back)
    go_ret
    exact ⟨rfl, HB_7.out⟩
  have HN := Lib.hid (And.intro hr0 (And.intro hr1 (And.intro hr2 hr3)))
  have h2b : (br == 2) = false := by simp [hr2]
  have h2d : decide (br = 2) = false := decide_eq_false hr2
  have h3b : (br == 3) = false := by simp [hr3]
  have h3d : decide (br = 3) = false := decide_eq_false hr3
  have h0b : (br != 0) = true := by simp [hr0]
  obtain ⟨rw_, hrw⟩ : ∃ x, respW br = x := ⟨_, rfl⟩
  have hrl : rw_.toList = [] := by rw [← hrw]; unfold respW; rw [if_neg hr0, if_neg hr1, if_neg hr2, if_neg hr3, ByteArray.toList_eq]
  have HW := Lib.hid hrw
  clear hrw hr0 hr1 hr2 hr3
  cases bz
  · skip
    by_cases h2 : bb = m2
    rotate_left
    · skip
      have h2b : (bb == m2) = false := by simp [h2]
      have h2d : decide (bb = m2) = false := decide_eq_false h2
      have H2 := Lib.hid h2
      clear h2
      have hf : R = false := by
        rw [← HR.out]
        refine tt_no (fun h => ?_)
        unfold DataP at h
        rw [if_pos rfl] at h
        obtain ⟨g1, g6, g7, k, m, g2, g3, g4, g5, g8⟩ := h
        obtain rfl : j = k := by omega
        rw [HXm.out] at g3
        cases g3
        exact H2.out g5
      subst hf
      have gB3 := fun d os => cell_regrown (B_5.out.cell 3 _ HV.out.c3) d os
      have gB12 := fun d os => cell_regrown (B_5.out.cell 12 _ HV.out.c12) d os
      have gB15 := fun d os => cell_regrown (B_5.out.cell 15 _ HV.out.c15) d os
      have gX1 := fun d os => cell_regrown (X_5.out.cell 1 _ rfl) d os
      have gX6 := fun d os => cell_regrown (X_5.out.cell 6 _ rfl) d os
      have gX7 := fun d os => cell_regrown (X_5.out.cell 7 _ rfl) d os
      have gY3 := fun d os => cell_regrown (Y_5.out.cell 3 _ rfl) d os
      have gY4 := fun d os => cell_regrown (Y_5.out.cell 4 _ rfl) d os
      refine wp_region_det ?_
      repeat (go_big_quiet_step (fail))
      refine wpQuiet_nil ?_
      rintro _ ⟨qq, rfl⟩
      have hq := below_regrown y3 qq.d qq.os
      clear gB3 gB12 gB15 gX1 gX6 gX7 gY3 gY4
      have B_6 := Lib.hid (B_5.out.later hq)
      have X_6 := Lib.hid (X_5.out.later hq)
      have Y_6 := Lib.hid (Y_5.out.later hq)
      have HB_6 := Lib.hid (HB_5.out.trans (hq.mono HB_5.out.size))
      clear B_5 X_5 Y_5 HB_5 hq 
      generalize Sort.grow (redrawn y3 qq.d) qq.os = y4 at B_6 X_6 Y_6 HB_6 ⊢
      go_upto_region 10 with fail
      have gB2 := fun d os => cell_regrown (B_6.out.cell 2 _ HV.out.c2) d os
      have gX2 := fun d os => cell_regrown (X_6.out.cell 2 _ rfl) d os
      have gX5 := fun d os => cell_regrown (X_6.out.cell 5 _ rfl) d os
      have gX6 := fun d os => cell_regrown (X_6.out.cell 6 _ rfl) d os
      have gX7 := fun d os => cell_regrown (X_6.out.cell 7 _ rfl) d os
      have gY2 := fun d os => cell_regrown (Y_6.out.cell 2 _ rfl) d os
      refine wp_region_det ?_
      repeat (go_big_quiet_step (fail))
      refine wpQuiet_nil ?_
      rintro _ ⟨qq, rfl⟩
      have hq := below_regrown y4 qq.d qq.os
      clear gB2 gX2 gX5 gX6 gX7 gY2
      have B_7 := Lib.hid (B_6.out.later hq)
      have X_7 := Lib.hid (X_6.out.later hq)
      have Y_7 := Lib.hid (Y_6.out.later hq)
      have HB_7 := Lib.hid (HB_6.out.trans (hq.mono HB_6.out.size))
      clear B_6 X_6 Y_6 HB_6 hq 
      repeat (first | go_values | go_skip | go_guarded | go_step | go_upon | go_back)
      go_ret
      exact ⟨rfl, HB_7.out⟩
    have h2b : (bb == m2) = true := by simp [h2]
    have h2d : decide (bb = m2) = true := decide_eq_true h2
    have H2 := Lib.hid h2
    clear h2
    cases c3
    · skip
      have hf : R = false := by
        rw [← HR.out]
        refine tt_no (fun h => ?_)
        unfold DataP at h
        rw [if_pos rfl] at h
        obtain ⟨g1, g6, g7, k, m, g2, g3, g4, g5, g8⟩ := h
        have h6 := inB_iff.2 g6
        rw [C3.out] at h6; cases h6
      subst hf
      have gB3 := fun d os => cell_regrown (B_5.out.cell 3 _ HV.out.c3) d os
      have gB12 := fun d os => cell_regrown (B_5.out.cell 12 _ HV.out.c12) d os
      have gB15 := fun d os => cell_regrown (B_5.out.cell 15 _ HV.out.c15) d os
      have gX1 := fun d os => cell_regrown (X_5.out.cell 1 _ rfl) d os
      have gX6 := fun d os => cell_regrown (X_5.out.cell 6 _ rfl) d os
      have gX7 := fun d os => cell_regrown (X_5.out.cell 7 _ rfl) d os
      have gY3 := fun d os => cell_regrown (Y_5.out.cell 3 _ rfl) d os
      have gY4 := fun d os => cell_regrown (Y_5.out.cell 4 _ rfl) d os
      refine wp_region_det ?_
      repeat (go_big_quiet_step (fail))
      refine wpQuiet_nil ?_
      rintro _ ⟨qq, rfl⟩
      have hq := below_regrown y3 qq.d qq.os
      clear gB3 gB12 gB15 gX1 gX6 gX7 gY3 gY4
      have B_6 := Lib.hid (B_5.out.later hq)
      have X_6 := Lib.hid (X_5.out.later hq)
      have Y_6 := Lib.hid (Y_5.out.later hq)
      have HB_6 := Lib.hid (HB_5.out.trans (hq.mono HB_5.out.size))
      clear B_5 X_5 Y_5 HB_5 hq 
      generalize Sort.grow (redrawn y3 qq.d) qq.os = y4 at B_6 X_6 Y_6 HB_6 ⊢
      go_upto_region 10 with fail
      have gB2 := fun d os => cell_regrown (B_6.out.cell 2 _ HV.out.c2) d os
      have gX2 := fun d os => cell_regrown (X_6.out.cell 2 _ rfl) d os
      have gX5 := fun d os => cell_regrown (X_6.out.cell 5 _ rfl) d os
      have gX6 := fun d os => cell_regrown (X_6.out.cell 6 _ rfl) d os
      have gX7 := fun d os => cell_regrown (X_6.out.cell 7 _ rfl) d os
      have gY2 := fun d os => cell_regrown (Y_6.out.cell 2 _ rfl) d os
      refine wp_region_det ?_
      repeat (go_big_quiet_step (first
        | (go_at_call 19; exact Calls.regrown_of (l1In_isC C3.out _))))
      refine wpQuiet_nil ?_
      rintro _ ⟨qq, rfl⟩
      have hq := below_regrown y4 qq.d qq.os
      clear gB2 gX2 gX5 gX6 gX7 gY2
      have B_7 := Lib.hid (B_6.out.later hq)
      have X_7 := Lib.hid (X_6.out.later hq)
      have Y_7 := Lib.hid (Y_6.out.later hq)
      have HB_7 := Lib.hid (HB_6.out.trans (hq.mono HB_6.out.size))
      clear B_6 X_6 Y_6 HB_6 hq 
      repeat (first | go_values | go_skip | go_guarded | go_step | go_upon | go_back)
      go_ret
      exact ⟨rfl, HB_7.out⟩
    have hf : R = false := by
      rw [← HR.out]
      refine tt_no (fun h => ?_)
      unfold DataP at h
      rw [if_pos rfl] at h
      obtain ⟨g1, g6, g7, k, m, g2, g3, g4, g5, g8⟩ := h
      obtain rfl : j = k := by omega
      rw [HXm.out] at g3
      cases g3
      rcases g8 with g8 | g8 | g8 | g8
      · exact HN.out.1 g8
      · exact HN.out.2.1 g8
      · exact HN.out.2.2.1 g8.1
      · exact HN.out.2.2.2 g8.1
    subst hf
    have gB3 := fun d os => cell_regrown (B_5.out.cell 3 _ HV.out.c3) d os
    have gB12 := fun d os => cell_regrown (B_5.out.cell 12 _ HV.out.c12) d os
    have gB15 := fun d os => cell_regrown (B_5.out.cell 15 _ HV.out.c15) d os
    have gX1 := fun d os => cell_regrown (X_5.out.cell 1 _ rfl) d os
    have gX6 := fun d os => cell_regrown (X_5.out.cell 6 _ rfl) d os
    have gX7 := fun d os => cell_regrown (X_5.out.cell 7 _ rfl) d os
    have gY3 := fun d os => cell_regrown (Y_5.out.cell 3 _ rfl) d os
    have gY4 := fun d os => cell_regrown (Y_5.out.cell 4 _ rfl) d os
    refine wp_region_det ?_
    repeat (go_big_quiet_step (fail))
    refine wpQuiet_nil ?_
    rintro _ ⟨qq, rfl⟩
    have hq := below_regrown y3 qq.d qq.os
    clear gB3 gB12 gB15 gX1 gX6 gX7 gY3 gY4
    have B_6 := Lib.hid (B_5.out.later hq)
    have X_6 := Lib.hid (X_5.out.later hq)
    have Y_6 := Lib.hid (Y_5.out.later hq)
    have HB_6 := Lib.hid (HB_5.out.trans (hq.mono HB_5.out.size))
    clear B_5 X_5 Y_5 HB_5 hq 
    generalize Sort.grow (redrawn y3 qq.d) qq.os = y4 at B_6 X_6 Y_6 HB_6 ⊢
    go_upto_region 10 with fail
    have gB2 := fun d os => cell_regrown (B_6.out.cell 2 _ HV.out.c2) d os
    have gX2 := fun d os => cell_regrown (X_6.out.cell 2 _ rfl) d os
    have gX5 := fun d os => cell_regrown (X_6.out.cell 5 _ rfl) d os
    have gX6 := fun d os => cell_regrown (X_6.out.cell 6 _ rfl) d os
    have gX7 := fun d os => cell_regrown (X_6.out.cell 7 _ rfl) d os
    have gY2 := fun d os => cell_regrown (Y_6.out.cell 2 _ rfl) d os
    refine wp_region_det ?_
    repeat (go_big_quiet_step (first
      | (go_at_call 19; exact Calls.regrown_of (l1In_isC C3.out _))
      | (go_at_call 60; exact Calls.regrown_of (sresp_is HW.out _))))
    refine wpQuiet_nil ?_
    rintro _ ⟨qq, rfl⟩
    have hq := below_regrown y4 qq.d qq.os
    clear gB2 gX2 gX5 gX6 gX7 gY2
    have B_7 := Lib.hid (B_6.out.later hq)
    have X_7 := Lib.hid (X_6.out.later hq)
    have Y_7 := Lib.hid (Y_6.out.later hq)
    have HB_7 := Lib.hid (HB_6.out.trans (hq.mono HB_6.out.size))
    clear B_6 X_6 Y_6 HB_6 hq 
    repeat (first | go_values | go_skip | go_guarded | go_step | go_upon | go_back)
    go_ret
    exact ⟨rfl, HB_7.out⟩
  cases av
  rotate_left
  · skip
    have hf : R = false := by
      rw [← HR.out]
      refine tt_no (fun h => ?_)
      unfold DataP at h
      rw [if_pos rfl] at h
      obtain ⟨g1, g6, g7, k, m, g2, g3, g4, g5, g8⟩ := h
      cases (g7 rfl).2.2
    subst hf
    have gB3 := fun d os => cell_regrown (B_5.out.cell 3 _ HV.out.c3) d os
    have gB12 := fun d os => cell_regrown (B_5.out.cell 12 _ HV.out.c12) d os
    have gB15 := fun d os => cell_regrown (B_5.out.cell 15 _ HV.out.c15) d os
    have gX1 := fun d os => cell_regrown (X_5.out.cell 1 _ rfl) d os
    have gX6 := fun d os => cell_regrown (X_5.out.cell 6 _ rfl) d os
    have gX7 := fun d os => cell_regrown (X_5.out.cell 7 _ rfl) d os
    have gY3 := fun d os => cell_regrown (Y_5.out.cell 3 _ rfl) d os
    have gY4 := fun d os => cell_regrown (Y_5.out.cell 4 _ rfl) d os
    refine wp_region_det ?_
    repeat (go_big_quiet_step (fail))
    refine wpQuiet_nil ?_
    rintro _ ⟨qq, rfl⟩
    have hq := below_regrown y3 qq.d qq.os
    clear gB3 gB12 gB15 gX1 gX6 gX7 gY3 gY4
    have B_6 := Lib.hid (B_5.out.later hq)
    have X_6 := Lib.hid (X_5.out.later hq)
    have Y_6 := Lib.hid (Y_5.out.later hq)
    have HB_6 := Lib.hid (HB_5.out.trans (hq.mono HB_5.out.size))
    clear B_5 X_5 Y_5 HB_5 hq 
    repeat (first | go_values | go_skip | go_guarded | go_step | go_upon | go_back)
    go_ret
    exact ⟨rfl, HB_6.out⟩
  by_cases h2 : bb = m2
  rotate_left
  · skip
    have h2b : (bb == m2) = false := by simp [h2]
    have h2d : decide (bb = m2) = false := decide_eq_false h2
    have H2 := Lib.hid h2
    clear h2
    have hf : R = false := by
      rw [← HR.out]
      refine tt_no (fun h => ?_)
      unfold DataP at h
      rw [if_pos rfl] at h
      obtain ⟨g1, g6, g7, k, m, g2, g3, g4, g5, g8⟩ := h
      obtain rfl : j = k := by omega
      rw [HXm.out] at g3
      cases g3
      exact H2.out g5
    subst hf
    have gB3 := fun d os => cell_regrown (B_5.out.cell 3 _ HV.out.c3) d os
    have gB12 := fun d os => cell_regrown (B_5.out.cell 12 _ HV.out.c12) d os
    have gB15 := fun d os => cell_regrown (B_5.out.cell 15 _ HV.out.c15) d os
    have gX1 := fun d os => cell_regrown (X_5.out.cell 1 _ rfl) d os
    have gX6 := fun d os => cell_regrown (X_5.out.cell 6 _ rfl) d os
    have gX7 := fun d os => cell_regrown (X_5.out.cell 7 _ rfl) d os
    have gY3 := fun d os => cell_regrown (Y_5.out.cell 3 _ rfl) d os
    have gY4 := fun d os => cell_regrown (Y_5.out.cell 4 _ rfl) d os
    refine wp_region_det ?_
    repeat (go_big_quiet_step (fail))
    refine wpQuiet_nil ?_
    rintro _ ⟨qq, rfl⟩
    have hq := below_regrown y3 qq.d qq.os
    clear gB3 gB12 gB15 gX1 gX6 gX7 gY3 gY4
    have B_6 := Lib.hid (B_5.out.later hq)
    have X_6 := Lib.hid (X_5.out.later hq)
    have Y_6 := Lib.hid (Y_5.out.later hq)
    have HB_6 := Lib.hid (HB_5.out.trans (hq.mono HB_5.out.size))
    clear B_5 X_5 Y_5 HB_5 hq 
    generalize Sort.grow (redrawn y3 qq.d) qq.os = y4 at B_6 X_6 Y_6 HB_6 ⊢
    go_upto_region 10 with fail
    have gB2 := fun d os => cell_regrown (B_6.out.cell 2 _ HV.out.c2) d os
    have gX2 := fun d os => cell_regrown (X_6.out.cell 2 _ rfl) d os
    have gX5 := fun d os => cell_regrown (X_6.out.cell 5 _ rfl) d os
    have gX6 := fun d os => cell_regrown (X_6.out.cell 6 _ rfl) d os
    have gX7 := fun d os => cell_regrown (X_6.out.cell 7 _ rfl) d os
    have gY2 := fun d os => cell_regrown (Y_6.out.cell 2 _ rfl) d os
    refine wp_region_det ?_
    repeat (go_big_quiet_step (fail))
    refine wpQuiet_nil ?_
    rintro _ ⟨qq, rfl⟩
    have hq := below_regrown y4 qq.d qq.os
    clear gB2 gX2 gX5 gX6 gX7 gY2
    have B_7 := Lib.hid (B_6.out.later hq)
    have X_7 := Lib.hid (X_6.out.later hq)
    have Y_7 := Lib.hid (Y_6.out.later hq)
    have HB_7 := Lib.hid (HB_6.out.trans (hq.mono HB_6.out.size))
    clear B_6 X_6 Y_6 HB_6 hq 
    repeat (first | go_values | go_skip | go_guarded | go_step | go_upon | go_back)
    go_ret
    exact ⟨rfl, HB_7.out⟩
  have h2b : (bb == m2) = true := by simp [h2]
  have h2d : decide (bb = m2) = true := decide_eq_true h2
  have H2 := Lib.hid h2
  clear h2
  cases c3
  · skip
    have hf : R = false := by
      rw [← HR.out]
      refine tt_no (fun h => ?_)
      unfold DataP at h
      rw [if_pos rfl] at h
      obtain ⟨g1, g6, g7, k, m, g2, g3, g4, g5, g8⟩ := h
      have h6 := inB_iff.2 g6
      rw [C3.out] at h6; cases h6
    subst hf
    have gB3 := fun d os => cell_regrown (B_5.out.cell 3 _ HV.out.c3) d os
    have gB12 := fun d os => cell_regrown (B_5.out.cell 12 _ HV.out.c12) d os
    have gB15 := fun d os => cell_regrown (B_5.out.cell 15 _ HV.out.c15) d os
    have gX1 := fun d os => cell_regrown (X_5.out.cell 1 _ rfl) d os
    have gX6 := fun d os => cell_regrown (X_5.out.cell 6 _ rfl) d os
    have gX7 := fun d os => cell_regrown (X_5.out.cell 7 _ rfl) d os
    have gY3 := fun d os => cell_regrown (Y_5.out.cell 3 _ rfl) d os
    have gY4 := fun d os => cell_regrown (Y_5.out.cell 4 _ rfl) d os
    refine wp_region_det ?_
    repeat (go_big_quiet_step (fail))
    refine wpQuiet_nil ?_
    rintro _ ⟨qq, rfl⟩
    have hq := below_regrown y3 qq.d qq.os
    clear gB3 gB12 gB15 gX1 gX6 gX7 gY3 gY4
    have B_6 := Lib.hid (B_5.out.later hq)
    have X_6 := Lib.hid (X_5.out.later hq)
    have Y_6 := Lib.hid (Y_5.out.later hq)
    have HB_6 := Lib.hid (HB_5.out.trans (hq.mono HB_5.out.size))
    clear B_5 X_5 Y_5 HB_5 hq 
    generalize Sort.grow (redrawn y3 qq.d) qq.os = y4 at B_6 X_6 Y_6 HB_6 ⊢
    go_upto_region 10 with fail
    have gB2 := fun d os => cell_regrown (B_6.out.cell 2 _ HV.out.c2) d os
    have gX2 := fun d os => cell_regrown (X_6.out.cell 2 _ rfl) d os
    have gX5 := fun d os => cell_regrown (X_6.out.cell 5 _ rfl) d os
    have gX6 := fun d os => cell_regrown (X_6.out.cell 6 _ rfl) d os
    have gX7 := fun d os => cell_regrown (X_6.out.cell 7 _ rfl) d os
    have gY2 := fun d os => cell_regrown (Y_6.out.cell 2 _ rfl) d os
    refine wp_region_det ?_
    repeat (go_big_quiet_step (first
      | (go_at_call 19; exact Calls.regrown_of (l1In_isC C3.out _))))
    refine wpQuiet_nil ?_
    rintro _ ⟨qq, rfl⟩
    have hq := below_regrown y4 qq.d qq.os
    clear gB2 gX2 gX5 gX6 gX7 gY2
    have B_7 := Lib.hid (B_6.out.later hq)
    have X_7 := Lib.hid (X_6.out.later hq)
    have Y_7 := Lib.hid (Y_6.out.later hq)
    have HB_7 := Lib.hid (HB_6.out.trans (hq.mono HB_6.out.size))
    clear B_6 X_6 Y_6 HB_6 hq 
    repeat (first | go_values | go_skip | go_guarded | go_step | go_upon | go_back)
    go_ret
    exact ⟨rfl, HB_7.out⟩
  have hf : R = false := by
    rw [← HR.out]
    refine tt_no (fun h => ?_)
    unfold DataP at h
    rw [if_pos rfl] at h
    obtain ⟨g1, g6, g7, k, m, g2, g3, g4, g5, g8⟩ := h
    obtain rfl : j = k := by omega
    rw [HXm.out] at g3
    cases g3
    rcases g8 with g8 | g8 | g8 | g8
    · exact HN.out.1 g8
    · exact HN.out.2.1 g8
    · exact HN.out.2.2.1 g8.1
    · exact HN.out.2.2.2 g8.1
  subst hf
  have gB3 := fun d os => cell_regrown (B_5.out.cell 3 _ HV.out.c3) d os
  have gB12 := fun d os => cell_regrown (B_5.out.cell 12 _ HV.out.c12) d os
  have gB15 := fun d os => cell_regrown (B_5.out.cell 15 _ HV.out.c15) d os
  have gX1 := fun d os => cell_regrown (X_5.out.cell 1 _ rfl) d os
  have gX6 := fun d os => cell_regrown (X_5.out.cell 6 _ rfl) d os
  have gX7 := fun d os => cell_regrown (X_5.out.cell 7 _ rfl) d os
  have gY3 := fun d os => cell_regrown (Y_5.out.cell 3 _ rfl) d os
  have gY4 := fun d os => cell_regrown (Y_5.out.cell 4 _ rfl) d os
  refine wp_region_det ?_
  repeat (go_big_quiet_step (fail))
  refine wpQuiet_nil ?_
  rintro _ ⟨qq, rfl⟩
  have hq := below_regrown y3 qq.d qq.os
  clear gB3 gB12 gB15 gX1 gX6 gX7 gY3 gY4
  have B_6 := Lib.hid (B_5.out.later hq)
  have X_6 := Lib.hid (X_5.out.later hq)
  have Y_6 := Lib.hid (Y_5.out.later hq)
  have HB_6 := Lib.hid (HB_5.out.trans (hq.mono HB_5.out.size))
  clear B_5 X_5 Y_5 HB_5 hq 
  generalize Sort.grow (redrawn y3 qq.d) qq.os = y4 at B_6 X_6 Y_6 HB_6 ⊢
  go_upto_region 10 with fail
  have gB2 := fun d os => cell_regrown (B_6.out.cell 2 _ HV.out.c2) d os
  have gX2 := fun d os => cell_regrown (X_6.out.cell 2 _ rfl) d os
  have gX5 := fun d os => cell_regrown (X_6.out.cell 5 _ rfl) d os
  have gX6 := fun d os => cell_regrown (X_6.out.cell 6 _ rfl) d os
  have gX7 := fun d os => cell_regrown (X_6.out.cell 7 _ rfl) d os
  have gY2 := fun d os => cell_regrown (Y_6.out.cell 2 _ rfl) d os
  refine wp_region_det ?_
  repeat (go_big_quiet_step (first
    | (go_at_call 19; exact Calls.regrown_of (l1In_isC C3.out _))
    | (go_at_call 60; exact Calls.regrown_of (sresp_is HW.out _))))
  refine wpQuiet_nil ?_
  rintro _ ⟨qq, rfl⟩
  have hq := below_regrown y4 qq.d qq.os
  clear gB2 gX2 gX5 gX6 gX7 gY2
  have B_7 := Lib.hid (B_6.out.later hq)
  have X_7 := Lib.hid (X_6.out.later hq)
  have Y_7 := Lib.hid (Y_6.out.later hq)
  have HB_7 := Lib.hid (HB_6.out.trans (hq.mono HB_6.out.size))
  clear B_6 X_6 Y_6 HB_6 hq 
  repeat (first | go_values | go_skip | go_guarded | go_step | go_upon | go_back)
  go_ret
  exact ⟨rfl, HB_7.out⟩

end Go.Proofs.YtdhaelaoackfkaaGreat.KD
