/-
  Several texts in one: BOkI3, BOkI7.
-/
import Derived.Test.YtdhaelaoackfkaaGreatGOc13
import Derived.Test.YtdhaelaoackfkaaGreatGMb13
import Derived.Test.YtdhaelaoackfkaaGreatOpq
namespace Go.Proofs.YtdhaelaoackfkaaGreat.KD
open Go.RowKit Rows3 GR Num
set_option linter.unusedVariables false
/-- an array of cells that reads a bus and a beat. -/
structure PB (brr arr : Array Value) (bv : Bool) (bw : Int) (bb : Int) (bf : Bool) (by_ : Int) (bl : Int) (br : Int) (bz : Bool) : Prop where
  size : brr.size = 45
  low : ∀ k, k < 37 → brr[k]? = arr[k]?
  d0 : brr[37]? = some (.bool bv)
  d1 : brr[38]? = some (.int .i64 bw)
  d2 : brr[39]? = some (.int .i64 bb)
  d3 : brr[40]? = some (.bool bf)
  d4 : brr[41]? = some (.int .i64 by_)
  d5 : brr[42]? = some (.int .i64 bl)
  d6 : brr[43]? = some (.int .i64 br)
  d7 : brr[44]? = some (.bool bz)
theorem bv_lit {arr : Array Value} {l : List (Int × Bool × Int × Int)} {qu : Int} {mw : Int} {mr : Int} {ms : Int} {lm : Int} {now : Int} {M : List (List (Bool × Int × Int × Int × Bool × List Int) × Int × Int × Int × Bool × Bool)} {tu : Int} {cr : Int} {bk : List (Int × Int)} {sp : List Int} {ho : Int} {he : Int} {la : Int} {av : Bool} {aw : Int} {ab : Int} {af : Bool} {ay : Int} {al : Int} {ar : Int} {az : Bool} {dv : Bool} {dw : Int} {db : Int} {df : Bool} {dy : Int} {dl : Int} {dr : Int} {dz : Bool} {mem : List Int} {rg : List Int} {ti : Int} {ff : List Int} {pk : Int} {lg : List (Int × Int × Bool × Int × Int × Int × Int)} {Al : Option Addr} {Pl : Nat} {AM : Option Addr} {PM : Nat} {Abk : Option Addr} {Pbk : Nat} {Asp : Option Addr} {Psp : Nat} {Amem : Option Addr} {Pmem : Nat} {Arg : Option Addr} {Prg : Nat} {Aff : Option Addr} {Pff : Nat} {Alg : Option Addr} {Plg : Nat} {nl nM nb ns ng : Nat} {w : World} (v : BV arr l qu mw mr ms lm now M tu cr bk sp ho he la av aw ab af ay al ar az dv dw db df dy dl dr dz mem rg ti ff pk lg Al Pl AM PM Abk Pbk Asp Psp Amem Pmem Arg Prg Aff Pff Alg Plg nl nM nb ns ng w) : arr = #[.slice Al nl Pl, .int .i64 qu, .int .i64 mw, .int .i64 mr, .int .i64 ms, .int .i64 lm, .int .i64 now, .slice AM nM PM, .int .i64 tu, .int .i64 cr, .slice Abk nb Pbk, .slice Asp ns Psp, .int .i64 ho, .int .i64 he, .int .i64 la, .bool av, .int .i64 aw, .int .i64 ab, .bool af, .int .i64 ay, .int .i64 al, .int .i64 ar, .bool az, .bool dv, .int .i64 dw, .int .i64 db, .bool df, .int .i64 dy, .int .i64 dl, .int .i64 dr, .bool dz, .slice Amem mem.length Pmem, .slice Arg rg.length Prg, .int .i64 ti, .slice Aff ff.length Pff, .int .i64 pk, .slice Alg ng Plg] := by
  apply Array.ext_getElem?
  intro i
  match i with
  | 0 => exact v.c0
  | 1 => exact v.c1
  | 2 => exact v.c2
  | 3 => exact v.c3
  | 4 => exact v.c4
  | 5 => exact v.c5
  | 6 => exact v.c6
  | 7 => exact v.c7
  | 8 => exact v.c8
  | 9 => exact v.c9
  | 10 => exact v.c10
  | 11 => exact v.c11
  | 12 => exact v.c12
  | 13 => exact v.c13
  | 14 => exact v.c14
  | 15 => exact v.c15
  | 16 => exact v.c16
  | 17 => exact v.c17
  | 18 => exact v.c18
  | 19 => exact v.c19
  | 20 => exact v.c20
  | 21 => exact v.c21
  | 22 => exact v.c22
  | 23 => exact v.c23
  | 24 => exact v.c24
  | 25 => exact v.c25
  | 26 => exact v.c26
  | 27 => exact v.c27
  | 28 => exact v.c28
  | 29 => exact v.c29
  | 30 => exact v.c30
  | 31 => exact v.c31
  | 32 => exact v.c32
  | 33 => exact v.c33
  | 34 => exact v.c34
  | 35 => exact v.c35
  | 36 => exact v.c36
  | n + 37 => rw [Array.getElem?_eq_none (by rw [v.size]; omega), Array.getElem?_eq_none (by show 37 ≤ n + 37; omega)]
theorem beatOn_built {arr : Array Value} {l : List (Int × Bool × Int × Int)} {qu : Int} {mw : Int} {mr : Int} {ms : Int} {lm : Int} {now : Int} {M : List (List (Bool × Int × Int × Int × Bool × List Int) × Int × Int × Int × Bool × Bool)} {tu : Int} {cr : Int} {bk : List (Int × Int)} {sp : List Int} {ho : Int} {he : Int} {la : Int} {av : Bool} {aw : Int} {ab : Int} {af : Bool} {ay : Int} {al : Int} {ar : Int} {az : Bool} {dv : Bool} {dw : Int} {db : Int} {df : Bool} {dy : Int} {dl : Int} {dr : Int} {dz : Bool} {mem : List Int} {rg : List Int} {ti : Int} {ff : List Int} {pk : Int} {lg : List (Int × Int × Bool × Int × Int × Int × Int)} {Al : Option Addr} {Pl : Nat} {AM : Option Addr} {PM : Nat} {Abk : Option Addr} {Pbk : Nat} {Asp : Option Addr} {Psp : Nat} {Amem : Option Addr} {Pmem : Nat} {Arg : Option Addr} {Prg : Nat} {Aff : Option Addr} {Pff : Nat} {Alg : Option Addr} {Plg : Nat} {nl nM nb ns ng : Nat} {w : World} (v : BV arr l qu mw mr ms lm now M tu cr bk sp ho he la av aw ab af ay al ar az dv dw db df dy dl dr dz mem rg ti ff pk lg Al Pl AM PM Abk Pbk Asp Psp Amem Pmem Arg Prg Aff Pff Alg Plg nl nM nb ns ng w) (bv : Bool) (bw : Int) (bb : Int) (bf : Bool) (by_ : Int) (bl : Int) (br : Int) (bz : Bool) : ∃ brr : Array Value, Tryz.prog.built 121 [(0, .agg arr), (1, .agg #[.bool bv, .int .i64 bw, .int .i64 bb, .bool bf, .int .i64 by_, .int .i64 bl, .int .i64 br, .bool bz])] = some brr ∧ PB brr arr bv bw bb bf by_ bl br bz ∧ brr.all (·.oneCell') = true := by
  have e := bv_lit v
  subst e
  refine ⟨#[.slice Al nl Pl, .int .i64 qu, .int .i64 mw, .int .i64 mr, .int .i64 ms, .int .i64 lm, .int .i64 now, .slice AM nM PM, .int .i64 tu, .int .i64 cr, .slice Abk nb Pbk, .slice Asp ns Psp, .int .i64 ho, .int .i64 he, .int .i64 la, .bool av, .int .i64 aw, .int .i64 ab, .bool af, .int .i64 ay, .int .i64 al, .int .i64 ar, .bool az, .bool dv, .int .i64 dw, .int .i64 db, .bool df, .int .i64 dy, .int .i64 dl, .int .i64 dr, .bool dz, .slice Amem mem.length Pmem, .slice Arg rg.length Prg, .int .i64 ti, .slice Aff ff.length Pff, .int .i64 pk, .slice Alg ng Plg, .bool bv, .int .i64 bw, .int .i64 bb, .bool bf, .int .i64 by_, .int .i64 bl, .int .i64 br, .bool bz], by kernel_rfl, ⟨rfl, ?_, rfl, rfl, rfl, rfl, rfl, rfl, rfl, rfl⟩, by kernel_rfl⟩
  intro k hk
  match k with
  | 0 => rfl
  | 1 => rfl
  | 2 => rfl
  | 3 => rfl
  | 4 => rfl
  | 5 => rfl
  | 6 => rfl
  | 7 => rfl
  | 8 => rfl
  | 9 => rfl
  | 10 => rfl
  | 11 => rfl
  | 12 => rfl
  | 13 => rfl
  | 14 => rfl
  | 15 => rfl
  | 16 => rfl
  | 17 => rfl
  | 18 => rfl
  | 19 => rfl
  | 20 => rfl
  | 21 => rfl
  | 22 => rfl
  | 23 => rfl
  | 24 => rfl
  | 25 => rfl
  | 26 => rfl
  | 27 => rfl
  | 28 => rfl
  | 29 => rfl
  | 30 => rfl
  | 31 => rfl
  | 32 => rfl
  | 33 => rfl
  | 34 => rfl
  | 35 => rfl
  | 36 => rfl
  | n + 37 => omega
theorem wp_build_at {P : Program} {o : Oper} {a : Act} {w : World} {K : Act → World → Prop} {Q : Exit → Act → World → Prop} (t : TypeId) (parts : Array (Nat × Operand)) (ho : o.op = .build t parts) (cells : Array Value)
    (hf : P.built t (parts.map fun (i, x) => (i, a.eval x)).toList = some cells) (h : K (a.put o.dst (.agg cells)) w) : o.wp P a w K Q :=
  wp_build t parts ho (by rw [hf]; rfl) (by rw [hf]; exact h)
/-- may a beat that is live be its master's. -/
def LiveP (sp : List Int) (bw by_ : Int) : Prop := (1 ≤ by_ ∧ by_ ≤ 3) ∧ ∃ j : Nat, bw = j ∧ sp[j]? = some 0
def RespP (mr ho bw br tr : Int) (pa : Bool) : Prop := br = 0 ∨ br = 1 ∨ (br = 2 ∧ tr < mr) ∨ (br = 3 ∧ pa = false ∧ ho ≠ bw)
def secB (av : Bool) (bl br : Int) : Bool := bl == 0 && (br != 0 && !av)
set_option maxHeartbeats 16000000 in
set_option maxRecDepth 100000 in
theorem implLive {brr arr : Array Value} {l : List (Int × Bool × Int × Int)} {qu : Int} {mw : Int} {mr : Int} {ms : Int} {lm : Int} {now : Int} {M : List (List (Bool × Int × Int × Int × Bool × List Int) × Int × Int × Int × Bool × Bool)} {tu : Int} {cr : Int} {bk : List (Int × Int)} {sp : List Int} {ho : Int} {he : Int} {la : Int} {av : Bool} {aw : Int} {ab : Int} {af : Bool} {ay : Int} {al : Int} {ar : Int} {az : Bool} {dv : Bool} {dw : Int} {db : Int} {df : Bool} {dy : Int} {dl : Int} {dr : Int} {dz : Bool} {mem : List Int} {rg : List Int} {ti : Int} {ff : List Int} {pk : Int} {lg : List (Int × Int × Bool × Int × Int × Int × Int)} {Al : Option Addr} {Pl : Nat} {AM : Option Addr} {PM : Nat} {Abk : Option Addr} {Pbk : Nat} {Asp : Option Addr} {Psp : Nat} {Amem : Option Addr} {Pmem : Nat} {Arg : Option Addr} {Prg : Nat} {Aff : Option Addr} {Pff : Nat} {Alg : Option Addr} {Plg : Nat} {nl nM nb ns ng : Nat} {bv : Bool} {bw : Int} {bb : Int} {bf : Bool} {by_ : Int} {bl : Int} {br : Int} {bz : Bool} {w : World} (v : BV arr l qu mw mr ms lm now M tu cr bk sp ho he la av aw ab af ay al ar az dv dw db df dy dl dr dz mem rg ti ff pk lg Al Pl AM PM Abk Pbk Asp Psp Amem Pmem Arg Prg Aff Pff Alg Plg nl nM nb ns ng w) (z : BZ 0 l M bk sp mem rg ff lg) (pb : PB brr arr bv bw bb bf by_ bl br bz) (hls : sp.length = l.length) :
    Calls Tryz.prog 75 #[.agg brr] w fun e w' => e = .returned (.bool (tt (LiveP sp bw by_))) ∧ Below w.heap.size w w' := by
  have HV := Lib.hid v
  have HZ := Lib.hid z
  have HP := Lib.hid pb
  clear v z pb
  have B := Bx.new 121 brr w
  have hb0 := (Below.refl w.heap.size w).alloc (Nat.le_refl _) (Obj.cells brr 121)
  obtain ⟨y0, hy0⟩ : ∃ y, w.alloc (Obj.cells brr 121) = y := ⟨_, rfl⟩
  rw [hy0] at B hb0
  have B_0 := Lib.hid B
  have HB_0 := Lib.hid hb0
  clear B hb0
  obtain ⟨R, hR0⟩ : ∃ R, (tt (LiveP sp bw by_)) = R := ⟨_, rfl⟩
  rw [hR0]
  have HR := Lib.hid hR0
  clear hR0
  obtain rfl : ns = nl := by rw [← HV.out.nsp, ← HV.out.nl]; exact hls
  have hln : ns ≤ 2000000 := by rw [← HV.out.nl]; exact HZ.out.zl
  clear hls
  go_enter Tryz.func75, Tryz.ntmps75
  go_upto_region 1 with fail
  clear hy0
  have gB0 := fun d os => cell_regrown (B_0.out.cell 0 _ ((HP.out.low 0 (by decide)).trans HV.out.c0)) d os
  have gB1 := fun d os => cell_regrown (B_0.out.cell 1 _ ((HP.out.low 1 (by decide)).trans HV.out.c1)) d os
  have gB2 := fun d os => cell_regrown (B_0.out.cell 2 _ ((HP.out.low 2 (by decide)).trans HV.out.c2)) d os
  have gB3 := fun d os => cell_regrown (B_0.out.cell 3 _ ((HP.out.low 3 (by decide)).trans HV.out.c3)) d os
  have gB4 := fun d os => cell_regrown (B_0.out.cell 4 _ ((HP.out.low 4 (by decide)).trans HV.out.c4)) d os
  have gB5 := fun d os => cell_regrown (B_0.out.cell 5 _ ((HP.out.low 5 (by decide)).trans HV.out.c5)) d os
  have gB11 := fun d os => cell_regrown (B_0.out.cell 11 _ ((HP.out.low 11 (by decide)).trans HV.out.c11)) d os
  have gB38 := fun d os => cell_regrown (B_0.out.cell 38 _ HP.out.d1) d os
  have gB41 := fun d os => cell_regrown (B_0.out.cell 41 _ HP.out.d4) d os
  obtain ⟨c1, hc1⟩ : ∃ c, inB bw 0 ((ns : Int) - 1) = c := ⟨_, rfl⟩
  have C1 := Lib.hid hc1
  clear hc1
  obtain ⟨c2, hc2⟩ : ∃ c, inB by_ 1 3 = c := ⟨_, rfl⟩
  have C2 := Lib.hid hc2
  clear hc2
  cases c1
  · skip
    have hf : R = false := by
      rw [← HR.out]
      exact tt_no (fun h => by
        obtain ⟨_, k, hk, hs⟩ := h
        have h5 := (List.getElem?_eq_some_iff.1 hs).1
        rw [HV.out.nsp] at h5
        have h6 : inB bw 0 ((ns : Int) - 1) = true := inB_iff.2 (by omega)
        rw [C1.out] at h6; cases h6)
    subst hf
    refine wp_region_det ?_
    repeat (go_big_quiet_step (first
      | (go_at_call 71; exact Calls.regrown_of (isMaster_is C1.out hln _ _ _ _ _ _ _ _))
      | (go_at_call 69; exact Calls.regrown_of (within_isC C2.out _))))
    refine wpQuiet_nil ?_
    rintro _ ⟨qq, rfl⟩
    have hq := below_regrown y0 qq.d qq.os
    clear gB0 gB1 gB2 gB3 gB4 gB5 gB11 gB38 gB41
    have B_1 := Lib.hid (B_0.out.later hq)
    have HB_1 := Lib.hid (HB_0.out.trans (hq.mono HB_0.out.size))
    clear B_0 HB_0 hq 
    repeat (first | go_values | go_skip | go_guarded | go_step | go_upon | go_back)
    go_ret
    exact ⟨rfl, HB_1.out⟩
  cases c2
  · skip
    have hf : R = false := by
      rw [← HR.out]
      exact tt_no (fun h => by have h6 := inB_iff.2 h.1; rw [C2.out] at h6; cases h6)
    subst hf
    refine wp_region_det ?_
    repeat (go_big_quiet_step (first
      | (go_at_call 71; exact Calls.regrown_of (isMaster_is C1.out hln _ _ _ _ _ _ _ _))
      | (go_at_call 69; exact Calls.regrown_of (within_isC C2.out _))))
    refine wpQuiet_nil ?_
    rintro _ ⟨qq, rfl⟩
    have hq := below_regrown y0 qq.d qq.os
    clear gB0 gB1 gB2 gB3 gB4 gB5 gB11 gB38 gB41
    have B_1 := Lib.hid (B_0.out.later hq)
    have HB_1 := Lib.hid (HB_0.out.trans (hq.mono HB_0.out.size))
    clear B_0 HB_0 hq 
    repeat (first | go_values | go_skip | go_guarded | go_step | go_upon | go_back)
    go_ret
    exact ⟨rfl, HB_1.out⟩
  have hi := inB_iff.1 C1.out
  obtain ⟨j, hj⟩ : ∃ j : Nat, bw = (j : Int) := ⟨bw.toNat, by omega⟩
  subst hj
  have hjn : j < ns := by omega
  clear hi
  obtain ⟨s, hxs⟩ := get_of (l := sp) (i := j) (by rw [HV.out.nsp]; exact hjn)
  obtain ⟨bs, os, es, lts, cs⟩ := ints_el HV.out.rsp hxs
  obtain rfl := es
  have HXs := Lib.hid hxs
  have Es0 := Lib.hid cs
  have LTs := Lib.hid lts
  clear hxs cs lts
  have hin : (0 : Int) ≤ (j : Int) ∧ (j : Int) < ((ns : Nat) : Int) := by omega
  have gs0 := fun d os => cell_regrown ((bel_cells HB_0.out LTs.out _).trans Es0.out) d os
  by_cases hs : s = 0
  · subst hs
    have hf : R = true := by
      rw [← HR.out]
      exact tt_yes ⟨inB_iff.1 C2.out, j, rfl, HXs.out⟩
    subst hf
    refine wp_region_det ?_
    repeat (go_big_quiet_step (first
      | (go_at_call 71; exact Calls.regrown_of (isMaster_is C1.out hln _ _ _ _ _ _ _ _))
      | (go_at_call 69; exact Calls.regrown_of (within_isC C2.out _))))
    refine wpQuiet_nil ?_
    rintro _ ⟨qq, rfl⟩
    have hq := below_regrown y0 qq.d qq.os
    clear gB0 gB1 gB2 gB3 gB4 gB5 gB11 gB38 gB41 gs0
    have B_1 := Lib.hid (B_0.out.later hq)
    have HB_1 := Lib.hid (HB_0.out.trans (hq.mono HB_0.out.size))
    clear B_0 HB_0 hq 
    repeat (first | go_values | go_skip | go_guarded | go_step | go_upon | go_back)
    go_ret
    exact ⟨rfl, HB_1.out⟩
  have hs2 : (s == 0) = false := by simp [hs]
  have hf : R = false := by
    rw [← HR.out]
    exact tt_no (fun h => by
      obtain ⟨_, k, hk, hs3⟩ := h
      obtain rfl : j = k := by omega
      rw [HXs.out] at hs3; cases hs3; exact hs rfl)
  subst hf
  refine wp_region_det ?_
  repeat (go_big_quiet_step (first
    | (go_at_call 71; exact Calls.regrown_of (isMaster_is C1.out hln _ _ _ _ _ _ _ _))
    | (go_at_call 69; exact Calls.regrown_of (within_isC C2.out _))))
  refine wpQuiet_nil ?_
  rintro _ ⟨qq, rfl⟩
  have hq := below_regrown y0 qq.d qq.os
  clear gB0 gB1 gB2 gB3 gB4 gB5 gB11 gB38 gB41 gs0
  have B_1 := Lib.hid (B_0.out.later hq)
  have HB_1 := Lib.hid (HB_0.out.trans (hq.mono HB_0.out.size))
  clear B_0 HB_0 hq 
  repeat (first | go_values | go_skip | go_guarded | go_step | go_upon | go_back)
  go_ret
  exact ⟨rfl, HB_1.out⟩
set_option maxHeartbeats 16000000 in
set_option maxRecDepth 100000 in
theorem implMaster {brr arr : Array Value} {l : List (Int × Bool × Int × Int)} {qu : Int} {mw : Int} {mr : Int} {ms : Int} {lm : Int} {now : Int} {M : List (List (Bool × Int × Int × Int × Bool × List Int) × Int × Int × Int × Bool × Bool)} {tu : Int} {cr : Int} {bk : List (Int × Int)} {sp : List Int} {ho : Int} {he : Int} {la : Int} {av : Bool} {aw : Int} {ab : Int} {af : Bool} {ay : Int} {al : Int} {ar : Int} {az : Bool} {dv : Bool} {dw : Int} {db : Int} {df : Bool} {dy : Int} {dl : Int} {dr : Int} {dz : Bool} {mem : List Int} {rg : List Int} {ti : Int} {ff : List Int} {pk : Int} {lg : List (Int × Int × Bool × Int × Int × Int × Int)} {Al : Option Addr} {Pl : Nat} {AM : Option Addr} {PM : Nat} {Abk : Option Addr} {Pbk : Nat} {Asp : Option Addr} {Psp : Nat} {Amem : Option Addr} {Pmem : Nat} {Arg : Option Addr} {Prg : Nat} {Aff : Option Addr} {Pff : Nat} {Alg : Option Addr} {Plg : Nat} {nl nM nb ns ng : Nat} {bv : Bool} {bw : Int} {bb : Int} {bf : Bool} {by_ : Int} {bl : Int} {br : Int} {bz : Bool} {w : World} (v : BV arr l qu mw mr ms lm now M tu cr bk sp ho he la av aw ab af ay al ar az dv dw db df dy dl dr dz mem rg ti ff pk lg Al Pl AM PM Abk Pbk Asp Psp Amem Pmem Arg Prg Aff Pff Alg Plg nl nM nb ns ng w) (z : BZ 0 l M bk sp mem rg ff lg) (pb : PB brr arr bv bw bb bf by_ bl br bz) {j : Nat} {b o : Nat} (hA : AM = some ⟨b, o, none⟩) (hj : bw = (j : Int)) (hjn : j < nM) {am : Option Addr} {pm : Nat} {m0 : List ReqX} {m1 m2 m3 : Int} {m4 m5 : Bool} (lt : b < w.heap.size) (E0 : w.cell? ⟨b, o + j * 6, none⟩ = some (.slice am m0.length pm)) (E1 : w.cell? ⟨b, o + j * 6 + 1, none⟩ = some (.int .i64 m1)) (E2 : w.cell? ⟨b, o + j * 6 + 2, none⟩ = some (.int .i64 m2)) (E3 : w.cell? ⟨b, o + j * 6 + 3, none⟩ = some (.int .i64 m3)) (E4 : w.cell? ⟨b, o + j * 6 + 4, none⟩ = some (.bool m4)) (E5 : w.cell? ⟨b, o + j * 6 + 5, none⟩ = some (.bool m5)) :
    Calls Tryz.prog 76 #[.agg brr] w fun e w' => e = .returned (.agg #[.slice am m0.length pm, .int .i64 m1, .int .i64 m2, .int .i64 m3, .bool m4, .bool m5]) ∧ Below w.heap.size w w' := by
  have HV := Lib.hid v
  have HZ := Lib.hid z
  have HP := Lib.hid pb
  clear v z pb
  have B := Bx.new 121 brr w
  have hb0 := (Below.refl w.heap.size w).alloc (Nat.le_refl _) (Obj.cells brr 121)
  obtain ⟨y0, hy0⟩ : ∃ y, w.alloc (Obj.cells brr 121) = y := ⟨_, rfl⟩
  rw [hy0] at B hb0
  have B_0 := Lib.hid B
  have HB_0 := Lib.hid hb0
  clear B hb0
  subst hA hj
  have hnM : nM ≤ 2000000 := by rw [← HV.out.nM]; exact HZ.out.zMl
  have hin : (0 : Int) ≤ (j : Int) ∧ (j : Int) < ((nM : Nat) : Int) := by omega
  have e0 := (bel_cells HB_0.out lt _).trans E0
  have e1 := (bel_cells HB_0.out lt _).trans E1
  have e2 := (bel_cells HB_0.out lt _).trans E2
  have e3 := (bel_cells HB_0.out lt _).trans E3
  have e4 := (bel_cells HB_0.out lt _).trans E4
  have e5 := (bel_cells HB_0.out lt _).trans E5
  have gB7 := B_0.out.cell 7 _ ((HP.out.low 7 (by decide)).trans HV.out.c7)
  have gB38 := B_0.out.cell 38 _ HP.out.d1
  have hba := (Below.refl y0.heap.size y0).alloc (Nat.le_refl _) (Obj.cells #[.slice none 0 0, .int .i64 0, .int .i64 0, .int .i64 0, .bool false, .bool false] 70)
  have B_1 := Lib.hid (B_0.out.later hba)
  have HB_1 := Lib.hid (HB_0.out.trans (hba.mono HB_0.out.size))
  go_enter Tryz.func76, Tryz.ntmps76
  go_upto_region 1 with fail
  clear hy0
  clear gB7 gB38
  have X_1 := Lib.hid (Bx.new 70 #[.slice none 0 0, .int .i64 0, .int .i64 0, .int .i64 0, .bool false, .bool false] y0)
  have hbk : w.heap.size < y0.heap.size := B_0.out.lt
  obtain ⟨k1, hk1⟩ : ∃ k, y0.heap.size = k := ⟨_, rfl⟩
  generalize y0.alloc (Obj.cells #[.slice none 0 0, .int .i64 0, .int .i64 0, .int .i64 0, .bool false, .bool false] 70) = y1 at B_1 HB_1 X_1 hba ⊢
  rw [hk1] at X_1 hbk ⊢
  have x0 := (bel_cells HB_1.out lt _).trans E0
  have x1 := (bel_cells HB_1.out lt _).trans E1
  have x2 := (bel_cells HB_1.out lt _).trans E2
  have x3 := (bel_cells HB_1.out lt _).trans E3
  have x4 := (bel_cells HB_1.out lt _).trans E4
  have x5 := (bel_cells HB_1.out lt _).trans E5
  clear e0 e1 e2 e3 e4 e5
  have gB7 := B_1.out.cell 7 _ ((HP.out.low 7 (by decide)).trans HV.out.c7)
  have gB38 := B_1.out.cell 38 _ HP.out.d1
  obtain ⟨k0_, k1_, k2_, k3_, k4_, k5_⟩ := X_1.out.cells6
  obtain ⟨z0, z1, z2, z3, z4, z5⟩ := warm6 X_1.out
  obtain ⟨f0, f1, f2, f3, f4, f5⟩ := Bx.cells6 (show Bx 70 k1 #[.slice am m0.length pm, .int .i64 m1, .int .i64 m2, .int .i64 m3, .bool m4, .bool m5] _ from ((((((X_1.out.set 0 (.slice am m0.length pm)).set 1 (.int .i64 m1)).set 2 (.int .i64 m2)).set 3 (.int .i64 m3)).set 4 (.bool m4)).set 5 (.bool m5)))
  clear hba B_0 HB_0 B_1
  repeat (first | go_values | go_skip | go_guarded | go_step | go_upon | go_back)
  refine bodyPost_ret (v := .agg #[.slice am m0.length pm, .int .i64 m1, .int .i64 m2, .int .i64 m3, .bool m4, .bool m5]) (by simp [results, Tryz.results76, go_sem, f0, f1, f2, f3, f4, f5]) rfl ⟨rfl, ?_⟩
  iterate 6 refine Below.setCell ?_ (by dsimp only; omega) _
  exact HB_1.out
theorem master_is {brr arr : Array Value} {l : List (Int × Bool × Int × Int)} {qu : Int} {mw : Int} {mr : Int} {ms : Int} {lm : Int} {now : Int} {M : List (List (Bool × Int × Int × Int × Bool × List Int) × Int × Int × Int × Bool × Bool)} {tu : Int} {cr : Int} {bk : List (Int × Int)} {sp : List Int} {ho : Int} {he : Int} {la : Int} {av : Bool} {aw : Int} {ab : Int} {af : Bool} {ay : Int} {al : Int} {ar : Int} {az : Bool} {dv : Bool} {dw : Int} {db : Int} {df : Bool} {dy : Int} {dl : Int} {dr : Int} {dz : Bool} {mem : List Int} {rg : List Int} {ti : Int} {ff : List Int} {pk : Int} {lg : List (Int × Int × Bool × Int × Int × Int × Int)} {Al : Option Addr} {Pl : Nat} {AM : Option Addr} {PM : Nat} {Abk : Option Addr} {Pbk : Nat} {Asp : Option Addr} {Psp : Nat} {Amem : Option Addr} {Pmem : Nat} {Arg : Option Addr} {Prg : Nat} {Aff : Option Addr} {Pff : Nat} {Alg : Option Addr} {Plg : Nat} {nl nM nb ns ng : Nat} {bv : Bool} {bw : Int} {bb : Int} {bf : Bool} {by_ : Int} {bl : Int} {br : Int} {bz : Bool} {w y : World} (v : BV arr l qu mw mr ms lm now M tu cr bk sp ho he la av aw ab af ay al ar az dv dw db df dy dl dr dz mem rg ti ff pk lg Al Pl AM PM Abk Pbk Asp Psp Amem Pmem Arg Prg Aff Pff Alg Plg nl nM nb ns ng w) (z : BZ 0 l M bk sp mem rg ff lg) (pb : PB brr arr bv bw bb bf by_ bl br bz) (hb : Below w.heap.size w y) {j : Nat} {b o : Nat} (hA : AM = some ⟨b, o, none⟩) (hj : bw = (j : Int)) (hjn : j < nM) {am : Option Addr} {pm : Nat} {m0 : List ReqX} {m1 m2 m3 : Int} {m4 m5 : Bool} (lt : b < w.heap.size) (E0 : w.cell? ⟨b, o + j * 6, none⟩ = some (.slice am m0.length pm)) (E1 : w.cell? ⟨b, o + j * 6 + 1, none⟩ = some (.int .i64 m1)) (E2 : w.cell? ⟨b, o + j * 6 + 2, none⟩ = some (.int .i64 m2)) (E3 : w.cell? ⟨b, o + j * 6 + 3, none⟩ = some (.int .i64 m3)) (E4 : w.cell? ⟨b, o + j * 6 + 4, none⟩ = some (.bool m4)) (E5 : w.cell? ⟨b, o + j * 6 + 5, none⟩ = some (.bool m5)) :
    Calls Tryz.prog 76 #[.agg brr] y fun e w' => e = .returned (.agg #[.slice am m0.length pm, .int .i64 m1, .int .i64 m2, .int .i64 m3, .bool m4, .bool m5]) ∧ Below y.heap.size y w' :=
  implMaster (v.later hb) z pb hA hj hjn (Nat.lt_of_lt_of_le lt hb.size) ((bel_cells hb lt _).trans E0) ((bel_cells hb lt _).trans E1) ((bel_cells hb lt _).trans E2) ((bel_cells hb lt _).trans E3) ((bel_cells hb lt _).trans E4) ((bel_cells hb lt _).trans E5)
set_option maxHeartbeats 16000000 in
set_option maxRecDepth 100000 in
theorem implResp {brr arr : Array Value} {l : List (Int × Bool × Int × Int)} {qu : Int} {mw : Int} {mr : Int} {ms : Int} {lm : Int} {now : Int} {M : List (List (Bool × Int × Int × Int × Bool × List Int) × Int × Int × Int × Bool × Bool)} {tu : Int} {cr : Int} {bk : List (Int × Int)} {sp : List Int} {ho : Int} {he : Int} {la : Int} {av : Bool} {aw : Int} {ab : Int} {af : Bool} {ay : Int} {al : Int} {ar : Int} {az : Bool} {dv : Bool} {dw : Int} {db : Int} {df : Bool} {dy : Int} {dl : Int} {dr : Int} {dz : Bool} {mem : List Int} {rg : List Int} {ti : Int} {ff : List Int} {pk : Int} {lg : List (Int × Int × Bool × Int × Int × Int × Int)} {Al : Option Addr} {Pl : Nat} {AM : Option Addr} {PM : Nat} {Abk : Option Addr} {Pbk : Nat} {Asp : Option Addr} {Psp : Nat} {Amem : Option Addr} {Pmem : Nat} {Arg : Option Addr} {Prg : Nat} {Aff : Option Addr} {Pff : Nat} {Alg : Option Addr} {Plg : Nat} {nl nM nb ns ng : Nat} {bv : Bool} {bw : Int} {bb : Int} {bf : Bool} {by_ : Int} {bl : Int} {br : Int} {bz : Bool} {w : World} (v : BV arr l qu mw mr ms lm now M tu cr bk sp ho he la av aw ab af ay al ar az dv dw db df dy dl dr dz mem rg ti ff pk lg Al Pl AM PM Abk Pbk Asp Psp Amem Pmem Arg Prg Aff Pff Alg Plg nl nM nb ns ng w) (z : BZ 0 l M bk sp mem rg ff lg) (pb : PB brr arr bv bw bb bf by_ bl br bz) {j : Nat} {b o : Nat} (hA : AM = some ⟨b, o, none⟩) (hj : bw = (j : Int)) (hjn : j < nM) {am : Option Addr} {pm : Nat} {m0 : List ReqX} {m1 m2 m3 : Int} {m4 m5 : Bool} (lt : b < w.heap.size) (E0 : w.cell? ⟨b, o + j * 6, none⟩ = some (.slice am m0.length pm)) (E1 : w.cell? ⟨b, o + j * 6 + 1, none⟩ = some (.int .i64 m1)) (E2 : w.cell? ⟨b, o + j * 6 + 2, none⟩ = some (.int .i64 m2)) (E3 : w.cell? ⟨b, o + j * 6 + 3, none⟩ = some (.int .i64 m3)) (E4 : w.cell? ⟨b, o + j * 6 + 4, none⟩ = some (.bool m4)) (E5 : w.cell? ⟨b, o + j * 6 + 5, none⟩ = some (.bool m5)) :
    Calls Tryz.prog 77 #[.agg brr] w fun e w' => e = .returned (.bool (tt (RespP mr ho bw br m3 m4))) ∧ Below w.heap.size w w' := by
  have HV := Lib.hid v
  have HZ := Lib.hid z
  have HP := Lib.hid pb
  clear v z pb
  have B := Bx.new 121 brr w
  have hb0 := (Below.refl w.heap.size w).alloc (Nat.le_refl _) (Obj.cells brr 121)
  obtain ⟨y0, hy0⟩ : ∃ y, w.alloc (Obj.cells brr 121) = y := ⟨_, rfl⟩
  rw [hy0] at B hb0
  have B_0 := Lib.hid B
  have HB_0 := Lib.hid hb0
  clear B hb0
  obtain ⟨R, hR0⟩ : ∃ R, (tt (RespP mr ho bw br m3 m4)) = R := ⟨_, rfl⟩
  rw [hR0]
  have HR := Lib.hid hR0
  clear hR0
  have gB43 := B_0.out.cell 43 _ HP.out.d6
  have HE := Lib.hid (And.intro lt (And.intro E0 (And.intro E1 (And.intro E2 (And.intro E3 (And.intro E4 E5))))))
  clear lt E0 E1 E2 E3 E4 E5
  have HA := Lib.hid hA
  have HJ := Lib.hid hj
  clear hA hj
  go_enter Tryz.func77, Tryz.ntmps77
  by_cases h0 : br = 0
  · subst h0
    have hf : R = true := by
      rw [← HR.out]
      exact tt_yes (.inl rfl)
    subst hf
    repeat (first | go_values | go_skip | go_guarded | go_step | go_upon | go_back)
    go_ret
    exact ⟨rfl, HB_0.out⟩
  have h0b : (br == 0) = false := by simp [h0]
  have h0c : decide (br = 0) = false := by simp [h0]
  by_cases h1 : br = 1
  · subst h1
    have hf : R = true := by
      rw [← HR.out]
      exact tt_yes (.inr (.inl rfl))
    subst hf
    repeat (first | go_values | go_skip | go_guarded | go_step | go_upon | go_back)
    go_ret
    exact ⟨rfl, HB_0.out⟩
  have h1b : (br == 1) = false := by simp [h1]
  have h1c : decide (br = 1) = false := by simp [h1]
  by_cases h2 : br = 2
  · subst h2
    go_upto_region 6 with fail
    clear hy0 gB43
    have gB0 := fun d os => cell_regrown (B_0.out.cell 0 _ ((HP.out.low 0 (by decide)).trans HV.out.c0)) d os
    have gB1 := fun d os => cell_regrown (B_0.out.cell 1 _ ((HP.out.low 1 (by decide)).trans HV.out.c1)) d os
    have gB2 := fun d os => cell_regrown (B_0.out.cell 2 _ ((HP.out.low 2 (by decide)).trans HV.out.c2)) d os
    have gB3 := fun d os => cell_regrown (B_0.out.cell 3 _ ((HP.out.low 3 (by decide)).trans HV.out.c3)) d os
    have gB4 := fun d os => cell_regrown (B_0.out.cell 4 _ ((HP.out.low 4 (by decide)).trans HV.out.c4)) d os
    have gB5 := fun d os => cell_regrown (B_0.out.cell 5 _ ((HP.out.low 5 (by decide)).trans HV.out.c5)) d os
    have hfd3 : ∀ w, (Instr.field 70 (.agg #[.slice am m0.length pm, .int .i64 m1, .int .i64 m2, .int .i64 m3, .bool m4, .bool m5]) 3).run Tryz.prog w = .ok (.int .i64 m3) w := fun _ => by kernel_rfl
    by_cases ht : m3 < mr
    · have ht2 : decide (m3 < mr) = true := decide_eq_true ht
      have HT := Lib.hid ht
      clear ht
      refine wp_region_quiet_below (by kernel_rfl) (by kernel_rfl) ?_
      repeat (first
        | (go_big_quiet_want; refine quiet_load (T := 121) (x := .tmp 1) (g := w.heap.size) (cs := brr) rfl rfl B_0.out Tryz.underlying121 rfl (by rw [HP.out.size]; kernel_rfl) ?_; simp only [Act.put, List.setIfInBounds_toArray, List.set_cons_succ, List.set_cons_zero]; go_big_quiet_on)
        | go_big_quiet_step (first
        | (go_at_call 76; exact Calls.regrown_of (master_is HV.out HZ.out HP.out (below_rg HB_0.out _ _) HA.out HJ.out hjn HE.out.1 HE.out.2.1 HE.out.2.2.1 HE.out.2.2.2.1 HE.out.2.2.2.2.1 HE.out.2.2.2.2.2.1 HE.out.2.2.2.2.2.2))))
      refine wpQuiet_nil ?_
      rintro _ ⟨qq, rfl⟩
      have hq := below_regrown y0 qq.d qq.os
      clear gB0 gB1 gB2 gB3 gB4 gB5
      have B_1 := Lib.hid (B_0.out.later hq)
      have HB_1 := Lib.hid (HB_0.out.trans (hq.mono HB_0.out.size))
      clear B_0 HB_0 hq 
      have hf : R = true := by
        rw [← HR.out]
        exact tt_yes (.inr (.inr (.inl ⟨rfl, HT.out⟩)))
      subst hf
      repeat (first | go_values | go_skip | go_guarded | go_step | go_upon | go_back)
      go_ret
      exact ⟨rfl, HB_1.out⟩
    have ht2 : decide (m3 < mr) = false := decide_eq_false ht
    have HT := Lib.hid ht
    clear ht
    refine wp_region_quiet_below (by kernel_rfl) (by kernel_rfl) ?_
    repeat (first
      | (go_big_quiet_want; refine quiet_load (T := 121) (x := .tmp 1) (g := w.heap.size) (cs := brr) rfl rfl B_0.out Tryz.underlying121 rfl (by rw [HP.out.size]; kernel_rfl) ?_; simp only [Act.put, List.setIfInBounds_toArray, List.set_cons_succ, List.set_cons_zero]; go_big_quiet_on)
      | go_big_quiet_step (first
      | (go_at_call 76; exact Calls.regrown_of (master_is HV.out HZ.out HP.out (below_rg HB_0.out _ _) HA.out HJ.out hjn HE.out.1 HE.out.2.1 HE.out.2.2.1 HE.out.2.2.2.1 HE.out.2.2.2.2.1 HE.out.2.2.2.2.2.1 HE.out.2.2.2.2.2.2))))
    refine wpQuiet_nil ?_
    rintro _ ⟨qq, rfl⟩
    have hq := below_regrown y0 qq.d qq.os
    clear gB0 gB1 gB2 gB3 gB4 gB5
    have B_1 := Lib.hid (B_0.out.later hq)
    have HB_1 := Lib.hid (HB_0.out.trans (hq.mono HB_0.out.size))
    clear B_0 HB_0 hq 
    have hf : R = false := by
      rw [← HR.out]
      refine tt_no (fun h => ?_)
      rcases h with h | h | h | h
      · cases h
      · cases h
      · exact HT.out h.2
      · exact absurd h.1 (by decide)
    subst hf
    repeat (first | go_values | go_skip | go_guarded | go_step | go_upon | go_back)
    go_ret
    exact ⟨rfl, HB_1.out⟩
  have h2b : (br == 2) = false := by simp [h2]
  have h2c : decide (br = 2) = false := by simp [h2]
  by_cases h3 : br = 3
  rotate_left
  · have h3b : (br == 3) = false := by simp [h3]
    have h3c : decide (br = 3) = false := by simp [h3]
    have hf : R = false := by
      rw [← HR.out]
      refine tt_no (fun h => ?_)
      rcases h with h | h | h | h
      · exact h0 h
      · exact h1 h
      · exact h2 h.1
      · exact h3 h.1
    subst hf
    repeat (first | go_values | go_skip | go_guarded | go_step | go_upon | go_back)
    go_ret
    exact ⟨rfl, HB_0.out⟩
  subst h3
  go_upto_region 8 with fail
  clear hy0 gB43
  have gB12 := fun d os => cell_regrown (B_0.out.cell 12 _ ((HP.out.low 12 (by decide)).trans HV.out.c12)) d os
  have gB38 := fun d os => cell_regrown (B_0.out.cell 38 _ HP.out.d1) d os
  have hfd4 : ∀ w, (Instr.field 70 (.agg #[.slice am m0.length pm, .int .i64 m1, .int .i64 m2, .int .i64 m3, .bool m4, .bool m5]) 4).run Tryz.prog w = .ok (.bool m4) w := fun _ => by kernel_rfl
  cases m4
  rotate_left
  · skip
    refine wp_region_det ?_
    repeat (first
      | (go_big_quiet_want; refine quiet_load (T := 121) (x := .tmp 1) (g := w.heap.size) (cs := brr) rfl rfl B_0.out Tryz.underlying121 rfl (by rw [HP.out.size]; kernel_rfl) ?_; simp only [Act.put, List.setIfInBounds_toArray, List.set_cons_succ, List.set_cons_zero]; go_big_quiet_on)
      | go_big_quiet_step (first
      | (go_at_call 76; exact Calls.regrown_of (master_is HV.out HZ.out HP.out (below_rg HB_0.out _ _) HA.out HJ.out hjn HE.out.1 HE.out.2.1 HE.out.2.2.1 HE.out.2.2.2.1 HE.out.2.2.2.2.1 HE.out.2.2.2.2.2.1 HE.out.2.2.2.2.2.2))))
    refine wpQuiet_nil ?_
    rintro _ ⟨qq, rfl⟩
    have hq := below_regrown y0 qq.d qq.os
    clear gB12 gB38
    have B_1 := Lib.hid (B_0.out.later hq)
    have HB_1 := Lib.hid (HB_0.out.trans (hq.mono HB_0.out.size))
    clear B_0 HB_0 hq 
    have hf : R = false := by
      rw [← HR.out]
      refine tt_no (fun h => ?_)
      rcases h with h | h | h | h
      · cases h
      · cases h
      · exact absurd h.1 (by decide)
      · cases h.2.1
    subst hf
    repeat (first | go_values | go_skip | go_guarded | go_step | go_upon | go_back)
    go_ret
    exact ⟨rfl, HB_1.out⟩
  by_cases hh : ho = bw
  · have hh2 : (bw != ho) = false := by simp [hh]
    have HH := Lib.hid hh
    clear hh
    refine wp_region_det ?_
    repeat (first
      | (go_big_quiet_want; refine quiet_load (T := 121) (x := .tmp 1) (g := w.heap.size) (cs := brr) rfl rfl B_0.out Tryz.underlying121 rfl (by rw [HP.out.size]; kernel_rfl) ?_; simp only [Act.put, List.setIfInBounds_toArray, List.set_cons_succ, List.set_cons_zero]; go_big_quiet_on)
      | go_big_quiet_step (first
      | (go_at_call 76; exact Calls.regrown_of (master_is HV.out HZ.out HP.out (below_rg HB_0.out _ _) HA.out HJ.out hjn HE.out.1 HE.out.2.1 HE.out.2.2.1 HE.out.2.2.2.1 HE.out.2.2.2.2.1 HE.out.2.2.2.2.2.1 HE.out.2.2.2.2.2.2))))
    refine wpQuiet_nil ?_
    rintro _ ⟨qq, rfl⟩
    have hq := below_regrown y0 qq.d qq.os
    clear gB12 gB38
    have B_1 := Lib.hid (B_0.out.later hq)
    have HB_1 := Lib.hid (HB_0.out.trans (hq.mono HB_0.out.size))
    clear B_0 HB_0 hq 
    have hf : R = false := by
      rw [← HR.out]
      refine tt_no (fun h => ?_)
      rcases h with h | h | h | h
      · cases h
      · cases h
      · exact absurd h.1 (by decide)
      · exact h.2.2 HH.out
    subst hf
    repeat (first | go_values | go_skip | go_guarded | go_step | go_upon | go_back)
    go_ret
    exact ⟨rfl, HB_1.out⟩
  have hh2 : (bw != ho) = true := by simp; exact fun e => hh e.symm
  have HH := Lib.hid hh
  clear hh
  refine wp_region_det ?_
  repeat (first
    | (go_big_quiet_want; refine quiet_load (T := 121) (x := .tmp 1) (g := w.heap.size) (cs := brr) rfl rfl B_0.out Tryz.underlying121 rfl (by rw [HP.out.size]; kernel_rfl) ?_; simp only [Act.put, List.setIfInBounds_toArray, List.set_cons_succ, List.set_cons_zero]; go_big_quiet_on)
    | go_big_quiet_step (first
    | (go_at_call 76; exact Calls.regrown_of (master_is HV.out HZ.out HP.out (below_rg HB_0.out _ _) HA.out HJ.out hjn HE.out.1 HE.out.2.1 HE.out.2.2.1 HE.out.2.2.2.1 HE.out.2.2.2.2.1 HE.out.2.2.2.2.2.1 HE.out.2.2.2.2.2.2))))
  refine wpQuiet_nil ?_
  rintro _ ⟨qq, rfl⟩
  have hq := below_regrown y0 qq.d qq.os
  clear gB12 gB38
  have B_1 := Lib.hid (B_0.out.later hq)
  have HB_1 := Lib.hid (HB_0.out.trans (hq.mono HB_0.out.size))
  clear B_0 HB_0 hq 
  have hf : R = true := by
    rw [← HR.out]
    exact tt_yes (.inr (.inr (.inr ⟨rfl, rfl, HH.out⟩)))
  subst hf
  repeat (first | go_values | go_skip | go_guarded | go_step | go_upon | go_back)
  go_ret
  exact ⟨rfl, HB_1.out⟩
set_option maxHeartbeats 16000000 in
set_option maxRecDepth 100000 in
theorem implSecond {brr arr : Array Value} {l : List (Int × Bool × Int × Int)} {qu : Int} {mw : Int} {mr : Int} {ms : Int} {lm : Int} {now : Int} {M : List (List (Bool × Int × Int × Int × Bool × List Int) × Int × Int × Int × Bool × Bool)} {tu : Int} {cr : Int} {bk : List (Int × Int)} {sp : List Int} {ho : Int} {he : Int} {la : Int} {av : Bool} {aw : Int} {ab : Int} {af : Bool} {ay : Int} {al : Int} {ar : Int} {az : Bool} {dv : Bool} {dw : Int} {db : Int} {df : Bool} {dy : Int} {dl : Int} {dr : Int} {dz : Bool} {mem : List Int} {rg : List Int} {ti : Int} {ff : List Int} {pk : Int} {lg : List (Int × Int × Bool × Int × Int × Int × Int)} {Al : Option Addr} {Pl : Nat} {AM : Option Addr} {PM : Nat} {Abk : Option Addr} {Pbk : Nat} {Asp : Option Addr} {Psp : Nat} {Amem : Option Addr} {Pmem : Nat} {Arg : Option Addr} {Prg : Nat} {Aff : Option Addr} {Pff : Nat} {Alg : Option Addr} {Plg : Nat} {nl nM nb ns ng : Nat} {bv : Bool} {bw : Int} {bb : Int} {bf : Bool} {by_ : Int} {bl : Int} {br : Int} {bz : Bool} {w : World} (v : BV arr l qu mw mr ms lm now M tu cr bk sp ho he la av aw ab af ay al ar az dv dw db df dy dl dr dz mem rg ti ff pk lg Al Pl AM PM Abk Pbk Asp Psp Amem Pmem Arg Prg Aff Pff Alg Plg nl nM nb ns ng w) (z : BZ 0 l M bk sp mem rg ff lg) (pb : PB brr arr bv bw bb bf by_ bl br bz)  :
    Calls Tryz.prog 78 #[.agg brr] w fun e w' => e = .returned (.bool (secB av bl br)) ∧ Below w.heap.size w w' := by
  have HV := Lib.hid v
  have HZ := Lib.hid z
  have HP := Lib.hid pb
  clear v z pb
  have B := Bx.new 121 brr w
  have hb0 := (Below.refl w.heap.size w).alloc (Nat.le_refl _) (Obj.cells brr 121)
  obtain ⟨y0, hy0⟩ : ∃ y, w.alloc (Obj.cells brr 121) = y := ⟨_, rfl⟩
  rw [hy0] at B hb0
  have B_0 := Lib.hid B
  have HB_0 := Lib.hid hb0
  clear B hb0
  obtain ⟨R, hR0⟩ : ∃ R, (secB av bl br) = R := ⟨_, rfl⟩
  rw [hR0]
  have HR := Lib.hid hR0
  clear hR0
  go_enter Tryz.func78, Tryz.ntmps78
  go_upto_region 1 with fail
  clear hy0
  have gB15 := fun d os => cell_regrown (B_0.out.cell 15 _ ((HP.out.low 15 (by decide)).trans HV.out.c15)) d os
  have gB42 := fun d os => cell_regrown (B_0.out.cell 42 _ HP.out.d5) d os
  have gB43 := fun d os => cell_regrown (B_0.out.cell 43 _ HP.out.d6) d os
  by_cases h1 : bl = 0
  rotate_left
  · have h1b : (bl == 0) = false := by simp [h1]
    have hf : R = false := by rw [← HR.out]; unfold secB; rw [h1b]; rfl
    subst hf
    refine wp_region_det ?_
    repeat (go_big_quiet_step (fail))
    refine wpQuiet_nil ?_
    rintro _ ⟨qq, rfl⟩
    have hq := below_regrown y0 qq.d qq.os
    clear gB15 gB42 gB43
    have B_1 := Lib.hid (B_0.out.later hq)
    have HB_1 := Lib.hid (HB_0.out.trans (hq.mono HB_0.out.size))
    clear B_0 HB_0 hq 
    repeat (first | go_values | go_skip | go_guarded | go_step | go_upon | go_back)
    go_ret
    exact ⟨rfl, HB_1.out⟩
  subst h1
  by_cases h2 : br = 0
  · subst h2
    have hf : R = false := by rw [← HR.out]; unfold secB; rfl
    subst hf
    refine wp_region_det ?_
    repeat (go_big_quiet_step (fail))
    refine wpQuiet_nil ?_
    rintro _ ⟨qq, rfl⟩
    have hq := below_regrown y0 qq.d qq.os
    clear gB15 gB42 gB43
    have B_1 := Lib.hid (B_0.out.later hq)
    have HB_1 := Lib.hid (HB_0.out.trans (hq.mono HB_0.out.size))
    clear B_0 HB_0 hq 
    repeat (first | go_values | go_skip | go_guarded | go_step | go_upon | go_back)
    go_ret
    exact ⟨rfl, HB_1.out⟩
  have h2b : (br != 0) = true := by simp [h2]
  cases av
  · skip
    have hf : R = true := by rw [← HR.out]; unfold secB; rw [h2b]; rfl
    subst hf
    refine wp_region_det ?_
    repeat (go_big_quiet_step (fail))
    refine wpQuiet_nil ?_
    rintro _ ⟨qq, rfl⟩
    have hq := below_regrown y0 qq.d qq.os
    clear gB15 gB42 gB43
    have B_1 := Lib.hid (B_0.out.later hq)
    have HB_1 := Lib.hid (HB_0.out.trans (hq.mono HB_0.out.size))
    clear B_0 HB_0 hq 
    repeat (first | go_values | go_skip | go_guarded | go_step | go_upon | go_back)
    go_ret
    exact ⟨rfl, HB_1.out⟩
  have hf : R = false := by rw [← HR.out]; unfold secB; rw [h2b]; rfl
  subst hf
  refine wp_region_det ?_
  repeat (go_big_quiet_step (fail))
  refine wpQuiet_nil ?_
  rintro _ ⟨qq, rfl⟩
  have hq := below_regrown y0 qq.d qq.os
  clear gB15 gB42 gB43
  have B_1 := Lib.hid (B_0.out.later hq)
  have HB_1 := Lib.hid (HB_0.out.trans (hq.mono HB_0.out.size))
  clear B_0 HB_0 hq 
  repeat (first | go_values | go_skip | go_guarded | go_step | go_upon | go_back)
  go_ret
  exact ⟨rfl, HB_1.out⟩

end Go.Proofs.YtdhaelaoackfkaaGreat.KD

namespace Go.Proofs.YtdhaelaoackfkaaGreat.KD
open Go.RowKit Rows3 GR Num
set_option linter.unusedVariables false
/-- the masters' counts are small. -/
def MstsBd (M : List MstX) : Prop := ∀ (i : Nat) m, M[i]? = some m → 0 ≤ m.2.2.1 ∧ m.2.2.1 ≤ m.2.1 ∧ m.2.1 ≤ 100
theorem wp_build2 {P : Program} {o : Oper} {a : Act} {w : World} {K : Act → World → Prop} {Q : Exit → Act → World → Prop} (t : TypeId) (i1 : Nat) (x1 : Operand) (i2 : Nat) (x2 : Operand) (ho : o.op = .build t #[(i1, x1), (i2, x2)]) (v1 v2 : Value) (h1 : a.eval x1 = v1) (h2 : a.eval x2 = v2) (cells : Array Value)
    (hf : P.built t [(i1, v1), (i2, v2)] = some cells) (h : K (a.put o.dst (.agg cells)) w) : o.wp P a w K Q :=
  wp_build_at t _ ho cells (by simp only [List.map_toArray, List.map_cons, List.map_nil, h1, h2]; exact hf) h
theorem live_is {brr arr : Array Value} {l : List (Int × Bool × Int × Int)} {qu : Int} {mw : Int} {mr : Int} {ms : Int} {lm : Int} {now : Int} {M : List (List (Bool × Int × Int × Int × Bool × List Int) × Int × Int × Int × Bool × Bool)} {tu : Int} {cr : Int} {bk : List (Int × Int)} {sp : List Int} {ho : Int} {he : Int} {la : Int} {av : Bool} {aw : Int} {ab : Int} {af : Bool} {ay : Int} {al : Int} {ar : Int} {az : Bool} {dv : Bool} {dw : Int} {db : Int} {df : Bool} {dy : Int} {dl : Int} {dr : Int} {dz : Bool} {mem : List Int} {rg : List Int} {ti : Int} {ff : List Int} {pk : Int} {lg : List (Int × Int × Bool × Int × Int × Int × Int)} {Al : Option Addr} {Pl : Nat} {AM : Option Addr} {PM : Nat} {Abk : Option Addr} {Pbk : Nat} {Asp : Option Addr} {Psp : Nat} {Amem : Option Addr} {Pmem : Nat} {Arg : Option Addr} {Prg : Nat} {Aff : Option Addr} {Pff : Nat} {Alg : Option Addr} {Plg : Nat} {nl nM nb ns ng : Nat} {bv : Bool} {bw : Int} {bb : Int} {bf : Bool} {by_ : Int} {bl : Int} {br : Int} {bz : Bool} {w y : World} {c : Bool} (hc : tt (LiveP sp bw by_) = c) (v : BV arr l qu mw mr ms lm now M tu cr bk sp ho he la av aw ab af ay al ar az dv dw db df dy dl dr dz mem rg ti ff pk lg Al Pl AM PM Abk Pbk Asp Psp Amem Pmem Arg Prg Aff Pff Alg Plg nl nM nb ns ng w) (z : BZ 0 l M bk sp mem rg ff lg) (pb : PB brr arr bv bw bb bf by_ bl br bz) (hb : Below w.heap.size w y) (hls : sp.length = l.length) :
    Calls Tryz.prog 75 #[.agg brr] y fun e w' => e = .returned (.bool c) ∧ Below y.heap.size y w' := hc ▸ implLive (v.later hb) z pb hls
theorem second_is {brr arr : Array Value} {l : List (Int × Bool × Int × Int)} {qu : Int} {mw : Int} {mr : Int} {ms : Int} {lm : Int} {now : Int} {M : List (List (Bool × Int × Int × Int × Bool × List Int) × Int × Int × Int × Bool × Bool)} {tu : Int} {cr : Int} {bk : List (Int × Int)} {sp : List Int} {ho : Int} {he : Int} {la : Int} {av : Bool} {aw : Int} {ab : Int} {af : Bool} {ay : Int} {al : Int} {ar : Int} {az : Bool} {dv : Bool} {dw : Int} {db : Int} {df : Bool} {dy : Int} {dl : Int} {dr : Int} {dz : Bool} {mem : List Int} {rg : List Int} {ti : Int} {ff : List Int} {pk : Int} {lg : List (Int × Int × Bool × Int × Int × Int × Int)} {Al : Option Addr} {Pl : Nat} {AM : Option Addr} {PM : Nat} {Abk : Option Addr} {Pbk : Nat} {Asp : Option Addr} {Psp : Nat} {Amem : Option Addr} {Pmem : Nat} {Arg : Option Addr} {Prg : Nat} {Aff : Option Addr} {Pff : Nat} {Alg : Option Addr} {Plg : Nat} {nl nM nb ns ng : Nat} {bv : Bool} {bw : Int} {bb : Int} {bf : Bool} {by_ : Int} {bl : Int} {br : Int} {bz : Bool} {w y : World} {c : Bool} (hc : secB av bl br = c) (v : BV arr l qu mw mr ms lm now M tu cr bk sp ho he la av aw ab af ay al ar az dv dw db df dy dl dr dz mem rg ti ff pk lg Al Pl AM PM Abk Pbk Asp Psp Amem Pmem Arg Prg Aff Pff Alg Plg nl nM nb ns ng w) (z : BZ 0 l M bk sp mem rg ff lg) (pb : PB brr arr bv bw bb bf by_ bl br bz) (hb : Below w.heap.size w y) :
    Calls Tryz.prog 78 #[.agg brr] y fun e w' => e = .returned (.bool c) ∧ Below y.heap.size y w' := hc ▸ implSecond (v.later hb) z pb
theorem resp_is {brr arr : Array Value} {l : List (Int × Bool × Int × Int)} {qu : Int} {mw : Int} {mr : Int} {ms : Int} {lm : Int} {now : Int} {M : List (List (Bool × Int × Int × Int × Bool × List Int) × Int × Int × Int × Bool × Bool)} {tu : Int} {cr : Int} {bk : List (Int × Int)} {sp : List Int} {ho : Int} {he : Int} {la : Int} {av : Bool} {aw : Int} {ab : Int} {af : Bool} {ay : Int} {al : Int} {ar : Int} {az : Bool} {dv : Bool} {dw : Int} {db : Int} {df : Bool} {dy : Int} {dl : Int} {dr : Int} {dz : Bool} {mem : List Int} {rg : List Int} {ti : Int} {ff : List Int} {pk : Int} {lg : List (Int × Int × Bool × Int × Int × Int × Int)} {Al : Option Addr} {Pl : Nat} {AM : Option Addr} {PM : Nat} {Abk : Option Addr} {Pbk : Nat} {Asp : Option Addr} {Psp : Nat} {Amem : Option Addr} {Pmem : Nat} {Arg : Option Addr} {Prg : Nat} {Aff : Option Addr} {Pff : Nat} {Alg : Option Addr} {Plg : Nat} {nl nM nb ns ng : Nat} {bv : Bool} {bw : Int} {bb : Int} {bf : Bool} {by_ : Int} {bl : Int} {br : Int} {bz : Bool} {w y : World} {c : Bool} {m3 : Int} {m4 : Bool} (hc : tt (RespP mr ho bw br m3 m4) = c) (v : BV arr l qu mw mr ms lm now M tu cr bk sp ho he la av aw ab af ay al ar az dv dw db df dy dl dr dz mem rg ti ff pk lg Al Pl AM PM Abk Pbk Asp Psp Amem Pmem Arg Prg Aff Pff Alg Plg nl nM nb ns ng w) (z : BZ 0 l M bk sp mem rg ff lg) (pb : PB brr arr bv bw bb bf by_ bl br bz) (hb : Below w.heap.size w y) {j : Nat} {b o : Nat} (hA : AM = some ⟨b, o, none⟩) (hj : bw = (j : Int)) (hjn : j < nM) {am : Option Addr} {pm : Nat} {m0 : List ReqX} {m1 m2 : Int} {m5 : Bool} (lt : b < w.heap.size) (E0 : w.cell? ⟨b, o + j * 6, none⟩ = some (.slice am m0.length pm)) (E1 : w.cell? ⟨b, o + j * 6 + 1, none⟩ = some (.int .i64 m1)) (E2 : w.cell? ⟨b, o + j * 6 + 2, none⟩ = some (.int .i64 m2)) (E3 : w.cell? ⟨b, o + j * 6 + 3, none⟩ = some (.int .i64 m3)) (E4 : w.cell? ⟨b, o + j * 6 + 4, none⟩ = some (.bool m4)) (E5 : w.cell? ⟨b, o + j * 6 + 5, none⟩ = some (.bool m5)) :
    Calls Tryz.prog 77 #[.agg brr] y fun e w' => e = .returned (.bool c) ∧ Below y.heap.size y w' :=
  hc ▸ implResp (v.later hb) z pb hA hj hjn (Nat.lt_of_lt_of_le lt hb.size) ((bel_cells hb lt _).trans E0) ((bel_cells hb lt _).trans E1) ((bel_cells hb lt _).trans E2) ((bel_cells hb lt _).trans E3) ((bel_cells hb lt _).trans E4) ((bel_cells hb lt _).trans E5)
set_option maxHeartbeats 16000000 in
set_option maxRecDepth 100000 in
theorem implAddr (arr : Array Value) (l : List (Int × Bool × Int × Int)) (qu : Int) (mw : Int) (mr : Int) (ms : Int) (lm : Int) (now : Int) (M : List (List (Bool × Int × Int × Int × Bool × List Int) × Int × Int × Int × Bool × Bool)) (tu : Int) (cr : Int) (bk : List (Int × Int)) (sp : List Int) (ho : Int) (he : Int) (la : Int) (av : Bool) (aw : Int) (ab : Int) (af : Bool) (ay : Int) (al : Int) (ar : Int) (az : Bool) (dv : Bool) (dw : Int) (db : Int) (df : Bool) (dy : Int) (dl : Int) (dr : Int) (dz : Bool) (mem : List Int) (rg : List Int) (ti : Int) (ff : List Int) (pk : Int) (lg : List (Int × Int × Bool × Int × Int × Int × Int)) (Al : Option Addr) (Pl : Nat) (AM : Option Addr) (PM : Nat) (Abk : Option Addr) (Pbk : Nat) (Asp : Option Addr) (Psp : Nat) (Amem : Option Addr) (Pmem : Nat) (Arg : Option Addr) (Prg : Nat) (Aff : Option Addr) (Pff : Nat) (Alg : Option Addr) (Plg : Nat) (nl nM nb ns ng : Nat) (w : World) (v : BV arr l qu mw mr ms lm now M tu cr bk sp ho he la av aw ab af ay al ar az dv dw db df dy dl dr dz mem rg ti ff pk lg Al Pl AM PM Abk Pbk Asp Psp Amem Pmem Arg Prg Aff Pff Alg Plg nl nM nb ns ng w) (z : BZ 0 l M bk sp mem rg ff lg) (hlM : M.length = l.length) (hls : sp.length = l.length) (hbd : MstsBd M) :
    Calls Tryz.prog 38 #[.agg arr] w fun e w' => e = .returned (.bool (tt (AddrP M sp av aw ab af ay al ar az))) ∧ Below w.heap.size w w' := by
  have HV := Lib.hid v
  have HZ := Lib.hid z
  clear v z
  obtain ⟨R, hR0⟩ : ∃ R, (tt (AddrP M sp av aw ab af ay al ar az)) = R := ⟨_, rfl⟩
  rw [hR0]
  have HR := Lib.hid hR0
  clear hR0
  have B := Bx.new 53 arr w
  have hb0 := (Below.refl w.heap.size w).alloc (Nat.le_refl _) (Obj.cells arr 53)
  obtain ⟨y0, hy0⟩ : ∃ y, w.alloc (Obj.cells arr 53) = y := ⟨_, rfl⟩
  rw [hy0] at B hb0
  have B_0 := Lib.hid B
  have HB_0 := Lib.hid hb0
  clear B hb0
  have HLM := Lib.hid hlM
  have HLS := Lib.hid hls
  have HBD := Lib.hid hbd
  clear hlM hls hbd
  go_enter Tryz.func38, Tryz.ntmps38
  have gB15 := B_0.out.cell 15 _ HV.out.c15
  have gB16 := B_0.out.cell 16 _ HV.out.c16
  have gB17 := B_0.out.cell 17 _ HV.out.c17
  have gB18 := B_0.out.cell 18 _ HV.out.c18
  have gB19 := B_0.out.cell 19 _ HV.out.c19
  have gB20 := B_0.out.cell 20 _ HV.out.c20
  have gB21 := B_0.out.cell 21 _ HV.out.c21
  have gB22 := B_0.out.cell 22 _ HV.out.c22
  cases av
  · skip
    have hq := fun w => eqlBeat false aw ab af ay al ar az false 0 0 false 0 0 0 false w
    have hgd := guardBeat
    obtain ⟨c, hc⟩ : ∃ c, same ((false, aw, ab, af, ay, al, ar, az) : Bool × Int × Int × Bool × Int × Int × Int × Bool) (false, 0, 0, false, 0, 0, 0, false) = c := ⟨_, rfl⟩
    rw [hc] at hq
    have hf : R = c := by rw [← HR.out, ← hc]; exact tt_congr (by unfold AddrP; rw [if_neg (by decide)])
    subst hf
    clear hc
    repeat (first | go_values | go_skip | go_guarded | go_step | go_upon | go_back)
    go_ret
    exact ⟨rfl, HB_0.out⟩
  obtain ⟨brr, hbb, pb, hones⟩ := beatOn_built HV.out true aw ab af ay al ar az
  have HP := Lib.hid pb
  have HBB := Lib.hid hbb
  have HON := Lib.hid hones
  clear pb hbb hones
  obtain ⟨zr, hzr⟩ : ∃ z : Array Value, #[.slice none 0 0, .int .i64 0, .int .i64 0, .int .i64 0, .int .i64 0, .int .i64 0, .int .i64 0, .slice none 0 0, .int .i64 0, .int .i64 0, .slice none 0 0, .slice none 0 0, .int .i64 0, .int .i64 0, .int .i64 0, .bool false, .int .i64 0, .int .i64 0, .bool false, .int .i64 0, .int .i64 0, .int .i64 0, .bool false, .bool false, .int .i64 0, .int .i64 0, .bool false, .int .i64 0, .int .i64 0, .int .i64 0, .bool false, .slice none 0 0, .slice none 0 0, .int .i64 0, .slice none 0 0, .int .i64 0, .slice none 0 0, .bool false, .int .i64 0, .int .i64 0, .bool false, .int .i64 0, .int .i64 0, .int .i64 0, .bool false] = z := ⟨_, rfl⟩
  have HZS : Hid (zr.size = brr.size) := Lib.hid (by rw [← hzr, HP.out.size]; rfl)
  have HI : Hid ((Tryz.prog.info? 121).map (·.size) = some brr.size) := Lib.hid (by rw [HP.out.size]; kernel_rfl)
  have HJ37 : Hid ((Tryz.prog.info? 53).map (·.size) = some arr.size) := Lib.hid (by rw [HV.out.size]; kernel_rfl)
  have hal := (Below.refl y0.heap.size y0).alloc (Nat.le_refl _) (Obj.cells zr 121)
  have hT : Below y0.heap.size y0 ((y0.alloc (Obj.cells zr 121)).setRow y0.heap.size brr) := below_setRow hal (Nat.le_refl _) brr
  have B_1 := Lib.hid (B_0.out.later hT)
  have HB_1 := Lib.hid (HB_0.out.trans (hT.mono HB_0.out.size))
  have X_1 : Hid (Bx 121 y0.heap.size brr ((y0.alloc (Obj.cells zr 121)).setRow y0.heap.size brr)) := Lib.hid (bx_row (Bx.new 121 zr y0))
  clear hal hT
  go_upto_region 3 with fail
  repeat (first | (fail_if_success (refine wp_region_quiet_below (by kernel_rfl) (by kernel_rfl) ?_)); (first | (refine wp_load_row 53 _ rfl w.heap.size rfl 53 arr (0, 0) _ B_0.out Tryz.underlying53 rfl HJ37.out ?_) | (refine wp_build2 121 0 _ 1 _ rfl _ _ rfl rfl brr HBB.out ?_) | (refine wp_store_row 121 _ _ rfl y0.heap.size brr rfl rfl 121 zr (Bx.new _ _ _) HI.out HZS.out HON.out ?_) | go_values | go_skip | go_guarded | go_step | go_upon | go_back))
  generalize ((y0.alloc (Obj.cells zr 121)).setRow y0.heap.size brr) = y1 at B_1 HB_1 X_1 ⊢
  obtain ⟨k1, hk1⟩ : ∃ k, y0.heap.size = k := ⟨_, rfl⟩
  rw [hk1] at X_1 ⊢
  simp only [Act.put]
  clear hy0 hk1 hzr B_0 HB_0 HZS HI HON HBB HJ37 gB15 gB16 gB17 gB18 gB19 gB20 gB21 gB22
  have gX39 := fun d os => cell_regrown (X_1.out.cell 39 _ HP.out.d2) d os
  have gX42 := fun d os => cell_regrown (X_1.out.cell 42 _ HP.out.d5) d os
  have gX43 := fun d os => cell_regrown (X_1.out.cell 43 _ HP.out.d6) d os
  have gX44 := fun d os => cell_regrown (X_1.out.cell 44 _ HP.out.d7) d os
  obtain ⟨c1, hc1⟩ : ∃ c, tt (LiveP sp aw ay) = c := ⟨_, rfl⟩
  have C1 := Lib.hid hc1
  clear hc1
  cases c1
  · skip
    have hf : R = false := by
      rw [← HR.out]
      refine tt_no (fun h => ?_)
      unfold AddrP at h
      rw [if_pos rfl] at h
      obtain ⟨g1, -, k, m, g2, -, g3, -⟩ := h
      exact tt_not C1.out ⟨g1, k, g2, g3⟩
    subst hf
    refine wp_region_quiet_below (by kernel_rfl) (by kernel_rfl) ?_
    repeat (first
      | (go_big_quiet_want; refine quiet_load (T := 121) (x := .tmp 3) (g := k1) (cs := brr) rfl rfl X_1.out Tryz.underlying121 rfl (by rw [HP.out.size]; kernel_rfl) ?_; simp only [Act.put, List.setIfInBounds_toArray, List.set_cons_succ, List.set_cons_zero]; go_big_quiet_on)
      | go_big_quiet_step (first
      | (go_at_call 75; exact Calls.regrown_of (live_is C1.out HV.out HZ.out HP.out (below_rg HB_1.out _ _) HLS.out))))
    refine wpQuiet_nil ?_
    rintro _ ⟨qq, rfl⟩
    have hq := below_regrown y1 qq.d qq.os
    clear gX39 gX42 gX43 gX44
    have B_2 := Lib.hid (B_1.out.later hq)
    have X_2 := Lib.hid (X_1.out.later hq)
    have HB_2 := Lib.hid (HB_1.out.trans (hq.mono HB_1.out.size))
    clear B_1 X_1 HB_1 hq 
    repeat (first | go_values | go_skip | go_guarded | go_step | go_upon | go_back)
    go_ret
    exact ⟨rfl, HB_2.out⟩
  have hlive := tt_of C1.out
  obtain ⟨hy13, j, hj, hs0⟩ := hlive
  have hjn : j < nM := by
    have h5 := (List.getElem?_eq_some_iff.1 hs0).1
    rw [HLS.out, ← HLM.out, HV.out.nM] at h5
    exact h5
  have HY := Lib.hid hy13
  have HJ := Lib.hid hj
  have HS0 := Lib.hid hs0
  clear hy13 hj hs0
  obtain ⟨m, hxm⟩ := get_of (l := M) (i := j) (by rw [HV.out.nM]; exact hjn)
  have HXm := Lib.hid hxm
  obtain ⟨bm, om, _, esm, em, _, _, ltm, cm, rm⟩ := row_rd HV.out.rM hxm
  simp at em
  obtain ⟨rfl, -, rfl⟩ := em
  obtain ⟨m0, m1, m2, m3, m4, m5⟩ := m
  have Rm := Lib.hid rm
  obtain ⟨am, pm, rfl, _⟩ := mst_form rm
  have Em0 := Lib.hid (show w.cell? ⟨bm, om + j * 6, none⟩ = some (.slice am m0.length pm) from cm 0 _ rfl)
  have Em1 := Lib.hid (show w.cell? ⟨bm, om + j * 6 + 1, none⟩ = some (.int .i64 m1) from cm 1 _ rfl)
  have Em2 := Lib.hid (show w.cell? ⟨bm, om + j * 6 + 2, none⟩ = some (.int .i64 m2) from cm 2 _ rfl)
  have Em3 := Lib.hid (show w.cell? ⟨bm, om + j * 6 + 3, none⟩ = some (.int .i64 m3) from cm 3 _ rfl)
  have Em4 := Lib.hid (show w.cell? ⟨bm, om + j * 6 + 4, none⟩ = some (.bool m4) from cm 4 _ rfl)
  have Em5 := Lib.hid (show w.cell? ⟨bm, om + j * 6 + 5, none⟩ = some (.bool m5) from cm 5 _ rfl)
  have LTm := Lib.hid ltm
  clear hxm cm rm ltm
  have hbm := HBD.out j _ HXm.out
  dsimp only at hbm
  obtain ⟨hbm0, hbm1, hbm2⟩ := hbm
  have hfd : ∀ w, (Instr.field 70 (.agg #[.slice am m0.length pm, .int .i64 m1, .int .i64 m2, .int .i64 m3, .bool m4, .bool m5]) 1).run Tryz.prog w = .ok (.int .i64 m1) w := fun _ => by kernel_rfl
  by_cases h2 : ab = m1 - 1
  rotate_left
  · skip
    have h2b : (ab == m1 - 1) = false := by simp [h2]
    have h2d : decide (ab = m1 - 1) = false := decide_eq_false h2
    have H2 := Lib.hid h2
    clear h2
    have hf : R = false := by
      rw [← HR.out]
      refine tt_no (fun h => ?_)
      unfold AddrP at h
      rw [if_pos rfl] at h
      obtain ⟨g1, ⟨g7, g8, g9⟩, k, m, g2, g3, g4, g5⟩ := h
      have h5 : k = j := by have := HJ.out; omega
      subst h5
      rw [HXm.out] at g3
      cases g3
      exact H2.out g5
    subst hf
    refine wp_region_quiet_below (by kernel_rfl) (by kernel_rfl) ?_
    repeat (first
      | (go_big_quiet_want; refine quiet_load (T := 121) (x := .tmp 3) (g := k1) (cs := brr) rfl rfl X_1.out Tryz.underlying121 rfl (by rw [HP.out.size]; kernel_rfl) ?_; simp only [Act.put, List.setIfInBounds_toArray, List.set_cons_succ, List.set_cons_zero]; go_big_quiet_on)
      | go_big_quiet_step (first
      | (go_at_call 75; exact Calls.regrown_of (live_is C1.out HV.out HZ.out HP.out (below_rg HB_1.out _ _) HLS.out))
      | (go_at_call 76; exact Calls.regrown_of (master_is HV.out HZ.out HP.out (below_rg HB_1.out _ _) rfl HJ.out hjn LTm.out Em0.out Em1.out Em2.out Em3.out Em4.out Em5.out))))
    refine wpQuiet_nil ?_
    rintro _ ⟨qq, rfl⟩
    have hq := below_regrown y1 qq.d qq.os
    clear gX39 gX42 gX43 gX44
    have B_2 := Lib.hid (B_1.out.later hq)
    have X_2 := Lib.hid (X_1.out.later hq)
    have HB_2 := Lib.hid (HB_1.out.trans (hq.mono HB_1.out.size))
    clear B_1 X_1 HB_1 hq 
    repeat (first | go_values | go_skip | go_guarded | go_step | go_upon | go_back)
    go_ret
    exact ⟨rfl, HB_2.out⟩
  have h2b : (ab == m1 - 1) = true := by simp [h2]
  have h2d : decide (ab = m1 - 1) = true := decide_eq_true h2
  have H2 := Lib.hid h2
  clear h2
  by_cases h3 : al = 0
  rotate_left
  · skip
    have h3b : (al == 0) = false := by simp [h3]
    have h3d : decide (al = 0) = false := decide_eq_false h3
    have H3 := Lib.hid h3
    clear h3
    have hf : R = false := by
      rw [← HR.out]
      refine tt_no (fun h => ?_)
      unfold AddrP at h
      rw [if_pos rfl] at h
      obtain ⟨g1, ⟨g7, g8, g9⟩, k, m, g2, g3, g4, g5⟩ := h
      exact H3.out g7
    subst hf
    refine wp_region_quiet_below (by kernel_rfl) (by kernel_rfl) ?_
    repeat (first
      | (go_big_quiet_want; refine quiet_load (T := 121) (x := .tmp 3) (g := k1) (cs := brr) rfl rfl X_1.out Tryz.underlying121 rfl (by rw [HP.out.size]; kernel_rfl) ?_; simp only [Act.put, List.setIfInBounds_toArray, List.set_cons_succ, List.set_cons_zero]; go_big_quiet_on)
      | go_big_quiet_step (first
      | (go_at_call 75; exact Calls.regrown_of (live_is C1.out HV.out HZ.out HP.out (below_rg HB_1.out _ _) HLS.out))
      | (go_at_call 76; exact Calls.regrown_of (master_is HV.out HZ.out HP.out (below_rg HB_1.out _ _) rfl HJ.out hjn LTm.out Em0.out Em1.out Em2.out Em3.out Em4.out Em5.out))))
    refine wpQuiet_nil ?_
    rintro _ ⟨qq, rfl⟩
    have hq := below_regrown y1 qq.d qq.os
    clear gX39 gX42 gX43 gX44
    have B_2 := Lib.hid (B_1.out.later hq)
    have X_2 := Lib.hid (X_1.out.later hq)
    have HB_2 := Lib.hid (HB_1.out.trans (hq.mono HB_1.out.size))
    clear B_1 X_1 HB_1 hq 
    repeat (first | go_values | go_skip | go_guarded | go_step | go_upon | go_back)
    go_ret
    exact ⟨rfl, HB_2.out⟩
  subst h3
  by_cases h4 : ar = 0
  rotate_left
  · skip
    have h4b : (ar == 0) = false := by simp [h4]
    have h4d : decide (ar = 0) = false := decide_eq_false h4
    have H4 := Lib.hid h4
    clear h4
    have hf : R = false := by
      rw [← HR.out]
      refine tt_no (fun h => ?_)
      unfold AddrP at h
      rw [if_pos rfl] at h
      obtain ⟨g1, ⟨g7, g8, g9⟩, k, m, g2, g3, g4, g5⟩ := h
      exact H4.out g8
    subst hf
    refine wp_region_quiet_below (by kernel_rfl) (by kernel_rfl) ?_
    repeat (first
      | (go_big_quiet_want; refine quiet_load (T := 121) (x := .tmp 3) (g := k1) (cs := brr) rfl rfl X_1.out Tryz.underlying121 rfl (by rw [HP.out.size]; kernel_rfl) ?_; simp only [Act.put, List.setIfInBounds_toArray, List.set_cons_succ, List.set_cons_zero]; go_big_quiet_on)
      | go_big_quiet_step (first
      | (go_at_call 75; exact Calls.regrown_of (live_is C1.out HV.out HZ.out HP.out (below_rg HB_1.out _ _) HLS.out))
      | (go_at_call 76; exact Calls.regrown_of (master_is HV.out HZ.out HP.out (below_rg HB_1.out _ _) rfl HJ.out hjn LTm.out Em0.out Em1.out Em2.out Em3.out Em4.out Em5.out))))
    refine wpQuiet_nil ?_
    rintro _ ⟨qq, rfl⟩
    have hq := below_regrown y1 qq.d qq.os
    clear gX39 gX42 gX43 gX44
    have B_2 := Lib.hid (B_1.out.later hq)
    have X_2 := Lib.hid (X_1.out.later hq)
    have HB_2 := Lib.hid (HB_1.out.trans (hq.mono HB_1.out.size))
    clear B_1 X_1 HB_1 hq 
    repeat (first | go_values | go_skip | go_guarded | go_step | go_upon | go_back)
    go_ret
    exact ⟨rfl, HB_2.out⟩
  subst h4
  cases az
  rotate_left
  · skip
    have hf : R = false := by
      rw [← HR.out]
      refine tt_no (fun h => ?_)
      unfold AddrP at h
      rw [if_pos rfl] at h
      obtain ⟨g1, ⟨g7, g8, g9⟩, k, m, g2, g3, g4, g5⟩ := h
      cases g9
    subst hf
    refine wp_region_quiet_below (by kernel_rfl) (by kernel_rfl) ?_
    repeat (first
      | (go_big_quiet_want; refine quiet_load (T := 121) (x := .tmp 3) (g := k1) (cs := brr) rfl rfl X_1.out Tryz.underlying121 rfl (by rw [HP.out.size]; kernel_rfl) ?_; simp only [Act.put, List.setIfInBounds_toArray, List.set_cons_succ, List.set_cons_zero]; go_big_quiet_on)
      | go_big_quiet_step (first
      | (go_at_call 75; exact Calls.regrown_of (live_is C1.out HV.out HZ.out HP.out (below_rg HB_1.out _ _) HLS.out))
      | (go_at_call 76; exact Calls.regrown_of (master_is HV.out HZ.out HP.out (below_rg HB_1.out _ _) rfl HJ.out hjn LTm.out Em0.out Em1.out Em2.out Em3.out Em4.out Em5.out))))
    refine wpQuiet_nil ?_
    rintro _ ⟨qq, rfl⟩
    have hq := below_regrown y1 qq.d qq.os
    clear gX39 gX42 gX43 gX44
    have B_2 := Lib.hid (B_1.out.later hq)
    have X_2 := Lib.hid (X_1.out.later hq)
    have HB_2 := Lib.hid (HB_1.out.trans (hq.mono HB_1.out.size))
    clear B_1 X_1 HB_1 hq 
    repeat (first | go_values | go_skip | go_guarded | go_step | go_upon | go_back)
    go_ret
    exact ⟨rfl, HB_2.out⟩
  have hf : R = true := by
    rw [← HR.out]
    refine tt_yes ?_
    unfold AddrP
    rw [if_pos rfl]
    exact ⟨HY.out, ⟨rfl, rfl, rfl⟩, j, _, HJ.out, HXm.out, HS0.out, H2.out⟩
  subst hf
  refine wp_region_quiet_below (by kernel_rfl) (by kernel_rfl) ?_
  repeat (first
    | (go_big_quiet_want; refine quiet_load (T := 121) (x := .tmp 3) (g := k1) (cs := brr) rfl rfl X_1.out Tryz.underlying121 rfl (by rw [HP.out.size]; kernel_rfl) ?_; simp only [Act.put, List.setIfInBounds_toArray, List.set_cons_succ, List.set_cons_zero]; go_big_quiet_on)
    | go_big_quiet_step (first
    | (go_at_call 75; exact Calls.regrown_of (live_is C1.out HV.out HZ.out HP.out (below_rg HB_1.out _ _) HLS.out))
    | (go_at_call 76; exact Calls.regrown_of (master_is HV.out HZ.out HP.out (below_rg HB_1.out _ _) rfl HJ.out hjn LTm.out Em0.out Em1.out Em2.out Em3.out Em4.out Em5.out))))
  refine wpQuiet_nil ?_
  rintro _ ⟨qq, rfl⟩
  have hq := below_regrown y1 qq.d qq.os
  clear gX39 gX42 gX43 gX44
  have B_2 := Lib.hid (B_1.out.later hq)
  have X_2 := Lib.hid (X_1.out.later hq)
  have HB_2 := Lib.hid (HB_1.out.trans (hq.mono HB_1.out.size))
  clear B_1 X_1 HB_1 hq 
  repeat (first | go_values | go_skip | go_guarded | go_step | go_upon | go_back)
  go_ret
  exact ⟨rfl, HB_2.out⟩
set_option maxHeartbeats 16000000 in
set_option maxRecDepth 100000 in
theorem implData (arr : Array Value) (l : List (Int × Bool × Int × Int)) (qu : Int) (mw : Int) (mr : Int) (ms : Int) (lm : Int) (now : Int) (M : List (List (Bool × Int × Int × Int × Bool × List Int) × Int × Int × Int × Bool × Bool)) (tu : Int) (cr : Int) (bk : List (Int × Int)) (sp : List Int) (ho : Int) (he : Int) (la : Int) (av : Bool) (aw : Int) (ab : Int) (af : Bool) (ay : Int) (al : Int) (ar : Int) (az : Bool) (dv : Bool) (dw : Int) (db : Int) (df : Bool) (dy : Int) (dl : Int) (dr : Int) (dz : Bool) (mem : List Int) (rg : List Int) (ti : Int) (ff : List Int) (pk : Int) (lg : List (Int × Int × Bool × Int × Int × Int × Int)) (Al : Option Addr) (Pl : Nat) (AM : Option Addr) (PM : Nat) (Abk : Option Addr) (Pbk : Nat) (Asp : Option Addr) (Psp : Nat) (Amem : Option Addr) (Pmem : Nat) (Arg : Option Addr) (Prg : Nat) (Aff : Option Addr) (Pff : Nat) (Alg : Option Addr) (Plg : Nat) (nl nM nb ns ng : Nat) (w : World) (v : BV arr l qu mw mr ms lm now M tu cr bk sp ho he la av aw ab af ay al ar az dv dw db df dy dl dr dz mem rg ti ff pk lg Al Pl AM PM Abk Pbk Asp Psp Amem Pmem Arg Prg Aff Pff Alg Plg nl nM nb ns ng w) (z : BZ 0 l M bk sp mem rg ff lg) (hlM : M.length = l.length) (hls : sp.length = l.length) (hbd : MstsBd M) (hmw : 0 ≤ mw ∧ mw ≤ 3) :
    Calls Tryz.prog 39 #[.agg arr] w fun e w' => e = .returned (.bool (tt (DataP M sp mw mr ho av dv dw db df dy dl dr dz))) ∧ Below w.heap.size w w' := by
  have HV := Lib.hid v
  have HZ := Lib.hid z
  clear v z
  obtain ⟨R, hR0⟩ : ∃ R, (tt (DataP M sp mw mr ho av dv dw db df dy dl dr dz)) = R := ⟨_, rfl⟩
  rw [hR0]
  have HR := Lib.hid hR0
  clear hR0
  have B := Bx.new 53 arr w
  have hb0 := (Below.refl w.heap.size w).alloc (Nat.le_refl _) (Obj.cells arr 53)
  obtain ⟨y0, hy0⟩ : ∃ y, w.alloc (Obj.cells arr 53) = y := ⟨_, rfl⟩
  rw [hy0] at B hb0
  have B_0 := Lib.hid B
  have HB_0 := Lib.hid hb0
  clear B hb0
  obtain ⟨hmw0, hmw1⟩ := hmw
  have HLM := Lib.hid hlM
  have HLS := Lib.hid hls
  have HBD := Lib.hid hbd
  clear hlM hls hbd
  go_enter Tryz.func39, Tryz.ntmps39
  have gB23 := B_0.out.cell 23 _ HV.out.c23
  have gB24 := B_0.out.cell 24 _ HV.out.c24
  have gB25 := B_0.out.cell 25 _ HV.out.c25
  have gB26 := B_0.out.cell 26 _ HV.out.c26
  have gB27 := B_0.out.cell 27 _ HV.out.c27
  have gB28 := B_0.out.cell 28 _ HV.out.c28
  have gB29 := B_0.out.cell 29 _ HV.out.c29
  have gB30 := B_0.out.cell 30 _ HV.out.c30
  cases dv
  · skip
    have hq := fun w => eqlBeat false dw db df dy dl dr dz false 0 0 false 0 0 0 false w
    have hgd := guardBeat
    obtain ⟨c, hc⟩ : ∃ c, same ((false, dw, db, df, dy, dl, dr, dz) : Bool × Int × Int × Bool × Int × Int × Int × Bool) (false, 0, 0, false, 0, 0, 0, false) = c := ⟨_, rfl⟩
    rw [hc] at hq
    have hf : R = c := by rw [← HR.out, ← hc]; exact tt_congr (by unfold DataP; rw [if_neg (by decide)])
    subst hf
    clear hc
    repeat (first | go_values | go_skip | go_guarded | go_step | go_upon | go_back)
    go_ret
    exact ⟨rfl, HB_0.out⟩
  obtain ⟨brr, hbb, pb, hones⟩ := beatOn_built HV.out true dw db df dy dl dr dz
  have HP := Lib.hid pb
  have HBB := Lib.hid hbb
  have HON := Lib.hid hones
  clear pb hbb hones
  obtain ⟨zr, hzr⟩ : ∃ z : Array Value, #[.slice none 0 0, .int .i64 0, .int .i64 0, .int .i64 0, .int .i64 0, .int .i64 0, .int .i64 0, .slice none 0 0, .int .i64 0, .int .i64 0, .slice none 0 0, .slice none 0 0, .int .i64 0, .int .i64 0, .int .i64 0, .bool false, .int .i64 0, .int .i64 0, .bool false, .int .i64 0, .int .i64 0, .int .i64 0, .bool false, .bool false, .int .i64 0, .int .i64 0, .bool false, .int .i64 0, .int .i64 0, .int .i64 0, .bool false, .slice none 0 0, .slice none 0 0, .int .i64 0, .slice none 0 0, .int .i64 0, .slice none 0 0, .bool false, .int .i64 0, .int .i64 0, .bool false, .int .i64 0, .int .i64 0, .int .i64 0, .bool false] = z := ⟨_, rfl⟩
  have HZS : Hid (zr.size = brr.size) := Lib.hid (by rw [← hzr, HP.out.size]; rfl)
  have HI : Hid ((Tryz.prog.info? 121).map (·.size) = some brr.size) := Lib.hid (by rw [HP.out.size]; kernel_rfl)
  have HJ37 : Hid ((Tryz.prog.info? 53).map (·.size) = some arr.size) := Lib.hid (by rw [HV.out.size]; kernel_rfl)
  have hal := (Below.refl y0.heap.size y0).alloc (Nat.le_refl _) (Obj.cells zr 121)
  have hT : Below y0.heap.size y0 ((y0.alloc (Obj.cells zr 121)).setRow y0.heap.size brr) := below_setRow hal (Nat.le_refl _) brr
  have B_1 := Lib.hid (B_0.out.later hT)
  have HB_1 := Lib.hid (HB_0.out.trans (hT.mono HB_0.out.size))
  have X_1 : Hid (Bx 121 y0.heap.size brr ((y0.alloc (Obj.cells zr 121)).setRow y0.heap.size brr)) := Lib.hid (bx_row (Bx.new 121 zr y0))
  clear hal hT
  go_upto_region 3 with fail
  repeat (first | (fail_if_success (refine wp_region_quiet_below (by kernel_rfl) (by kernel_rfl) ?_)); (first | (refine wp_load_row 53 _ rfl w.heap.size rfl 53 arr (0, 0) _ B_0.out Tryz.underlying53 rfl HJ37.out ?_) | (refine wp_build2 121 0 _ 1 _ rfl _ _ rfl rfl brr HBB.out ?_) | (refine wp_store_row 121 _ _ rfl y0.heap.size brr rfl rfl 121 zr (Bx.new _ _ _) HI.out HZS.out HON.out ?_) | go_values | go_skip | go_guarded | go_step | go_upon | go_back))
  generalize ((y0.alloc (Obj.cells zr 121)).setRow y0.heap.size brr) = y1 at B_1 HB_1 X_1 ⊢
  obtain ⟨k1, hk1⟩ : ∃ k, y0.heap.size = k := ⟨_, rfl⟩
  rw [hk1] at X_1 ⊢
  simp only [Act.put]
  clear hy0 hk1 hzr B_0 HB_0 HZS HI HON HBB HJ37 gB23 gB24 gB25 gB26 gB27 gB28 gB29 gB30
  have gX2 := fun d os => cell_regrown (X_1.out.cell 2 _ ((HP.out.low 2 (by decide)).trans HV.out.c2)) d os
  have gX39 := fun d os => cell_regrown (X_1.out.cell 39 _ HP.out.d2) d os
  have gX42 := fun d os => cell_regrown (X_1.out.cell 42 _ HP.out.d5) d os
  have gX44 := fun d os => cell_regrown (X_1.out.cell 44 _ HP.out.d7) d os
  obtain ⟨c1, hc1⟩ : ∃ c, tt (LiveP sp dw dy) = c := ⟨_, rfl⟩
  have C1 := Lib.hid hc1
  clear hc1
  cases c1
  · skip
    have hf : R = false := by
      rw [← HR.out]
      refine tt_no (fun h => ?_)
      unfold DataP at h
      rw [if_pos rfl] at h
      obtain ⟨g1, -, -, k, m, g2, -, g3, -⟩ := h
      exact tt_not C1.out ⟨g1, k, g2, g3⟩
    subst hf
    refine wp_region_quiet_below (by kernel_rfl) (by kernel_rfl) ?_
    repeat (first
      | (go_big_quiet_want; refine quiet_load (T := 121) (x := .tmp 3) (g := k1) (cs := brr) rfl rfl X_1.out Tryz.underlying121 rfl (by rw [HP.out.size]; kernel_rfl) ?_; simp only [Act.put, List.setIfInBounds_toArray, List.set_cons_succ, List.set_cons_zero]; go_big_quiet_on)
      | go_big_quiet_step (first
      | (go_at_call 75; exact Calls.regrown_of (live_is C1.out HV.out HZ.out HP.out (below_rg HB_1.out _ _) HLS.out))))
    refine wpQuiet_nil ?_
    rintro _ ⟨qq, rfl⟩
    have hq := below_regrown y1 qq.d qq.os
    clear gX2 gX39 gX42 gX44
    have B_2 := Lib.hid (B_1.out.later hq)
    have X_2 := Lib.hid (X_1.out.later hq)
    have HB_2 := Lib.hid (HB_1.out.trans (hq.mono HB_1.out.size))
    clear B_1 X_1 HB_1 hq 
    repeat (first | go_values | go_skip | go_guarded | go_step | go_upon | go_back)
    go_ret
    exact ⟨rfl, HB_2.out⟩
  have hlive := tt_of C1.out
  obtain ⟨hy13, j, hj, hs0⟩ := hlive
  have hjn : j < nM := by
    have h5 := (List.getElem?_eq_some_iff.1 hs0).1
    rw [HLS.out, ← HLM.out, HV.out.nM] at h5
    exact h5
  have HY := Lib.hid hy13
  have HJ := Lib.hid hj
  have HS0 := Lib.hid hs0
  clear hy13 hj hs0
  obtain ⟨m, hxm⟩ := get_of (l := M) (i := j) (by rw [HV.out.nM]; exact hjn)
  have HXm := Lib.hid hxm
  obtain ⟨bm, om, _, esm, em, _, _, ltm, cm, rm⟩ := row_rd HV.out.rM hxm
  simp at em
  obtain ⟨rfl, -, rfl⟩ := em
  obtain ⟨m0, m1, m2, m3, m4, m5⟩ := m
  have Rm := Lib.hid rm
  obtain ⟨am, pm, rfl, _⟩ := mst_form rm
  have Em0 := Lib.hid (show w.cell? ⟨bm, om + j * 6, none⟩ = some (.slice am m0.length pm) from cm 0 _ rfl)
  have Em1 := Lib.hid (show w.cell? ⟨bm, om + j * 6 + 1, none⟩ = some (.int .i64 m1) from cm 1 _ rfl)
  have Em2 := Lib.hid (show w.cell? ⟨bm, om + j * 6 + 2, none⟩ = some (.int .i64 m2) from cm 2 _ rfl)
  have Em3 := Lib.hid (show w.cell? ⟨bm, om + j * 6 + 3, none⟩ = some (.int .i64 m3) from cm 3 _ rfl)
  have Em4 := Lib.hid (show w.cell? ⟨bm, om + j * 6 + 4, none⟩ = some (.bool m4) from cm 4 _ rfl)
  have Em5 := Lib.hid (show w.cell? ⟨bm, om + j * 6 + 5, none⟩ = some (.bool m5) from cm 5 _ rfl)
  have LTm := Lib.hid ltm
  clear hxm cm rm ltm
  have hbm := HBD.out j _ HXm.out
  dsimp only at hbm
  obtain ⟨hbm0, hbm1, hbm2⟩ := hbm
  have hfd : ∀ w, (Instr.field 70 (.agg #[.slice am m0.length pm, .int .i64 m1, .int .i64 m2, .int .i64 m3, .bool m4, .bool m5]) 2).run Tryz.prog w = .ok (.int .i64 m2) w := fun _ => by kernel_rfl
  obtain ⟨c3, hc3⟩ : ∃ c, inB dl 0 (mw + 2) = c := ⟨_, rfl⟩
  have C3 := Lib.hid hc3
  clear hc3
  obtain ⟨c4, hc4⟩ : ∃ c, tt (RespP mr ho dw dr m3 m4) = c := ⟨_, rfl⟩
  have C4 := Lib.hid hc4
  clear hc4
  obtain ⟨c5, hc5⟩ : ∃ c, secB av dl dr = c := ⟨_, rfl⟩
  have C5 := Lib.hid hc5
  clear hc5
  by_cases h2 : db = m2
  rotate_left
  · skip
    have h2b : (db == m2) = false := by simp [h2]
    have h2d : decide (db = m2) = false := decide_eq_false h2
    have H2 := Lib.hid h2
    clear h2
    have hf : R = false := by
      rw [← HR.out]
      refine tt_no (fun h => ?_)
      unfold DataP at h
      rw [if_pos rfl] at h
      obtain ⟨g1, g6, g7, k, m, g2, g3, g4, g5, g8⟩ := h
      have h5 : k = j := by have := HJ.out; omega
      subst h5
      rw [HXm.out] at g3
      cases g3
      exact H2.out g5
    subst hf
    refine wp_region_quiet_below (by kernel_rfl) (by kernel_rfl) ?_
    repeat (first
      | (go_big_quiet_want; refine quiet_load (T := 121) (x := .tmp 3) (g := k1) (cs := brr) rfl rfl X_1.out Tryz.underlying121 rfl (by rw [HP.out.size]; kernel_rfl) ?_; simp only [Act.put, List.setIfInBounds_toArray, List.set_cons_succ, List.set_cons_zero]; go_big_quiet_on)
      | go_big_quiet_step (first
      | (go_at_call 75; exact Calls.regrown_of (live_is C1.out HV.out HZ.out HP.out (below_rg HB_1.out _ _) HLS.out))
      | (go_at_call 76; exact Calls.regrown_of (master_is HV.out HZ.out HP.out (below_rg HB_1.out _ _) rfl HJ.out hjn LTm.out Em0.out Em1.out Em2.out Em3.out Em4.out Em5.out))))
    refine wpQuiet_nil ?_
    rintro _ ⟨qq, rfl⟩
    have hq := below_regrown y1 qq.d qq.os
    clear gX2 gX39 gX42 gX44
    have B_2 := Lib.hid (B_1.out.later hq)
    have X_2 := Lib.hid (X_1.out.later hq)
    have HB_2 := Lib.hid (HB_1.out.trans (hq.mono HB_1.out.size))
    clear B_1 X_1 HB_1 hq 
    repeat (first | go_values | go_skip | go_guarded | go_step | go_upon | go_back)
    go_ret
    exact ⟨rfl, HB_2.out⟩
  have h2b : (db == m2) = true := by simp [h2]
  have h2d : decide (db = m2) = true := decide_eq_true h2
  have H2 := Lib.hid h2
  clear h2
  cases c3
  · skip
    have hf : R = false := by
      rw [← HR.out]
      refine tt_no (fun h => ?_)
      unfold DataP at h
      rw [if_pos rfl] at h
      obtain ⟨g1, g6, g7, k, m, g2, g3, g4, g5, g8⟩ := h
      have h6 := inB_iff.2 g6
      rw [C3.out] at h6; cases h6
    subst hf
    refine wp_region_quiet_below (by kernel_rfl) (by kernel_rfl) ?_
    repeat (first
      | (go_big_quiet_want; refine quiet_load (T := 121) (x := .tmp 3) (g := k1) (cs := brr) rfl rfl X_1.out Tryz.underlying121 rfl (by rw [HP.out.size]; kernel_rfl) ?_; simp only [Act.put, List.setIfInBounds_toArray, List.set_cons_succ, List.set_cons_zero]; go_big_quiet_on)
      | go_big_quiet_step (first
      | (go_at_call 75; exact Calls.regrown_of (live_is C1.out HV.out HZ.out HP.out (below_rg HB_1.out _ _) HLS.out))
      | (go_at_call 76; exact Calls.regrown_of (master_is HV.out HZ.out HP.out (below_rg HB_1.out _ _) rfl HJ.out hjn LTm.out Em0.out Em1.out Em2.out Em3.out Em4.out Em5.out))
      | (go_at_call 69; exact Calls.regrown_of (within_isC C3.out _))))
    refine wpQuiet_nil ?_
    rintro _ ⟨qq, rfl⟩
    have hq := below_regrown y1 qq.d qq.os
    clear gX2 gX39 gX42 gX44
    have B_2 := Lib.hid (B_1.out.later hq)
    have X_2 := Lib.hid (X_1.out.later hq)
    have HB_2 := Lib.hid (HB_1.out.trans (hq.mono HB_1.out.size))
    clear B_1 X_1 HB_1 hq 
    repeat (first | go_values | go_skip | go_guarded | go_step | go_upon | go_back)
    go_ret
    exact ⟨rfl, HB_2.out⟩
  cases c4
  · skip
    have hf : R = false := by
      rw [← HR.out]
      refine tt_no (fun h => ?_)
      unfold DataP at h
      rw [if_pos rfl] at h
      obtain ⟨g1, g6, g7, k, m, g2, g3, g4, g5, g8⟩ := h
      have h5 : k = j := by have := HJ.out; omega
      subst h5
      rw [HXm.out] at g3
      cases g3
      exact tt_not C4.out g8
    subst hf
    refine wp_region_quiet_below (by kernel_rfl) (by kernel_rfl) ?_
    repeat (first
      | (go_big_quiet_want; refine quiet_load (T := 121) (x := .tmp 3) (g := k1) (cs := brr) rfl rfl X_1.out Tryz.underlying121 rfl (by rw [HP.out.size]; kernel_rfl) ?_; simp only [Act.put, List.setIfInBounds_toArray, List.set_cons_succ, List.set_cons_zero]; go_big_quiet_on)
      | go_big_quiet_step (first
      | (go_at_call 75; exact Calls.regrown_of (live_is C1.out HV.out HZ.out HP.out (below_rg HB_1.out _ _) HLS.out))
      | (go_at_call 76; exact Calls.regrown_of (master_is HV.out HZ.out HP.out (below_rg HB_1.out _ _) rfl HJ.out hjn LTm.out Em0.out Em1.out Em2.out Em3.out Em4.out Em5.out))
      | (go_at_call 69; exact Calls.regrown_of (within_isC C3.out _))
      | (go_at_call 77; exact Calls.regrown_of (resp_is C4.out HV.out HZ.out HP.out (below_rg HB_1.out _ _) rfl HJ.out hjn LTm.out Em0.out Em1.out Em2.out Em3.out Em4.out Em5.out))))
    refine wpQuiet_nil ?_
    rintro _ ⟨qq, rfl⟩
    have hq := below_regrown y1 qq.d qq.os
    clear gX2 gX39 gX42 gX44
    have B_2 := Lib.hid (B_1.out.later hq)
    have X_2 := Lib.hid (X_1.out.later hq)
    have HB_2 := Lib.hid (HB_1.out.trans (hq.mono HB_1.out.size))
    clear B_1 X_1 HB_1 hq 
    repeat (first | go_values | go_skip | go_guarded | go_step | go_upon | go_back)
    go_ret
    exact ⟨rfl, HB_2.out⟩
  cases dz
  · skip
    have hf : R = true := by
      rw [← HR.out]
      refine tt_yes ?_
      unfold DataP
      rw [if_pos rfl]
      exact ⟨HY.out, inB_iff.1 C3.out, fun e => (by cases e), j, _, HJ.out, HXm.out, HS0.out, H2.out, tt_of C4.out⟩
    subst hf
    refine wp_region_quiet_below (by kernel_rfl) (by kernel_rfl) ?_
    repeat (first
      | (go_big_quiet_want; refine quiet_load (T := 121) (x := .tmp 3) (g := k1) (cs := brr) rfl rfl X_1.out Tryz.underlying121 rfl (by rw [HP.out.size]; kernel_rfl) ?_; simp only [Act.put, List.setIfInBounds_toArray, List.set_cons_succ, List.set_cons_zero]; go_big_quiet_on)
      | go_big_quiet_step (first
      | (go_at_call 75; exact Calls.regrown_of (live_is C1.out HV.out HZ.out HP.out (below_rg HB_1.out _ _) HLS.out))
      | (go_at_call 76; exact Calls.regrown_of (master_is HV.out HZ.out HP.out (below_rg HB_1.out _ _) rfl HJ.out hjn LTm.out Em0.out Em1.out Em2.out Em3.out Em4.out Em5.out))
      | (go_at_call 69; exact Calls.regrown_of (within_isC C3.out _))
      | (go_at_call 77; exact Calls.regrown_of (resp_is C4.out HV.out HZ.out HP.out (below_rg HB_1.out _ _) rfl HJ.out hjn LTm.out Em0.out Em1.out Em2.out Em3.out Em4.out Em5.out))))
    refine wpQuiet_nil ?_
    rintro _ ⟨qq, rfl⟩
    have hq := below_regrown y1 qq.d qq.os
    clear gX2 gX39 gX42 gX44
    have B_2 := Lib.hid (B_1.out.later hq)
    have X_2 := Lib.hid (X_1.out.later hq)
    have HB_2 := Lib.hid (HB_1.out.trans (hq.mono HB_1.out.size))
    clear B_1 X_1 HB_1 hq 
    repeat (first | go_values | go_skip | go_guarded | go_step | go_upon | go_back)
    go_ret
    exact ⟨rfl, HB_2.out⟩
  cases c5
  · skip
    have hf : R = false := by
      rw [← HR.out]
      refine tt_no (fun h => ?_)
      unfold DataP at h
      rw [if_pos rfl] at h
      obtain ⟨g1, g6, g7, k, m, g2, g3, g4, g5, g8⟩ := h
      obtain ⟨e1, e2, e3⟩ := g7 rfl
      have h6 := C5.out
      unfold secB at h6
      rw [e1, e3] at h6
      simp at h6
      exact e2 h6
    subst hf
    refine wp_region_quiet_below (by kernel_rfl) (by kernel_rfl) ?_
    repeat (first
      | (go_big_quiet_want; refine quiet_load (T := 121) (x := .tmp 3) (g := k1) (cs := brr) rfl rfl X_1.out Tryz.underlying121 rfl (by rw [HP.out.size]; kernel_rfl) ?_; simp only [Act.put, List.setIfInBounds_toArray, List.set_cons_succ, List.set_cons_zero]; go_big_quiet_on)
      | go_big_quiet_step (first
      | (go_at_call 75; exact Calls.regrown_of (live_is C1.out HV.out HZ.out HP.out (below_rg HB_1.out _ _) HLS.out))
      | (go_at_call 76; exact Calls.regrown_of (master_is HV.out HZ.out HP.out (below_rg HB_1.out _ _) rfl HJ.out hjn LTm.out Em0.out Em1.out Em2.out Em3.out Em4.out Em5.out))
      | (go_at_call 69; exact Calls.regrown_of (within_isC C3.out _))
      | (go_at_call 77; exact Calls.regrown_of (resp_is C4.out HV.out HZ.out HP.out (below_rg HB_1.out _ _) rfl HJ.out hjn LTm.out Em0.out Em1.out Em2.out Em3.out Em4.out Em5.out))
      | (go_at_call 78; exact Calls.regrown_of (second_is C5.out HV.out HZ.out HP.out (below_rg HB_1.out _ _)))))
    refine wpQuiet_nil ?_
    rintro _ ⟨qq, rfl⟩
    have hq := below_regrown y1 qq.d qq.os
    clear gX2 gX39 gX42 gX44
    have B_2 := Lib.hid (B_1.out.later hq)
    have X_2 := Lib.hid (X_1.out.later hq)
    have HB_2 := Lib.hid (HB_1.out.trans (hq.mono HB_1.out.size))
    clear B_1 X_1 HB_1 hq 
    repeat (first | go_values | go_skip | go_guarded | go_step | go_upon | go_back)
    go_ret
    exact ⟨rfl, HB_2.out⟩
  have hf : R = true := by
    rw [← HR.out]
    refine tt_yes ?_
    unfold DataP
    rw [if_pos rfl]
    have h6 := C5.out
    unfold secB at h6
    simp at h6
    exact ⟨HY.out, inB_iff.1 C3.out, fun _ => ⟨h6.1, h6.2.1, h6.2.2⟩, j, _, HJ.out, HXm.out, HS0.out, H2.out, tt_of C4.out⟩
  subst hf
  refine wp_region_quiet_below (by kernel_rfl) (by kernel_rfl) ?_
  repeat (first
    | (go_big_quiet_want; refine quiet_load (T := 121) (x := .tmp 3) (g := k1) (cs := brr) rfl rfl X_1.out Tryz.underlying121 rfl (by rw [HP.out.size]; kernel_rfl) ?_; simp only [Act.put, List.setIfInBounds_toArray, List.set_cons_succ, List.set_cons_zero]; go_big_quiet_on)
    | go_big_quiet_step (first
    | (go_at_call 75; exact Calls.regrown_of (live_is C1.out HV.out HZ.out HP.out (below_rg HB_1.out _ _) HLS.out))
    | (go_at_call 76; exact Calls.regrown_of (master_is HV.out HZ.out HP.out (below_rg HB_1.out _ _) rfl HJ.out hjn LTm.out Em0.out Em1.out Em2.out Em3.out Em4.out Em5.out))
    | (go_at_call 69; exact Calls.regrown_of (within_isC C3.out _))
    | (go_at_call 77; exact Calls.regrown_of (resp_is C4.out HV.out HZ.out HP.out (below_rg HB_1.out _ _) rfl HJ.out hjn LTm.out Em0.out Em1.out Em2.out Em3.out Em4.out Em5.out))
    | (go_at_call 78; exact Calls.regrown_of (second_is C5.out HV.out HZ.out HP.out (below_rg HB_1.out _ _)))))
  refine wpQuiet_nil ?_
  rintro _ ⟨qq, rfl⟩
  have hq := below_regrown y1 qq.d qq.os
  clear gX2 gX39 gX42 gX44
  have B_2 := Lib.hid (B_1.out.later hq)
  have X_2 := Lib.hid (X_1.out.later hq)
  have HB_2 := Lib.hid (HB_1.out.trans (hq.mono HB_1.out.size))
  clear B_1 X_1 HB_1 hq 
  repeat (first | go_values | go_skip | go_guarded | go_step | go_upon | go_back)
  go_ret
  exact ⟨rfl, HB_2.out⟩

end Go.Proofs.YtdhaelaoackfkaaGreat.KD
