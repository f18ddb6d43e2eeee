/-
  Several texts in one: BOkI4, QLoad, BOkI5.
-/
import Derived.Test.YtdhaelaoackfkaaGreatGOa13
import Derived.Test.YtdhaelaoackfkaaGreatQDet
import Derived.Laws.Rows
namespace Go.Proofs.YtdhaelaoackfkaaGreat.KD
open Go.RowKit Rows3 GR Num
set_option linter.unusedVariables false
set_option maxHeartbeats 8000000 in
set_option maxRecDepth 100000 in
theorem implLocks (cs : List Value) (q : List ReqX) (be dn tr : Int) (pa br : Bool) (hs : mstK.sz (q, be, dn, tr, pa, br) ≤ 2000000) (w : World) (h : mstK.rd cs (q, be, dn, tr, pa, br) w) :
    Calls Tryz.prog 80 #[agg cs] w fun e w' => e = .returned (.bool (locksM (q, be, dn, tr, pa, br))) ∧ Below w.heap.size w w' := by
  obtain ⟨a0, p0, rfl, h0⟩ := mst_form h
  have hl := mst_len hs
  cases q with
  | nil =>
    have g := (Bx.new 70 #[.slice a0 0 p0, .int .i64 be, .int .i64 dn, .int .i64 tr, .bool pa, .bool br] w).cells6
    obtain ⟨g0, g1, g2, g3, g4, g5⟩ := g
    clear h h0 hs
    show Calls _ _ #[.agg #[.slice a0 0 p0, .int .i64 be, .int .i64 dn, .int .i64 tr, .bool pa, .bool br]] w _
    go_enter Tryz.func80, Tryz.ntmps80
    repeat (first | go_values | go_skip | go_guarded | go_step | go_upon | go_back)
    go_ret
    exact ⟨rfl, (Below.refl w.heap.size w).alloc (Nat.le_refl _) _⟩
  | cons x q' =>
    obtain ⟨n, hn⟩ : ∃ n, (x :: q').length = n := ⟨_, rfl⟩
    have hpos : 0 < n := by rw [← hn]; simp
    rw [hn] at hl h0 ⊢
    obtain ⟨b, o, _, es, e, _, _, lt, c, rx⟩ := row_rd h0 (i := 0) (x := x) rfl
    simp at e
    obtain ⟨rfl, -, rfl⟩ := e
    obtain ⟨x0, x1, x2, x3, x4, x5⟩ := x
    obtain ⟨ax, px, rfl, _⟩ := rd_req rx
    have g := (Bx.new 70 #[.slice (some ⟨b, o, none⟩) n p0, .int .i64 be, .int .i64 dn, .int .i64 tr, .bool pa, .bool br] w).cells6
    obtain ⟨g0, g1, g2, g3, g4, g5⟩ := g
    have k4 : w.cell? ⟨b, o + 0 * 6 + 4, none⟩ = some (.bool x4) := c 4 _ rfl
    rw [Nat.zero_mul, Nat.add_zero] at k4
    rw [← bel_cells ((Below.refl w.heap.size w).alloc (Nat.le_refl _) (Obj.cells #[.slice (some ⟨b, o, none⟩) n p0, .int .i64 be, .int .i64 dn, .int .i64 tr, .bool pa, .bool br] 70)) lt] at k4
    have hgt : decide ((0 : Int) < (n : Int)) = true := by simp; omega
    have hgt2 : (0 : Int) < (n : Int) := by omega
    have hR : locksM ((x0, x1, x2, x3, x4, x5) :: q', be, dn, tr, pa, br) = (x4 && !br) := rfl
    rw [hR]
    clear h h0 hs c rx hn hR lt
    show Calls _ _ #[.agg #[.slice (some ⟨b, o, none⟩) n p0, .int .i64 be, .int .i64 dn, .int .i64 tr, .bool pa, .bool br]] w _
    cases x4
    all_goals go_enter Tryz.func80, Tryz.ntmps80
    all_goals repeat (first | go_values | go_skip | go_guarded | go_step | go_upon | go_back)
    all_goals go_ret
    all_goals exact ⟨by simp, (Below.refl w.heap.size w).alloc (Nat.le_refl _) _⟩
theorem locks_is {cs : List Value} {m : MstX} {b : Bool} (hb : locksM m = b) (hs : mstK.sz m ≤ 2000000) {w : World} (h : mstK.rd cs m w) :
    Calls Tryz.prog 80 #[agg cs] w fun e w' => e = .returned (.bool b) ∧ Below w.heap.size w w' := by
  obtain ⟨q, be, dn, tr, pa, br⟩ := m
  exact hb ▸ implLocks cs q be dn tr pa br hs w h
set_option maxHeartbeats 16000000 in
set_option maxRecDepth 100000 in
theorem implMay (arr : Array Value) (l : List (Int × Bool × Int × Int)) (qu : Int) (mw : Int) (mr : Int) (ms : Int) (lm : Int) (now : Int) (M : List (List (Bool × Int × Int × Int × Bool × List Int) × Int × Int × Int × Bool × Bool)) (tu : Int) (cr : Int) (bk : List (Int × Int)) (sp : List Int) (ho : Int) (he : Int) (la : Int) (av : Bool) (aw : Int) (ab : Int) (af : Bool) (ay : Int) (al : Int) (ar : Int) (az : Bool) (dv : Bool) (dw : Int) (db : Int) (df : Bool) (dy : Int) (dl : Int) (dr : Int) (dz : Bool) (mem : List Int) (rg : List Int) (ti : Int) (ff : List Int) (pk : Int) (lg : List (Int × Int × Bool × Int × Int × Int × Int)) (Al : Option Addr) (Pl : Nat) (AM : Option Addr) (PM : Nat) (Abk : Option Addr) (Pbk : Nat) (Asp : Option Addr) (Psp : Nat) (Amem : Option Addr) (Pmem : Nat) (Arg : Option Addr) (Prg : Nat) (Aff : Option Addr) (Pff : Nat) (Alg : Option Addr) (Plg : Nat) (nl nM nb ns ng : Nat) (w : World) (v : BV arr l qu mw mr ms lm now M tu cr bk sp ho he la av aw ab af ay al ar az dv dw db df dy dl dr dz mem rg ti ff pk lg Al Pl AM PM Abk Pbk Asp Psp Amem Pmem Arg Prg Aff Pff Alg Plg nl nM nb ns ng w) (z : BZ 0 l M bk sp mem rg ff lg) (j : Nat) (hj : j < nl) (hlM : M.length = nl) (hls : sp.length = nl) {m : MstX} {s : Int} (hm : M[j]? = some m) (hs : sp[j]? = some s) :
    Calls Tryz.prog 79 #[.agg arr, .int .i64 (j : Int)] w fun e w' => e = .returned (.bool (locksM m && (s == 0))) ∧ Below w.heap.size w w' := by
  have HV := Lib.hid v
  have HZ := Lib.hid z
  clear v z
  obtain ⟨R, hR0⟩ : ∃ R, (locksM m && (s == 0)) = R := ⟨_, rfl⟩
  rw [hR0]
  have HR := Lib.hid hR0
  clear hR0
  have B := Bx.new 53 arr w
  have hb0 := (Below.refl w.heap.size w).alloc (Nat.le_refl _) (Obj.cells arr 53)
  obtain ⟨y0, hy0⟩ : ∃ y, w.alloc (Obj.cells arr 53) = y := ⟨_, rfl⟩
  rw [hy0] at B hb0
  have B_0 := Lib.hid B
  have HB_0 := Lib.hid hb0
  clear B hb0
  obtain rfl : nM = nl := by rw [← HV.out.nM]; exact hlM
  obtain rfl : ns = nM := by rw [← HV.out.nsp]; exact hls
  have hM0 := hm
  have hs0 := hs
  clear hlM hls hm hs
  have hln : ns ≤ 2000000 := by rw [← HV.out.nM]; exact HZ.out.zMl
  obtain ⟨m_, hxm_⟩ := get_of (l := M) (i := j) (by rw [HV.out.nM]; exact hj)
  have HXm_ := Lib.hid hxm_
  obtain ⟨bm_, om_, _, esm_, em_, _, _, ltm_, cm_, rm_⟩ := row_rd HV.out.rM hxm_
  simp at em_
  obtain ⟨rfl, -, rfl⟩ := em_
  obtain ⟨m_0, m_1, m_2, m_3, m_4, m_5⟩ := m_
  have Rm_ := Lib.hid rm_
  obtain ⟨am_, pm_, rfl, _⟩ := mst_form rm_
  have Em_0 := Lib.hid (show w.cell? ⟨bm_, om_ + j * 6, none⟩ = some (.slice am_ m_0.length pm_) from cm_ 0 _ rfl)
  have Em_1 := Lib.hid (show w.cell? ⟨bm_, om_ + j * 6 + 1, none⟩ = some (.int .i64 m_1) from cm_ 1 _ rfl)
  have Em_2 := Lib.hid (show w.cell? ⟨bm_, om_ + j * 6 + 2, none⟩ = some (.int .i64 m_2) from cm_ 2 _ rfl)
  have Em_3 := Lib.hid (show w.cell? ⟨bm_, om_ + j * 6 + 3, none⟩ = some (.int .i64 m_3) from cm_ 3 _ rfl)
  have Em_4 := Lib.hid (show w.cell? ⟨bm_, om_ + j * 6 + 4, none⟩ = some (.bool m_4) from cm_ 4 _ rfl)
  have Em_5 := Lib.hid (show w.cell? ⟨bm_, om_ + j * 6 + 5, none⟩ = some (.bool m_5) from cm_ 5 _ rfl)
  have LTm_ := Lib.hid ltm_
  clear hxm_ cm_ rm_ ltm_
  obtain ⟨s_, hxs_⟩ := get_of (l := sp) (i := j) (by rw [HV.out.nsp]; exact hj)
  obtain ⟨bs_, os_, es_, lts_, cs_⟩ := ints_el HV.out.rsp hxs_
  obtain rfl := es_
  have HXs_ := Lib.hid hxs_
  have Es_0 := Lib.hid cs_
  have LTs_ := Lib.hid lts_
  clear hxs_ cs_ lts_
  rw [HXm_.out] at hM0
  rw [HXs_.out] at hs0
  cases hM0
  cases hs0
  have HZm := Lib.hid (HZ.out.zi _ (List.mem_of_getElem? HXm_.out))
  obtain ⟨d, hd⟩ : ∃ d, locksM (m_0, m_1, m_2, m_3, m_4, m_5) = d := ⟨_, rfl⟩
  have D := Lib.hid hd
  clear hd
  have hin : (0 : Int) ≤ (j : Int) ∧ (j : Int) < ((ns : Nat) : Int) := by omega
  go_enter Tryz.func79, Tryz.ntmps79
  go_upto_region 1 with fail
  clear hy0
  have gB7 := fun d os => cell_regrown (B_0.out.cell 7 _ HV.out.c7) d os
  have gB11 := fun d os => cell_regrown (B_0.out.cell 11 _ HV.out.c11) d os
  have gm_0 := fun d os => cell_regrown ((bel_cells HB_0.out LTm_.out _).trans Em_0.out) d os
  have gm_1 := fun d os => cell_regrown ((bel_cells HB_0.out LTm_.out _).trans Em_1.out) d os
  have gm_2 := fun d os => cell_regrown ((bel_cells HB_0.out LTm_.out _).trans Em_2.out) d os
  have gm_3 := fun d os => cell_regrown ((bel_cells HB_0.out LTm_.out _).trans Em_3.out) d os
  have gm_4 := fun d os => cell_regrown ((bel_cells HB_0.out LTm_.out _).trans Em_4.out) d os
  have gm_5 := fun d os => cell_regrown ((bel_cells HB_0.out LTm_.out _).trans Em_5.out) d os
  have gs_0 := fun d os => cell_regrown ((bel_cells HB_0.out LTs_.out _).trans Es_0.out) d os
  cases d
  · skip
    rw [D.out] at HR
    refine wp_region_det ?_
    repeat (go_big_quiet_step (first
      | (go_at_call 80; exact Calls.regrown_of (locks_is D.out HZm.out (mstK.rd_later Rm_.out (below_rg HB_0.out _ _))))))
    refine wpQuiet_nil ?_
    rintro _ ⟨qq, rfl⟩
    have hq := below_regrown y0 qq.d qq.os
    clear gB7 gB11 gm_0 gm_1 gm_2 gm_3 gm_4 gm_5 gs_0
    have B_1 := Lib.hid (B_0.out.later hq)
    have HB_1 := Lib.hid (HB_0.out.trans (hq.mono HB_0.out.size))
    clear B_0 HB_0 hq 
    have HR2 := HR.out
    rw [Bool.false_and] at HR2
    subst HR2
    repeat (first | go_values | go_skip | go_guarded | go_step | go_upon | go_back)
    go_ret
    exact ⟨by first | rfl | simp, HB_1.out⟩
  rw [D.out] at HR
  refine wp_region_det ?_
  repeat (go_big_quiet_step (first
    | (go_at_call 80; exact Calls.regrown_of (locks_is D.out HZm.out (mstK.rd_later Rm_.out (below_rg HB_0.out _ _))))))
  refine wpQuiet_nil ?_
  rintro _ ⟨qq, rfl⟩
  have hq := below_regrown y0 qq.d qq.os
  clear gB7 gB11 gm_0 gm_1 gm_2 gm_3 gm_4 gm_5 gs_0
  have B_1 := Lib.hid (B_0.out.later hq)
  have HB_1 := Lib.hid (HB_0.out.trans (hq.mono HB_0.out.size))
  clear B_0 HB_0 hq 
  have HR2 := HR.out
  rw [Bool.true_and] at HR2
  subst HR2
  repeat (first | go_values | go_skip | go_guarded | go_step | go_upon | go_back)
  go_ret
  exact ⟨by first | rfl | simp, HB_1.out⟩

end Go.Proofs.YtdhaelaoackfkaaGreat.KD

namespace Go.Proofs.YtdhaelaoackfkaaGreat.KD
open Go.RowKit
/-- a load of a whole struct whose cells lie behind a name, in a quiet walk. -/
theorem quiet_load {P : Program} {o : Oper} {a : Act} {w : World} {K : Act → Prop} {T ty : TypeId} {x : Operand} {g : Nat} {cs : Array Value} {d : TypeDesc} (ho : o.op = .load ty x) (hx : a.eval x = .pointer (some ⟨g, 0, none⟩)) (hg : w.heap[g]? = some (.cells cs T (0, 0)))
    (hu : P.underlying ty = some d) (hd : (match d with | .struct _ | .array _ _ => true | _ => false) = true) (hi : (P.info? ty).map (·.size) = some cs.size) (h : K (a.put o.dst (.agg cs))) :
    o.quiet P a (fun w' => ∃ p : Regrown, w' = Sort.grow (redrawn w p.d) p.os) K := by
  refine ⟨.agg cs, ?_, h⟩
  rintro _ ⟨p, rfl⟩
  have hlt := (Array.getElem?_eq_some_iff.1 hg).1
  have hg' : (Sort.grow (redrawn w p.d) p.os).heap[g]? = some (.cells cs T (0, 0)) := ((below_regrown w p.d p.os).block g hlt).trans hg
  unfold Oper.quietAt execOp
  simp only [ho, hx, Instr.loadAt, Instr.sureAddr, Sem.run_bind, Sem.run_pure, Result.andThen_ok, run_loadVar_row _ g T ty cs (0, 0) d hg' hu hd hi]
  exact ⟨rfl, rfl⟩
end Go.Proofs.YtdhaelaoackfkaaGreat.KD

namespace Go.Proofs.YtdhaelaoackfkaaGreat.KD
open Go.RowKit Rows3 GR Num
set_option linter.unusedVariables false
theorem BV.later {arr : Array Value} {l : List (Int × Bool × Int × Int)} {qu : Int} {mw : Int} {mr : Int} {ms : Int} {lm : Int} {now : Int} {M : List (List (Bool × Int × Int × Int × Bool × List Int) × Int × Int × Int × Bool × Bool)} {tu : Int} {cr : Int} {bk : List (Int × Int)} {sp : List Int} {ho : Int} {he : Int} {la : Int} {av : Bool} {aw : Int} {ab : Int} {af : Bool} {ay : Int} {al : Int} {ar : Int} {az : Bool} {dv : Bool} {dw : Int} {db : Int} {df : Bool} {dy : Int} {dl : Int} {dr : Int} {dz : Bool} {mem : List Int} {rg : List Int} {ti : Int} {ff : List Int} {pk : Int} {lg : List (Int × Int × Bool × Int × Int × Int × Int)} {Al : Option Addr} {Pl : Nat} {AM : Option Addr} {PM : Nat} {Abk : Option Addr} {Pbk : Nat} {Asp : Option Addr} {Psp : Nat} {Amem : Option Addr} {Pmem : Nat} {Arg : Option Addr} {Prg : Nat} {Aff : Option Addr} {Pff : Nat} {Alg : Option Addr} {Plg : Nat} {nl nM nb ns ng : Nat} {w w' : World} (v : BV arr l qu mw mr ms lm now M tu cr bk sp ho he la av aw ab af ay al ar az dv dw db df dy dl dr dz mem rg ti ff pk lg Al Pl AM PM Abk Pbk Asp Psp Amem Pmem Arg Prg Aff Pff Alg Plg nl nM nb ns ng w) (hb : Below w.heap.size w w') : BV arr l qu mw mr ms lm now M tu cr bk sp ho he la av aw ab af ay al ar az dv dw db df dy dl dr dz mem rg ti ff pk lg Al Pl AM PM Abk Pbk Asp Psp Amem Pmem Arg Prg Aff Pff Alg Plg nl nM nb ns ng w' :=
  ⟨v.size, v.c0, v.c1, v.c2, v.c3, v.c4, v.c5, v.c6, v.c7, v.c8, v.c9, v.c10, v.c11, v.c12, v.c13, v.c14, v.c15, v.c16, v.c17, v.c18, v.c19, v.c20, v.c21, v.c22, v.c23, v.c24, v.c25, v.c26, v.c27, v.c28, v.c29, v.c30, v.c31, v.c32, v.c33, v.c34, v.c35, v.c36, mConfS.rd_later v.rl hb, mstS.rd_later v.rM hb, bucketS.rd_later v.rbk hb, ints.rd_later v.rsp hb, ints.rd_later v.rmem hb, ints.rd_later v.rrg hb, ints.rd_later v.rff hb, doneS.rd_later v.rlg hb, v.nl, v.nM, v.nbk, v.nsp, v.nlg⟩
theorem may_is {arr : Array Value} {l : List (Int × Bool × Int × Int)} {qu : Int} {mw : Int} {mr : Int} {ms : Int} {lm : Int} {now : Int} {M : List (List (Bool × Int × Int × Int × Bool × List Int) × Int × Int × Int × Bool × Bool)} {tu : Int} {cr : Int} {bk : List (Int × Int)} {sp : List Int} {ho : Int} {he : Int} {la : Int} {av : Bool} {aw : Int} {ab : Int} {af : Bool} {ay : Int} {al : Int} {ar : Int} {az : Bool} {dv : Bool} {dw : Int} {db : Int} {df : Bool} {dy : Int} {dl : Int} {dr : Int} {dz : Bool} {mem : List Int} {rg : List Int} {ti : Int} {ff : List Int} {pk : Int} {lg : List (Int × Int × Bool × Int × Int × Int × Int)} {Al : Option Addr} {Pl : Nat} {AM : Option Addr} {PM : Nat} {Abk : Option Addr} {Pbk : Nat} {Asp : Option Addr} {Psp : Nat} {Amem : Option Addr} {Pmem : Nat} {Arg : Option Addr} {Prg : Nat} {Aff : Option Addr} {Pff : Nat} {Alg : Option Addr} {Plg : Nat} {nl nM nb ns ng : Nat} {w : World} {x : Int} {j : Nat} {m : MstX} {s : Int} {c : Bool} (hc : (locksM m && (s == 0)) = c) (hx : x = (j : Int)) (hj : j < nl) (hlM : M.length = nl) (hls : sp.length = nl) (hm : M[j]? = some m) (hs : sp[j]? = some s) (v : BV arr l qu mw mr ms lm now M tu cr bk sp ho he la av aw ab af ay al ar az dv dw db df dy dl dr dz mem rg ti ff pk lg Al Pl AM PM Abk Pbk Asp Psp Amem Pmem Arg Prg Aff Pff Alg Plg nl nM nb ns ng w) (z : BZ 0 l M bk sp mem rg ff lg) :
    Calls Tryz.prog 79 #[.agg arr, .int .i64 x] w fun e w' => e = .returned (.bool c) ∧ Below w.heap.size w w' := by
  subst hx hc; exact implMay arr l qu mw mr ms lm now M tu cr bk sp ho he la av aw ab af ay al ar az dv dw db df dy dl dr dz mem rg ti ff pk lg Al Pl AM PM Abk Pbk Asp Psp Amem Pmem Arg Prg Aff Pff Alg Plg nl nM nb ns ng w v z j hj hlM hls hm hs
set_option maxHeartbeats 16000000 in
set_option maxRecDepth 100000 in
theorem implHolder (arr : Array Value) (l : List (Int × Bool × Int × Int)) (qu : Int) (mw : Int) (mr : Int) (ms : Int) (lm : Int) (now : Int) (M : List (List (Bool × Int × Int × Int × Bool × List Int) × Int × Int × Int × Bool × Bool)) (tu : Int) (cr : Int) (bk : List (Int × Int)) (sp : List Int) (ho : Int) (he : Int) (la : Int) (av : Bool) (aw : Int) (ab : Int) (af : Bool) (ay : Int) (al : Int) (ar : Int) (az : Bool) (dv : Bool) (dw : Int) (db : Int) (df : Bool) (dy : Int) (dl : Int) (dr : Int) (dz : Bool) (mem : List Int) (rg : List Int) (ti : Int) (ff : List Int) (pk : Int) (lg : List (Int × Int × Bool × Int × Int × Int × Int)) (Al : Option Addr) (Pl : Nat) (AM : Option Addr) (PM : Nat) (Abk : Option Addr) (Pbk : Nat) (Asp : Option Addr) (Psp : Nat) (Amem : Option Addr) (Pmem : Nat) (Arg : Option Addr) (Prg : Nat) (Aff : Option Addr) (Pff : Nat) (Alg : Option Addr) (Plg : Nat) (nl nM nb ns ng : Nat) (w : World) (v : BV arr l qu mw mr ms lm now M tu cr bk sp ho he la av aw ab af ay al ar az dv dw db df dy dl dr dz mem rg ti ff pk lg Al Pl AM PM Abk Pbk Asp Psp Amem Pmem Arg Prg Aff Pff Alg Plg nl nM nb ns ng w) (z : BZ 0 l M bk sp mem rg ff lg) (hlM : M.length = l.length) (hls : sp.length = l.length) :
    Calls Tryz.prog 41 #[.agg arr] w fun e w' => e = .returned (.bool (tt (HoldP M sp ho he lm ∧ LockP M ho))) ∧ Below w.heap.size w w' := by
  have HV := Lib.hid v
  have HZ := Lib.hid z
  clear v z
  obtain ⟨R, hR0⟩ : ∃ R, (tt (HoldP M sp ho he lm ∧ LockP M ho)) = R := ⟨_, rfl⟩
  rw [hR0]
  have HR := Lib.hid hR0
  clear hR0
  have B := Bx.new 53 arr w
  have hb0 := (Below.refl w.heap.size w).alloc (Nat.le_refl _) (Obj.cells arr 53)
  obtain ⟨y0, hy0⟩ : ∃ y, w.alloc (Obj.cells arr 53) = y := ⟨_, rfl⟩
  rw [hy0] at B hb0
  have B_0 := Lib.hid B
  have HB_0 := Lib.hid hb0
  clear B hb0
  obtain rfl : nM = nl := by rw [← HV.out.nM, ← HV.out.nl]; exact hlM
  obtain rfl : nM = ns := by rw [← HV.out.nsp, hls, ← hlM]; exact HV.out.nM.symm
  have HLM := Lib.hid hlM
  have HLS := Lib.hid hls
  clear hlM hls
  have hln : nM ≤ 2000000 := by rw [← HV.out.nM]; exact HZ.out.zMl
  go_enter Tryz.func41, Tryz.ntmps41
  have gB7 := B_0.out.cell 7 _ HV.out.c7
  have gB12 := B_0.out.cell 12 _ HV.out.c12
  have gB13 := B_0.out.cell 13 _ HV.out.c13
  by_cases h0 : ho = -1
  · subst h0
    by_cases h1 : he = 0
    rotate_left
    · have hf : R = false := by rw [← HR.out]; exact tt_no (fun h => by rcases h.1 with g | ⟨_, k, m, g, _⟩ <;> first | omega | exact absurd g.2 h1)
      subst hf
      have h2 : (he != 0) = true := by simp [h1]
      repeat (first | go_values | go_skip | go_guarded | go_step | go_upon | go_back)
      go_ret
      exact ⟨rfl, HB_0.out⟩
    subst h1
    have HH : Hid (HoldP M sp (-1) 0 lm) := Lib.hid (.inl ⟨rfl, rfl⟩)
    repeat (first | go_values | go_skip | go_guarded | go_step | go_upon | go_back)
    clear hy0 gB7 gB12 gB13
    go_loopw [36] (fun i wr => ∃ j : Nat, j ≤ nM ∧ i = .int .i64 j ∧ Hid (∀ k m, k < j → M[k]? = some m → 0 < m.2.1 → locksM m = true → (-1) = (k : Int)) ∧ Hid (Bx 53 w.heap.size arr wr) ∧ Hid (Below w.heap.size w wr)) (fun i _ => nM - (intOf i).toNat)
    case atStart => exact ⟨0, by omega, rfl, Lib.hid (fun k m hk => by omega), B_0, HB_0⟩
    case round =>
      clear B_0 HB_0
      obtain ⟨j, hj, rfl, HQ, B_0, HB_0⟩ := hrel
      by_cases hlt : j < nM
      · skip
        obtain ⟨m, hxm⟩ := get_of (l := M) (i := j) (by rw [HV.out.nM]; exact hlt)
        have HXm := Lib.hid hxm
        obtain ⟨bm, om, _, esm, em, _, _, ltm, cm, rm⟩ := row_rd HV.out.rM hxm
        simp at em
        obtain ⟨rfl, -, rfl⟩ := em
        obtain ⟨m0, m1, m2, m3, m4, m5⟩ := m
        have Rm := Lib.hid rm
        obtain ⟨am, pm, rfl, _⟩ := mst_form rm
        have Em0 := Lib.hid (show w.cell? ⟨bm, om + j * 6, none⟩ = some (.slice am m0.length pm) from cm 0 _ rfl)
        have Em1 := Lib.hid (show w.cell? ⟨bm, om + j * 6 + 1, none⟩ = some (.int .i64 m1) from cm 1 _ rfl)
        have Em2 := Lib.hid (show w.cell? ⟨bm, om + j * 6 + 2, none⟩ = some (.int .i64 m2) from cm 2 _ rfl)
        have Em3 := Lib.hid (show w.cell? ⟨bm, om + j * 6 + 3, none⟩ = some (.int .i64 m3) from cm 3 _ rfl)
        have Em4 := Lib.hid (show w.cell? ⟨bm, om + j * 6 + 4, none⟩ = some (.bool m4) from cm 4 _ rfl)
        have Em5 := Lib.hid (show w.cell? ⟨bm, om + j * 6 + 5, none⟩ = some (.bool m5) from cm 5 _ rfl)
        have LTm := Lib.hid ltm
        clear hxm cm rm ltm
        have HZm := Lib.hid (HZ.out.zi _ (List.mem_of_getElem? HXm.out))
        have hin : (0 : Int) ≤ (j : Int) ∧ (j : Int) < ((nM : Nat) : Int) := by omega
        have hm0 := ((bel_cells HB_0.out LTm.out _).trans Em0.out)
        have hm1 := ((bel_cells HB_0.out LTm.out _).trans Em1.out)
        have hm2 := ((bel_cells HB_0.out LTm.out _).trans Em2.out)
        have hm3 := ((bel_cells HB_0.out LTm.out _).trans Em3.out)
        have hm4 := ((bel_cells HB_0.out LTm.out _).trans Em4.out)
        have hm5 := ((bel_cells HB_0.out LTm.out _).trans Em5.out)
        have hba := (Below.refl wr.heap.size wr).alloc (Nat.le_refl _) (Obj.cells #[.slice am m0.length pm, .int .i64 m1, .int .i64 m2, .int .i64 m3, .bool m4, .bool m5] 70)
        have B_1 := Lib.hid (B_0.out.later hba)
        have HB_1 := Lib.hid (HB_0.out.trans (hba.mono HB_0.out.size))
        have X_1 := Lib.hid (Bx.new 70 #[.slice am m0.length pm, .int .i64 m1, .int .i64 m2, .int .i64 m3, .bool m4, .bool m5] wr)
        clear hba B_0 HB_0
        go_upto_region 9 with fail
        clear hm0 hm1 hm2 hm3 hm4 hm5
        generalize wr.alloc (Obj.cells #[.slice am m0.length pm, .int .i64 m1, .int .i64 m2, .int .i64 m3, .bool m4, .bool m5] 70) = w2 at B_1 HB_1 X_1 ⊢
        have gB12 := fun d os => cell_regrown (B_1.out.cell 12 _ HV.out.c12) d os
        have gX0 := fun d os => cell_regrown (X_1.out.cell 0 _ rfl) d os
        have gX1 := fun d os => cell_regrown (X_1.out.cell 1 _ rfl) d os
        have gX2 := fun d os => cell_regrown (X_1.out.cell 2 _ rfl) d os
        have gX3 := fun d os => cell_regrown (X_1.out.cell 3 _ rfl) d os
        have gX4 := fun d os => cell_regrown (X_1.out.cell 4 _ rfl) d os
        have gX5 := fun d os => cell_regrown (X_1.out.cell 5 _ rfl) d os
        obtain ⟨d, hd⟩ : ∃ d, locksM (m0, m1, m2, m3, m4, m5) = d := ⟨_, rfl⟩
        have D := Lib.hid hd
        clear hd
        by_cases hb : 0 < m1
        rotate_left
        · have hb2 : decide (0 < m1) = false := decide_eq_false hb
          have HQ2 : Hid (∀ k m, k < j + 1 → M[k]? = some m → 0 < m.2.1 → locksM m = true → (-1) = (k : Int)) := Lib.hid (fun k m hk hm hb hl => by
            by_cases e : k = j
            · subst e
              rw [HXm.out] at hm
              cases hm
              exact absurd hb (by assumption)
            · exact HQ.out k m (by omega) hm hb hl)
          refine wp_region_det ?_
          repeat (go_big_quiet_step (first
            | (go_at_call 80; exact Calls.regrown_of (locks_is D.out HZm.out (mstK.rd_later Rm.out (below_rg HB_1.out _ _))))))
          refine wpQuiet_nil ?_
          rintro _ ⟨qq, rfl⟩
          have hq := below_regrown w2 qq.d qq.os
          clear gB12 gX0 gX1 gX2 gX3 gX4 gX5
          have B_2 := Lib.hid (B_1.out.later hq)
          have HB_2 := Lib.hid (HB_1.out.trans (hq.mono HB_1.out.size))
          clear B_1 HB_1 hq 
          generalize Sort.grow (redrawn w2 qq.d) qq.os = w3 at B_2 HB_2 ⊢
          repeat (first | go_values | go_skip | go_guarded | go_step | go_upon | go_back)
          go_roundw
          case rel => exact ⟨j + 1, by omega, by go_num, HQ2, B_2, HB_2⟩
          case measure => simp [intOf]; omega
        have hb2 : decide (0 < m1) = true := decide_eq_true hb
        cases d
        · skip
          have HQ2 : Hid (∀ k m, k < j + 1 → M[k]? = some m → 0 < m.2.1 → locksM m = true → (-1) = (k : Int)) := Lib.hid (fun k m hk hm hb hl => by
            by_cases e : k = j
            · subst e
              rw [HXm.out] at hm
              cases hm
              rw [D.out] at hl; cases hl
            · exact HQ.out k m (by omega) hm hb hl)
          refine wp_region_det ?_
          repeat (go_big_quiet_step (first
            | (go_at_call 80; exact Calls.regrown_of (locks_is D.out HZm.out (mstK.rd_later Rm.out (below_rg HB_1.out _ _))))))
          refine wpQuiet_nil ?_
          rintro _ ⟨qq, rfl⟩
          have hq := below_regrown w2 qq.d qq.os
          clear gB12 gX0 gX1 gX2 gX3 gX4 gX5
          have B_2 := Lib.hid (B_1.out.later hq)
          have HB_2 := Lib.hid (HB_1.out.trans (hq.mono HB_1.out.size))
          clear B_1 HB_1 hq 
          generalize Sort.grow (redrawn w2 qq.d) qq.os = w3 at B_2 HB_2 ⊢
          repeat (first | go_values | go_skip | go_guarded | go_step | go_upon | go_back)
          go_roundw
          case rel => exact ⟨j + 1, by omega, by go_num, HQ2, B_2, HB_2⟩
          case measure => simp [intOf]; omega
        by_cases hh : (-1) = (j : Int)
        · have hh2 : ((j : Int) != (-1)) = false := by simp [hh]
          have HHJ := Lib.hid hh
          clear hh
          have HQ2 : Hid (∀ k m, k < j + 1 → M[k]? = some m → 0 < m.2.1 → locksM m = true → (-1) = (k : Int)) := Lib.hid (fun k m hk hm hb hl => by
            by_cases e : k = j
            · subst e
              rw [HXm.out] at hm
              cases hm
              exact HHJ.out
            · exact HQ.out k m (by omega) hm hb hl)
          refine wp_region_det ?_
          repeat (go_big_quiet_step (first
            | (go_at_call 80; exact Calls.regrown_of (locks_is D.out HZm.out (mstK.rd_later Rm.out (below_rg HB_1.out _ _))))))
          refine wpQuiet_nil ?_
          rintro _ ⟨qq, rfl⟩
          have hq := below_regrown w2 qq.d qq.os
          clear gB12 gX0 gX1 gX2 gX3 gX4 gX5
          have B_2 := Lib.hid (B_1.out.later hq)
          have HB_2 := Lib.hid (HB_1.out.trans (hq.mono HB_1.out.size))
          clear B_1 HB_1 hq 
          generalize Sort.grow (redrawn w2 qq.d) qq.os = w3 at B_2 HB_2 ⊢
          repeat (first | go_values | go_skip | go_guarded | go_step | go_upon | go_back)
          go_roundw
          case rel => exact ⟨j + 1, by omega, by go_num, HQ2, B_2, HB_2⟩
          case measure => simp [intOf]; omega
        have hh2 : ((j : Int) != (-1)) = true := by first | (simp; done) | (simp; omega)
        have hf : R = false := by rw [← HR.out]; exact tt_no (fun h => hh (h.2 j _ HXm.out hb D.out))
        subst hf
        clear hh
        refine wp_region_det ?_
        repeat (go_big_quiet_step (first
          | (go_at_call 80; exact Calls.regrown_of (locks_is D.out HZm.out (mstK.rd_later Rm.out (below_rg HB_1.out _ _))))))
        refine wpQuiet_nil ?_
        rintro _ ⟨qq, rfl⟩
        have hq := below_regrown w2 qq.d qq.os
        clear gB12 gX0 gX1 gX2 gX3 gX4 gX5
        have B_2 := Lib.hid (B_1.out.later hq)
        have HB_2 := Lib.hid (HB_1.out.trans (hq.mono HB_1.out.size))
        clear B_1 HB_1 hq 
        repeat (first | go_values | go_skip | go_guarded | go_step | go_upon | go_back)
        go_ret
        exact ⟨rfl, HB_2.out⟩
      · obtain rfl : j = nM := by omega
        have hf : R = true := by
          rw [← HR.out]
          exact tt_yes ⟨HH.out, fun k m hm hb hl => HQ.out k m (by have := (List.getElem?_eq_some_iff.1 hm).1; rw [HV.out.nM] at this; exact this) hm hb hl⟩
        subst hf
        repeat (first | go_values | go_skip | go_guarded | go_step | go_upon | go_back)
        go_ret
        exact ⟨rfl, HB_0.out⟩
  have h2 : (ho == -1) = false := by simp [h0]
  have h3 : decide (ho = -1) = false := by simp [h0]
  go_upto_region 4 with fail
  clear gB7 gB12 gB13
  clear hy0
  have gB0 := fun d os => cell_regrown (B_0.out.cell 0 _ HV.out.c0) d os
  have gB1 := fun d os => cell_regrown (B_0.out.cell 1 _ HV.out.c1) d os
  have gB2 := fun d os => cell_regrown (B_0.out.cell 2 _ HV.out.c2) d os
  have gB3 := fun d os => cell_regrown (B_0.out.cell 3 _ HV.out.c3) d os
  have gB4 := fun d os => cell_regrown (B_0.out.cell 4 _ HV.out.c4) d os
  have gB5 := fun d os => cell_regrown (B_0.out.cell 5 _ HV.out.c5) d os
  have gB12 := fun d os => cell_regrown (B_0.out.cell 12 _ HV.out.c12) d os
  have gB13 := fun d os => cell_regrown (B_0.out.cell 13 _ HV.out.c13) d os
  obtain ⟨c1, hc1⟩ : ∃ c, inB ho 0 ((nM : Int) - 1) = c := ⟨_, rfl⟩
  have C1 := Lib.hid hc1
  clear hc1
  obtain ⟨c3, hc3⟩ : ∃ c, inB he 0 lm = c := ⟨_, rfl⟩
  have C3 := Lib.hid hc3
  clear hc3
  have H0 := Lib.hid h0
  clear h0
  cases c1
  · skip
    have hf : R = false := by
      rw [← HR.out]
      exact tt_no (fun h => by
        rcases h.1 with g | ⟨g0, k, m, g1, g2, g3, g4⟩
        · exact absurd g.1 H0.out
        · have h5 := (List.getElem?_eq_some_iff.1 g2).1
          rw [HV.out.nM] at h5
          have h6 : inB ho 0 ((nM : Int) - 1) = true := inB_iff.2 (by omega)
          rw [C1.out] at h6; cases h6)
    subst hf
    refine wp_region_det ?_
    repeat (first
      | (go_big_quiet_want; refine quiet_load (T := 53) (x := .tmp 1) (g := w.heap.size) (cs := arr) rfl rfl B_0.out Tryz.underlying53 rfl (by rw [HV.out.size]; kernel_rfl) ?_; simp only [Act.put, List.setIfInBounds_toArray, List.set_cons_succ, List.set_cons_zero]; go_big_quiet_on)
      | go_big_quiet_step (first
      | (go_at_call 71; exact Calls.regrown_of (isMaster_is C1.out hln _ _ _ _ _ _ _ _))))
    refine wpQuiet_nil ?_
    rintro _ ⟨qq, rfl⟩
    have hq := below_regrown y0 qq.d qq.os
    clear gB0 gB1 gB2 gB3 gB4 gB5 gB12 gB13
    have B_1 := Lib.hid (B_0.out.later hq)
    have HB_1 := Lib.hid (HB_0.out.trans (hq.mono HB_0.out.size))
    clear B_0 HB_0 hq 
    repeat (first | go_values | go_skip | go_guarded | go_step | go_upon | go_back)
    go_ret
    exact ⟨rfl, HB_1.out⟩
  have hi := inB_iff.1 C1.out
  obtain ⟨j, hj⟩ : ∃ j : Nat, ho = (j : Int) := ⟨ho.toNat, by omega⟩
  have hjn : j < nM := by omega
  obtain ⟨m, hm⟩ := get_of (l := M) (i := j) (by rw [HV.out.nM]; exact hjn)
  obtain ⟨s, hs⟩ := get_of (l := sp) (i := j) (by rw [HV.out.nsp]; exact hjn)
  obtain ⟨c2, hc2⟩ : ∃ c, (locksM m && (s == 0)) = c := ⟨_, rfl⟩
  have C2 := Lib.hid hc2
  have HM := Lib.hid hm
  have HS := Lib.hid hs
  have HJ := Lib.hid hj
  have HJN := Lib.hid hjn
  clear hi hm hs hc2 hjn hj
  cases c2
  · skip
    have hf : R = false := by
      rw [← HR.out]
      exact tt_no (fun h => by
        rcases h.1 with g | ⟨g0, k, m, g1, g2, g3, g4⟩
        · exact absurd g.1 H0.out
        · have h5 : k = j := by have := HJ.out; omega
          subst h5
          rw [HM.out] at g2; rw [HS.out] at g3
          cases g2; cases g3
          have := C2.out
          rw [g4] at this
          cases this)
    subst hf
    refine wp_region_det ?_
    repeat (first
      | (go_big_quiet_want; refine quiet_load (T := 53) (x := .tmp 1) (g := w.heap.size) (cs := arr) rfl rfl B_0.out Tryz.underlying53 rfl (by rw [HV.out.size]; kernel_rfl) ?_; simp only [Act.put, List.setIfInBounds_toArray, List.set_cons_succ, List.set_cons_zero]; go_big_quiet_on)
      | go_big_quiet_step (first
      | (go_at_call 71; exact Calls.regrown_of (isMaster_is C1.out hln _ _ _ _ _ _ _ _))
      | (go_at_call 79; exact Calls.regrown_of (may_is C2.out HJ.out HJN.out HV.out.nM HV.out.nsp HM.out HS.out (BV.later HV.out (below_rg HB_0.out _ _)) HZ.out))))
    refine wpQuiet_nil ?_
    rintro _ ⟨qq, rfl⟩
    have hq := below_regrown y0 qq.d qq.os
    clear gB0 gB1 gB2 gB3 gB4 gB5 gB12 gB13
    have B_1 := Lib.hid (B_0.out.later hq)
    have HB_1 := Lib.hid (HB_0.out.trans (hq.mono HB_0.out.size))
    clear B_0 HB_0 hq 
    repeat (first | go_values | go_skip | go_guarded | go_step | go_upon | go_back)
    go_ret
    exact ⟨rfl, HB_1.out⟩
  cases c3
  · skip
    have hf : R = false := by
      rw [← HR.out]
      exact tt_no (fun h => by
        rcases h.1 with g | ⟨g0, k, m, g1, g2, g3, g4⟩
        · exact absurd g.1 H0.out
        · have h6 := inB_iff.2 g0; rw [C3.out] at h6; cases h6)
    subst hf
    refine wp_region_det ?_
    repeat (first
      | (go_big_quiet_want; refine quiet_load (T := 53) (x := .tmp 1) (g := w.heap.size) (cs := arr) rfl rfl B_0.out Tryz.underlying53 rfl (by rw [HV.out.size]; kernel_rfl) ?_; simp only [Act.put, List.setIfInBounds_toArray, List.set_cons_succ, List.set_cons_zero]; go_big_quiet_on)
      | go_big_quiet_step (first
      | (go_at_call 71; exact Calls.regrown_of (isMaster_is C1.out hln _ _ _ _ _ _ _ _))
      | (go_at_call 79; exact Calls.regrown_of (may_is C2.out HJ.out HJN.out HV.out.nM HV.out.nsp HM.out HS.out (BV.later HV.out (below_rg HB_0.out _ _)) HZ.out))
      | (go_at_call 69; exact Calls.regrown_of (within_isC C3.out _))))
    refine wpQuiet_nil ?_
    rintro _ ⟨qq, rfl⟩
    have hq := below_regrown y0 qq.d qq.os
    clear gB0 gB1 gB2 gB3 gB4 gB5 gB12 gB13
    have B_1 := Lib.hid (B_0.out.later hq)
    have HB_1 := Lib.hid (HB_0.out.trans (hq.mono HB_0.out.size))
    clear B_0 HB_0 hq 
    repeat (first | go_values | go_skip | go_guarded | go_step | go_upon | go_back)
    go_ret
    exact ⟨rfl, HB_1.out⟩
  have HH : Hid (HoldP M sp ho he lm) := Lib.hid (by
    have h2 := C2.out
    rw [Bool.and_eq_true, beq_iff_eq] at h2
    obtain ⟨h3, rfl⟩ := h2
    exact .inr ⟨inB_iff.1 C3.out, j, m, HJ.out, HM.out, HS.out, h3⟩)
  refine wp_region_det ?_
  repeat (first
    | (go_big_quiet_want; refine quiet_load (T := 53) (x := .tmp 1) (g := w.heap.size) (cs := arr) rfl rfl B_0.out Tryz.underlying53 rfl (by rw [HV.out.size]; kernel_rfl) ?_; simp only [Act.put, List.setIfInBounds_toArray, List.set_cons_succ, List.set_cons_zero]; go_big_quiet_on)
    | go_big_quiet_step (first
    | (go_at_call 71; exact Calls.regrown_of (isMaster_is C1.out hln _ _ _ _ _ _ _ _))
    | (go_at_call 79; exact Calls.regrown_of (may_is C2.out HJ.out HJN.out HV.out.nM HV.out.nsp HM.out HS.out (BV.later HV.out (below_rg HB_0.out _ _)) HZ.out))
    | (go_at_call 69; exact Calls.regrown_of (within_isC C3.out _))))
  refine wpQuiet_nil ?_
  rintro _ ⟨qq, rfl⟩
  have hq := below_regrown y0 qq.d qq.os
  clear gB0 gB1 gB2 gB3 gB4 gB5 gB12 gB13
  have B_1 := Lib.hid (B_0.out.later hq)
  have HB_1 := Lib.hid (HB_0.out.trans (hq.mono HB_0.out.size))
  clear B_0 HB_0 hq 
  generalize Sort.grow (redrawn y0 qq.d) qq.os = y1 at B_1 HB_1 ⊢
  have g7 := B_1.out.cell 7 _ HV.out.c7
  repeat (first | go_values | go_skip | go_guarded | go_step | go_upon | go_back)
  clear g7
  go_loopw [36] (fun i wr => ∃ j : Nat, j ≤ nM ∧ i = .int .i64 j ∧ Hid (∀ k m, k < j → M[k]? = some m → 0 < m.2.1 → locksM m = true → ho = (k : Int)) ∧ Hid (Bx 53 w.heap.size arr wr) ∧ Hid (Below w.heap.size w wr)) (fun i _ => nM - (intOf i).toNat)
  case atStart => exact ⟨0, by omega, rfl, Lib.hid (fun k m hk => by omega), B_1, HB_1⟩
  case round =>
    clear B_1 HB_1
    obtain ⟨j, hj, rfl, HQ, B_0, HB_0⟩ := hrel
    by_cases hlt : j < nM
    · skip
      obtain ⟨m, hxm⟩ := get_of (l := M) (i := j) (by rw [HV.out.nM]; exact hlt)
      have HXm := Lib.hid hxm
      obtain ⟨bm, om, _, esm, em, _, _, ltm, cm, rm⟩ := row_rd HV.out.rM hxm
      simp at em
      obtain ⟨rfl, -, rfl⟩ := em
      obtain ⟨m0, m1, m2, m3, m4, m5⟩ := m
      have Rm := Lib.hid rm
      obtain ⟨am, pm, rfl, _⟩ := mst_form rm
      have Em0 := Lib.hid (show w.cell? ⟨bm, om + j * 6, none⟩ = some (.slice am m0.length pm) from cm 0 _ rfl)
      have Em1 := Lib.hid (show w.cell? ⟨bm, om + j * 6 + 1, none⟩ = some (.int .i64 m1) from cm 1 _ rfl)
      have Em2 := Lib.hid (show w.cell? ⟨bm, om + j * 6 + 2, none⟩ = some (.int .i64 m2) from cm 2 _ rfl)
      have Em3 := Lib.hid (show w.cell? ⟨bm, om + j * 6 + 3, none⟩ = some (.int .i64 m3) from cm 3 _ rfl)
      have Em4 := Lib.hid (show w.cell? ⟨bm, om + j * 6 + 4, none⟩ = some (.bool m4) from cm 4 _ rfl)
      have Em5 := Lib.hid (show w.cell? ⟨bm, om + j * 6 + 5, none⟩ = some (.bool m5) from cm 5 _ rfl)
      have LTm := Lib.hid ltm
      clear hxm cm rm ltm
      have HZm := Lib.hid (HZ.out.zi _ (List.mem_of_getElem? HXm.out))
      have hin : (0 : Int) ≤ (j : Int) ∧ (j : Int) < ((nM : Nat) : Int) := by omega
      have hm0 := ((bel_cells HB_0.out LTm.out _).trans Em0.out)
      have hm1 := ((bel_cells HB_0.out LTm.out _).trans Em1.out)
      have hm2 := ((bel_cells HB_0.out LTm.out _).trans Em2.out)
      have hm3 := ((bel_cells HB_0.out LTm.out _).trans Em3.out)
      have hm4 := ((bel_cells HB_0.out LTm.out _).trans Em4.out)
      have hm5 := ((bel_cells HB_0.out LTm.out _).trans Em5.out)
      have hba := (Below.refl wr.heap.size wr).alloc (Nat.le_refl _) (Obj.cells #[.slice am m0.length pm, .int .i64 m1, .int .i64 m2, .int .i64 m3, .bool m4, .bool m5] 70)
      have B_1 := Lib.hid (B_0.out.later hba)
      have HB_1 := Lib.hid (HB_0.out.trans (hba.mono HB_0.out.size))
      have X_1 := Lib.hid (Bx.new 70 #[.slice am m0.length pm, .int .i64 m1, .int .i64 m2, .int .i64 m3, .bool m4, .bool m5] wr)
      clear hba B_0 HB_0
      go_upto_region 9 with fail
      clear hm0 hm1 hm2 hm3 hm4 hm5
      generalize wr.alloc (Obj.cells #[.slice am m0.length pm, .int .i64 m1, .int .i64 m2, .int .i64 m3, .bool m4, .bool m5] 70) = w2 at B_1 HB_1 X_1 ⊢
      have gB12 := fun d os => cell_regrown (B_1.out.cell 12 _ HV.out.c12) d os
      have gX0 := fun d os => cell_regrown (X_1.out.cell 0 _ rfl) d os
      have gX1 := fun d os => cell_regrown (X_1.out.cell 1 _ rfl) d os
      have gX2 := fun d os => cell_regrown (X_1.out.cell 2 _ rfl) d os
      have gX3 := fun d os => cell_regrown (X_1.out.cell 3 _ rfl) d os
      have gX4 := fun d os => cell_regrown (X_1.out.cell 4 _ rfl) d os
      have gX5 := fun d os => cell_regrown (X_1.out.cell 5 _ rfl) d os
      obtain ⟨d, hd⟩ : ∃ d, locksM (m0, m1, m2, m3, m4, m5) = d := ⟨_, rfl⟩
      have D := Lib.hid hd
      clear hd
      by_cases hb : 0 < m1
      rotate_left
      · have hb2 : decide (0 < m1) = false := decide_eq_false hb
        have HQ2 : Hid (∀ k m, k < j + 1 → M[k]? = some m → 0 < m.2.1 → locksM m = true → ho = (k : Int)) := Lib.hid (fun k m hk hm hb hl => by
          by_cases e : k = j
          · subst e
            rw [HXm.out] at hm
            cases hm
            exact absurd hb (by assumption)
          · exact HQ.out k m (by omega) hm hb hl)
        refine wp_region_det ?_
        repeat (go_big_quiet_step (first
          | (go_at_call 80; exact Calls.regrown_of (locks_is D.out HZm.out (mstK.rd_later Rm.out (below_rg HB_1.out _ _))))))
        refine wpQuiet_nil ?_
        rintro _ ⟨qq, rfl⟩
        have hq := below_regrown w2 qq.d qq.os
        clear gB12 gX0 gX1 gX2 gX3 gX4 gX5
        have B_2 := Lib.hid (B_1.out.later hq)
        have HB_2 := Lib.hid (HB_1.out.trans (hq.mono HB_1.out.size))
        clear B_1 HB_1 hq 
        generalize Sort.grow (redrawn w2 qq.d) qq.os = w3 at B_2 HB_2 ⊢
        repeat (first | go_values | go_skip | go_guarded | go_step | go_upon | go_back)
        go_roundw
        case rel => exact ⟨j + 1, by omega, by go_num, HQ2, B_2, HB_2⟩
        case measure => simp [intOf]; omega
      have hb2 : decide (0 < m1) = true := decide_eq_true hb
      cases d
      · skip
        have HQ2 : Hid (∀ k m, k < j + 1 → M[k]? = some m → 0 < m.2.1 → locksM m = true → ho = (k : Int)) := Lib.hid (fun k m hk hm hb hl => by
          by_cases e : k = j
          · subst e
            rw [HXm.out] at hm
            cases hm
            rw [D.out] at hl; cases hl
          · exact HQ.out k m (by omega) hm hb hl)
        refine wp_region_det ?_
        repeat (go_big_quiet_step (first
          | (go_at_call 80; exact Calls.regrown_of (locks_is D.out HZm.out (mstK.rd_later Rm.out (below_rg HB_1.out _ _))))))
        refine wpQuiet_nil ?_
        rintro _ ⟨qq, rfl⟩
        have hq := below_regrown w2 qq.d qq.os
        clear gB12 gX0 gX1 gX2 gX3 gX4 gX5
        have B_2 := Lib.hid (B_1.out.later hq)
        have HB_2 := Lib.hid (HB_1.out.trans (hq.mono HB_1.out.size))
        clear B_1 HB_1 hq 
        generalize Sort.grow (redrawn w2 qq.d) qq.os = w3 at B_2 HB_2 ⊢
        repeat (first | go_values | go_skip | go_guarded | go_step | go_upon | go_back)
        go_roundw
        case rel => exact ⟨j + 1, by omega, by go_num, HQ2, B_2, HB_2⟩
        case measure => simp [intOf]; omega
      by_cases hh : ho = (j : Int)
      · have hh2 : ((j : Int) != ho) = false := by simp [hh]
        have HHJ := Lib.hid hh
        clear hh
        have HQ2 : Hid (∀ k m, k < j + 1 → M[k]? = some m → 0 < m.2.1 → locksM m = true → ho = (k : Int)) := Lib.hid (fun k m hk hm hb hl => by
          by_cases e : k = j
          · subst e
            rw [HXm.out] at hm
            cases hm
            exact HHJ.out
          · exact HQ.out k m (by omega) hm hb hl)
        refine wp_region_det ?_
        repeat (go_big_quiet_step (first
          | (go_at_call 80; exact Calls.regrown_of (locks_is D.out HZm.out (mstK.rd_later Rm.out (below_rg HB_1.out _ _))))))
        refine wpQuiet_nil ?_
        rintro _ ⟨qq, rfl⟩
        have hq := below_regrown w2 qq.d qq.os
        clear gB12 gX0 gX1 gX2 gX3 gX4 gX5
        have B_2 := Lib.hid (B_1.out.later hq)
        have HB_2 := Lib.hid (HB_1.out.trans (hq.mono HB_1.out.size))
        clear B_1 HB_1 hq 
        generalize Sort.grow (redrawn w2 qq.d) qq.os = w3 at B_2 HB_2 ⊢
        repeat (first | go_values | go_skip | go_guarded | go_step | go_upon | go_back)
        go_roundw
        case rel => exact ⟨j + 1, by omega, by go_num, HQ2, B_2, HB_2⟩
        case measure => simp [intOf]; omega
      have hh2 : ((j : Int) != ho) = true := by first | (simp; done) | (simp; omega)
      have hf : R = false := by rw [← HR.out]; exact tt_no (fun h => hh (h.2 j _ HXm.out hb D.out))
      subst hf
      clear hh
      refine wp_region_det ?_
      repeat (go_big_quiet_step (first
        | (go_at_call 80; exact Calls.regrown_of (locks_is D.out HZm.out (mstK.rd_later Rm.out (below_rg HB_1.out _ _))))))
      refine wpQuiet_nil ?_
      rintro _ ⟨qq, rfl⟩
      have hq := below_regrown w2 qq.d qq.os
      clear gB12 gX0 gX1 gX2 gX3 gX4 gX5
      have B_2 := Lib.hid (B_1.out.later hq)
      have HB_2 := Lib.hid (HB_1.out.trans (hq.mono HB_1.out.size))
      clear B_1 HB_1 hq 
      repeat (first | go_values | go_skip | go_guarded | go_step | go_upon | go_back)
      go_ret
      exact ⟨rfl, HB_2.out⟩
    · obtain rfl : j = nM := by omega
      have hf : R = true := by
        rw [← HR.out]
        exact tt_yes ⟨HH.out, fun k m hm hb hl => HQ.out k m (by have := (List.getElem?_eq_some_iff.1 hm).1; rw [HV.out.nM] at this; exact this) hm hb hl⟩
      subst hf
      repeat (first | go_values | go_skip | go_guarded | go_step | go_upon | go_back)
      go_ret
      exact ⟨rfl, HB_0.out⟩

end Go.Proofs.YtdhaelaoackfkaaGreat.KD
