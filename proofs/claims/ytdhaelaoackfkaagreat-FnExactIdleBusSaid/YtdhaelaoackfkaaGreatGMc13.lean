/-
  Several texts in one: MstI1, MstI4, MstI5.
-/
import Derived.Test.YtdhaelaoackfkaaGreatMst8
namespace Go.Proofs.YtdhaelaoackfkaaGreat.KD
open Go.RowKit Rows3 GR Num
set_option linter.unusedVariables false

set_option maxRecDepth 100000 in
theorem implFirst (cs : List Value) (q : List ReqX) (be dn tr : Int) (pa br : Bool) (hs : mstK.sz (q, be, dn, tr, pa, br) ≤ 2000000) (w : World) (h : mstK.rd cs (q, be, dn, tr, pa, br) w) :
    Calls Tryz.prog 114 #[agg cs] w fun e w' => e = .returned (.int .i64 (beats0 q)) ∧ Below w.heap.size w w' := by
  obtain ⟨a0, p0, rfl, h0⟩ := mst_form h
  clear h
  have hl := mst_len hs
  obtain ⟨n, hn⟩ : ∃ n, q.length = n := ⟨_, rfl⟩
  have A0 := Bx.new 70 #[.slice a0 n p0, .int .i64 be, .int .i64 dn, .int .i64 tr, .bool pa, .bool br] w
  have g0 := A0.cell 0 _ rfl
  have HB := Lib.hid ((Below.refl w.heap.size w).alloc (Nat.le_refl _) (Obj.cells #[.slice a0 n p0, .int .i64 be, .int .i64 dn, .int .i64 tr, .bool pa, .bool br] 70))
  have H0 := Lib.hid (reqS.rd_later h0 HB.out)
  rw [hn] at H0 hl ⊢
  show Calls _ _ #[.agg #[.slice a0 n p0, .int .i64 be, .int .i64 dn, .int .i64 tr, .bool pa, .bool br]] w _
  cases q with
  | nil =>
    obtain rfl : n = 0 := hn.symm
    clear h0 A0 hn hs
    go_enter Tryz.func114, Tryz.ntmps114
    go_wp2
    go_ret
    exact ⟨rfl, HB.out⟩
  | cons r q =>
    have hpos : 0 < n := by rw [← hn]; simp
    obtain ⟨b, o, _, es, e, _, _, lt, c, rx⟩ := row_rd H0.out (i := 0) (x := r) rfl
    obtain ⟨r0, r1, r2, r3, r4, r5⟩ := r
    obtain ⟨ax, px, rfl, _⟩ := rd_req rx
    simp at e
    obtain ⟨rfl, -, rfl⟩ := e
    have k3 : _ = some (Value.int .i64 r3) := c 3 _ rfl
    rw [Nat.zero_mul, Nat.add_zero] at k3
    have hne : ((n : Int) == 0) = false := by simp; omega
    obtain ⟨m, hm⟩ : ∃ m, beatsW r3 = m := ⟨_, rfl⟩
    have HM := Lib.hid hm
    have hgoal : beats0 ((r0, r1, r2, r3, r4, r5) :: q) = m := hm
    rw [hgoal]
    clear h0 A0 hn hs c rx hm hgoal
    go_enter Tryz.func114, Tryz.ntmps114
    go_wp2_with fail
    refine (implBeats _ _).mono ?_
    rintro e w' ⟨rfl, rfl⟩
    rw [HM.out]
    go_wp2
    go_ret
    exact ⟨rfl, HB.out⟩
theorem first_is {cs : List Value} {q : List ReqX} {be dn tr : Int} {pa br : Bool} {m : Int} (hm : beats0 q = m) (hs : mstK.sz (q, be, dn, tr, pa, br) ≤ 2000000) (w : World) (h : mstK.rd cs (q, be, dn, tr, pa, br) w) :
    Calls Tryz.prog 114 #[agg cs] w fun e w' => e = .returned (.int .i64 m) ∧ Below w.heap.size w w' := hm ▸ implFirst cs q be dn tr pa br hs w h
set_option maxHeartbeats 4000000 in
set_option maxRecDepth 100000 in
theorem implReqsOk (a0 : Option Addr) (n p0 : Nat) (q : List ReqX) (hn : q.length = n) (hs : reqS.sz q ≤ 2000000) (w : World) (h : reqS.rd [.slice a0 n p0] q w) :
    Calls Tryz.prog 113 #[.slice a0 n p0] w fun e w' => e = .returned (.bool (q.all okQ)) ∧ Below w.heap.size w w' := by
  have hl : n ≤ 2000000 := by have := szL_len reqK q; have e : reqS.sz q = szL reqK q := rfl; omega
  have HSZ := Lib.hid hs
  have HN := Lib.hid hn
  have H0 := Lib.hid h
  obtain ⟨R, hR0⟩ : ∃ R, q.all okQ = R := ⟨_, rfl⟩
  rw [hR0]
  have HR := Lib.hid hR0
  clear h hn hs hR0
  go_enter Tryz.func113, Tryz.ntmps113
  go_wp2_with fail
  go_loopw [7] (fun i wr => ∃ j : Nat, j ≤ n ∧ i = .int .i64 j ∧ Hid (qokTo q j = true) ∧ Hid (Below w.heap.size w wr)) (fun i _ => n - (intOf i).toNat)
  case atStart => exact ⟨0, by omega, rfl, Lib.hid rfl, Lib.hid (Below.refl _ _)⟩
  case round =>
    obtain ⟨j, hj, rfl, HQ, HB⟩ := hrel
    by_cases hlt : j < n
    · obtain ⟨x, hx⟩ := get_of (l := q) (i := j) (by rw [HN.out]; exact hlt)
      have hsx : reqK.sz x ≤ 2000000 := Nat.le_trans (szL_mem reqK (List.mem_of_getElem? hx)) HSZ.out
      have Hst := Lib.hid (qokTo_step hx)
      have Hbad := Lib.hid (fun h => qok_bad hx h)
      obtain ⟨x0, x1, x2, x3, x4, x5⟩ := x
      obtain ⟨b, o, _, es, e, _, _, lt, c, rx⟩ := row_rd H0.out hx
      simp at e
      obtain ⟨rfl, -, rfl⟩ := e
      have hrx := rx
      obtain ⟨ax, px, rfl, _⟩ := rd_req rx
      have g0 : w.cell? ⟨b, o + j * 6, none⟩ = some (.bool x0) := c 0 _ rfl
      have g1 : w.cell? ⟨b, o + j * 6 + 1, none⟩ = some (.int .i64 x1) := c 1 _ rfl
      have g2 : w.cell? ⟨b, o + j * 6 + 2, none⟩ = some (.int .i64 x2) := c 2 _ rfl
      have g3 : w.cell? ⟨b, o + j * 6 + 3, none⟩ = some (.int .i64 x3) := c 3 _ rfl
      have g4 : w.cell? ⟨b, o + j * 6 + 4, none⟩ = some (.bool x4) := c 4 _ rfl
      have g5 : w.cell? ⟨b, o + j * 6 + 5, none⟩ = some (.slice ax x5.length px) := c 5 _ rfl
      rw [← bel_cells HB.out lt] at g0 g1 g2 g3 g4 g5
      have Hx := Lib.hid (reqK.rd_later hrx HB.out)
      have hb1 := (Below.refl wr.heap.size wr).alloc (Nat.le_refl _) (Obj.cells #[.bool x0, .int .i64 x1, .int .i64 x2, .int .i64 x3, .bool x4, .slice ax x5.length px] 107)
      have Hx1 := Lib.hid (reqK.rd_later Hx.out hb1)
      have HB1 := Lib.hid (HB.out.trans (hb1.mono HB.out.size))
      obtain ⟨u, hu⟩ : ∃ u, okQ (x0, x1, x2, x3, x4, x5) = u := ⟨_, rfl⟩
      have HU := Lib.hid hu
      clear hx c rx hrx hu hb1
      cases u with
      | true =>
        go_wp2_with fail
        refine (implReqX [.bool x0, .int .i64 x1, .int .i64 x2, .int .i64 x3, .bool x4, .slice ax x5.length px] x0 x1 x2 x3 x4 x5 hsx _ Hx1.out).mono ?_
        rintro e w2 ⟨rfl, hb⟩
        rw [HU.out]
        clear g0 g1 g2 g3 g4 g5
        go_wp2_with fail
        go_roundw
        case rel => exact ⟨j + 1, by omega, by go_num, Lib.hid (by rw [Hst.out, HQ.out, HU.out]; rfl), Lib.hid (HB1.out.trans (hb.mono HB1.out.size))⟩
        case measure => simp [intOf]; omega
      | false =>
        go_wp2_with fail
        refine (implReqX [.bool x0, .int .i64 x1, .int .i64 x2, .int .i64 x3, .bool x4, .slice ax x5.length px] x0 x1 x2 x3 x4 x5 hsx _ Hx1.out).mono ?_
        rintro e w2 ⟨rfl, hb⟩
        rw [HU.out]
        clear g0 g1 g2 g3 g4 g5
        go_wp2_with fail
        go_ret
        have hf : R = false := by rw [← HR.out]; exact Hbad.out HU.out
        exact ⟨by rw [hf]; rfl, HB1.out.trans (hb.mono HB1.out.size)⟩
    · obtain rfl : j = n := by omega
      have HA : R = true := by rw [← HR.out, ← qok_all, HN.out]; exact HQ.out
      go_wp2
      go_ret
      exact ⟨by rw [HA]; rfl, HB.out⟩
end Go.Proofs.YtdhaelaoackfkaaGreat.KD

namespace Go.Proofs.YtdhaelaoackfkaaGreat.KD
open Go.RowKit Rows3 GR Num
set_option linter.unusedVariables false

/-- are two rows of requests the same. -/
noncomputable def sameQs (q q' : List ReqX) : Bool := @decide (q = q') (Classical.propDecidable _)
theorem sameQs_iff (q q' : List ReqX) : sameQs q q' = true ↔ q = q' := by unfold sameQs; exact @decide_eq_true_iff _ (Classical.propDecidable _)
theorem sameQs_no {q q' : List ReqX} (h : q ≠ q') : sameQs q q' = false := by rw [← Bool.not_eq_true, sameQs_iff]; exact h
theorem implSameQ_is {cs ds : List Value} {r s : ReqX} {b : Bool} (hb : sameQ r s = b) (hr : reqK.sz r ≤ 2000000) (w : World) (h : reqK.rd cs r w) (h' : reqK.rd ds s w) :
    Calls Tryz.prog 120 #[agg cs, agg ds] w fun e w' => e = .returned (.bool b) ∧ Below w.heap.size w w' := by
  obtain ⟨a, b_, c, d, e, f⟩ := r
  obtain ⟨a', b', c', d', e', f'⟩ := s
  obtain ⟨ax, px, rfl, h0⟩ := rd_req h
  obtain ⟨ay, py, rfl, h1⟩ := rd_req h'
  exact hb ▸ implSame a b_ c d e _ f a' b' c' d' e' _ f' (req_len hr) w h0 h1
set_option maxHeartbeats 8000000 in
set_option maxRecDepth 100000 in
theorem implEqFunc (a0 : Option Addr) (n p0 : Nat) (q : List ReqX) (a0' : Option Addr) (n' p0' : Nat) (q' : List ReqX) (hn : q.length = n) (hn' : q'.length = n') (hs : reqS.sz q ≤ 2000000) (w : World) (h : reqS.rd [.slice a0 n p0] q w) (h' : reqS.rd [.slice a0' n' p0'] q' w) :
    Calls Tryz.prog 119 #[.slice a0 n p0, .slice a0' n' p0', .func (.func 120) #[] #[]] w fun e w' => e = .returned (.bool (sameQs q q')) ∧ Below w.heap.size w w' := by
  have hl : n ≤ 2000000 := by have := szL_len reqK q; have e : reqS.sz q = szL reqK q := rfl; omega
  have HSZ := Lib.hid hs
  have HN := Lib.hid hn
  have HN' := Lib.hid hn'
  have H0 := Lib.hid h
  have H0' := Lib.hid h'
  obtain ⟨R, hR0⟩ : ∃ R, sameQs q q' = R := ⟨_, rfl⟩
  rw [hR0]
  have HR := Lib.hid hR0
  clear h h' hn hn' hs hR0
  by_cases hnn : n = n'
  · subst hnn
    have hne : (((n : Nat) : Int) != ((n : Nat) : Int)) = false := by simp
    go_enter Tryz.func119, Tryz.ntmps119
    go_wp2_with fail
    go_loopw [17] (fun i wr => ∃ j : Nat, j ≤ n ∧ i = .int .i64 j ∧ Hid (qTo q q' j) ∧ Hid (Below w.heap.size w wr)) (fun i _ => n - (intOf i).toNat)
    case atStart => exact ⟨0, by omega, rfl, Lib.hid rfl, Lib.hid (Below.refl _ _)⟩
    case round =>
      obtain ⟨j, hj, rfl, HQ, HB⟩ := hrel
      by_cases hlt : j < n
      · obtain ⟨x, hx⟩ := get_of (l := q) (i := j) (by rw [HN.out]; exact hlt)
        obtain ⟨y, hy⟩ := get_of (l := q') (i := j) (by rw [HN'.out]; exact hlt)
        have hsx : reqK.sz x ≤ 2000000 := Nat.le_trans (szL_mem reqK (List.mem_of_getElem? hx)) HSZ.out
        have HX := Lib.hid hx
        have HY := Lib.hid hy
        obtain ⟨u, hu⟩ : ∃ u, sameQ x y = u := ⟨_, rfl⟩
        have HU := Lib.hid hu
        have HSX := Lib.hid hsx
        obtain ⟨b, o, _, es, e, _, _, lt, c, rx⟩ := row_rd H0.out hx
        simp at e
        obtain ⟨rfl, -, rfl⟩ := e
        obtain ⟨b2, o2, _, es2, e2, _, _, lt2, c2, ry⟩ := row_rd H0'.out hy
        simp at e2
        obtain ⟨rfl, -, rfl⟩ := e2
        obtain ⟨x0, x1, x2, x3, x4, x5⟩ := x
        obtain ⟨y0, y1, y2, y3, y4, y5⟩ := y
        have hrx := rx
        have hry := ry
        obtain ⟨ax, px, rfl, _⟩ := rd_req rx
        obtain ⟨ay, py, rfl, _⟩ := rd_req ry
        have g0 : w.cell? ⟨b, o + j * 6, none⟩ = some (.bool x0) := c 0 _ rfl
        have g1 : w.cell? ⟨b, o + j * 6 + 1, none⟩ = some (.int .i64 x1) := c 1 _ rfl
        have g2 : w.cell? ⟨b, o + j * 6 + 2, none⟩ = some (.int .i64 x2) := c 2 _ rfl
        have g3 : w.cell? ⟨b, o + j * 6 + 3, none⟩ = some (.int .i64 x3) := c 3 _ rfl
        have g4 : w.cell? ⟨b, o + j * 6 + 4, none⟩ = some (.bool x4) := c 4 _ rfl
        have g5 : w.cell? ⟨b, o + j * 6 + 5, none⟩ = some (.slice ax x5.length px) := c 5 _ rfl
        rw [← bel_cells HB.out lt] at g0 g1 g2 g3 g4 g5
        have k0 : w.cell? ⟨b2, o2 + j * 6, none⟩ = some (.bool y0) := c2 0 _ rfl
        have k1 : w.cell? ⟨b2, o2 + j * 6 + 1, none⟩ = some (.int .i64 y1) := c2 1 _ rfl
        have k2 : w.cell? ⟨b2, o2 + j * 6 + 2, none⟩ = some (.int .i64 y2) := c2 2 _ rfl
        have k3 : w.cell? ⟨b2, o2 + j * 6 + 3, none⟩ = some (.int .i64 y3) := c2 3 _ rfl
        have k4 : w.cell? ⟨b2, o2 + j * 6 + 4, none⟩ = some (.bool y4) := c2 4 _ rfl
        have k5 : w.cell? ⟨b2, o2 + j * 6 + 5, none⟩ = some (.slice ay y5.length py) := c2 5 _ rfl
        rw [← bel_cells HB.out lt2] at k0 k1 k2 k3 k4 k5
        have hba := ((Below.refl wr.heap.size wr).alloc (Nat.le_refl _) (Obj.cells #[.bool x0, .int .i64 x1, .int .i64 x2, .int .i64 x3, .bool x4, .slice ax x5.length px] 107)).alloc (by simp) (Obj.cells #[.bool y0, .int .i64 y1, .int .i64 y2, .int .i64 y3, .bool y4, .slice ay y5.length py] 107)
        have Hx := Lib.hid (reqK.rd_later (reqK.rd_later hrx HB.out) hba)
        have Hy := Lib.hid (reqK.rd_later (reqK.rd_later hry HB.out) hba)
        have HB1 := Lib.hid (HB.out.trans (hba.mono HB.out.size))
        have k0' := (bel_cells ((Below.refl wr.heap.size wr).alloc (Nat.le_refl _) (Obj.cells #[.bool x0, .int .i64 x1, .int .i64 x2, .int .i64 x3, .bool x4, .slice ax x5.length px] 107)) (Nat.lt_of_lt_of_le lt2 HB.out.size) (o2 + j * 6)).trans k0
        have k1' := (bel_cells ((Below.refl wr.heap.size wr).alloc (Nat.le_refl _) (Obj.cells #[.bool x0, .int .i64 x1, .int .i64 x2, .int .i64 x3, .bool x4, .slice ax x5.length px] 107)) (Nat.lt_of_lt_of_le lt2 HB.out.size) (o2 + j * 6 + 1)).trans k1
        have k2' := (bel_cells ((Below.refl wr.heap.size wr).alloc (Nat.le_refl _) (Obj.cells #[.bool x0, .int .i64 x1, .int .i64 x2, .int .i64 x3, .bool x4, .slice ax x5.length px] 107)) (Nat.lt_of_lt_of_le lt2 HB.out.size) (o2 + j * 6 + 2)).trans k2
        have k3' := (bel_cells ((Below.refl wr.heap.size wr).alloc (Nat.le_refl _) (Obj.cells #[.bool x0, .int .i64 x1, .int .i64 x2, .int .i64 x3, .bool x4, .slice ax x5.length px] 107)) (Nat.lt_of_lt_of_le lt2 HB.out.size) (o2 + j * 6 + 3)).trans k3
        have k4' := (bel_cells ((Below.refl wr.heap.size wr).alloc (Nat.le_refl _) (Obj.cells #[.bool x0, .int .i64 x1, .int .i64 x2, .int .i64 x3, .bool x4, .slice ax x5.length px] 107)) (Nat.lt_of_lt_of_le lt2 HB.out.size) (o2 + j * 6 + 4)).trans k4
        have k5' := (bel_cells ((Below.refl wr.heap.size wr).alloc (Nat.le_refl _) (Obj.cells #[.bool x0, .int .i64 x1, .int .i64 x2, .int .i64 x3, .bool x4, .slice ax x5.length px] 107)) (Nat.lt_of_lt_of_le lt2 HB.out.size) (o2 + j * 6 + 5)).trans k5
        clear hx hy c c2 rx ry hrx hry hu hsx lt lt2 hba
        cases u with
        | true =>
          go_wp2_with fail
          refine (implSameQ_is HU.out HSX.out _ Hx.out Hy.out).mono ?_
          rintro e w2 ⟨rfl, hb⟩
          clear g0 g1 g2 g3 g4 g5 k0 k1 k2 k3 k4 k5 k0' k1' k2' k3' k4' k5'
          go_wp2_with fail
          go_roundw
          case rel => exact ⟨j + 1, by omega, by go_num, Lib.hid (qTo_step HQ.out HX.out HY.out HU.out), Lib.hid (HB1.out.trans (hb.mono HB1.out.size))⟩
          case measure => simp [intOf]; omega
        | false =>
          go_wp2_with fail
          refine (implSameQ_is HU.out HSX.out _ Hx.out Hy.out).mono ?_
          rintro e w2 ⟨rfl, hb⟩
          clear g0 g1 g2 g3 g4 g5 k0 k1 k2 k3 k4 k5 k0' k1' k2' k3' k4' k5'
          go_wp2_with fail
          go_ret
          have hf : R = false := by rw [← HR.out]; exact sameQs_no (qTo_bad HX.out HY.out HU.out)
          exact ⟨by rw [hf]; rfl, HB1.out.trans (hb.mono HB1.out.size)⟩
      · obtain rfl : j = n := by omega
        have hqq := qTo_all HN.out HN'.out HQ.out
        have hf : R = true := by rw [← HR.out, sameQs_iff]; exact hqq
        go_wp2_with fail
        go_ret
        exact ⟨by rw [hf]; rfl, HB.out⟩
  · have hne : (((n : Nat) : Int) != ((n' : Nat) : Int)) = true := by simp; omega
    have hf : R = false := by rw [← HR.out]; exact sameQs_no (fun e => hnn (by rw [← HN.out, ← HN'.out, e]))
    go_enter Tryz.func119, Tryz.ntmps119
    go_wp2_with fail
    go_ret
    exact ⟨by rw [hf]; rfl, Below.refl _ _⟩
theorem eqf_is {a0 : Option Addr} {n p0 : Nat} {q : List ReqX} {a0' : Option Addr} {n' p0' : Nat} {q' : List ReqX} {b : Bool} (hb : sameQs q q' = b) (hn : q.length = n) (hn' : q'.length = n') (hs : reqS.sz q ≤ 2000000) (w : World) (h : reqS.rd [.slice a0 n p0] q w) (h' : reqS.rd [.slice a0' n' p0'] q' w) :
    Calls Tryz.prog 119 #[.slice a0 n p0, .slice a0' n' p0', .func (.func 120) #[] #[]] w fun e w' => e = .returned (.bool b) ∧ Below w.heap.size w w' := hb ▸ implEqFunc a0 n p0 q a0' n' p0' q' hn hn' hs w h h'
set_option maxHeartbeats 8000000 in
set_option maxRecDepth 100000 in
theorem implSameMst (cs ds : List Value) (q : List ReqX) (be dn tr : Int) (pa br : Bool) (q' : List ReqX) (be' dn' tr' : Int) (pa' br' : Bool) (hs : mstK.sz (q, be, dn, tr, pa, br) ≤ 2000000) (hs' : mstK.sz (q', be', dn', tr', pa', br') ≤ 2000000) (w : World) (h : mstK.rd cs (q, be, dn, tr, pa, br) w) (h' : mstK.rd ds (q', be', dn', tr', pa', br') w) :
    Calls Tryz.prog 112 #[agg cs, agg ds] w fun e w' => e = .returned (.bool (sameMst (q, be, dn, tr, pa, br) (q', be', dn', tr', pa', br'))) ∧ Below w.heap.size w w' := by
  obtain ⟨a0, p0, rfl, h0⟩ := mst_form h
  obtain ⟨a0', p0', rfl, h0'⟩ := mst_form h'
  have HSZ := Lib.hid (mst_rows hs)
  obtain ⟨n, hn⟩ : ∃ n, q.length = n := ⟨_, rfl⟩
  obtain ⟨n', hn'⟩ : ∃ n, q'.length = n := ⟨_, rfl⟩
  have HN := Lib.hid hn
  have HN' := Lib.hid hn'
  rw [hn] at h0 ⊢
  rw [hn'] at h0' ⊢
  have hsz : ∀ (w : World) o, (w.alloc o).heap.size = w.heap.size + 1 := fun w o => by simp
  have A0 := (Bx.new 70 #[.slice a0 n p0, .int .i64 be, .int .i64 dn, .int .i64 tr, .bool pa, .bool br] w).alloc (Obj.cells #[.slice a0' n' p0', .int .i64 be', .int .i64 dn', .int .i64 tr', .bool pa', .bool br'] 70)
  have B0 := Bx.new 70 #[.slice a0' n' p0', .int .i64 be', .int .i64 dn', .int .i64 tr', .bool pa', .bool br'] (w.alloc (Obj.cells #[.slice a0 n p0, .int .i64 be, .int .i64 dn, .int .i64 tr, .bool pa, .bool br] 70))
  rw [hsz] at B0
  have HA := Lib.hid A0
  have HBx := Lib.hid B0
  have HB0 := Lib.hid (((Below.refl w.heap.size w).alloc (Nat.le_refl _) (Obj.cells #[.slice a0 n p0, .int .i64 be, .int .i64 dn, .int .i64 tr, .bool pa, .bool br] 70)).alloc (by simp) (Obj.cells #[.slice a0' n' p0', .int .i64 be', .int .i64 dn', .int .i64 tr', .bool pa', .bool br'] 70))
  have H0 := Lib.hid (reqS.rd_later h0 HB0.out)
  have H0' := Lib.hid (reqS.rd_later h0' HB0.out)
  clear h h' h0 h0' hs hs' A0 B0 hsz hn hn'
  obtain ⟨R, hR0⟩ : ∃ R, sameMst (q, be, dn, tr, pa, br) (q', be', dn', tr', pa', br') = R := ⟨_, rfl⟩
  rw [hR0]
  have HR := Lib.hid hR0
  obtain ⟨u, hu⟩ : ∃ u, sameQs q q' = u := ⟨_, rfl⟩
  have HU := Lib.hid hu
  clear hR0 hu
  show Calls _ _ #[.agg #[.slice a0 n p0, .int .i64 be, .int .i64 dn, .int .i64 tr, .bool pa, .bool br], .agg #[.slice a0' n' p0', .int .i64 be', .int .i64 dn', .int .i64 tr', .bool pa', .bool br']] w _
  go_enter Tryz.func112, Tryz.ntmps112
  go_wp2_with fail
  generalize (w.alloc _).alloc _ = y0 at HA HBx HB0 H0 H0' ⊢
  refine (eqf_is HU.out HN.out HN'.out HSZ.out _ H0.out H0'.out).mono ?_
  rintro e y1 ⟨rfl, hb⟩
  have A1 := Lib.hid (HA.out.later hb)
  have X1 := Lib.hid (HBx.out.later hb)
  have HB1 := Lib.hid (HB0.out.trans (hb.mono HB0.out.size))
  obtain ⟨s0, s1, s2, s3, s4, s5⟩ := A1.out.cells6
  obtain ⟨t0, t1, t2, t3, t4, t5⟩ := X1.out.cells6
  clear hb HA HBx HB0 H0 H0'
  cases u with
  | false =>
    have hf : R = false := by rw [← HR.out]; exact same_q (fun e => by have := (sameQs_iff q q').2 e; rw [HU.out] at this; cases this)
    go_wp2_with fail
    go_ret
    exact ⟨by rw [hf]; rfl, HB1.out⟩
  | true =>
    have hqq := (sameQs_iff q q').1 HU.out
    subst hqq
    have HE := Lib.hid (HR.out.symm.trans same_rest)
    clear HR HU
    by_cases e1 : be = be'
    · by_cases e2 : dn = dn'
      · by_cases e3 : tr = tr'
        · by_cases e4 : pa = pa'
          · go_wp2_with fail
            go_ret
            exact ⟨by rw [HE.out]; simp [e1, e2, e3, e4], HB1.out⟩
          · go_wp2_with fail
            go_ret
            exact ⟨by rw [HE.out]; simp [e1, e2, e3, e4], HB1.out⟩
        · go_wp2_with fail
          go_ret
          exact ⟨by rw [HE.out]; simp [e1, e2, e3], HB1.out⟩
      · go_wp2_with fail
        go_ret
        exact ⟨by rw [HE.out]; simp [e1, e2], HB1.out⟩
    · go_wp2_with fail
      go_ret
      exact ⟨by rw [HE.out]; simp [e1], HB1.out⟩
end Go.Proofs.YtdhaelaoackfkaaGreat.KD

namespace Go.Proofs.YtdhaelaoackfkaaGreat.KD
open Go.RowKit Rows3 GR Num
set_option linter.unusedVariables false

theorem right_nil (be dn tr : Int) (pa br : Bool) : rightM [] be dn tr pa br = sameMst ([], be, dn, tr, pa, br) ([], 0, 0, 0, false, false) := by
  rw [same_rest]
  unfold rightM
  cases pa <;> cases br <;> simp
  intros
  omega
theorem right_some {q : List ReqX} {be dn tr m : Int} {pa br u u2 : Bool} (hq : q.length ≠ 0) (h4 : q.length ≤ 4) (ha : q.all okQ = true) (ht : 0 ≤ tr) (hm : beats0 q = m) (hu : inB dn 0 (m - 1) = u) (hu2 : inB be dn (min (dn + 2) m) = u2) :
    rightM q be dn tr pa br = (u && u2) := by
  unfold rightM
  rw [ha, if_neg hq, hm, ← hu, ← hu2]
  have h5 : ((q.length : Int) ≤ 4) := by omega
  simp only [h5, ht, decide_true, Bool.true_and, inB, Bool.and_assoc]
theorem right_bad {q : List ReqX} {be dn tr : Int} {pa br : Bool} (h : ¬ q.length ≤ 4 ∨ q.all okQ = false ∨ tr < 0) : rightM q be dn tr pa br = false := by
  unfold rightM
  rcases h with h | h | h
  · have h5 : ¬ ((q.length : Int) ≤ 4) := by omega
    simp [h5]
  · rw [h]; rfl
  · have h5 : ¬ (0 ≤ tr) := by omega
    simp [h5]
theorem zero_mst (w : World) : mstK.rd [.slice none 0 0, .int .i64 0, .int .i64 0, .int .i64 0, .bool false, .bool false] ([], 0, 0, 0, false, false) w := mst_rd (reqS.cap_rd (row_nil (fun _ => True) w))
theorem reqsOk_is {a0 : Option Addr} {n p0 : Nat} {q : List ReqX} {b : Bool} (hb : q.all okQ = b) (hn : q.length = n) (hs : reqS.sz q ≤ 2000000) (w : World) (h : reqS.rd [.slice a0 n p0] q w) :
    Calls Tryz.prog 113 #[.slice a0 n p0] w fun e w' => e = .returned (.bool b) ∧ Below w.heap.size w w' := hb ▸ implReqsOk a0 n p0 q hn hs w h
set_option maxHeartbeats 8000000 in
set_option maxRecDepth 100000 in
theorem implRight (cs : List Value) (q : List ReqX) (be dn tr : Int) (pa br : Bool) (hs : mstK.sz (q, be, dn, tr, pa, br) ≤ 2000000) (w : World) (h : mstK.rd cs (q, be, dn, tr, pa, br) w) :
    Calls Tryz.prog 101 #[agg cs] w fun e w' => e = .returned (.bool (rightM q be dn tr pa br)) ∧ Below w.heap.size w w' := by
  obtain ⟨a0, p0, rfl, h0⟩ := mst_form h
  obtain ⟨n, hn⟩ : ∃ n, q.length = n := ⟨_, rfl⟩
  have HN := Lib.hid hn
  rw [hn] at h h0 ⊢
  have HS := Lib.hid hs
  have HSZ := Lib.hid (mst_rows hs)
  have hb0 := (Below.refl w.heap.size w).alloc (Nat.le_refl _) (Obj.cells #[.slice a0 n p0, .int .i64 be, .int .i64 dn, .int .i64 tr, .bool pa, .bool br] 70)
  have A0 := Lib.hid (Bx.new 70 #[.slice a0 n p0, .int .i64 be, .int .i64 dn, .int .i64 tr, .bool pa, .bool br] w)
  have H0 := Lib.hid (mstK.rd_later h hb0)
  have HB0 := Lib.hid hb0
  have HR0 := Lib.hid (reqS.rd_later h0 hb0)
  obtain ⟨R, hR⟩ : ∃ R, rightM q be dn tr pa br = R := ⟨_, rfl⟩
  have HR := Lib.hid hR
  rw [hR]
  clear h h0 hn hs hb0 hR
  by_cases hz : n = 0
  · subst hz
    obtain rfl : q = [] := List.length_eq_zero_iff.1 HN.out
    clear HR0
    obtain ⟨g0, g1, g2, g3, g4, g5⟩ := A0.out.cells6
    show Calls _ _ #[.agg #[.slice a0 0 p0, .int .i64 be, .int .i64 dn, .int .i64 tr, .bool pa, .bool br]] w _
    go_enter Tryz.func101, Tryz.ntmps101
    go_wp2_with fail
    refine (implSameMst [.slice a0 0 p0, .int .i64 be, .int .i64 dn, .int .i64 tr, .bool pa, .bool br] [.slice none 0 0, .int .i64 0, .int .i64 0, .int .i64 0, .bool false, .bool false] [] be dn tr pa br [] 0 0 0 false false HS.out (by rw [mst_sz]; exact Nat.zero_le _) _ H0.out (zero_mst _)).mono ?_
    rintro e y1 ⟨rfl, hb⟩
    rw [← right_nil, HR.out]
    go_wp2
    go_ret
    exact ⟨rfl, HB0.out.trans (hb.mono HB0.out.size)⟩
  have hne : ((n : Int) == 0) = false := by simp; omega
  obtain ⟨g0, g1, g2, g3, g4, g5⟩ := A0.out.cells6
  by_cases h4 : 4 < n
  · have hf : R = false := by rw [← HR.out]; exact right_bad (.inl (by rw [HN.out]; omega))
    have h4i : (4 : Int) < (n : Int) := by omega
    show Calls _ _ #[.agg #[.slice a0 n p0, .int .i64 be, .int .i64 dn, .int .i64 tr, .bool pa, .bool br]] w _
    go_enter Tryz.func101, Tryz.ntmps101
    go_wp2_with fail
    go_ret
    exact ⟨by rw [hf]; rfl, HB0.out⟩
  have h4i : ¬ (4 : Int) < (n : Int) := by omega
  obtain ⟨u, hu⟩ : ∃ u, q.all okQ = u := ⟨_, rfl⟩
  have HU := Lib.hid hu
  clear hu
  show Calls _ _ #[.agg #[.slice a0 n p0, .int .i64 be, .int .i64 dn, .int .i64 tr, .bool pa, .bool br]] w _
  go_enter Tryz.func101, Tryz.ntmps101
  go_wp2_with fail
  generalize w.alloc (Obj.cells #[.slice a0 n p0, .int .i64 be, .int .i64 dn, .int .i64 tr, .bool pa, .bool br] 70) = y0 at A0 H0 HB0 HR0 g0 g1 g2 g3 g4 g5 ⊢
  refine (reqsOk_is HU.out HN.out HSZ.out _ HR0.out).mono ?_
  rintro e y1 ⟨rfl, hb⟩
  have A1 := Lib.hid (A0.out.later hb)
  have H1 := Lib.hid (mstK.rd_later H0.out hb)
  have HB1 := Lib.hid (HB0.out.trans (hb.mono HB0.out.size))
  clear hb A0 H0 HB0 HR0 g0 g1 g2 g3 g4 g5
  obtain ⟨g0, g1, g2, g3, g4, g5⟩ := A1.out.cells6
  cases u with
  | false =>
    have hf : R = false := by rw [← HR.out]; exact right_bad (.inr (.inl HU.out))
    go_wp2_with fail
    go_ret
    exact ⟨by rw [hf]; rfl, HB1.out⟩
  | true =>
  by_cases htr : tr < 0
  · have hf : R = false := by rw [← HR.out]; exact right_bad (.inr (.inr htr))
    go_wp2_with fail
    go_ret
    exact ⟨by rw [hf]; rfl, HB1.out⟩
  obtain ⟨m, hm⟩ : ∃ m, beats0 q = m := ⟨_, rfl⟩
  have hbd := beats0_bd q
  rw [hm] at hbd
  obtain ⟨hm0, hm8⟩ := hbd
  have HM := Lib.hid hm
  obtain ⟨u1, hu1⟩ : ∃ u, inB dn 0 (m - 1) = u := ⟨_, rfl⟩
  obtain ⟨u2, hu2⟩ : ∃ u, inB be dn (min (dn + 2) m) = u := ⟨_, rfl⟩
  have hr := right_some (q := q) (be := be) (dn := dn) (tr := tr) (pa := pa) (br := br) (by rw [HN.out]; exact hz) (by rw [HN.out]; omega) HU.out (by omega) hm hu1 hu2
  have HE := Lib.hid (HR.out.symm.trans hr)
  have HU1 := Lib.hid hu1
  have HU2 := Lib.hid hu2
  have hdn : u1 = true → 0 ≤ dn ∧ dn ≤ 7 := fun e => by rw [e] at hu1; simp [inB] at hu1; omega
  clear hm hu1 hu2 hr HR HU HSZ h4 h4i hne
  go_wp2_with fail
  refine (first_is HM.out HS.out _ H1.out).mono ?_
  rintro e y2 ⟨rfl, hb⟩
  have A2 := Lib.hid (A1.out.later hb)
  have HB2 := Lib.hid (HB1.out.trans (hb.mono HB1.out.size))
  clear hb A1 H1 HB1 g0 g1 g2 g3 g4 g5 HM
  obtain ⟨g0, g1, g2, g3, g4, g5⟩ := A2.out.cells6
  cases u1 with
  | false =>
    go_wp2_with fail
    refine (within_is HU1.out _).mono ?_
    rintro e y3 ⟨rfl, rfl⟩
    go_wp2_with fail
    go_ret
    exact ⟨by rw [HE.out]; rfl, HB2.out⟩
  | true =>
    obtain ⟨hd0, hd7⟩ := hdn rfl
    go_wp2_with fail
    refine (within_is HU1.out _).mono ?_
    rintro e y3 ⟨rfl, rfl⟩
    have hmin : min (dn + 2) m = if m < dn + 2 then m else dn + 2 := by split <;> omega
    rw [hmin] at HU2
    clear hmin
    by_cases hmd : m < dn + 2
    · rw [if_pos hmd] at HU2
      go_wp2_with fail
      refine (within_is HU2.out _).mono ?_
      rintro e y4 ⟨rfl, rfl⟩
      go_wp2_with fail
      go_ret
      exact ⟨by rw [HE.out]; simp, HB2.out⟩
    · rw [if_neg hmd] at HU2
      go_wp2_with fail
      refine (within_is HU2.out _).mono ?_
      rintro e y4 ⟨rfl, rfl⟩
      go_wp2_with fail
      go_ret
      exact ⟨by rw [HE.out]; simp, HB2.out⟩
theorem implRight_is {cs : List Value} {q : List ReqX} {be dn tr : Int} {pa br : Bool} {b : Bool} (hm : rightM q be dn tr pa br = b) (hs : mstK.sz (q, be, dn, tr, pa, br) ≤ 2000000) (w : World) (h : mstK.rd cs (q, be, dn, tr, pa, br) w) :
    Calls Tryz.prog 101 #[agg cs] w fun e w' => e = .returned (.bool b) ∧ Below w.heap.size w w' := hm ▸ implRight cs q be dn tr pa br hs w h
/-- has a beat been granted that is not done. -/
def grantedM (q : List ReqX) (be dn tr : Int) (pa br : Bool) : Bool := rightM q be dn tr pa br && decide (dn < be)
set_option maxHeartbeats 8000000 in
set_option maxRecDepth 100000 in
theorem implMstOk (cs ds : List Value) (q : List ReqX) (be dn tr : Int) (pa br : Bool) (l : List (Int × Bool × Int × Int)) (qu mw mr ms lm : Int) (hs : mstK.sz (q, be, dn, tr, pa, br) ≤ 2000000) (hc : confK.sz (l, qu, mw, mr, ms, lm) ≤ 2000000) (w : World) (h : mstK.rd cs (q, be, dn, tr, pa, br) w) (h' : confK.rd ds (l, qu, mw, mr, ms, lm) w) :
    Calls Tryz.prog 73 #[agg cs, agg ds] w fun e w' => e = .returned (.bool (okMst q be dn tr pa br (l, qu, mw, mr, ms, lm))) ∧ Below w.heap.size w w' := by
  obtain ⟨a0, p0, rfl, _⟩ := mst_form h
  obtain ⟨c0, q0, rfl, _⟩ := conf_form h'
  obtain ⟨n, hn⟩ : ∃ n, q.length = n := ⟨_, rfl⟩
  obtain ⟨m, hm⟩ : ∃ m, l.length = m := ⟨_, rfl⟩
  rw [hn] at h ⊢
  rw [hm] at h' ⊢
  obtain ⟨b1, hb1⟩ : ∃ b, okX (l, qu, mw, mr, ms, lm) = b := ⟨_, rfl⟩
  obtain ⟨b2, hb2⟩ : ∃ b, rightM q be dn tr pa br = b := ⟨_, rfl⟩
  have He := Lib.hid (show okMst q be dn tr pa br (l, qu, mw, mr, ms, lm) = (b1 && (b2 && decide (tr ≤ mr))) by unfold okMst; rw [hb1, hb2])
  have B1 := Lib.hid hb1
  have B2 := Lib.hid hb2
  have hlc := conf_len hc
  have HS := Lib.hid hs
  have hsz : ∀ (w : World) o, (w.alloc o).heap.size = w.heap.size + 1 := fun w o => by simp
  have A0 := Lib.hid ((Bx.new 70 #[.slice a0 n p0, .int .i64 be, .int .i64 dn, .int .i64 tr, .bool pa, .bool br] w).alloc (Obj.cells #[.slice c0 m q0, .int .i64 qu, .int .i64 mw, .int .i64 mr, .int .i64 ms, .int .i64 lm] 43))
  have C0 := Bx.new 43 #[.slice c0 m q0, .int .i64 qu, .int .i64 mw, .int .i64 mr, .int .i64 ms, .int .i64 lm] (w.alloc (Obj.cells #[.slice a0 n p0, .int .i64 be, .int .i64 dn, .int .i64 tr, .bool pa, .bool br] 70))
  rw [hsz] at C0
  have HC0 := Lib.hid C0
  have hb0 := ((Below.refl w.heap.size w).alloc (Nat.le_refl _) (Obj.cells #[.slice a0 n p0, .int .i64 be, .int .i64 dn, .int .i64 tr, .bool pa, .bool br] 70)).alloc (by simp) (Obj.cells #[.slice c0 m q0, .int .i64 qu, .int .i64 mw, .int .i64 mr, .int .i64 ms, .int .i64 lm] 43)
  have HB0 := Lib.hid hb0
  have H0 := Lib.hid (mstK.rd_later h hb0)
  have H1 := Lib.hid (confK.rd_later h' hb0)
  clear h h' hn hm hb1 hb2 hs hc hsz C0 hb0
  show Calls _ _ #[.agg #[.slice a0 n p0, .int .i64 be, .int .i64 dn, .int .i64 tr, .bool pa, .bool br], .agg #[.slice c0 m q0, .int .i64 qu, .int .i64 mw, .int .i64 mr, .int .i64 ms, .int .i64 lm]] w _
  generalize okMst q be dn tr pa br (l, qu, mw, mr, ms, lm) = R at He ⊢
  cases b1 with
  | false =>
    obtain ⟨k0, k1, k2, k3, k4, k5⟩ : _ ∧ _ ∧ _ ∧ _ ∧ _ ∧ _ := ⟨HC0.out.cell 0 _ rfl, HC0.out.cell 1 _ rfl, HC0.out.cell 2 _ rfl, HC0.out.cell 3 _ rfl, HC0.out.cell 4 _ rfl, HC0.out.cell 5 _ rfl⟩
    go_enter Tryz.func73, Tryz.ntmps73
    go_wp2_with (go_at_call 68; refine (implConfX [.slice c0 m q0, .int .i64 qu, .int .i64 mw, .int .i64 mr, .int .i64 ms, .int .i64 lm] l qu mw mr ms lm hlc _ H1.out).mono ?_; rintro e w2 ⟨rfl, hb⟩; rw [B1.out])
    go_ret
    exact ⟨by rw [He.out]; rfl, HB0.out.trans (hb.mono HB0.out.size)⟩
  | true =>
    obtain ⟨k0, k1, k2, k3, k4, k5⟩ : _ ∧ _ ∧ _ ∧ _ ∧ _ ∧ _ := ⟨HC0.out.cell 0 _ rfl, HC0.out.cell 1 _ rfl, HC0.out.cell 2 _ rfl, HC0.out.cell 3 _ rfl, HC0.out.cell 4 _ rfl, HC0.out.cell 5 _ rfl⟩
    go_enter Tryz.func73, Tryz.ntmps73
    go_wp2_with fail
    refine (implConfX [.slice c0 m q0, .int .i64 qu, .int .i64 mw, .int .i64 mr, .int .i64 ms, .int .i64 lm] l qu mw mr ms lm hlc _ H1.out).mono ?_
    rintro e w2 ⟨rfl, hb⟩
    rw [B1.out]
    have A2 := Lib.hid (A0.out.later hb)
    have C2 := Lib.hid (HC0.out.later hb)
    have H2 := Lib.hid (mstK.rd_later H0.out hb)
    have HB2 := Lib.hid (HB0.out.trans (hb.mono HB0.out.size))
    clear hb k0 k1 k2 k3 k4 k5
    obtain ⟨g0, g1, g2, g3, g4, g5⟩ : _ ∧ _ ∧ _ ∧ _ ∧ _ ∧ _ := ⟨A2.out.cell 0 _ rfl, A2.out.cell 1 _ rfl, A2.out.cell 2 _ rfl, A2.out.cell 3 _ rfl, A2.out.cell 4 _ rfl, A2.out.cell 5 _ rfl⟩
    go_wp2_with fail
    refine (implRight [.slice a0 n p0, .int .i64 be, .int .i64 dn, .int .i64 tr, .bool pa, .bool br] q be dn tr pa br HS.out _ H2.out).mono ?_
    rintro e w3 ⟨rfl, hb⟩
    rw [B2.out]
    have HB3 := Lib.hid (HB2.out.trans (hb.mono HB2.out.size))
    have g3 := (A2.out.later hb).cell 3 _ rfl
    have k3 := (C2.out.later hb).cell 3 _ rfl
    clear hb
    cases b2 with
    | false =>
      go_wp2_with fail
      go_ret
      exact ⟨by rw [He.out]; rfl, HB3.out⟩
    | true =>
      go_wp2_with fail
      go_ret
      exact ⟨by rw [He.out]; simp, HB3.out⟩
end Go.Proofs.YtdhaelaoackfkaaGreat.KD
