
/-
  Are two rows of requests the same (slices.EqualFunc with SameReq); are two masters: the program's SameMst.
-/
import Derived.Test.YtdhaelaoackfkaaMstI1
namespace Go.Proofs.Ytdhaelaoackfkaa.KD
open Go.RowKit Rows3 GR Num
set_option linter.unusedVariables false

/-- are two rows of requests the same. -/
noncomputable def sameQs (q q' : List ReqX) : Bool := @decide (q = q') (Classical.propDecidable _)
theorem sameQs_iff (q q' : List ReqX) : sameQs q q' = true ↔ q = q' := by unfold sameQs; exact @decide_eq_true_iff _ (Classical.propDecidable _)
theorem sameQs_no {q q' : List ReqX} (h : q ≠ q') : sameQs q q' = false := by rw [← Bool.not_eq_true, sameQs_iff]; exact h
theorem implSameQ_is {cs ds : List Value} {r s : ReqX} {b : Bool} (hb : sameQ r s = b) (hr : reqK.sz r ≤ 2000000) (w : World) (h : reqK.rd cs r w) (h' : reqK.rd ds s w) :
    Calls Try.prog 103 #[agg cs, agg ds] w fun e w' => e = .returned (.bool b) ∧ Below w.heap.size w w' := by
  obtain ⟨a, b_, c, d, e, f⟩ := r
  obtain ⟨a', b', c', d', e', f'⟩ := s
  obtain ⟨ax, px, rfl, h0⟩ := rd_req h
  obtain ⟨ay, py, rfl, h1⟩ := rd_req h'
  exact hb ▸ implSame a b_ c d e _ f a' b' c' d' e' _ f' (req_len hr) w h0 h1
set_option maxHeartbeats 8000000 in
set_option maxRecDepth 100000 in
theorem implEqFunc (a0 : Option Addr) (n p0 : Nat) (q : List ReqX) (a0' : Option Addr) (n' p0' : Nat) (q' : List ReqX) (hn : q.length = n) (hn' : q'.length = n') (hs : reqS.sz q ≤ 2000000) (w : World) (h : reqS.rd [.slice a0 n p0] q w) (h' : reqS.rd [.slice a0' n' p0'] q' w) :
    Calls Try.prog 102 #[.slice a0 n p0, .slice a0' n' p0', .func (.func 103) #[] #[]] w fun e w' => e = .returned (.bool (sameQs q q')) ∧ Below w.heap.size w w' := by
  have hl : n ≤ 2000000 := by have := szL_len reqK q; have e : reqS.sz q = szL reqK q := rfl; omega
  have HSZ := Lib.hid hs
  have HN := Lib.hid hn
  have HN' := Lib.hid hn'
  have H0 := Lib.hid h
  have H0' := Lib.hid h'
  obtain ⟨R, hR0⟩ : ∃ R, sameQs q q' = R := ⟨_, rfl⟩
  rw [hR0]
  have HR := Lib.hid hR0
  clear h h' hn hn' hs hR0
  by_cases hnn : n = n'
  · subst hnn
    have hne : (((n : Nat) : Int) != ((n : Nat) : Int)) = false := by simp
    go_enter Try.func102, Try.ntmps102
    go_wp2_with fail
    go_loopw [17] (fun i wr => ∃ j : Nat, j ≤ n ∧ i = .int .i64 j ∧ Hid (qTo q q' j) ∧ Hid (Below w.heap.size w wr)) (fun i _ => n - (intOf i).toNat)
    case atStart => exact ⟨0, by omega, rfl, Lib.hid rfl, Lib.hid (Below.refl _ _)⟩
    case round =>
      obtain ⟨j, hj, rfl, HQ, HB⟩ := hrel
      by_cases hlt : j < n
      · obtain ⟨x, hx⟩ := get_of (l := q) (i := j) (by rw [HN.out]; exact hlt)
        obtain ⟨y, hy⟩ := get_of (l := q') (i := j) (by rw [HN'.out]; exact hlt)
        have hsx : reqK.sz x ≤ 2000000 := Nat.le_trans (szL_mem reqK (List.mem_of_getElem? hx)) HSZ.out
        have HX := Lib.hid hx
        have HY := Lib.hid hy
        obtain ⟨u, hu⟩ : ∃ u, sameQ x y = u := ⟨_, rfl⟩
        have HU := Lib.hid hu
        have HSX := Lib.hid hsx
        obtain ⟨b, o, _, es, e, _, _, lt, c, rx⟩ := row_rd H0.out hx
        simp at e
        obtain ⟨rfl, -, rfl⟩ := e
        obtain ⟨b2, o2, _, es2, e2, _, _, lt2, c2, ry⟩ := row_rd H0'.out hy
        simp at e2
        obtain ⟨rfl, -, rfl⟩ := e2
        obtain ⟨x0, x1, x2, x3, x4, x5⟩ := x
        obtain ⟨y0, y1, y2, y3, y4, y5⟩ := y
        have hrx := rx
        have hry := ry
        obtain ⟨ax, px, rfl, _⟩ := rd_req rx
        obtain ⟨ay, py, rfl, _⟩ := rd_req ry
        have g0 : w.cell? ⟨b, o + j * 6, none⟩ = some (.bool x0) := c 0 _ rfl
        have g1 : w.cell? ⟨b, o + j * 6 + 1, none⟩ = some (.int .i64 x1) := c 1 _ rfl
        have g2 : w.cell? ⟨b, o + j * 6 + 2, none⟩ = some (.int .i64 x2) := c 2 _ rfl
        have g3 : w.cell? ⟨b, o + j * 6 + 3, none⟩ = some (.int .i64 x3) := c 3 _ rfl
        have g4 : w.cell? ⟨b, o + j * 6 + 4, none⟩ = some (.bool x4) := c 4 _ rfl
        have g5 : w.cell? ⟨b, o + j * 6 + 5, none⟩ = some (.slice ax x5.length px) := c 5 _ rfl
        rw [← bel_cells HB.out lt] at g0 g1 g2 g3 g4 g5
        have k0 : w.cell? ⟨b2, o2 + j * 6, none⟩ = some (.bool y0) := c2 0 _ rfl
        have k1 : w.cell? ⟨b2, o2 + j * 6 + 1, none⟩ = some (.int .i64 y1) := c2 1 _ rfl
        have k2 : w.cell? ⟨b2, o2 + j * 6 + 2, none⟩ = some (.int .i64 y2) := c2 2 _ rfl
        have k3 : w.cell? ⟨b2, o2 + j * 6 + 3, none⟩ = some (.int .i64 y3) := c2 3 _ rfl
        have k4 : w.cell? ⟨b2, o2 + j * 6 + 4, none⟩ = some (.bool y4) := c2 4 _ rfl
        have k5 : w.cell? ⟨b2, o2 + j * 6 + 5, none⟩ = some (.slice ay y5.length py) := c2 5 _ rfl
        rw [← bel_cells HB.out lt2] at k0 k1 k2 k3 k4 k5
        have hba := ((Below.refl wr.heap.size wr).alloc (Nat.le_refl _) (Obj.cells #[.bool x0, .int .i64 x1, .int .i64 x2, .int .i64 x3, .bool x4, .slice ax x5.length px] 126)).alloc (by simp) (Obj.cells #[.bool y0, .int .i64 y1, .int .i64 y2, .int .i64 y3, .bool y4, .slice ay y5.length py] 126)
        have Hx := Lib.hid (reqK.rd_later (reqK.rd_later hrx HB.out) hba)
        have Hy := Lib.hid (reqK.rd_later (reqK.rd_later hry HB.out) hba)
        have HB1 := Lib.hid (HB.out.trans (hba.mono HB.out.size))
        have k0' := (bel_cells ((Below.refl wr.heap.size wr).alloc (Nat.le_refl _) (Obj.cells #[.bool x0, .int .i64 x1, .int .i64 x2, .int .i64 x3, .bool x4, .slice ax x5.length px] 126)) (Nat.lt_of_lt_of_le lt2 HB.out.size) (o2 + j * 6)).trans k0
        have k1' := (bel_cells ((Below.refl wr.heap.size wr).alloc (Nat.le_refl _) (Obj.cells #[.bool x0, .int .i64 x1, .int .i64 x2, .int .i64 x3, .bool x4, .slice ax x5.length px] 126)) (Nat.lt_of_lt_of_le lt2 HB.out.size) (o2 + j * 6 + 1)).trans k1
        have k2' := (bel_cells ((Below.refl wr.heap.size wr).alloc (Nat.le_refl _) (Obj.cells #[.bool x0, .int .i64 x1, .int .i64 x2, .int .i64 x3, .bool x4, .slice ax x5.length px] 126)) (Nat.lt_of_lt_of_le lt2 HB.out.size) (o2 + j * 6 + 2)).trans k2
        have k3' := (bel_cells ((Below.refl wr.heap.size wr).alloc (Nat.le_refl _) (Obj.cells #[.bool x0, .int .i64 x1, .int .i64 x2, .int .i64 x3, .bool x4, .slice ax x5.length px] 126)) (Nat.lt_of_lt_of_le lt2 HB.out.size) (o2 + j * 6 + 3)).trans k3
        have k4' := (bel_cells ((Below.refl wr.heap.size wr).alloc (Nat.le_refl _) (Obj.cells #[.bool x0, .int .i64 x1, .int .i64 x2, .int .i64 x3, .bool x4, .slice ax x5.length px] 126)) (Nat.lt_of_lt_of_le lt2 HB.out.size) (o2 + j * 6 + 4)).trans k4
        have k5' := (bel_cells ((Below.refl wr.heap.size wr).alloc (Nat.le_refl _) (Obj.cells #[.bool x0, .int .i64 x1, .int .i64 x2, .int .i64 x3, .bool x4, .slice ax x5.length px] 126)) (Nat.lt_of_lt_of_le lt2 HB.out.size) (o2 + j * 6 + 5)).trans k5
        clear hx hy c c2 rx ry hrx hry hu hsx lt lt2 hba
        cases u with
        | true =>
          go_wp2_with fail
          refine (implSameQ_is HU.out HSX.out _ Hx.out Hy.out).mono ?_
          rintro e w2 ⟨rfl, hb⟩
          clear g0 g1 g2 g3 g4 g5 k0 k1 k2 k3 k4 k5 k0' k1' k2' k3' k4' k5'
          go_wp2_with fail
          go_roundw
          case rel => exact ⟨j + 1, by omega, by go_num, Lib.hid (qTo_step HQ.out HX.out HY.out HU.out), Lib.hid (HB1.out.trans (hb.mono HB1.out.size))⟩
          case measure => simp [intOf]; omega
        | false =>
          go_wp2_with fail
          refine (implSameQ_is HU.out HSX.out _ Hx.out Hy.out).mono ?_
          rintro e w2 ⟨rfl, hb⟩
          clear g0 g1 g2 g3 g4 g5 k0 k1 k2 k3 k4 k5 k0' k1' k2' k3' k4' k5'
          go_wp2_with fail
          go_ret
          have hf : R = false := by rw [← HR.out]; exact sameQs_no (qTo_bad HX.out HY.out HU.out)
          exact ⟨by rw [hf]; rfl, HB1.out.trans (hb.mono HB1.out.size)⟩
      · obtain rfl : j = n := by omega
        have hqq := qTo_all HN.out HN'.out HQ.out
        have hf : R = true := by rw [← HR.out, sameQs_iff]; exact hqq
        go_wp2_with fail
        go_ret
        exact ⟨by rw [hf]; rfl, HB.out⟩
  · have hne : (((n : Nat) : Int) != ((n' : Nat) : Int)) = true := by simp; omega
    have hf : R = false := by rw [← HR.out]; exact sameQs_no (fun e => hnn (by rw [← HN.out, ← HN'.out, e]))
    go_enter Try.func102, Try.ntmps102
    go_wp2_with fail
    go_ret
    exact ⟨by rw [hf]; rfl, Below.refl _ _⟩
theorem eqf_is {a0 : Option Addr} {n p0 : Nat} {q : List ReqX} {a0' : Option Addr} {n' p0' : Nat} {q' : List ReqX} {b : Bool} (hb : sameQs q q' = b) (hn : q.length = n) (hn' : q'.length = n') (hs : reqS.sz q ≤ 2000000) (w : World) (h : reqS.rd [.slice a0 n p0] q w) (h' : reqS.rd [.slice a0' n' p0'] q' w) :
    Calls Try.prog 102 #[.slice a0 n p0, .slice a0' n' p0', .func (.func 103) #[] #[]] w fun e w' => e = .returned (.bool b) ∧ Below w.heap.size w w' := hb ▸ implEqFunc a0 n p0 q a0' n' p0' q' hn hn' hs w h h'
set_option maxHeartbeats 8000000 in
set_option maxRecDepth 100000 in
theorem implSameMst (cs ds : List Value) (q : List ReqX) (be dn tr : Int) (pa br : Bool) (q' : List ReqX) (be' dn' tr' : Int) (pa' br' : Bool) (hs : mstK.sz (q, be, dn, tr, pa, br) ≤ 2000000) (hs' : mstK.sz (q', be', dn', tr', pa', br') ≤ 2000000) (w : World) (h : mstK.rd cs (q, be, dn, tr, pa, br) w) (h' : mstK.rd ds (q', be', dn', tr', pa', br') w) :
    Calls Try.prog 67 #[agg cs, agg ds] w fun e w' => e = .returned (.bool (sameMst (q, be, dn, tr, pa, br) (q', be', dn', tr', pa', br'))) ∧ Below w.heap.size w w' := by
  obtain ⟨a0, p0, rfl, h0⟩ := mst_form h
  obtain ⟨a0', p0', rfl, h0'⟩ := mst_form h'
  have HSZ := Lib.hid (mst_rows hs)
  obtain ⟨n, hn⟩ : ∃ n, q.length = n := ⟨_, rfl⟩
  obtain ⟨n', hn'⟩ : ∃ n, q'.length = n := ⟨_, rfl⟩
  have HN := Lib.hid hn
  have HN' := Lib.hid hn'
  rw [hn] at h0 ⊢
  rw [hn'] at h0' ⊢
  have hsz : ∀ (w : World) o, (w.alloc o).heap.size = w.heap.size + 1 := fun w o => by simp
  have A0 := (Bx.new 70 #[.slice a0 n p0, .int .i64 be, .int .i64 dn, .int .i64 tr, .bool pa, .bool br] w).alloc (Obj.cells #[.slice a0' n' p0', .int .i64 be', .int .i64 dn', .int .i64 tr', .bool pa', .bool br'] 70)
  have B0 := Bx.new 70 #[.slice a0' n' p0', .int .i64 be', .int .i64 dn', .int .i64 tr', .bool pa', .bool br'] (w.alloc (Obj.cells #[.slice a0 n p0, .int .i64 be, .int .i64 dn, .int .i64 tr, .bool pa, .bool br] 70))
  rw [hsz] at B0
  have HA := Lib.hid A0
  have HBx := Lib.hid B0
  have HB0 := Lib.hid (((Below.refl w.heap.size w).alloc (Nat.le_refl _) (Obj.cells #[.slice a0 n p0, .int .i64 be, .int .i64 dn, .int .i64 tr, .bool pa, .bool br] 70)).alloc (by simp) (Obj.cells #[.slice a0' n' p0', .int .i64 be', .int .i64 dn', .int .i64 tr', .bool pa', .bool br'] 70))
  have H0 := Lib.hid (reqS.rd_later h0 HB0.out)
  have H0' := Lib.hid (reqS.rd_later h0' HB0.out)
  clear h h' h0 h0' hs hs' A0 B0 hsz hn hn'
  obtain ⟨R, hR0⟩ : ∃ R, sameMst (q, be, dn, tr, pa, br) (q', be', dn', tr', pa', br') = R := ⟨_, rfl⟩
  rw [hR0]
  have HR := Lib.hid hR0
  obtain ⟨u, hu⟩ : ∃ u, sameQs q q' = u := ⟨_, rfl⟩
  have HU := Lib.hid hu
  clear hR0 hu
  show Calls _ _ #[.agg #[.slice a0 n p0, .int .i64 be, .int .i64 dn, .int .i64 tr, .bool pa, .bool br], .agg #[.slice a0' n' p0', .int .i64 be', .int .i64 dn', .int .i64 tr', .bool pa', .bool br']] w _
  go_enter Try.func67, Try.ntmps67
  go_wp2_with fail
  generalize (w.alloc _).alloc _ = y0 at HA HBx HB0 H0 H0' ⊢
  refine (eqf_is HU.out HN.out HN'.out HSZ.out _ H0.out H0'.out).mono ?_
  rintro e y1 ⟨rfl, hb⟩
  have A1 := Lib.hid (HA.out.later hb)
  have X1 := Lib.hid (HBx.out.later hb)
  have HB1 := Lib.hid (HB0.out.trans (hb.mono HB0.out.size))
  obtain ⟨s0, s1, s2, s3, s4, s5⟩ := A1.out.cells6
  obtain ⟨t0, t1, t2, t3, t4, t5⟩ := X1.out.cells6
  clear hb HA HBx HB0 H0 H0'
  cases u with
  | false =>
    have hf : R = false := by rw [← HR.out]; exact same_q (fun e => by have := (sameQs_iff q q').2 e; rw [HU.out] at this; cases this)
    go_wp2_with fail
    go_ret
    exact ⟨by rw [hf]; rfl, HB1.out⟩
  | true =>
    have hqq := (sameQs_iff q q').1 HU.out
    subst hqq
    have HE := Lib.hid (HR.out.symm.trans same_rest)
    clear HR HU
    by_cases e1 : be = be'
    · by_cases e2 : dn = dn'
      · by_cases e3 : tr = tr'
        · by_cases e4 : pa = pa'
          · go_wp2_with fail
            go_ret
            exact ⟨by rw [HE.out]; simp [e1, e2, e3, e4], HB1.out⟩
          · go_wp2_with fail
            go_ret
            exact ⟨by rw [HE.out]; simp [e1, e2, e3, e4], HB1.out⟩
        · go_wp2_with fail
          go_ret
          exact ⟨by rw [HE.out]; simp [e1, e2, e3], HB1.out⟩
      · go_wp2_with fail
        go_ret
        exact ⟨by rw [HE.out]; simp [e1, e2], HB1.out⟩
    · go_wp2_with fail
      go_ret
      exact ⟨by rw [HE.out]; simp [e1], HB1.out⟩
end Go.Proofs.Ytdhaelaoackfkaa.KD
