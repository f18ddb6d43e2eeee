
/-
  Are two masters the same: SameMst of the model. (Made by wip/genmst8.py.)
-/
import Derived.Test.YtdhaelaoackfkaaGMst13
import Derived.Test.YtdhaelaoackfkaaSameReq
namespace Go.Proofs.Ytdhaelaoackfkaa.KD
open Go.RowKit Rows3 GR Num
set_option linter.unusedVariables false

/-- are two requests the same. -/
def sameQ (r s : ReqX) : Bool := sameR r.1 r.2.1 r.2.2.1 r.2.2.2.1 r.2.2.2.2.1 r.2.2.2.2.2 s.1 s.2.1 s.2.2.1 s.2.2.2.1 s.2.2.2.2.1 s.2.2.2.2.2
theorem sameQ_iff (r s : ReqX) : sameQ r s = true ↔ r = s := by
  obtain ⟨a, b, c, d, e, f⟩ := r
  obtain ⟨a', b', c', d', e', f'⟩ := s
  unfold sameQ sameR eqLB
  simp
/-- are two masters the same. -/
noncomputable def sameMst (x y : MstX) : Bool := @decide (x = y) (Classical.propDecidable _)
theorem sameMst_iff (x y : MstX) : sameMst x y = true ↔ x = y := by unfold sameMst; exact @decide_eq_true_iff _ (Classical.propDecidable _)
/-- the first j requests are the same. -/
def qTo (q q' : List ReqX) (j : Nat) : Prop := q.take j = q'.take j
theorem qTo_step {q q' : List ReqX} {j : Nat} {x y : ReqX} (h : qTo q q' j) (hx : q[j]? = some x) (hy : q'[j]? = some y) (hs : sameQ x y = true) : qTo q q' (j + 1) := by
  have e := (sameQ_iff x y).1 hs
  subst e
  unfold qTo at h ⊢
  rw [take_snoc' hx, take_snoc' hy, h]
theorem qTo_bad {q q' : List ReqX} {j : Nat} {x y : ReqX} (hx : q[j]? = some x) (hy : q'[j]? = some y) (hs : sameQ x y = false) : q ≠ q' := by
  rintro rfl
  rw [hx] at hy
  cases hy
  have := (sameQ_iff x x).2 rfl
  rw [hs] at this; cases this
theorem qTo_all {q q' : List ReqX} {n : Nat} (h1 : q.length = n) (h2 : q'.length = n) (h : qTo q q' n) : q = q' := by
  unfold qTo at h
  rwa [List.take_of_length_le (by omega), List.take_of_length_le (by omega)] at h
theorem same_q {q q' : List ReqX} {be dn tr be' dn' tr' : Int} {pa br pa' br' : Bool} (h : q ≠ q') : sameMst (q, be, dn, tr, pa, br) (q', be', dn', tr', pa', br') = false := by
  rw [← Bool.not_eq_true, sameMst_iff]; intro e; exact h (Prod.mk.inj e).1
theorem same_rest {q : List ReqX} {be dn tr be' dn' tr' : Int} {pa br pa' br' : Bool} : sameMst (q, be, dn, tr, pa, br) (q, be', dn', tr', pa', br') = (be == be' && (dn == dn' && (tr == tr' && (pa == pa' && br == br')))) := by
  rw [Bool.eq_iff_iff, sameMst_iff]
  simp [Prod.mk.injEq]
theorem sameQ_is {cs ds : List Value} {r s : ReqX} {b : Bool} (hb : sameQ r s = b) (hr : reqK.sz r ≤ 2000000) (w : World) (h : reqK.rd cs r w) (h' : reqK.rd ds s w) :
    Calls Try.prog 96 #[agg cs, agg ds] w fun e w' => e = .returned (.bool b) ∧ Below w.heap.size w w' := by
  obtain ⟨a, b_, c, d, e, f⟩ := r
  obtain ⟨a', b', c', d', e', f'⟩ := s
  obtain ⟨ax, px, rfl, h0⟩ := rd_req h
  obtain ⟨ay, py, rfl, h1⟩ := rd_req h'
  exact hb ▸ specSame a b_ c d e _ f a' b' c' d' e' _ f' (req_len hr) w h0 h1
set_option maxHeartbeats 8000000 in
set_option maxRecDepth 100000 in
theorem specSameMst (cs ds : List Value) (q : List ReqX) (be dn tr : Int) (pa br : Bool) (q' : List ReqX) (be' dn' tr' : Int) (pa' br' : Bool) (hs : mstK.sz (q, be, dn, tr, pa, br) ≤ 2000000) (hs' : mstK.sz (q', be', dn', tr', pa', br') ≤ 2000000) (w : World) (h : mstK.rd cs (q, be, dn, tr, pa, br) w) (h' : mstK.rd ds (q', be', dn', tr', pa', br') w) :
    Calls Try.prog 57 #[agg cs, agg ds] w fun e w' => e = .returned (.bool (sameMst (q, be, dn, tr, pa, br) (q', be', dn', tr', pa', br'))) ∧ Below w.heap.size w w' := by
  obtain ⟨a0, p0, rfl, h0⟩ := mst_form h
  obtain ⟨a0', p0', rfl, h0'⟩ := mst_form h'
  have hl := mst_len hs
  have hl' := mst_len hs'
  have HSZ := Lib.hid (mst_rows hs)
  obtain ⟨n, hn⟩ : ∃ n, q.length = n := ⟨_, rfl⟩
  obtain ⟨n', hn'⟩ : ∃ n, q'.length = n := ⟨_, rfl⟩
  have HN := Lib.hid hn
  have HN' := Lib.hid hn'
  rw [hn] at hl h0 ⊢
  rw [hn'] at hl' h0' ⊢
  have H0 := Lib.hid h0
  have H0' := Lib.hid h0'
  have hsz : ∀ (w : World) o, (w.alloc o).heap.size = w.heap.size + 1 := fun w o => by simp
  have A0 := (Bx.new 70 #[.slice a0 n p0, .int .i64 be, .int .i64 dn, .int .i64 tr, .bool pa, .bool br] w).alloc (Obj.cells #[.slice a0' n' p0', .int .i64 be', .int .i64 dn', .int .i64 tr', .bool pa', .bool br'] 70)
  have B0 := Bx.new 70 #[.slice a0' n' p0', .int .i64 be', .int .i64 dn', .int .i64 tr', .bool pa', .bool br'] (w.alloc (Obj.cells #[.slice a0 n p0, .int .i64 be, .int .i64 dn, .int .i64 tr, .bool pa, .bool br] 70))
  rw [hsz] at B0
  have HA := Lib.hid A0
  have HBx := Lib.hid B0
  have HB0 := Lib.hid (((Below.refl w.heap.size w).alloc (Nat.le_refl _) (Obj.cells #[.slice a0 n p0, .int .i64 be, .int .i64 dn, .int .i64 tr, .bool pa, .bool br] 70)).alloc (by simp) (Obj.cells #[.slice a0' n' p0', .int .i64 be', .int .i64 dn', .int .i64 tr', .bool pa', .bool br'] 70))
  clear h h' h0 h0' hs hs' A0 B0 hsz hn hn'
  obtain ⟨R, hR0⟩ : ∃ R, sameMst (q, be, dn, tr, pa, br) (q', be', dn', tr', pa', br') = R := ⟨_, rfl⟩
  rw [hR0]
  have HR := Lib.hid hR0
  clear hR0
  show Calls _ _ #[.agg #[.slice a0 n p0, .int .i64 be, .int .i64 dn, .int .i64 tr, .bool pa, .bool br], .agg #[.slice a0' n' p0', .int .i64 be', .int .i64 dn', .int .i64 tr', .bool pa', .bool br']] w _
  by_cases hnn : n = n'
  · subst hnn
    have hne : (((n : Nat) : Int) != ((n : Nat) : Int)) = false := by simp
    go_enter Try.func57, Try.ntmps57
    go_wp2_with fail
    generalize (w.alloc _).alloc _ = y0 at HA HBx HB0 ⊢
    go_loopw [5] (fun i wr => ∃ j : Nat, j ≤ n ∧ i = .int .i64 j ∧ Hid (qTo q q' j) ∧ Hid (Bx 70 w.heap.size #[.slice a0 n p0, .int .i64 be, .int .i64 dn, .int .i64 tr, .bool pa, .bool br] wr) ∧ Hid (Bx 70 (w.heap.size + 1) #[.slice a0' n p0', .int .i64 be', .int .i64 dn', .int .i64 tr', .bool pa', .bool br'] wr) ∧ Hid (Below w.heap.size w wr)) (fun i _ => n - (intOf i).toNat)
    case atStart => exact ⟨0, by omega, rfl, Lib.hid rfl, HA, HBx, HB0⟩
    case round =>
      obtain ⟨j, hj, rfl, HQ, A, B, HB⟩ := hrel
      by_cases hlt : j < n
      · obtain ⟨x, hx⟩ := get_of (l := q) (i := j) (by rw [HN.out]; exact hlt)
        obtain ⟨y, hy⟩ := get_of (l := q') (i := j) (by rw [HN'.out]; exact hlt)
        have hsx : reqK.sz x ≤ 2000000 := Nat.le_trans (szL_mem reqK (List.mem_of_getElem? hx)) HSZ.out
        have HX := Lib.hid hx
        have HY := Lib.hid hy
        obtain ⟨u, hu⟩ : ∃ u, sameQ x y = u := ⟨_, rfl⟩
        have HU := Lib.hid hu
        have HSX := Lib.hid hsx
        obtain ⟨b, o, _, es, e, _, _, lt, c, rx⟩ := row_rd H0.out hx
        simp at e
        obtain ⟨rfl, -, rfl⟩ := e
        obtain ⟨b2, o2, _, es2, e2, _, _, lt2, c2, ry⟩ := row_rd H0'.out hy
        simp at e2
        obtain ⟨rfl, -, rfl⟩ := e2
        obtain ⟨x0, x1, x2, x3, x4, x5⟩ := x
        obtain ⟨y0_, y1_, y2_, y3_, y4_, y5_⟩ := y
        have hrx := rx
        have hry := ry
        obtain ⟨ax, px, rfl, _⟩ := rd_req rx
        obtain ⟨ay, py, rfl, _⟩ := rd_req ry
        have g0 : w.cell? ⟨b, o + j * 6, none⟩ = some (.bool x0) := c 0 _ rfl
        have g1 : w.cell? ⟨b, o + j * 6 + 1, none⟩ = some (.int .i64 x1) := c 1 _ rfl
        have g2 : w.cell? ⟨b, o + j * 6 + 2, none⟩ = some (.int .i64 x2) := c 2 _ rfl
        have g3 : w.cell? ⟨b, o + j * 6 + 3, none⟩ = some (.int .i64 x3) := c 3 _ rfl
        have g4 : w.cell? ⟨b, o + j * 6 + 4, none⟩ = some (.bool x4) := c 4 _ rfl
        have g5 : w.cell? ⟨b, o + j * 6 + 5, none⟩ = some (.slice ax x5.length px) := c 5 _ rfl
        rw [← bel_cells HB.out lt] at g0 g1 g2 g3 g4 g5
        have k0 : w.cell? ⟨b2, o2 + j * 6, none⟩ = some (.bool y0_) := c2 0 _ rfl
        have k1 : w.cell? ⟨b2, o2 + j * 6 + 1, none⟩ = some (.int .i64 y1_) := c2 1 _ rfl
        have k2 : w.cell? ⟨b2, o2 + j * 6 + 2, none⟩ = some (.int .i64 y2_) := c2 2 _ rfl
        have k3 : w.cell? ⟨b2, o2 + j * 6 + 3, none⟩ = some (.int .i64 y3_) := c2 3 _ rfl
        have k4 : w.cell? ⟨b2, o2 + j * 6 + 4, none⟩ = some (.bool y4_) := c2 4 _ rfl
        have k5 : w.cell? ⟨b2, o2 + j * 6 + 5, none⟩ = some (.slice ay y5_.length py) := c2 5 _ rfl
        rw [← bel_cells HB.out lt2] at k0 k1 k2 k3 k4 k5
        have Hx := Lib.hid (reqK.rd_later hrx HB.out)
        have Hy := Lib.hid (reqK.rd_later hry HB.out)
        clear hx hy c c2 rx ry hrx hry hu hsx lt lt2
        have hin : (0 : Int) ≤ (j : Int) ∧ (j : Int) < ((n : Nat) : Int) := by omega
        obtain ⟨s0, s1, s2, s3, s4, s5⟩ := A.out.cells6
        obtain ⟨t0, t1, t2, t3, t4, t5⟩ := B.out.cells6
        go_wp2_with fail
        have G0 := cell_regrown g0
        have G1 := cell_regrown g1
        have G2 := cell_regrown g2
        have G3 := cell_regrown g3
        have G4 := cell_regrown g4
        have G5 := cell_regrown g5
        have K0 := cell_regrown k0
        have K1 := cell_regrown k1
        have K2 := cell_regrown k2
        have K3 := cell_regrown k3
        have K4 := cell_regrown k4
        have K5 := cell_regrown k5
        have S0 := cell_regrown s0
        have T0 := cell_regrown t0
        clear g0 g1 g2 g3 g4 g5 k0 k1 k2 k3 k4 k5 s0 s1 s2 s3 s4 s5 t0 t1 t2 t3 t4 t5
        refine wp_region_quiet_below (by kernel_rfl) (by kernel_rfl) ?_
        repeat (go_big_quiet_step (first
          | (go_at_call 96; exact Calls.regrown_of (sameQ_is HU.out HSX.out _ (reqK.rd_later Hx.out (below_regrown _ _ _)) (reqK.rd_later Hy.out (below_regrown _ _ _))))))
        refine wpQuiet_nil ?_
        rintro _ ⟨qq, rfl⟩
        have hq := below_regrown wr qq.d qq.os
        have A' := Lib.hid (A.out.later hq)
        have B' := Lib.hid (B.out.later hq)
        have HB' := Lib.hid (HB.out.trans (hq.mono HB.out.size))
        clear hq G0 G1 G2 G3 G4 G5 K0 K1 K2 K3 K4 K5 S0 T0
        generalize Sort.grow (redrawn wr qq.d) qq.os = w3 at A' B' HB' ⊢
        cases u with
        | true =>
          go_wp2_with fail
          go_roundw
          case rel => exact ⟨j + 1, by omega, by go_num, Lib.hid (qTo_step HQ.out HX.out HY.out HU.out), A', B', HB'⟩
          case measure => simp [intOf]; omega
        | false =>
          go_wp2_with fail
          go_ret
          have hf : R = false := by rw [← HR.out]; exact same_q (qTo_bad HX.out HY.out HU.out)
          exact ⟨by rw [hf]; rfl, HB'.out⟩
      · obtain rfl : j = n := by omega
        have hqq := qTo_all HN.out HN'.out HQ.out
        subst hqq
        have HE := Lib.hid (HR.out.symm.trans same_rest)
        clear HR HQ
        obtain ⟨s0, s1, s2, s3, s4, s5⟩ := A.out.cells6
        obtain ⟨t0, t1, t2, t3, t4, t5⟩ := B.out.cells6
        by_cases e1 : be = be'
        · by_cases e2 : dn = dn'
          · by_cases e3 : tr = tr'
            · by_cases e4 : pa = pa'
              · go_wp2_with fail
                go_ret
                exact ⟨by rw [HE.out]; simp [e1, e2, e3, e4], HB.out⟩
              · go_wp2_with fail
                go_ret
                exact ⟨by rw [HE.out]; simp [e1, e2, e3, e4], HB.out⟩
            · go_wp2_with fail
              go_ret
              exact ⟨by rw [HE.out]; simp [e1, e2, e3], HB.out⟩
          · go_wp2_with fail
            go_ret
            exact ⟨by rw [HE.out]; simp [e1, e2], HB.out⟩
        · go_wp2_with fail
          go_ret
          exact ⟨by rw [HE.out]; simp [e1], HB.out⟩
  · have hne : (((n : Nat) : Int) != ((n' : Nat) : Int)) = true := by simp; omega
    have hf : R = false := by rw [← HR.out]; exact same_q (fun e => hnn (by rw [← HN.out, ← HN'.out, e]))
    go_enter Try.func57, Try.ntmps57
    go_wp2_with fail
    go_ret
    exact ⟨by rw [hf]; rfl, HB0.out⟩
end Go.Proofs.Ytdhaelaoackfkaa.KD
