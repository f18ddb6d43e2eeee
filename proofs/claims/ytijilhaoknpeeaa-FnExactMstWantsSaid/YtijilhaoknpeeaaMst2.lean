
/-
  What is asked of a master: the model's l12Right, MstOk.
-/
import Derived.Test.YtijilhaoknpeeaaMst1
import Derived.Lib.QuietBelow
namespace Go.Proofs.Ytijilhaoknpeeaa.KD
open Go.RowKit Rows3 GR Num
set_option linter.unusedVariables false

theorem in_is {x lo hi : Int} {u : Bool} (h : (decide (lo ≤ x) && decide (x ≤ hi)) = u) (w : World) : Calls Try.prog 90 #[.int .i64 x, .int .i64 lo, .int .i64 hi] w fun e w' => e = .returned (.bool u) ∧ Below w.heap.size w w' := by
  cases u with
  | true =>
    simp at h
    exact (sl1In_yes x lo hi h.1 h.2 w).mono fun e w' ⟨a, b⟩ => ⟨a, by rw [b]; exact Below.refl _ _⟩
  | false =>
    have h2 : x < lo ∨ hi < x := by simp at h; omega
    exact (sl1In_no x lo hi h2 w).mono fun e w' ⟨a, b⟩ => ⟨a, by rw [b]; exact Below.refl _ _⟩
theorem beats_is {cs : List Value} {q : List ReqX} {be dn tr : Int} {pa br : Bool} {m : Int} (hm : beats0 q = m) (hs : mstK.sz (q, be, dn, tr, pa, br) ≤ 2000000) (w : World) (h : mstK.rd cs (q, be, dn, tr, pa, br) w) :
    Calls Try.prog 62 #[agg cs] w fun e w' => e = .returned (.int .i64 m) ∧ Below w.heap.size w w' := hm ▸ spec12Beats cs q be dn tr pa br hs w h
set_option maxHeartbeats 8000000 in
set_option maxRecDepth 100000 in
theorem spec12Right (cs : List Value) (q : List ReqX) (be dn tr : Int) (pa br : Bool) (hs : mstK.sz (q, be, dn, tr, pa, br) ≤ 2000000) (w : World) (h : mstK.rd cs (q, be, dn, tr, pa, br) w) :
    Calls Try.prog 61 #[agg cs] w fun e w' => e = .returned (.bool (rightM q be dn tr pa br)) ∧ Below w.heap.size w w' := by
  obtain ⟨a0, p0, rfl, h0⟩ := mst_form h
  have hl := mst_len hs
  have HSZ := Lib.hid (mst_rows hs)
  have HS := Lib.hid hs
  obtain ⟨n, hn⟩ : ∃ n, q.length = n := ⟨_, rfl⟩
  have HN := Lib.hid hn
  have hb0 := (Below.refl w.heap.size w).alloc (Nat.le_refl _) (Obj.cells #[.slice a0 n p0, .int .i64 be, .int .i64 dn, .int .i64 tr, .bool pa, .bool br] 26)
  have A0 := Lib.hid (Bx.new 26 #[.slice a0 n p0, .int .i64 be, .int .i64 dn, .int .i64 tr, .bool pa, .bool br] w)
  rw [hn] at hl h h0 ⊢
  have HB0 := Lib.hid hb0
  have H := Lib.hid h
  have H0 := Lib.hid h0
  clear h h0 hn hb0 hs
  obtain ⟨R, hR0⟩ : ∃ R, rightM q be dn tr pa br = R := ⟨_, rfl⟩
  rw [hR0]
  have HR := Lib.hid hR0
  clear hR0
  show Calls _ _ #[.agg #[.slice a0 n p0, .int .i64 be, .int .i64 dn, .int .i64 tr, .bool pa, .bool br]] w _
  go_enter Try.func61, Try.ntmps61
  go_wp2_with fail
  generalize w.alloc (Obj.cells #[.slice a0 n p0, .int .i64 be, .int .i64 dn, .int .i64 tr, .bool pa, .bool br] 26) = y0 at A0 HB0 ⊢
  go_loopw [3] (fun i wr => ∃ j : Nat, j ≤ n ∧ i = .int .i64 j ∧ Hid (qokTo q j = true) ∧ Hid (Bx 26 w.heap.size #[.slice a0 n p0, .int .i64 be, .int .i64 dn, .int .i64 tr, .bool pa, .bool br] wr) ∧ Hid (Below w.heap.size w wr)) (fun i _ => n - (intOf i).toNat)
  case atStart => exact ⟨0, by omega, rfl, Lib.hid rfl, A0, HB0⟩
  case round =>
    obtain ⟨j, hj, rfl, HQ, A, HB⟩ := hrel
    have b0 := A.out.cell 0 _ rfl
    by_cases hlt : j < n
    · obtain ⟨x, hx⟩ := get_of (l := q) (i := j) (by rw [HN.out]; exact hlt)
      have hsx : reqK.sz x ≤ 2000000 := Nat.le_trans (szL_mem reqK (List.mem_of_getElem? hx)) HSZ.out
      have Hst := Lib.hid (qokTo_step hx)
      have Hbad := Lib.hid (fun h => qok_bad hx h)
      obtain ⟨x0, x1, x2, x3, x4, x5⟩ := x
      obtain ⟨b, o, _, es, e, _, _, lt, c, rx⟩ := row_rd H0.out hx
      simp at e
      obtain ⟨rfl, -, rfl⟩ := e
      have hrx := rx
      obtain ⟨ax, px, rfl, _⟩ := rd_req rx
      have g0 : w.cell? ⟨b, o + j * 6, none⟩ = some (.bool x0) := c 0 _ rfl
      have g1 : w.cell? ⟨b, o + j * 6 + 1, none⟩ = some (.int .i64 x1) := c 1 _ rfl
      have g2 : w.cell? ⟨b, o + j * 6 + 2, none⟩ = some (.int .i64 x2) := c 2 _ rfl
      have g3 : w.cell? ⟨b, o + j * 6 + 3, none⟩ = some (.int .i64 x3) := c 3 _ rfl
      have g4 : w.cell? ⟨b, o + j * 6 + 4, none⟩ = some (.bool x4) := c 4 _ rfl
      have g5 : w.cell? ⟨b, o + j * 6 + 5, none⟩ = some (.slice ax x5.length px) := c 5 _ rfl
      rw [← bel_cells HB.out lt] at g0 g1 g2 g3 g4 g5
      have Hx := Lib.hid (reqK.rd_later hrx HB.out)
      obtain ⟨u, hu⟩ : ∃ u, okQ (x0, x1, x2, x3, x4, x5) = u := ⟨_, rfl⟩
      have HU := Lib.hid hu
      clear hx c rx hrx hu
      cases u with
      | true =>
        go_wp2_with fail
        refine (specReqX [.bool x0, .int .i64 x1, .int .i64 x2, .int .i64 x3, .bool x4, .slice ax x5.length px] x0 x1 x2 x3 x4 x5 hsx _ Hx.out).mono ?_
        rintro e w2 ⟨rfl, hb⟩
        rw [HU.out]
        clear g0 g1 g2 g3 g4 g5 b0
        go_wp2_with fail
        go_roundw
        case rel => exact ⟨j + 1, by omega, by go_num, Lib.hid (by rw [Hst.out, HQ.out, HU.out]; rfl), Lib.hid (A.out.later hb), Lib.hid (HB.out.trans (hb.mono HB.out.size))⟩
        case measure => simp [intOf]; omega
      | false =>
        go_wp2_with fail
        refine (specReqX [.bool x0, .int .i64 x1, .int .i64 x2, .int .i64 x3, .bool x4, .slice ax x5.length px] x0 x1 x2 x3 x4 x5 hsx _ Hx.out).mono ?_
        rintro e w2 ⟨rfl, hb⟩
        rw [HU.out]
        clear g0 g1 g2 g3 g4 g5 b0
        go_wp2_with fail
        go_ret
        have hf : R = false := by rw [← HR.out]; unfold rightM; rw [Hbad.out HU.out]; rfl
        exact ⟨by rw [hf]; rfl, HB.out.trans (hb.mono HB.out.size)⟩
    · obtain rfl : j = n := by omega
      have HA : Hid (q.all okQ = true) := Lib.hid (by rw [← qok_all, HN.out]; exact HQ.out)
      have b1 := A.out.cell 1 _ rfl
      have b2 := A.out.cell 2 _ rfl
      have b3 := A.out.cell 3 _ rfl
      have b4 := A.out.cell 4 _ rfl
      have b5 := A.out.cell 5 _ rfl
      by_cases h4 : 4 < j
      · go_wp2
        go_ret
        refine ⟨?_, HB.out⟩
        have : R = false := by rw [← HR.out]; unfold rightM; rw [HA.out, HN.out]; simp; omega
        rw [this]; rfl
      by_cases htr : tr < 0
      · go_wp2
        go_ret
        refine ⟨?_, HB.out⟩
        have : R = false := by
          have h5 : ¬ (0 ≤ tr) := by omega
          rw [← HR.out]; unfold rightM; simp [h5]
        rw [this]; rfl
      have hR : R = (if j = 0 then (be == 0 && (dn == 0 && (tr == 0 && (!pa && !br)))) else (decide (0 ≤ dn) && (decide (dn ≤ beats0 q - 1) && (decide (dn ≤ be) && decide (be ≤ min (dn + 2) (beats0 q)))))) := by
        have h5 : ((j : Int) ≤ 4) := by omega
        have h6 : 0 ≤ tr := by omega
        rw [← HR.out]; unfold rightM; rw [HA.out, HN.out]; simp only [h5, h6, decide_true, Bool.true_and]
      by_cases hj0 : j = 0
      · subst hj0
        rw [if_pos rfl] at hR
        have HRv := Lib.hid hR
        clear hR
        have paths : ¬ be = 0 ∨ (be = 0 ∧ ¬ dn = 0) ∨ (be = 0 ∧ dn = 0 ∧ ¬ tr = 0) ∨ (be = 0 ∧ dn = 0 ∧ tr = 0 ∧ pa = true) ∨ (be = 0 ∧ dn = 0 ∧ tr = 0 ∧ pa = false) := by
          cases pa <;> simp <;> omega
        rcases paths with h1 | ⟨rfl, h2⟩ | ⟨rfl, rfl, h3⟩ | ⟨rfl, rfl, rfl, rfl⟩ | ⟨rfl, rfl, rfl, rfl⟩
        · have e1 : (be == 0) = false := by simp [h1]
          go_wp2
          go_ret
          have hf := HRv.out
          rw [e1] at hf
          exact ⟨by rw [hf]; rfl, HB.out⟩
        · have e1 : (dn == 0) = false := by simp [h2]
          go_wp2
          go_ret
          have hf := HRv.out
          rw [e1] at hf
          exact ⟨by rw [hf]; rfl, HB.out⟩
        · have e1 : (tr == 0) = false := by simp [h3]
          go_wp2
          go_ret
          have hf := HRv.out
          rw [e1] at hf
          exact ⟨by rw [hf]; rfl, HB.out⟩
        · go_wp2
          go_ret
          exact ⟨by rw [HRv.out]; rfl, HB.out⟩
        · go_wp2
          go_ret
          exact ⟨by rw [HRv.out]; simp, HB.out⟩
      · rw [if_neg hj0] at hR
        have hbd := beats0_bd q
        obtain ⟨m, hm⟩ : ∃ m, beats0 q = m := ⟨_, rfl⟩
        rw [hm] at hbd hR
        have HM := Lib.hid hm
        have hj1 : ((j : Int) == 0) = false := by simp; omega
        have HW := Lib.hid (mstK.rd_later H.out HB.out)
        obtain ⟨u, hu⟩ : ∃ u, (decide (0 ≤ dn) && decide (dn ≤ m - 1)) = u := ⟨_, rfl⟩
        have HU := Lib.hid hu
        have hmn : min (dn + 2) m = (if m < dn + 2 then m else dn + 2) := by split <;> omega
        rw [hmn] at hR
        obtain ⟨u2, hu2⟩ : ∃ u, (decide (dn ≤ be) && decide (be ≤ (if m < dn + 2 then m else dn + 2))) = u := ⟨_, rfl⟩
        have HU2 := Lib.hid hu2
        have hres : (decide (0 ≤ dn) && (decide (dn ≤ m - 1) && (decide (dn ≤ be) && decide (be ≤ (if m < dn + 2 then m else dn + 2))))) = (u && u2) := by rw [← hu, ← hu2, Bool.and_assoc]
        rw [hres] at hR
        have HRv := Lib.hid hR
        clear hR hm hu2 hres HQ HA hmn
        cases u with
        | false =>
          clear hu
          go_wp2_with fail
          replace b0 := fun d os => cell_regrown b0 d os
          replace b1 := fun d os => cell_regrown b1 d os
          replace b2 := fun d os => cell_regrown b2 d os
          replace b3 := fun d os => cell_regrown b3 d os
          replace b4 := fun d os => cell_regrown b4 d os
          replace b5 := fun d os => cell_regrown b5 d os
          refine wp_region_quiet_below (by kernel_rfl) (by kernel_rfl) ?_
          repeat (go_big_quiet_step (first
            | (go_at_call 62; exact Calls.regrown_of (beats_is HM.out HS.out _ (mstK.rd_later HW.out (below_regrown _ _ _))))
            | (go_at_call 90; first | (with_reducible exact Calls.regrown_of (in_is HU.out _)) | (with_reducible exact Calls.regrown_of (in_is HU2.out _)))))
          refine wpQuiet_nil ?_
          rintro _ ⟨⟨dq, osq⟩, rfl⟩
          all_goals go_wp2_with fail
          all_goals go_ret
          all_goals exact ⟨by rw [HRv.out]; simp, HB.out.trans ((below_regrown _ dq osq).mono HB.out.size)⟩
        | true =>
          simp at hu
          have hd0 := hu.1
          have hd1 := hu.2
          clear hu
          go_wp2_with fail
          replace b0 := fun d os => cell_regrown b0 d os
          replace b1 := fun d os => cell_regrown b1 d os
          replace b2 := fun d os => cell_regrown b2 d os
          replace b3 := fun d os => cell_regrown b3 d os
          replace b4 := fun d os => cell_regrown b4 d os
          replace b5 := fun d os => cell_regrown b5 d os
          refine wp_region_quiet_below (by kernel_rfl) (by kernel_rfl) ?_
          repeat (go_big_quiet_step (first
            | (go_at_call 62; exact Calls.regrown_of (beats_is HM.out HS.out _ (mstK.rd_later HW.out (below_regrown _ _ _))))
            | (go_at_call 90; first | (with_reducible exact Calls.regrown_of (in_is HU.out _)) | (with_reducible exact Calls.regrown_of (in_is HU2.out _)))))
          refine wpQuiet_nil ?_
          rintro _ ⟨⟨dq, osq⟩, rfl⟩
          all_goals go_wp2_with fail
          all_goals go_ret
          all_goals exact ⟨by rw [HRv.out]; simp, HB.out.trans ((below_regrown _ dq osq).mono HB.out.size)⟩
end Go.Proofs.Ytijilhaoknpeeaa.KD
