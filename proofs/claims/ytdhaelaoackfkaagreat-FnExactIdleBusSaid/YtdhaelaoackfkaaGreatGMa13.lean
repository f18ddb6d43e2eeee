/-
  Several texts in one: Mst1, Mst2, RowApp.
-/
import Derived.Test.YtdhaelaoackfkaaGreatGKR13
import Derived.Test.YtdhaelaoackfkaaGreatGConf13
import Derived.Test.YtdhaelaoackfkaaGreatGReq13
import Derived.Lib.QuietBelow
import Derived.Test.YtdhaelaoackfkaaGreatKRow
import Derived.ArgAppend
namespace Go.Proofs.YtdhaelaoackfkaaGreat.KD
open Go.RowKit Rows3 GR Num
set_option linter.unusedVariables false

abbrev ReqX := Bool × Int × Int × Int × Bool × List Int
abbrev MstX := List ReqX × Int × Int × Int × Bool × Bool
def okQ (x : ReqX) : Bool := okR x.1 x.2.1 x.2.2.1 x.2.2.2.1 x.2.2.2.2.2
theorem rd_req {cs : List Value} {q : Bool} {x y z : Int} {k : Bool} {l : List Int} {w : World} (h : reqK.rd cs (q, x, y, z, k, l) w) :
    ∃ a p, cs = [.bool q, .int .i64 x, .int .i64 y, .int .i64 z, .bool k, .slice a l.length p] ∧ RdI (.slice a l.length p) l w := by
  obtain ⟨a, p, rfl, h0⟩ := req_form h
  obtain ⟨_, _, e, _, R⟩ := rd_ints h0
  cases e
  exact ⟨_, _, rfl, R⟩
theorem req_len {q : Bool} {x y z : Int} {k : Bool} {l : List Int} (h : reqK.sz (q, x, y, z, k, l) ≤ 2000000) : l.length ≤ 2000000 := by
  rw [req_sz] at h; have e : ints.sz l = l.length := sz_ints l; omega
theorem specReqX (cs : List Value) (q : Bool) (x y z : Int) (k : Bool) (l : List Int) (hs : reqK.sz (q, x, y, z, k, l) ≤ 2000000) (w : World) (h : reqK.rd cs (q, x, y, z, k, l) w) :
    Calls Tryz.prog 90 #[agg cs] w fun e w' => e = .returned (.bool (okQ (q, x, y, z, k, l))) ∧ Below w.heap.size w w' := by
  obtain ⟨a, p, rfl, h0⟩ := rd_req h
  exact specReqOk q x y z k _ l (req_len hs) w h0
theorem implReqX (cs : List Value) (q : Bool) (x y z : Int) (k : Bool) (l : List Int) (hs : reqK.sz (q, x, y, z, k, l) ≤ 2000000) (w : World) (h : reqK.rd cs (q, x, y, z, k, l) w) :
    Calls Tryz.prog 121 #[agg cs] w fun e w' => e = .returned (.bool (okQ (q, x, y, z, k, l))) ∧ Below w.heap.size w w' := by
  obtain ⟨a, p, rfl, h0⟩ := rd_req h
  exact implReqOk q x y z k _ l (req_len hs) w h0
/-- how many beats the first request has. -/
def beats0 : List ReqX → Int
  | [] => 0
  | r :: _ => beatsW r.2.2.2.1
theorem beats0_bd (q : List ReqX) : 0 ≤ beats0 q ∧ beats0 q ≤ 8 := by
  cases q with
  | nil => exact ⟨Int.le_refl _, by decide⟩
  | cons r q => exact beatsW_bd _
def qokTo (q : List ReqX) (j : Nat) : Bool := (q.take j).all okQ
theorem qokTo_step {q : List ReqX} {j : Nat} {x : ReqX} (h : q[j]? = some x) : qokTo q (j + 1) = (qokTo q j && okQ x) := by
  unfold qokTo; rw [take_snoc' h, List.all_append]; simp
theorem qok_all (q : List ReqX) : qokTo q q.length = q.all okQ := by unfold qokTo; rw [List.take_length]
theorem qok_bad {q : List ReqX} {j : Nat} {x : ReqX} (h : q[j]? = some x) (hx : okQ x = false) : q.all okQ = false := by
  rw [← Bool.not_eq_true, List.all_eq_true]
  intro ha
  rw [ha x (List.mem_of_getElem? h)] at hx; cases hx
/-- what is asked of a master, whatever the limits. -/
def rightM (q : List ReqX) (be dn tr : Int) (pa br : Bool) : Bool :=
  q.all okQ && (decide ((q.length : Int) ≤ 4) && (decide (0 ≤ tr) &&
    (if q.length = 0 then (be == 0 && (dn == 0 && (tr == 0 && (!pa && !br)))) else (decide (0 ≤ dn) && (decide (dn ≤ beats0 q - 1) && (decide (dn ≤ be) && decide (be ≤ min (dn + 2) (beats0 q))))))))
theorem mst_rows {q : List ReqX} {be dn tr : Int} {pa br : Bool} (h : mstK.sz (q, be, dn, tr, pa, br) ≤ 2000000) : szL reqK q ≤ 2000000 := by
  rw [mst_sz] at h; exact h
theorem mst_len {q : List ReqX} {be dn tr : Int} {pa br : Bool} (h : mstK.sz (q, be, dn, tr, pa, br) ≤ 2000000) : q.length ≤ 2000000 := Nat.le_trans (szL_len reqK q) (mst_rows h)
set_option maxRecDepth 100000 in
theorem spec12Beats (cs : List Value) (q : List ReqX) (be dn tr : Int) (pa br : Bool) (hs : mstK.sz (q, be, dn, tr, pa, br) ≤ 2000000) (w : World) (h : mstK.rd cs (q, be, dn, tr, pa, br) w) :
    Calls Tryz.prog 91 #[agg cs] w fun e w' => e = .returned (.int .i64 (beats0 q)) ∧ Below w.heap.size w w' := by
  obtain ⟨a0, p0, rfl, h0⟩ := mst_form h
  clear h
  have hl := mst_len hs
  obtain ⟨n, hn⟩ : ∃ n, q.length = n := ⟨_, rfl⟩
  have A0 := Bx.new 70 #[.slice a0 n p0, .int .i64 be, .int .i64 dn, .int .i64 tr, .bool pa, .bool br] w
  have g0 := A0.cell 0 _ rfl
  have HB := Lib.hid ((Below.refl w.heap.size w).alloc (Nat.le_refl _) (Obj.cells #[.slice a0 n p0, .int .i64 be, .int .i64 dn, .int .i64 tr, .bool pa, .bool br] 70))
  have H0 := Lib.hid (reqS.rd_later h0 HB.out)
  rw [hn] at H0 hl ⊢
  show Calls _ _ #[.agg #[.slice a0 n p0, .int .i64 be, .int .i64 dn, .int .i64 tr, .bool pa, .bool br]] w _
  cases q with
  | nil =>
    obtain rfl : n = 0 := hn.symm
    clear h0 A0 hn hs
    go_enter Tryz.func91, Tryz.ntmps91
    go_wp2
    go_ret
    exact ⟨rfl, HB.out⟩
  | cons r q =>
    have hpos : 0 < n := by rw [← hn]; simp
    obtain ⟨b, o, _, es, e, _, _, lt, c, rx⟩ := row_rd H0.out (i := 0) (x := r) rfl
    obtain ⟨r0, r1, r2, r3, r4, r5⟩ := r
    obtain ⟨ax, px, rfl, _⟩ := rd_req rx
    simp at e
    obtain ⟨rfl, -, rfl⟩ := e
    have k3 : _ = some (Value.int .i64 r3) := c 3 _ rfl
    rw [Nat.zero_mul, Nat.add_zero] at k3
    have hne : ((n : Int) == 0) = false := by simp; omega
    obtain ⟨m, hm⟩ : ∃ m, beatsW r3 = m := ⟨_, rfl⟩
    have HM := Lib.hid hm
    have hgoal : beats0 ((r0, r1, r2, r3, r4, r5) :: q) = m := hm
    rw [hgoal]
    clear h0 A0 hn hs c rx hm hgoal
    go_enter Tryz.func91, Tryz.ntmps91
    go_wp2_with fail
    refine (specBeats _ _).mono ?_
    rintro e w' ⟨rfl, hb⟩
    rw [HM.out]
    go_wp2
    go_ret
    exact ⟨rfl, HB.out.trans (hb.mono HB.out.size)⟩
end Go.Proofs.YtdhaelaoackfkaaGreat.KD

namespace Go.Proofs.YtdhaelaoackfkaaGreat.KD
open Go.RowKit Rows3 GR Num
set_option linter.unusedVariables false

theorem in_is {x lo hi : Int} {u : Bool} (h : (decide (lo ≤ x) && decide (x ≤ hi)) = u) (w : World) : Calls Tryz.prog 19 #[.int .i64 x, .int .i64 lo, .int .i64 hi] w fun e w' => e = .returned (.bool u) ∧ Below w.heap.size w w' := by
  cases u with
  | true =>
    simp at h
    exact (sl1In_yes x lo hi h.1 h.2 w).mono fun e w' ⟨a, b⟩ => ⟨a, by rw [b]; exact Below.refl _ _⟩
  | false =>
    have h2 : x < lo ∨ hi < x := by simp at h; omega
    exact (sl1In_no x lo hi h2 w).mono fun e w' ⟨a, b⟩ => ⟨a, by rw [b]; exact Below.refl _ _⟩
theorem beats_is {cs : List Value} {q : List ReqX} {be dn tr : Int} {pa br : Bool} {m : Int} (hm : beats0 q = m) (hs : mstK.sz (q, be, dn, tr, pa, br) ≤ 2000000) (w : World) (h : mstK.rd cs (q, be, dn, tr, pa, br) w) :
    Calls Tryz.prog 91 #[agg cs] w fun e w' => e = .returned (.int .i64 m) ∧ Below w.heap.size w w' := hm ▸ spec12Beats cs q be dn tr pa br hs w h
set_option maxHeartbeats 8000000 in
set_option maxRecDepth 100000 in
theorem spec12Right (cs : List Value) (q : List ReqX) (be dn tr : Int) (pa br : Bool) (hs : mstK.sz (q, be, dn, tr, pa, br) ≤ 2000000) (w : World) (h : mstK.rd cs (q, be, dn, tr, pa, br) w) :
    Calls Tryz.prog 59 #[agg cs] w fun e w' => e = .returned (.bool (rightM q be dn tr pa br)) ∧ Below w.heap.size w w' := by
  obtain ⟨a0, p0, rfl, h0⟩ := mst_form h
  have hl := mst_len hs
  have HSZ := Lib.hid (mst_rows hs)
  have HS := Lib.hid hs
  obtain ⟨n, hn⟩ : ∃ n, q.length = n := ⟨_, rfl⟩
  have HN := Lib.hid hn
  have hb0 := (Below.refl w.heap.size w).alloc (Nat.le_refl _) (Obj.cells #[.slice a0 n p0, .int .i64 be, .int .i64 dn, .int .i64 tr, .bool pa, .bool br] 70)
  have A0 := Lib.hid (Bx.new 70 #[.slice a0 n p0, .int .i64 be, .int .i64 dn, .int .i64 tr, .bool pa, .bool br] w)
  rw [hn] at hl h h0 ⊢
  have HB0 := Lib.hid hb0
  have H := Lib.hid h
  have H0 := Lib.hid h0
  clear h h0 hn hb0 hs
  obtain ⟨R, hR0⟩ : ∃ R, rightM q be dn tr pa br = R := ⟨_, rfl⟩
  rw [hR0]
  have HR := Lib.hid hR0
  clear hR0
  show Calls _ _ #[.agg #[.slice a0 n p0, .int .i64 be, .int .i64 dn, .int .i64 tr, .bool pa, .bool br]] w _
  go_enter Tryz.func59, Tryz.ntmps59
  go_wp2_with fail
  generalize w.alloc (Obj.cells #[.slice a0 n p0, .int .i64 be, .int .i64 dn, .int .i64 tr, .bool pa, .bool br] 70) = y0 at A0 HB0 ⊢
  go_loopw [3] (fun i wr => ∃ j : Nat, j ≤ n ∧ i = .int .i64 j ∧ Hid (qokTo q j = true) ∧ Hid (Bx 70 w.heap.size #[.slice a0 n p0, .int .i64 be, .int .i64 dn, .int .i64 tr, .bool pa, .bool br] wr) ∧ Hid (Below w.heap.size w wr)) (fun i _ => n - (intOf i).toNat)
  case atStart => exact ⟨0, by omega, rfl, Lib.hid rfl, A0, HB0⟩
  case round =>
    obtain ⟨j, hj, rfl, HQ, A, HB⟩ := hrel
    have b0 := A.out.cell 0 _ rfl
    by_cases hlt : j < n
    · obtain ⟨x, hx⟩ := get_of (l := q) (i := j) (by rw [HN.out]; exact hlt)
      have hsx : reqK.sz x ≤ 2000000 := Nat.le_trans (szL_mem reqK (List.mem_of_getElem? hx)) HSZ.out
      have Hst := Lib.hid (qokTo_step hx)
      have Hbad := Lib.hid (fun h => qok_bad hx h)
      obtain ⟨x0, x1, x2, x3, x4, x5⟩ := x
      obtain ⟨b, o, _, es, e, _, _, lt, c, rx⟩ := row_rd H0.out hx
      simp at e
      obtain ⟨rfl, -, rfl⟩ := e
      have hrx := rx
      obtain ⟨ax, px, rfl, _⟩ := rd_req rx
      have g0 : w.cell? ⟨b, o + j * 6, none⟩ = some (.bool x0) := c 0 _ rfl
      have g1 : w.cell? ⟨b, o + j * 6 + 1, none⟩ = some (.int .i64 x1) := c 1 _ rfl
      have g2 : w.cell? ⟨b, o + j * 6 + 2, none⟩ = some (.int .i64 x2) := c 2 _ rfl
      have g3 : w.cell? ⟨b, o + j * 6 + 3, none⟩ = some (.int .i64 x3) := c 3 _ rfl
      have g4 : w.cell? ⟨b, o + j * 6 + 4, none⟩ = some (.bool x4) := c 4 _ rfl
      have g5 : w.cell? ⟨b, o + j * 6 + 5, none⟩ = some (.slice ax x5.length px) := c 5 _ rfl
      rw [← bel_cells HB.out lt] at g0 g1 g2 g3 g4 g5
      have Hx := Lib.hid (reqK.rd_later hrx HB.out)
      obtain ⟨u, hu⟩ : ∃ u, okQ (x0, x1, x2, x3, x4, x5) = u := ⟨_, rfl⟩
      have HU := Lib.hid hu
      clear hx c rx hrx hu
      cases u with
      | true =>
        go_wp2_with fail
        refine (specReqX [.bool x0, .int .i64 x1, .int .i64 x2, .int .i64 x3, .bool x4, .slice ax x5.length px] x0 x1 x2 x3 x4 x5 hsx _ Hx.out).mono ?_
        rintro e w2 ⟨rfl, hb⟩
        rw [HU.out]
        clear g0 g1 g2 g3 g4 g5 b0
        go_wp2_with fail
        go_roundw
        case rel => exact ⟨j + 1, by omega, by go_num, Lib.hid (by rw [Hst.out, HQ.out, HU.out]; rfl), Lib.hid (A.out.later hb), Lib.hid (HB.out.trans (hb.mono HB.out.size))⟩
        case measure => simp [intOf]; omega
      | false =>
        go_wp2_with fail
        refine (specReqX [.bool x0, .int .i64 x1, .int .i64 x2, .int .i64 x3, .bool x4, .slice ax x5.length px] x0 x1 x2 x3 x4 x5 hsx _ Hx.out).mono ?_
        rintro e w2 ⟨rfl, hb⟩
        rw [HU.out]
        clear g0 g1 g2 g3 g4 g5 b0
        go_wp2_with fail
        go_ret
        have hf : R = false := by rw [← HR.out]; unfold rightM; rw [Hbad.out HU.out]; rfl
        exact ⟨by rw [hf]; rfl, HB.out.trans (hb.mono HB.out.size)⟩
    · obtain rfl : j = n := by omega
      have HA : Hid (q.all okQ = true) := Lib.hid (by rw [← qok_all, HN.out]; exact HQ.out)
      have b1 := A.out.cell 1 _ rfl
      have b2 := A.out.cell 2 _ rfl
      have b3 := A.out.cell 3 _ rfl
      have b4 := A.out.cell 4 _ rfl
      have b5 := A.out.cell 5 _ rfl
      by_cases h4 : 4 < j
      · go_wp2
        go_ret
        refine ⟨?_, HB.out⟩
        have : R = false := by rw [← HR.out]; unfold rightM; rw [HA.out, HN.out]; simp; omega
        rw [this]; rfl
      by_cases htr : tr < 0
      · go_wp2
        go_ret
        refine ⟨?_, HB.out⟩
        have : R = false := by
          have h5 : ¬ (0 ≤ tr) := by omega
          rw [← HR.out]; unfold rightM; simp [h5]
        rw [this]; rfl
      have hR : R = (if j = 0 then (be == 0 && (dn == 0 && (tr == 0 && (!pa && !br)))) else (decide (0 ≤ dn) && (decide (dn ≤ beats0 q - 1) && (decide (dn ≤ be) && decide (be ≤ min (dn + 2) (beats0 q)))))) := by
        have h5 : ((j : Int) ≤ 4) := by omega
        have h6 : 0 ≤ tr := by omega
        rw [← HR.out]; unfold rightM; rw [HA.out, HN.out]; simp only [h5, h6, decide_true, Bool.true_and]
      by_cases hj0 : j = 0
      · subst hj0
        rw [if_pos rfl] at hR
        have HRv := Lib.hid hR
        clear hR
        have paths : ¬ be = 0 ∨ (be = 0 ∧ ¬ dn = 0) ∨ (be = 0 ∧ dn = 0 ∧ ¬ tr = 0) ∨ (be = 0 ∧ dn = 0 ∧ tr = 0 ∧ pa = true) ∨ (be = 0 ∧ dn = 0 ∧ tr = 0 ∧ pa = false) := by
          cases pa <;> simp <;> omega
        rcases paths with h1 | ⟨rfl, h2⟩ | ⟨rfl, rfl, h3⟩ | ⟨rfl, rfl, rfl, rfl⟩ | ⟨rfl, rfl, rfl, rfl⟩
        · have e1 : (be == 0) = false := by simp [h1]
          go_wp2
          go_ret
          have hf := HRv.out
          rw [e1] at hf
          exact ⟨by rw [hf]; rfl, HB.out⟩
        · have e1 : (dn == 0) = false := by simp [h2]
          go_wp2
          go_ret
          have hf := HRv.out
          rw [e1] at hf
          exact ⟨by rw [hf]; rfl, HB.out⟩
        · have e1 : (tr == 0) = false := by simp [h3]
          go_wp2
          go_ret
          have hf := HRv.out
          rw [e1] at hf
          exact ⟨by rw [hf]; rfl, HB.out⟩
        · go_wp2
          go_ret
          exact ⟨by rw [HRv.out]; rfl, HB.out⟩
        · go_wp2
          go_ret
          exact ⟨by rw [HRv.out]; simp, HB.out⟩
      · rw [if_neg hj0] at hR
        have hbd := beats0_bd q
        obtain ⟨m, hm⟩ : ∃ m, beats0 q = m := ⟨_, rfl⟩
        rw [hm] at hbd hR
        have HM := Lib.hid hm
        have hj1 : ((j : Int) == 0) = false := by simp; omega
        have HW := Lib.hid (mstK.rd_later H.out HB.out)
        obtain ⟨u, hu⟩ : ∃ u, (decide (0 ≤ dn) && decide (dn ≤ m - 1)) = u := ⟨_, rfl⟩
        have HU := Lib.hid hu
        have hmn : min (dn + 2) m = (if m < dn + 2 then m else dn + 2) := by split <;> omega
        rw [hmn] at hR
        obtain ⟨u2, hu2⟩ : ∃ u, (decide (dn ≤ be) && decide (be ≤ (if m < dn + 2 then m else dn + 2))) = u := ⟨_, rfl⟩
        have HU2 := Lib.hid hu2
        have hres : (decide (0 ≤ dn) && (decide (dn ≤ m - 1) && (decide (dn ≤ be) && decide (be ≤ (if m < dn + 2 then m else dn + 2))))) = (u && u2) := by rw [← hu, ← hu2, Bool.and_assoc]
        rw [hres] at hR
        have HRv := Lib.hid hR
        clear hR hm hu2 hres HQ HA hmn
        cases u with
        | false =>
          clear hu
          go_wp2_with fail
          replace b0 := fun d os => cell_regrown b0 d os
          replace b1 := fun d os => cell_regrown b1 d os
          replace b2 := fun d os => cell_regrown b2 d os
          replace b3 := fun d os => cell_regrown b3 d os
          replace b4 := fun d os => cell_regrown b4 d os
          replace b5 := fun d os => cell_regrown b5 d os
          refine wp_region_quiet_below (by kernel_rfl) (by kernel_rfl) ?_
          repeat (go_big_quiet_step (first
            | (go_at_call 91; exact Calls.regrown_of (beats_is HM.out HS.out _ (mstK.rd_later HW.out (below_regrown _ _ _))))
            | (go_at_call 19; first | (with_reducible exact Calls.regrown_of (in_is HU.out _)) | (with_reducible exact Calls.regrown_of (in_is HU2.out _)))))
          refine wpQuiet_nil ?_
          rintro _ ⟨⟨dq, osq⟩, rfl⟩
          all_goals go_wp2_with fail
          all_goals go_ret
          all_goals exact ⟨by rw [HRv.out]; simp, HB.out.trans ((below_regrown _ dq osq).mono HB.out.size)⟩
        | true =>
          simp at hu
          have hd0 := hu.1
          have hd1 := hu.2
          clear hu
          go_wp2_with fail
          replace b0 := fun d os => cell_regrown b0 d os
          replace b1 := fun d os => cell_regrown b1 d os
          replace b2 := fun d os => cell_regrown b2 d os
          replace b3 := fun d os => cell_regrown b3 d os
          replace b4 := fun d os => cell_regrown b4 d os
          replace b5 := fun d os => cell_regrown b5 d os
          refine wp_region_quiet_below (by kernel_rfl) (by kernel_rfl) ?_
          repeat (go_big_quiet_step (first
            | (go_at_call 91; exact Calls.regrown_of (beats_is HM.out HS.out _ (mstK.rd_later HW.out (below_regrown _ _ _))))
            | (go_at_call 19; first | (with_reducible exact Calls.regrown_of (in_is HU.out _)) | (with_reducible exact Calls.regrown_of (in_is HU2.out _)))))
          refine wpQuiet_nil ?_
          rintro _ ⟨⟨dq, osq⟩, rfl⟩
          all_goals go_wp2_with fail
          all_goals go_ret
          all_goals exact ⟨by rw [HRv.out]; simp, HB.out.trans ((below_regrown _ dq osq).mono HB.out.size)⟩
end Go.Proofs.YtdhaelaoackfkaaGreat.KD

namespace Go.Proofs.YtdhaelaoackfkaaGreat.KD
open Go.RowKit Rows3 GR
set_option linter.unusedVariables false

theorem setCells_turn (g : Nat) : ∀ (vs : List Value) (o : Nat) (w w' : World), Turn (fun k => k = g) w w' → Turn (fun k => k = g) w (w'.setCells g o vs)
  | [], _, _, _, h => h
  | v :: vs, o, w, w', h => setCells_turn g vs (o + 1) w _ (h.set (p := ⟨g, o, none⟩) rfl v)
theorem setCells_row (g : Nat) : ∀ (vs : List Value) (o : Nat) (w : World) (xs : Array Value) (T : TypeId), w.heap[g]? = some (.cells xs T) → o + vs.length ≤ xs.size →
    ∃ xs', (w.setCells g o vs).heap[g]? = some (.cells xs' T) ∧ xs'.size = xs.size ∧ (∀ t u, vs[t]? = some u → xs'[o + t]? = some u) ∧ ∀ i, i < o ∨ o + vs.length ≤ i → xs'[i]? = xs[i]?
  | [], o, w, xs, T, h, _ => ⟨xs, h, rfl, fun t u hu => by simp at hu, fun _ _ => rfl⟩
  | v :: vs, o, w, xs, T, h, hl => by
    rw [List.length_cons] at hl
    have h1 : (w.setCell ⟨g, o, none⟩ v).heap[g]? = some (.cells (xs.setIfInBounds o v) T) := by simp [World.setCell, Array.getElem?_modify, h]
    obtain ⟨xs', k1, k2, k3, k4⟩ := setCells_row g vs (o + 1) _ _ T h1 (by simp; omega)
    refine ⟨xs', k1, by rw [k2]; simp, fun t u hu => ?_, fun i hi => ?_⟩
    · cases t with
      | zero =>
        rw [k4 _ (.inl (by omega)), Nat.add_zero]
        simp at hu
        subst hu
        rw [Array.getElem?_setIfInBounds_self_of_lt (by omega)]
      | succ t =>
        have := k3 t u (by simpa using hu)
        rw [show o + (t + 1) = o + 1 + t by omega]; exact this
    · rw [List.length_cons] at hi
      rw [k4 i (by omega), Array.getElem?_setIfInBounds_ne (by omega)]
theorem lin_lt {i l n t : Nat} (hi : i < l) (ht : t < n) : i * n + t < l * n := by
  have h1 : (i + 1) * n ≤ l * n := Nat.mul_le_mul_right _ hi
  rw [Nat.add_mul, Nat.one_mul] at h1
  omega
theorem addr_add' (b o i : Nat) : (⟨b, o, none⟩ : Addr).add i = ⟨b, o + i, none⟩ := by unfold Addr.add; split <;> simp_all
theorem row_mk {α : Type} {K : Kn α} {hn : K.n ≤ 64} {F E : Foot} {Es : Nat → Foot} {l : List α} {x : α} {es : List Value} {w w' : World} {g o cp : Nat} {xs : Array Value} {T : TypeId}
    (h1 : w'.heap[g]? = some (.cells xs T)) (hroom : o + cp * K.n ≤ xs.size) (hcp : l.length + 1 ≤ cp) (hcm : cp ≤ 9223372036854775807) (hg : F g ∨ w.heap.size ≤ g)
    (e1 : ∀ i k, Es i k → F k ∧ k ≠ g ∧ k < w.heap.size) (e2 : ∀ i j k, i ≠ j → Es i k → ¬ Es j k) (hE : ∀ k, k < w.heap.size → E k → ¬ F k)
    (hx : ∀ i y, l[i]? = some y → ∃ ez, (∀ t u, ez[t]? = some u → xs[o + i * K.n + t]? = some u) ∧ K.cap (Es i) ez y w')
    (hnw : ∀ t u, es[t]? = some u → xs[o + l.length * K.n + t]? = some u) (hc : K.cap (fun k => E k ∧ k < w.heap.size) es x w') :
    (row K hn).cap (fun k => F k ∨ E k ∨ w.heap.size ≤ k) [.slice (some ⟨g, o, none⟩) (l.length + 1) cp] (l ++ [x]) w' := by
  have hfg : F g ∨ E g ∨ w.heap.size ≤ g := by rcases hg with h | h; exact .inl h; exact .inr (.inr h)
  refine ⟨_, _, by rw [List.length_append, List.length_singleton], by rw [List.length_append, List.length_singleton]; exact ⟨hcp, hcm⟩, .inr ⟨g, o, xs, T, rfl, hfg, h1, hroom, fun j k => if j = l.length then E k ∧ k < w.heap.size else Es j k, fun j k hk => ?_, fun i j k hij h2 h3 => ?_, fun j y hj => ?_⟩⟩
  · by_cases hjl : j = l.length
    · simp only [hjl, if_true] at hk
      refine ⟨.inr (.inl hk.1), fun e => ?_⟩
      subst e
      rcases hg with h | h
      · exact hE k hk.2 hk.1 h
      · omega
    · simp only [hjl, if_false] at hk
      exact ⟨.inl (e1 j k hk).1, (e1 j k hk).2.1⟩
  · by_cases hil : i = l.length
    · by_cases hjl : j = l.length
      · omega
      · simp only [hil, if_true] at h2
        simp only [hjl, if_false] at h3
        exact hE k h2.2 h2.1 (e1 j k h3).1
    · simp only [hil, if_false] at h2
      by_cases hjl : j = l.length
      · simp only [hjl, if_true] at h3
        exact hE k h3.2 h3.1 (e1 i k h2).1
      · simp only [hjl, if_false] at h3
        exact e2 i j k hij h2 h3
  · by_cases hjl : j < l.length
    · rw [List.getElem?_append_left hjl] at hj
      obtain ⟨ez, h2, h3⟩ := hx j y hj
      refine ⟨ez, h2, ?_⟩
      have hne : ¬ j = l.length := by omega
      simp only [hne, if_false]
      exact h3
    · have hj2 := (List.getElem?_eq_some_iff.1 hj).1
      simp at hj2
      have h0 : j = l.length := by omega
      subst h0
      simp at hj
      subst hj
      refine ⟨es, hnw, ?_⟩
      simp only [if_true]
      exact hc
theorem run_append_row {α : Type} {K : Kn α} {hn : K.n ≤ 64} (t ty e : TypeId) (i : TypeInfo) (z : Value) (ht : Tryz.prog.underlying t = some (.slice e)) (hi : Tryz.prog.info? e = some i) (hz : i.zero = some z) (hsz : i.size = K.n) (hzs : z.cells.size = K.n) (hby : i.bytes ≤ 1000)
    (F E : Foot) (v : Value) (l : List α) (x : α) (es : List Value) (w : World) (h : (row K hn).cap F [v] l w) (hc : K.cap E es x w) (hE : ∀ k, k < w.heap.size → E k → ¬ F k) (ad : Addr) (cp : Nat)
    (hnew : ∀ j u, es[j]? = some u → w.cell? (ad.add j) = some u) (h1c : ∀ u ∈ es, u.oneCell' = true) (hl : l.length + 1 ≤ 4000000) :
    ∃ v' w', (Builtin.append_ #[t, t] ty #[v, .slice (some ad) 1 cp]).run Tryz.prog w = .ok v' w' ∧ (row K hn).cap (fun k => F k ∨ E k ∨ w.heap.size ≤ k) [v'] (l ++ [x]) w' ∧ Turn F w w' := by
  have hes := K.rd_len (K.cap_rd hc)
  have hnl : es.length = 1 * i.size := by rw [hes, hsz, Nat.one_mul]
  have hbt : (l.length + 1) * i.bytes ≤ 140737488355328 := by
    have := Nat.mul_le_mul hl hby; omega
  obtain ⟨av, cv, ev, hlc, h⟩ := h
  obtain rfl : v = .slice av l.length cv := by simpa using ev
  rcases h with ⟨rfl, rfl, rfl⟩ | ⟨g, o, xs, T, rfl, hF, hg, hroom, Es, e1, e2, hx⟩
  · -- nothing yet
    have hrun := run_append_nil (P := Tryz.prog) w t ty e i z ht hi hz ad 1 cp es hnl hnew (by omega) (by omega) (by omega)
    have hge := grownCap_ge w 1 0 e
    have hle := grownCap_le_maxLen w 1 0 e (by unfold maxLen; omega)
    have hlat : Below w.heap.size w (w.drew.alloc (.cells (es.toArray ++ Builtin.zeroCells z.cells (grownCap w 1 0 e - 1)) e)) := ⟨rfl, rfl, rfl, by simp, fun k hk => heap_alloc_old w.drew _ hk⟩
    refine ⟨_, _, hrun, ?_, Turn.later hlat⟩
    refine row_mk (l := []) (Es := fun _ _ => False) (o := 0) (heap_alloc_new w.drew _) ?_ (by simpa using hge) (by unfold maxLen at hle; omega) (.inr (Nat.le_refl _)) (fun _ _ h => h.elim) (fun _ _ _ _ h => h.elim) hE (fun j y hj => by simp at hj) (fun t u hu => ?_) (K.cap_later (K.cap_top hc) hlat)
    · simp [size_zeroCells, hes, hzs]
      have : grownCap w 1 0 e * K.n = K.n + (grownCap w 1 0 e - 1) * K.n := by
        obtain ⟨d, hd⟩ : ∃ d, grownCap w 1 0 e = d + 1 := ⟨grownCap w 1 0 e - 1, by omega⟩
        rw [hd, Nat.add_mul, Nat.one_mul]; simp; omega
      omega
    · have ht := (List.getElem?_eq_some_iff.1 hu).1
      simp only [List.length_nil, Nat.zero_mul, Nat.zero_add, Nat.add_zero]
      rw [Array.getElem?_append_left (by simpa using ht), List.getElem?_toArray]; exact hu
  · have hlt := (Array.getElem?_eq_some_iff.1 hg).1
    by_cases hr : l.length + 1 ≤ cv
    · -- room
      have hfit : o + l.length * K.n + K.n ≤ xs.size := by
        have h1 : (l.length + 1) * K.n ≤ cv * K.n := Nat.mul_le_mul_right _ hr
        rw [Nat.add_mul, Nat.one_mul] at h1
        omega
      have hrun := run_append_room_cells (P := Tryz.prog) w t ty e i ht hi g o l.length cv ad 1 cp es hnl hnew h1c hr
        (fun j hj => by
          rw [hsz, cell_of_row w g _ xs T (0, 0) hg]
          have : o + l.length * K.n + j < xs.size := by omega
          simp [this])
        (fun j hj => by simp [World.frozen?, hg])
      rw [hsz] at hrun
      obtain ⟨xs', k1, k2, k3, k4⟩ := setCells_row g es (o + l.length * K.n) w xs T hg (by omega)
      have hT := setCells_turn g es (o + l.length * K.n) w w (Turn.refl _ _)
      refine ⟨_, _, hrun, ?_, hT.wide (fun k hk => hk ▸ hF)⟩
      refine row_mk (Es := fun j k => Es j k ∧ k < w.heap.size) k1 (by rw [k2]; exact hroom) hr hlc.2 (.inl hF) (fun j k hk => ⟨(e1 j k hk.1).1, (e1 j k hk.1).2, hk.2⟩) (fun a b k hab h2 h3 => e2 a b k hab h2.1 h3.1) hE (fun j y hj => ?_) k3 (K.cap_turn (K.cap_top hc) hT (fun k hk h2 h3 => hE k hk h2.1 (h3 ▸ hF)))
      obtain ⟨ez, h2, h3⟩ := hx j y hj
      have hez := K.rd_len (K.cap_rd h3)
      refine ⟨ez, fun t u hu => ?_, K.cap_turn (K.cap_top h3) hT (fun k hk h4 h5 => (e1 j k h4.1).2 h5)⟩
      have ht := (List.getElem?_eq_some_iff.1 hu).1
      have hj2 := (List.getElem?_eq_some_iff.1 hj).1
      have := lin_lt (n := K.n) hj2 (show t < K.n by omega)
      rw [k4 _ (.inl (by omega))]
      exact h2 t u hu
    · -- a new block
      obtain ⟨olds, hol⟩ : ∃ olds, (xs.toList.drop o).take (l.length * K.n) = olds := ⟨_, rfl⟩
      have hfl : l.length * K.n ≤ cv * K.n := Nat.mul_le_mul_right _ hlc.1
      have hlo : olds.length = l.length * K.n := by
        rw [← hol, List.length_take, List.length_drop]
        have hxs : xs.toList.length = xs.size := by simp
        omega
      have hold : ∀ j, j < l.length * K.n → olds[j]? = xs[o + j]? := fun j hj => by
        rw [← hol, List.getElem?_take_of_lt hj, List.getElem?_drop, Array.getElem?_toList]
      have hrun := run_append_grow (P := Tryz.prog) w t ty e i z ht hi hz ⟨g, o, none⟩ l.length cv olds (by rw [hlo, hsz]) (fun j u hu => by
          have hj := (List.getElem?_eq_some_iff.1 hu).1
          rw [hold j (by omega)] at hu
          rw [addr_add', cell_of_row w g _ xs T (0, 0) hg]; exact hu) ad 1 cp es hnl hnew (by omega) (by omega) (growslice_fits (by omega) hbt)
      have hge := grownCap_ge w (l.length + 1) cv e
      have hle := grownCap_le_maxLen w (l.length + 1) cv e (by unfold maxLen; omega)
      have hlat : Below w.heap.size w (w.drew.alloc (.cells (olds.toArray ++ es.toArray ++ Builtin.zeroCells z.cells (grownCap w (l.length + 1) cv e - (l.length + 1))) e)) := ⟨rfl, rfl, rfl, by simp, fun k hk => heap_alloc_old w.drew _ hk⟩
      refine ⟨_, _, hrun, ?_, Turn.later hlat⟩
      refine row_mk (Es := fun j k => Es j k ∧ k < w.heap.size) (o := 0) (heap_alloc_new w.drew _) ?_ hge (by unfold maxLen at hle; omega) (.inr (Nat.le_refl _)) (fun j k hk => ⟨(e1 j k hk.1).1, by have := hk.2; show k ≠ w.heap.size; omega, hk.2⟩) (fun a b k hab h2 h3 => e2 a b k hab h2.1 h3.1) hE (fun j y hj => ?_) (fun t u hu => ?_) (K.cap_later (K.cap_top hc) hlat)
      · simp only [Array.size_append, List.size_toArray, size_zeroCells, hlo, hes, hzs]
        have : grownCap w (l.length + 1) cv e * K.n = l.length * K.n + K.n + (grownCap w (l.length + 1) cv e - (l.length + 1)) * K.n := by
          obtain ⟨d, hd⟩ : ∃ d, grownCap w (l.length + 1) cv e = d + (l.length + 1) := ⟨grownCap w (l.length + 1) cv e - (l.length + 1), by omega⟩
          rw [hd, Nat.add_sub_cancel, Nat.add_mul, Nat.add_mul, Nat.one_mul]; omega
        omega
      · obtain ⟨ez, h2, h3⟩ := hx j y hj
        have hez := K.rd_len (K.cap_rd h3)
        refine ⟨ez, fun t u hu => ?_, K.cap_later (K.cap_top h3) hlat⟩
        have ht := (List.getElem?_eq_some_iff.1 hu).1
        have hj2 := (List.getElem?_eq_some_iff.1 hj).1
        have hlin := lin_lt (n := K.n) hj2 (show t < K.n by omega)
        rw [Nat.zero_add, Array.getElem?_append_left (by rw [Array.size_append, List.size_toArray, List.size_toArray, hlo, hes]; omega), Array.getElem?_append_left (by rw [List.size_toArray, hlo]; exact hlin), List.getElem?_toArray, hold _ hlin]
        have := h2 t u hu
        rwa [Nat.add_assoc] at this
      · have ht := (List.getElem?_eq_some_iff.1 hu).1
        rw [Nat.zero_add, Array.getElem?_append_left (by rw [Array.size_append, List.size_toArray, List.size_toArray, hlo]; omega), Array.getElem?_append_right (by rw [List.size_toArray, hlo]; omega)]
        simp only [List.size_toArray, hlo, Nat.add_sub_cancel_left, List.getElem?_toArray]
        exact hu
/-- what is known of an element's type. -/
def ElT {α : Type} (K : Kn α) (e : TypeId) : Prop := ∃ i z, Tryz.prog.info? e = some i ∧ i.zero = some z ∧ i.size = K.n ∧ z.cells.size = K.n ∧ i.bytes ≤ 1000
/-- append(s, x), a literal of one struct. -/
theorem appRow {α : Type} {K : Kn α} {hn : K.n ≤ 64} {ops : Array Oper} {rest : List Oper} {o : Oper} {a : Act} {Q : Exit → Act → World → Prop} (t e : TypeId) (ht : Tryz.prog.underlying t = some (.slice e)) (hT : ElT K e) (hgd : o.guard = none) (s x : Operand)
    (ho : o.op = .call { callee := .builtin .append, args := #[s, x], argTypes := #[t, t] })
    (F E : Foot) (v : Value) (l : List α) (y : α) (es : Array Value) (w : World) (hs : a.eval s = v) (hx : a.eval x = .slice (some ⟨w.heap.size, 0, none⟩) 1 1)
    (hown : (row K hn).cap F [v] l w) (hc : K.cap E es.toList y w) (hE : ∀ k, k < w.heap.size → E k → ¬ F k) (h1c : ∀ u ∈ es.toList, u.oneCell' = true) (hl : l.length + 1 ≤ 4000000)
    (h : ∀ v' w', (row K hn).cap (fun k => F k ∨ E k ∨ w.heap.size ≤ k) [v'] (l ++ [y]) w' → Turn F w w' → wpList Tryz.prog ops Q rest (a.put o.dst v') w') :
    wpList Tryz.prog ops Q (o :: rest) a (w.alloc (.cells es e)) := by
  obtain ⟨i, z, hi, hz, hsz, hzs, hby⟩ := hT
  have hb := (Below.refl w.heap.size w).alloc (Nat.le_refl _) (.cells es e)
  have hbs := hb.size
  obtain ⟨v', w', hrun, h1, h2⟩ := run_append_row t o.type e i z ht hi hz hsz hzs hby (fun k => F k ∧ k < w.heap.size) (fun k => E k ∧ k < w.heap.size) v l y es.toList (w.alloc (.cells es e)) ((row K hn).cap_later ((row K hn).cap_top hown) hb) (K.cap_later (K.cap_top hc) hb) (fun k _ h3 h4 => hE k h3.2 h3.1 h4.1) ⟨w.heap.size, 0, none⟩ 1 (fun j u hu => by
      rw [addr_add', cell_of_row _ w.heap.size _ _ e (0, 0) (heap_alloc_new w _), Nat.zero_add, ← Array.getElem?_toList]; exact hu) h1c hl
  refine wpList_plain hgd fun K' hK => ?_
  unfold Oper.wp
  simp [execOp, ho, resolve, invoke, builtin, hs, hx, hrun, Result.andThen]
  refine hK _ _ (h v' w' ((row K hn).cap_wide h1 (fun k _ hf => ?_)) ((Turn.later hb).trans (h2.wide (fun k hk => hk.1))))
  rcases hf with h3 | h3 | h3
  · exact .inl h3.1
  · exact .inr (.inl h3.1)
  · exact .inr (.inr (Nat.le_trans hbs h3))
end Go.Proofs.YtdhaelaoackfkaaGreat.KD
