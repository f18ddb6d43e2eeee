/-
  Several texts in one: Masters1, Masters.
-/
import Derived.Test.YtijilhaoknpeeaaMst7
import Derived.Test.YtijilhaoknpeeaaMst9
import Derived.Test.YtijilhaoknpeeaaBurst3
import Derived.Test.YtijilhaoknpeeaaGDraw1
import Derived.Test.YtijilhaoknpeeaaGMst2
import Derived.Test.YtijilhaoknpeeaaMst8
import Derived.Deep.Cut
namespace Go.Proofs.Ytijilhaoknpeeaa.KD
open Go.RowKit Rows3 GR Num
set_option linter.unusedVariables false

theorem issue_false {q : List ReqX} {be dn tr : Int} {pa br : Bool} {m : MstX} (h : issueM q be dn tr pa br = (m, false)) : m = (q, be, dn, tr, pa, br) := by
  unfold issueM at h
  split at h
  · simp at h
  · simp at h; exact h.symm
theorem end_false {q : List ReqX} {be dn tr : Int} {pa br : Bool} {m : MstX} (h : endM q be dn tr pa br = (m, false)) : m = (q, be, dn, tr, pa, br) := by
  unfold endM at h
  split at h
  · split at h <;> simp at h
  · simp at h; exact h.symm
theorem end_true {q q' : List ReqX} {be dn tr be' dn' tr' : Int} {pa br pa' br' : Bool} (h : endM q be dn tr pa br = ((q', be', dn', tr', pa', br'), true)) :
    (q'.length = q.length ∧ dn' = dn + 1 ∧ 0 ≤ dn ∧ dn ≤ 8) ∨ (q.length = q'.length + 1 ∧ dn' = 0 ∧ be' = 0) := by
  unfold endM at h
  split at h
  · rename_i hc
    obtain ⟨h1, h2, h3, h4, h5, h6, h7, h8⟩ := right_bd hc.1
    split at h
    · simp only [Prod.mk.injEq] at h
      obtain ⟨⟨rfl, rfl, rfl, _⟩, _⟩ := h
      right
      have hq : q.length ≠ 0 := fun e => by have := h7 e; exact hc.2 (by omega)
      exact ⟨by rw [List.length_tail]; omega, rfl, rfl⟩
    · simp only [Prod.mk.injEq] at h
      obtain ⟨⟨rfl, rfl, rfl, _⟩, _⟩ := h
      left; exact ⟨rfl, rfl, h1, h2⟩
  · simp at h
theorem wants_right {q : List ReqX} {be dn tr : Int} {pa br : Bool} (h : wantsM q be dn tr pa br = true) : rightM q be dn tr pa br = true ∧ be < beats0 q := by
  unfold wantsM at h
  rw [Bool.and_eq_true, decide_eq_true_eq] at h
  exact h
theorem right_next {q : List ReqX} {be dn tr : Int} {pa br : Bool} (h : rightM q be dn tr pa br = true) (hb : be < beats0 q) (h2 : be ≠ dn + 2) : rightM q (be + 1) dn tr pa br = true := by
  have hq : q.length ≠ 0 := fun e => by
    obtain rfl : q = [] := List.length_eq_zero_iff.1 e
    have h1 := (right_bd h).2.2.1
    have h3 := (right_bd h).1
    simp [beats0] at hb
    omega
  unfold rightM at h ⊢
  rw [if_neg hq] at h ⊢
  simp only [Bool.and_eq_true, decide_eq_true_eq] at h ⊢
  obtain ⟨h1, h3, h4, h5⟩ := h
  refine ⟨h1, h3, h4, ?_⟩
  omega
theorem issue_true {q q' : List ReqX} {be dn tr be' dn' tr' : Int} {pa br pa' br' : Bool} (h : issueM q be dn tr pa br = ((q', be', dn', tr', pa', br'), true)) :
    backM q' be' dn' tr' pa' br' = ((q, be, dn, tr, pa, br), true) ∧ 0 ≤ addrM q be dn tr pa br be := by
  unfold issueM at h
  split at h
  · rename_i hc
    obtain ⟨hr, hb⟩ := wants_right hc.1
    obtain ⟨h1, h2, h3, h4, h5, h6, h7, h8⟩ := right_bd hr
    simp only [Prod.mk.injEq] at h
    obtain ⟨⟨rfl, rfl, rfl, rfl, rfl, rfl⟩, _⟩ := h
    refine ⟨?_, ?_⟩
    · unfold backM
      rw [if_pos ⟨right_next hr hb hc.2, by omega⟩, show be + 1 - 1 = be by omega]
    · unfold addrM
      rw [if_pos ⟨hr, by omega, hb⟩]
      split
      · omega
      · rename_i r l
        have ho : okQ r = true := by have := right_all hr; simp at this; exact this.1
        have hb' : be < beatsW r.2.2.2.1 := hb
        have hbe : 0 ≤ be := by omega
        have hl := okQ_addrs ho (Int.lt_of_le_of_lt hbe hb')
        have hj : be.toNat < (addrsW r.2.1 r.2.2.1 r.2.2.2.1).length := by
          generalize (addrsW r.2.1 r.2.2.1 r.2.2.2.1).length = L at hl ⊢
          generalize beatsW r.2.2.2.1 = B at hl hb'
          omega
        have h9 := addrsW_getD hj
        rw [h9.1]; exact h9.2.1
  · simp at h
end Go.Proofs.Ytijilhaoknpeeaa.KD

namespace Go.Proofs.Ytijilhaoknpeeaa.KD
open Go.RowKit Rows3 GR Num Cur Bytes
set_option linter.unusedVariables false

set_option maxHeartbeats 16000000 in
set_option maxRecDepth 100000 in
theorem masters_of (II : MstI 16 issueM) (EI : MstI 18 endM) (BI : MstI 23 backM) (WI : WantsI) (AI : AddrI) (a : Option Addr) (len cap : Nat) (z : List Int) (w : World) (hC : Cur.CodeIn a len z w) :
    Calls Try.prog 3 #[.slice a len cap] w fun e w' => e = .returned (.bool true) ∧ Below w.heap.size w w' := by
  have HC := Lib.hid hC
  have hlen : ¬ 1048576 < len := by have := hC.2.2; omega
  clear hC
  go_enter Try.func3, Try.ntmps3
  go_wp2_with fail
  refine (Cur.bigE_no a len cap hlen _).mono ?_
  rintro e w0 ⟨rfl, rfl⟩
  go_wp2_with fail
  refine (Cur.drawIssue_any a len cap z _ HC.out).mono ?_
  rintro e w1 ⟨us, ⟨q, be, dn, tr, pa, br⟩, he, hs, hcm, hb1⟩
  obtain ⟨aM, pM, rfl, _⟩ := mst_form (mstK.cap_rd hcm)
  obtain ⟨n, hn⟩ : ∃ n, q.length = n := ⟨_, rfl⟩
  rw [hn] at he hcm
  obtain rfl : e = .returned (.agg #[.slice aM n pM, .int .i64 be, .int .i64 dn, .int .i64 tr, .bool pa, .bool br]) := he
  have HN := Lib.hid hn
  have HS := Lib.hid (hs.sz (by omega))
  have bm := (Below.refl w1.heap.size w1).alloc (Nat.le_refl _) (.cells #[.slice aM n pM, .int .i64 be, .int .i64 dn, .int .i64 tr, .bool pa, .bool br] 26)
  have X0 := Bx.new 26 #[.slice aM n pM, .int .i64 be, .int .i64 dn, .int .i64 tr, .bool pa, .bool br] w1
  obtain ⟨bM, hbM⟩ : ∃ b, w1.heap.size = b := ⟨_, rfl⟩
  rw [hbM] at X0
  have BM_0 := Lib.hid X0
  have RM_0 := Lib.hid (mstK.rd_later (mstK.cap_rd hcm) bm)
  have HB_0 := Lib.hid (hb1.trans (bm.mono hb1.size))
  obtain ⟨⟨⟨qx, bex, dnx, trx, pax, brx⟩, is⟩, hD⟩ : ∃ D, issueM q be dn tr pa br = D := ⟨_, rfl⟩
  have hsx := hs.issue
  rw [hD] at hsx
  have HSx := Lib.hid (hsx.sz (by omega))
  have HDx := Lib.hid hD
  obtain ⟨nx, hnx⟩ : ∃ n, qx.length = n := ⟨_, rfl⟩
  have HNx := Lib.hid hnx
  clear hD hsx hnx
  obtain ⟨⟨⟨qy, bey, dny, try_, pay, bry⟩, en⟩, hD⟩ : ∃ D, endM q be dn tr pa br = D := ⟨_, rfl⟩
  have hsy := hs.ends
  rw [hD] at hsy
  have HSy := Lib.hid (hsy.sz (by omega))
  have HDy := Lib.hid hD
  obtain ⟨ny, hny⟩ : ∃ n, qy.length = n := ⟨_, rfl⟩
  have HNy := Lib.hid hny
  clear hD hsy hny
  obtain ⟨wa, hwa⟩ : ∃ x, wantsM q be dn tr pa br = x := ⟨_, rfl⟩
  have HWa := Lib.hid hwa
  clear hwa hs bm hcm hb1 X0 hn
  obtain ⟨cM0, cM1, cM2, cM3, cM4, cM5⟩ := Bx.cells6 BM_0.out
  go_wp2_with fail
  clear cM0 cM1 cM2 cM3 cM4 cM5
  generalize w1.alloc _ = W0 at BM_0 RM_0 HB_0 ⊢
  refine (II _ q be dn tr pa br HS.out _ RM_0.out).mono ?_
  rw [HDx.out]
  rintro e vX ⟨us, he, hc, hb⟩
  obtain ⟨aX, pX, rfl, _⟩ := mst_form (mstK.cap_rd hc)
  dsimp only at he hc
  rw [HNx.out] at he hc
  obtain rfl : e = .returned (.tuple #[.agg #[.slice aX nx pX, .int .i64 bex, .int .i64 dnx, .int .i64 trx, .bool pax, .bool brx], .bool is]) := he
  have bx := (Below.refl vX.heap.size vX).alloc (Nat.le_refl _) (.cells #[.slice aX nx pX, .int .i64 bex, .int .i64 dnx, .int .i64 trx, .bool pax, .bool brx] 26)
  have hbb := hb.trans (bx.mono hb.size)
  have X0 := Bx.new 26 #[.slice aX nx pX, .int .i64 bex, .int .i64 dnx, .int .i64 trx, .bool pax, .bool brx] vX
  obtain ⟨bX, hbX⟩ : ∃ b, vX.heap.size = b := ⟨_, rfl⟩
  rw [hbX] at X0
  have BM_1 := Lib.hid (BM_0.out.later hbb)
  have RM_1 := Lib.hid (mstK.rd_later RM_0.out hbb)
  have HB_1 := Lib.hid (HB_0.out.trans (hbb.mono HB_0.out.size))
  have BX_1 := Lib.hid (X0)
  have RX_1 := Lib.hid (mstK.rd_later (mstK.cap_rd hc) bx)
  clear BM_0 RM_0 HB_0
  clear hc hb bx hbb X0
  obtain ⟨cM0, cM1, cM2, cM3, cM4, cM5⟩ := Bx.cells6 BM_1.out
  go_wp2_with fail
  clear cM0 cM1 cM2 cM3 cM4 cM5
  generalize vX.alloc _ = W1 at BM_1 BX_1 RM_1 RX_1 HB_1 ⊢
  refine (specIssue _ q be dn tr pa br HS.out _ RM_1.out).mono ?_
  rw [HDx.out]
  rintro e vT ⟨us, he, hc, hb⟩
  obtain ⟨aT, pT, rfl, _⟩ := mst_form (mstK.cap_rd hc)
  dsimp only at he hc
  rw [HNx.out] at he hc
  obtain rfl : e = .returned (.tuple #[.agg #[.slice aT nx pT, .int .i64 bex, .int .i64 dnx, .int .i64 trx, .bool pax, .bool brx], .bool is]) := he
  have bx := (Below.refl vT.heap.size vT).alloc (Nat.le_refl _) (.cells #[.slice aT nx pT, .int .i64 bex, .int .i64 dnx, .int .i64 trx, .bool pax, .bool brx] 26)
  have hbb := hb.trans (bx.mono hb.size)
  have X0 := Bx.new 26 #[.slice aT nx pT, .int .i64 bex, .int .i64 dnx, .int .i64 trx, .bool pax, .bool brx] vT
  obtain ⟨bT, hbT⟩ : ∃ b, vT.heap.size = b := ⟨_, rfl⟩
  rw [hbT] at X0
  have BM_2 := Lib.hid (BM_1.out.later hbb)
  have BX_2 := Lib.hid (BX_1.out.later hbb)
  have RM_2 := Lib.hid (mstK.rd_later RM_1.out hbb)
  have RX_2 := Lib.hid (mstK.rd_later RX_1.out hbb)
  have HB_2 := Lib.hid (HB_1.out.trans (hbb.mono HB_1.out.size))
  have BT_2 := Lib.hid (X0)
  have RT_2 := Lib.hid (mstK.rd_later (mstK.cap_rd hc) bx)
  clear BM_1 BX_1 RM_1 RX_1 HB_1
  clear hc hb bx hbb X0
  obtain ⟨cM0, cM1, cM2, cM3, cM4, cM5⟩ := Bx.cells6 BM_2.out
  go_wp2_with fail
  clear cM0 cM1 cM2 cM3 cM4 cM5
  generalize vT.alloc _ = W2 at BM_2 BX_2 BT_2 RM_2 RX_2 RT_2 HB_2 ⊢
  refine (EI _ q be dn tr pa br HS.out _ RM_2.out).mono ?_
  rw [HDy.out]
  rintro e vY ⟨us, he, hc, hb⟩
  obtain ⟨aY, pY, rfl, _⟩ := mst_form (mstK.cap_rd hc)
  dsimp only at he hc
  rw [HNy.out] at he hc
  obtain rfl : e = .returned (.tuple #[.agg #[.slice aY ny pY, .int .i64 bey, .int .i64 dny, .int .i64 try_, .bool pay, .bool bry], .bool en]) := he
  have bx := (Below.refl vY.heap.size vY).alloc (Nat.le_refl _) (.cells #[.slice aY ny pY, .int .i64 bey, .int .i64 dny, .int .i64 try_, .bool pay, .bool bry] 26)
  have hbb := hb.trans (bx.mono hb.size)
  have X0 := Bx.new 26 #[.slice aY ny pY, .int .i64 bey, .int .i64 dny, .int .i64 try_, .bool pay, .bool bry] vY
  obtain ⟨bY, hbY⟩ : ∃ b, vY.heap.size = b := ⟨_, rfl⟩
  rw [hbY] at X0
  have BM_3 := Lib.hid (BM_2.out.later hbb)
  have BX_3 := Lib.hid (BX_2.out.later hbb)
  have BT_3 := Lib.hid (BT_2.out.later hbb)
  have RM_3 := Lib.hid (mstK.rd_later RM_2.out hbb)
  have RX_3 := Lib.hid (mstK.rd_later RX_2.out hbb)
  have RT_3 := Lib.hid (mstK.rd_later RT_2.out hbb)
  have HB_3 := Lib.hid (HB_2.out.trans (hbb.mono HB_2.out.size))
  have BY_3 := Lib.hid (X0)
  have RY_3 := Lib.hid (mstK.rd_later (mstK.cap_rd hc) bx)
  clear BM_2 BX_2 BT_2 RM_2 RX_2 RT_2 HB_2
  clear hc hb bx hbb X0
  obtain ⟨cM0, cM1, cM2, cM3, cM4, cM5⟩ := Bx.cells6 BM_3.out
  go_wp2_with fail
  clear cM0 cM1 cM2 cM3 cM4 cM5
  generalize vY.alloc _ = W3 at BM_3 BX_3 BT_3 BY_3 RM_3 RX_3 RT_3 RY_3 HB_3 ⊢
  refine (specEnd _ q be dn tr pa br HS.out _ RM_3.out).mono ?_
  rw [HDy.out]
  rintro e vZ ⟨us, he, hc, hb⟩
  obtain ⟨aZ, pZ, rfl, _⟩ := mst_form (mstK.cap_rd hc)
  dsimp only at he hc
  rw [HNy.out] at he hc
  obtain rfl : e = .returned (.tuple #[.agg #[.slice aZ ny pZ, .int .i64 bey, .int .i64 dny, .int .i64 try_, .bool pay, .bool bry], .bool en]) := he
  have bx := (Below.refl vZ.heap.size vZ).alloc (Nat.le_refl _) (.cells #[.slice aZ ny pZ, .int .i64 bey, .int .i64 dny, .int .i64 try_, .bool pay, .bool bry] 26)
  have hbb := hb.trans (bx.mono hb.size)
  have X0 := Bx.new 26 #[.slice aZ ny pZ, .int .i64 bey, .int .i64 dny, .int .i64 try_, .bool pay, .bool bry] vZ
  obtain ⟨bZ, hbZ⟩ : ∃ b, vZ.heap.size = b := ⟨_, rfl⟩
  rw [hbZ] at X0
  have BM_4 := Lib.hid (BM_3.out.later hbb)
  have BX_4 := Lib.hid (BX_3.out.later hbb)
  have BT_4 := Lib.hid (BT_3.out.later hbb)
  have BY_4 := Lib.hid (BY_3.out.later hbb)
  have RM_4 := Lib.hid (mstK.rd_later RM_3.out hbb)
  have RX_4 := Lib.hid (mstK.rd_later RX_3.out hbb)
  have RT_4 := Lib.hid (mstK.rd_later RT_3.out hbb)
  have RY_4 := Lib.hid (mstK.rd_later RY_3.out hbb)
  have HB_4 := Lib.hid (HB_3.out.trans (hbb.mono HB_3.out.size))
  have BZ_4 := Lib.hid (X0)
  have RZ_4 := Lib.hid (mstK.rd_later (mstK.cap_rd hc) bx)
  clear BM_3 BX_3 BT_3 BY_3 RM_3 RX_3 RT_3 RY_3 HB_3
  clear hc hb bx hbb X0
  have hii : (is != is) = false := by simp
  have hee : (en != en) = false := by simp
  have hww : (wa != wa) = false := by simp
  go_upto_region 8 with fail
  generalize vZ.alloc _ = W4 at BM_4 BX_4 BT_4 BY_4 BZ_4 RM_4 RX_4 RT_4 RY_4 RZ_4 HB_4 ⊢
  have CM0 := cell_regrown (BM_4.out.cell 0 _ rfl)
  have CM1 := cell_regrown (BM_4.out.cell 1 _ rfl)
  have CM2 := cell_regrown (BM_4.out.cell 2 _ rfl)
  have CM3 := cell_regrown (BM_4.out.cell 3 _ rfl)
  have CM4 := cell_regrown (BM_4.out.cell 4 _ rfl)
  have CM5 := cell_regrown (BM_4.out.cell 5 _ rfl)
  have CY0 := cell_regrown (BY_4.out.cell 0 _ rfl)
  have CY1 := cell_regrown (BY_4.out.cell 1 _ rfl)
  have CY2 := cell_regrown (BY_4.out.cell 2 _ rfl)
  have CY3 := cell_regrown (BY_4.out.cell 3 _ rfl)
  have CY4 := cell_regrown (BY_4.out.cell 4 _ rfl)
  have CY5 := cell_regrown (BY_4.out.cell 5 _ rfl)
  have CZ0 := cell_regrown (BZ_4.out.cell 0 _ rfl)
  have CZ1 := cell_regrown (BZ_4.out.cell 1 _ rfl)
  have CZ2 := cell_regrown (BZ_4.out.cell 2 _ rfl)
  have CZ3 := cell_regrown (BZ_4.out.cell 3 _ rfl)
  have CZ4 := cell_regrown (BZ_4.out.cell 4 _ rfl)
  have CZ5 := cell_regrown (BZ_4.out.cell 5 _ rfl)
  have hyz : sameMst (qy, bey, dny, try_, pay, bry) (qy, bey, dny, try_, pay, bry) = true := (sameMst_iff _ _).2 rfl
  have HYZ := Lib.hid hyz
  clear hyz
  have SM : ∀ d os, Calls Try.prog 20 #[agg #[.slice aY ny pY, .int .i64 bey, .int .i64 dny, .int .i64 try_, .bool pay, .bool bry].toList, agg #[.slice aZ ny pZ, .int .i64 bey, .int .i64 dny, .int .i64 try_, .bool pay, .bool bry].toList] (Sort.grow (redrawn W4 d) os) fun e w' => e = .returned (.bool true) ∧ Below (Sort.grow (redrawn W4 d) os).heap.size (Sort.grow (redrawn W4 d) os) w' := fun d os => by
    have h := specSameMst #[.slice aY ny pY, .int .i64 bey, .int .i64 dny, .int .i64 try_, .bool pay, .bool bry].toList #[.slice aZ ny pZ, .int .i64 bey, .int .i64 dny, .int .i64 try_, .bool pay, .bool bry].toList qy bey dny try_ pay bry qy bey dny try_ pay bry HSy.out HSy.out _ (mstK.rd_later RY_4.out (below_regrown _ d os)) (mstK.rd_later RZ_4.out (below_regrown _ d os))
    rw [HYZ.out] at h
    exact h
  have WA : ∀ d os, Calls Try.prog 21 #[agg #[.slice aM n pM, .int .i64 be, .int .i64 dn, .int .i64 tr, .bool pa, .bool br].toList] (Sort.grow (redrawn W4 d) os) fun e w' => e = .returned (.bool wa) ∧ Below (Sort.grow (redrawn W4 d) os).heap.size (Sort.grow (redrawn W4 d) os) w' := fun d os => by
    have h := WI #[.slice aM n pM, .int .i64 be, .int .i64 dn, .int .i64 tr, .bool pa, .bool br].toList q be dn tr pa br HS.out _ (mstK.rd_later RM_4.out (below_regrown _ d os))
    rw [HWa.out] at h
    exact h
  have WB : ∀ d os, Calls Try.prog 22 #[agg #[.slice aM n pM, .int .i64 be, .int .i64 dn, .int .i64 tr, .bool pa, .bool br].toList] (Sort.grow (redrawn W4 d) os) fun e w' => e = .returned (.bool wa) ∧ Below (Sort.grow (redrawn W4 d) os).heap.size (Sort.grow (redrawn W4 d) os) w' := fun d os => by
    have h := specWants #[.slice aM n pM, .int .i64 be, .int .i64 dn, .int .i64 tr, .bool pa, .bool br].toList q be dn tr pa br HS.out _ (mstK.rd_later RM_4.out (below_regrown _ d os))
    rw [HWa.out] at h
    exact h
  refine wp_region_quiet_below (by kernel_rfl) (by kernel_rfl) ?_
  repeat (go_big_quiet_step (first
    | (go_at_call 20; exact Calls.regrown_of (SM _ _))
    | (go_at_call 21; exact Calls.regrown_of (WA _ _))
    | (go_at_call 22; exact Calls.regrown_of (WB _ _))))
  refine wpQuiet_nil ?_
  rintro _ ⟨qq, rfl⟩
  have hbb := below_regrown W4 qq.d qq.os
  clear SM WA WB hii hee hww CM0 CM1 CM2 CM3 CM4 CM5 CY0 CY1 CY2 CY3 CY4 CY5 CZ0 CZ1 CZ2 CZ3 CZ4 CZ5
  have BM_5 := Lib.hid (BM_4.out.later hbb)
  have BX_5 := Lib.hid (BX_4.out.later hbb)
  have BT_5 := Lib.hid (BT_4.out.later hbb)
  have BY_5 := Lib.hid (BY_4.out.later hbb)
  have BZ_5 := Lib.hid (BZ_4.out.later hbb)
  have RM_5 := Lib.hid (mstK.rd_later RM_4.out hbb)
  have RX_5 := Lib.hid (mstK.rd_later RX_4.out hbb)
  have RT_5 := Lib.hid (mstK.rd_later RT_4.out hbb)
  have RY_5 := Lib.hid (mstK.rd_later RY_4.out hbb)
  have RZ_5 := Lib.hid (mstK.rd_later RZ_4.out hbb)
  have HB_5 := Lib.hid (HB_4.out.trans (hbb.mono HB_4.out.size))
  clear BM_4 BX_4 BT_4 BY_4 BZ_4 RM_4 RX_4 RT_4 RY_4 RZ_4 HB_4
  clear hbb
  generalize Sort.grow (redrawn W4 qq.d) qq.os = W5 at BM_5 BX_5 BT_5 BY_5 BZ_5 RM_5 RX_5 RT_5 RY_5 RZ_5 HB_5 ⊢
  cases is with
  | false =>
    obtain ⟨cX0, cX1, cX2, cX3, cX4, cX5⟩ := Bx.cells6 BX_5.out
    obtain ⟨cM0, cM1, cM2, cM3, cM4, cM5⟩ := Bx.cells6 BM_5.out
    have hsm : sameMst (qx, bex, dnx, trx, pax, brx) (q, be, dn, tr, pa, br) = true := (sameMst_iff _ _).2 (issue_false HDx.out)
    have HE := Lib.hid hsm
    clear hsm
    go_wp2_with fail
    clear cX0 cX1 cX2 cX3 cX4 cX5
    clear cM0 cM1 cM2 cM3 cM4 cM5
    refine (specSameMst _ _ qx bex dnx trx pax brx q be dn tr pa br HSx.out HS.out _ RX_5.out RM_5.out).mono ?_
    rw [HE.out]
    rintro e W6 ⟨rfl, hbb⟩
    have BM_6 := Lib.hid (BM_5.out.later hbb)
    have BX_6 := Lib.hid (BX_5.out.later hbb)
    have BT_6 := Lib.hid (BT_5.out.later hbb)
    have BY_6 := Lib.hid (BY_5.out.later hbb)
    have BZ_6 := Lib.hid (BZ_5.out.later hbb)
    have RM_6 := Lib.hid (mstK.rd_later RM_5.out hbb)
    have RX_6 := Lib.hid (mstK.rd_later RX_5.out hbb)
    have RT_6 := Lib.hid (mstK.rd_later RT_5.out hbb)
    have RY_6 := Lib.hid (mstK.rd_later RY_5.out hbb)
    have RZ_6 := Lib.hid (mstK.rd_later RZ_5.out hbb)
    have HB_6 := Lib.hid (HB_5.out.trans (hbb.mono HB_5.out.size))
    clear BM_5 BX_5 BT_5 BY_5 BZ_5 RM_5 RX_5 RT_5 RY_5 RZ_5 HB_5
    clear hbb HE
    cases en with
    | false =>
      obtain ⟨cY0, cY1, cY2, cY3, cY4, cY5⟩ := Bx.cells6 BY_6.out
      obtain ⟨cM0, cM1, cM2, cM3, cM4, cM5⟩ := Bx.cells6 BM_6.out
      have hsm : sameMst (qy, bey, dny, try_, pay, bry) (q, be, dn, tr, pa, br) = true := (sameMst_iff _ _).2 (end_false HDy.out)
      have HE := Lib.hid hsm
      clear hsm
      go_wp2_with fail
      clear cY0 cY1 cY2 cY3 cY4 cY5
      clear cM0 cM1 cM2 cM3 cM4 cM5
      refine (specSameMst _ _ qy bey dny try_ pay bry q be dn tr pa br HSy.out HS.out _ RY_6.out RM_6.out).mono ?_
      rw [HE.out]
      rintro e ve ⟨rfl, hbe⟩
      go_wp2_with fail
      go_ret
      exact ⟨rfl, HB_6.out.trans (hbe.mono HB_6.out.size)⟩
    | true =>
      obtain ⟨cY0, cY1, cY2, cY3, cY4, cY5⟩ := Bx.cells6 BY_6.out
      obtain ⟨cM0, cM1, cM2, cM3, cM4, cM5⟩ := Bx.cells6 BM_6.out
      rcases end_true HDy.out with ⟨hl, hd, hd0, hd8⟩ | ⟨hl, hd, hbz⟩
      · rw [HNy.out, HN.out] at hl
        subst hl
        subst hd
        go_wp2_with fail
        go_ret
        exact ⟨by simp, HB_6.out⟩
      · rw [HNy.out, HN.out] at hl
        subst hd
        subst hbz
        have hne : (((ny : Nat) : Int) == ((n : Nat) : Int)) = false := by rw [beq_eq_false_iff_ne]; omega
        have hpr : (((ny : Nat) : Int) == ((n : Nat) : Int) - 1) = true := by rw [beq_iff_eq]; omega
        have hq := mst_len HS.out
        rw [HN.out] at hq
        have hwr : wrap64 (((n : Nat) : Int) - 1) = ((n : Nat) : Int) - 1 := Go.IntWalk.wrap64_in _ (by omega)
        have hnb : -9223372036854775808 ≤ ((n : Nat) : Int) - 1 ∧ ((n : Nat) : Int) - 1 ≤ 9223372036854775807 := by omega
        have hpw : (((ny : Nat) : Int) == wrap64 (((n : Nat) : Int) - 1)) = true := by rw [hwr]; exact hpr
        have hpd : ((ny : Nat) : Int) = wrap64 (((n : Nat) : Int) - 1) := by rw [hwr]; omega
        clear hl hq hwr hnb
        go_wp2_with fail
        all_goals go_ret
        all_goals exact ⟨by simp, HB_6.out⟩
  | true =>
    obtain ⟨hback, haddr⟩ := issue_true HDx.out
    have HBk := Lib.hid hback
    have hlt : decide (addrM q be dn tr pa br be < 0) = false := decide_eq_false (by omega)
    obtain ⟨ad, had⟩ : ∃ x, addrM q be dn tr pa br be = x := ⟨_, rfl⟩
    have HAd := Lib.hid had
    rw [had] at hlt haddr
    clear hback had
    obtain ⟨cX0, cX1, cX2, cX3, cX4, cX5⟩ := Bx.cells6 BX_5.out
    obtain ⟨cM0, cM1, cM2, cM3, cM4, cM5⟩ := Bx.cells6 BM_5.out
    go_wp2_with fail
    clear cX0 cX1 cX2 cX3 cX4 cX5
    clear cM0 cM1 cM2 cM3 cM4 cM5
    refine (BI _ qx bex dnx trx pax brx HSx.out _ RX_5.out).mono ?_
    rw [HBk.out]
    rintro e v6 ⟨us, he, hc, hb⟩
    obtain ⟨aK, pK, rfl, _⟩ := mst_form (mstK.cap_rd hc)
    dsimp only at he hc
    rw [HN.out] at he hc
    obtain rfl : e = .returned (.tuple #[.agg #[.slice aK n pK, .int .i64 be, .int .i64 dn, .int .i64 tr, .bool pa, .bool br], .bool true]) := he
    have bx := (Below.refl v6.heap.size v6).alloc (Nat.le_refl _) (.cells #[.slice aK n pK, .int .i64 be, .int .i64 dn, .int .i64 tr, .bool pa, .bool br] 26)
    have hbb := hb.trans (bx.mono hb.size)
    have X0 := Bx.new 26 #[.slice aK n pK, .int .i64 be, .int .i64 dn, .int .i64 tr, .bool pa, .bool br] v6
    obtain ⟨bK, hbK⟩ : ∃ b, v6.heap.size = b := ⟨_, rfl⟩
    rw [hbK] at X0
    have BM_6 := Lib.hid (BM_5.out.later hbb)
    have BX_6 := Lib.hid (BX_5.out.later hbb)
    have BT_6 := Lib.hid (BT_5.out.later hbb)
    have BY_6 := Lib.hid (BY_5.out.later hbb)
    have BZ_6 := Lib.hid (BZ_5.out.later hbb)
    have RM_6 := Lib.hid (mstK.rd_later RM_5.out hbb)
    have RX_6 := Lib.hid (mstK.rd_later RX_5.out hbb)
    have RT_6 := Lib.hid (mstK.rd_later RT_5.out hbb)
    have RY_6 := Lib.hid (mstK.rd_later RY_5.out hbb)
    have RZ_6 := Lib.hid (mstK.rd_later RZ_5.out hbb)
    have HB_6 := Lib.hid (HB_5.out.trans (hbb.mono HB_5.out.size))
    have BK_6 := Lib.hid (X0)
    have RK_6 := Lib.hid (mstK.rd_later (mstK.cap_rd hc) bx)
    clear BM_5 BX_5 BT_5 BY_5 BZ_5 RM_5 RX_5 RT_5 RY_5 RZ_5 HB_5
    clear hc hb bx hbb X0
    obtain ⟨cK0, cK1, cK2, cK3, cK4, cK5⟩ := Bx.cells6 BK_6.out
    obtain ⟨cM0, cM1, cM2, cM3, cM4, cM5⟩ := Bx.cells6 BM_6.out
    have hsm : sameMst (q, be, dn, tr, pa, br) (q, be, dn, tr, pa, br) = true := (sameMst_iff _ _).2 rfl
    have HE := Lib.hid hsm
    clear hsm
    go_wp2_with fail
    clear cK0 cK1 cK2 cK3 cK4 cK5
    clear cM0 cM1 cM2 cM3 cM4 cM5
    generalize v6.alloc _ = W6 at BM_6 BX_6 BT_6 BY_6 BZ_6 BK_6 RM_6 RX_6 RT_6 RY_6 RZ_6 RK_6 HB_6 ⊢
    refine (specSameMst _ _ q be dn tr pa br q be dn tr pa br HS.out HS.out _ RK_6.out RM_6.out).mono ?_
    rw [HE.out]
    rintro e W7 ⟨rfl, hbb⟩
    have BM_7 := Lib.hid (BM_6.out.later hbb)
    have BX_7 := Lib.hid (BX_6.out.later hbb)
    have BT_7 := Lib.hid (BT_6.out.later hbb)
    have BY_7 := Lib.hid (BY_6.out.later hbb)
    have BZ_7 := Lib.hid (BZ_6.out.later hbb)
    have BK_7 := Lib.hid (BK_6.out.later hbb)
    have RM_7 := Lib.hid (mstK.rd_later RM_6.out hbb)
    have RX_7 := Lib.hid (mstK.rd_later RX_6.out hbb)
    have RT_7 := Lib.hid (mstK.rd_later RT_6.out hbb)
    have RY_7 := Lib.hid (mstK.rd_later RY_6.out hbb)
    have RZ_7 := Lib.hid (mstK.rd_later RZ_6.out hbb)
    have RK_7 := Lib.hid (mstK.rd_later RK_6.out hbb)
    have HB_7 := Lib.hid (HB_6.out.trans (hbb.mono HB_6.out.size))
    clear BM_6 BX_6 BT_6 BY_6 BZ_6 BK_6 RM_6 RX_6 RT_6 RY_6 RZ_6 RK_6 HB_6
    clear hbb HE
    obtain ⟨cM0, cM1, cM2, cM3, cM4, cM5⟩ := Bx.cells6 BM_7.out
    go_wp2_with fail
    clear cM0 cM1 cM2 cM3 cM4 cM5
    refine (AI be _ q be dn tr pa br HS.out _ RM_7.out).mono ?_
    rw [HAd.out]
    rintro e W8 ⟨rfl, hbb⟩
    have BM_8 := Lib.hid (BM_7.out.later hbb)
    have BX_8 := Lib.hid (BX_7.out.later hbb)
    have BT_8 := Lib.hid (BT_7.out.later hbb)
    have BY_8 := Lib.hid (BY_7.out.later hbb)
    have BZ_8 := Lib.hid (BZ_7.out.later hbb)
    have BK_8 := Lib.hid (BK_7.out.later hbb)
    have RM_8 := Lib.hid (mstK.rd_later RM_7.out hbb)
    have RX_8 := Lib.hid (mstK.rd_later RX_7.out hbb)
    have RT_8 := Lib.hid (mstK.rd_later RT_7.out hbb)
    have RY_8 := Lib.hid (mstK.rd_later RY_7.out hbb)
    have RZ_8 := Lib.hid (mstK.rd_later RZ_7.out hbb)
    have RK_8 := Lib.hid (mstK.rd_later RK_7.out hbb)
    have HB_8 := Lib.hid (HB_7.out.trans (hbb.mono HB_7.out.size))
    clear BM_7 BX_7 BT_7 BY_7 BZ_7 BK_7 RM_7 RX_7 RT_7 RY_7 RZ_7 RK_7 HB_7
    clear hbb
    cases en with
    | false =>
      obtain ⟨cY0, cY1, cY2, cY3, cY4, cY5⟩ := Bx.cells6 BY_8.out
      obtain ⟨cM0, cM1, cM2, cM3, cM4, cM5⟩ := Bx.cells6 BM_8.out
      have hsm : sameMst (qy, bey, dny, try_, pay, bry) (q, be, dn, tr, pa, br) = true := (sameMst_iff _ _).2 (end_false HDy.out)
      have HE := Lib.hid hsm
      clear hsm
      go_wp2_with fail
      clear cY0 cY1 cY2 cY3 cY4 cY5
      clear cM0 cM1 cM2 cM3 cM4 cM5
      refine (specSameMst _ _ qy bey dny try_ pay bry q be dn tr pa br HSy.out HS.out _ RY_8.out RM_8.out).mono ?_
      rw [HE.out]
      rintro e ve ⟨rfl, hbe⟩
      go_wp2_with fail
      go_ret
      exact ⟨rfl, HB_8.out.trans (hbe.mono HB_8.out.size)⟩
    | true =>
      obtain ⟨cY0, cY1, cY2, cY3, cY4, cY5⟩ := Bx.cells6 BY_8.out
      obtain ⟨cM0, cM1, cM2, cM3, cM4, cM5⟩ := Bx.cells6 BM_8.out
      rcases end_true HDy.out with ⟨hl, hd, hd0, hd8⟩ | ⟨hl, hd, hbz⟩
      · rw [HNy.out, HN.out] at hl
        subst hl
        subst hd
        go_wp2_with fail
        go_ret
        exact ⟨by simp, HB_8.out⟩
      · rw [HNy.out, HN.out] at hl
        subst hd
        subst hbz
        have hne : (((ny : Nat) : Int) == ((n : Nat) : Int)) = false := by rw [beq_eq_false_iff_ne]; omega
        have hpr : (((ny : Nat) : Int) == ((n : Nat) : Int) - 1) = true := by rw [beq_iff_eq]; omega
        have hq := mst_len HS.out
        rw [HN.out] at hq
        have hwr : wrap64 (((n : Nat) : Int) - 1) = ((n : Nat) : Int) - 1 := Go.IntWalk.wrap64_in _ (by omega)
        have hnb : -9223372036854775808 ≤ ((n : Nat) : Int) - 1 ∧ ((n : Nat) : Int) - 1 ≤ 9223372036854775807 := by omega
        have hpw : (((ny : Nat) : Int) == wrap64 (((n : Nat) : Int) - 1)) = true := by rw [hwr]; exact hpr
        have hpd : ((ny : Nat) : Int) = wrap64 (((n : Nat) : Int) - 1) := by rw [hwr]; omega
        clear hl hq hwr hnb
        go_wp2_with fail
        all_goals go_ret
        all_goals exact ⟨by simp, HB_8.out⟩
end Go.Proofs.Ytijilhaoknpeeaa.KD
