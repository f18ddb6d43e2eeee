/-
  Several texts in one: MstDefs, MstI6, MstI7.
-/
import Derived.Test.YtijilhaoknpeeaaMst7
import Derived.Test.YtijilhaoknpeeaaMst9
import Derived.Test.YtijilhaoknpeeaaMst10
import Derived.Test.YtijilhaoknpeeaaGMst0
import Derived.Test.YtijilhaoknpeeaaGMst1
import Derived.Deep.Cut
namespace Go.Proofs.Ytijilhaoknpeeaa.KD
open Go.RowKit Rows3 GR Num
set_option linter.unusedVariables false

def MstI (f : FuncId) (d : List ReqX → Int → Int → Int → Bool → Bool → MstX × Bool) : Prop := ∀ (cs : List Value) (q : List ReqX) (be dn tr : Int) (pa br : Bool) (hs : mstK.sz (q, be, dn, tr, pa, br) ≤ 2000000) (w : World) (h : mstK.rd cs (q, be, dn, tr, pa, br) w), Calls Try.prog f #[agg cs] w (MstB (d q be dn tr pa br) w)
def WantsI : Prop := ∀ (cs : List Value) (q : List ReqX) (be dn tr : Int) (pa br : Bool) (hs : mstK.sz (q, be, dn, tr, pa, br) ≤ 2000000) (w : World) (h : mstK.rd cs (q, be, dn, tr, pa, br) w), Calls Try.prog 21 #[agg cs] w fun e w' => e = .returned (.bool (wantsM q be dn tr pa br)) ∧ Below w.heap.size w w'
def AddrI : Prop := ∀ (j : Int) (cs : List Value) (q : List ReqX) (be dn tr : Int) (pa br : Bool) (hs : mstK.sz (q, be, dn, tr, pa, br) ≤ 2000000) (w : World) (h : mstK.rd cs (q, be, dn, tr, pa, br) w), Calls Try.prog 24 #[agg cs, .int .i64 j] w fun e w' => e = .returned (.int .i64 (addrM q be dn tr pa br j)) ∧ Below w.heap.size w w'
/-- the program's MstPost answers as its model. -/
def PostI : Prop := ∀ (cs ds : List Value) (q : List ReqX) (be dn tr : Int) (pa br : Bool) (x0 : Bool) (x1 x2 x3 : Int) (x4 : Bool) (x5 : List Int) (hs : mstK.sz (q, be, dn, tr, pa, br) ≤ 2000000) (hq : reqK.sz (x0, x1, x2, x3, x4, x5) ≤ 2000000) (w : World) (h : mstK.rd cs (q, be, dn, tr, pa, br) w) (hx : reqK.rd ds (x0, x1, x2, x3, x4, x5) w),
    Calls Try.prog 26 #[agg cs, agg ds] w (MstB (postM q be dn tr pa br (x0, x1, x2, x3, x4, x5)) w)
end Go.Proofs.Ytijilhaoknpeeaa.KD

namespace Go.Proofs.Ytijilhaoknpeeaa.KD
open Go.RowKit Rows3 GR Num
set_option linter.unusedVariables false

theorem within_isB {x lo hi : Int} {u : Bool} (h : (decide (lo ≤ x) && decide (x ≤ hi)) = u) (w : World) : Calls Try.prog 64 #[.int .i64 x, .int .i64 lo, .int .i64 hi] w fun e w' => e = .returned (.bool u) ∧ Below w.heap.size w w' :=
  (within_is (show inB x lo hi = u from h) w).mono fun e w' ⟨a, b⟩ => ⟨a, by rw [← b]; exact Below.refl _ _⟩
set_option maxHeartbeats 8000000 in
set_option maxRecDepth 100000 in
theorem implAddr (j : Int) (cs : List Value) (q : List ReqX) (be dn tr : Int) (pa br : Bool) (hs : mstK.sz (q, be, dn, tr, pa, br) ≤ 2000000) (w : World) (h : mstK.rd cs (q, be, dn, tr, pa, br) w) :
    Calls Try.prog 24 #[agg cs, .int .i64 j] w fun e w' => e = .returned (.int .i64 (addrM q be dn tr pa br j)) ∧ Below w.heap.size w w' := by
  obtain ⟨a0, p0, rfl, hq⟩ := mst_form h
  obtain ⟨n, hn⟩ : ∃ n, q.length = n := ⟨_, rfl⟩
  rw [hn] at h hq ⊢
  have HS := Lib.hid hs
  have HN := Lib.hid hn
  have HQ := Lib.hid hq
  obtain ⟨b1, hb1⟩ : ∃ b, rightM q be dn tr pa br = b := ⟨_, rfl⟩
  obtain ⟨m, hm⟩ : ∃ m, beats0 q = m := ⟨_, rfl⟩
  have hmb := beats0_bd q
  rw [hm] at hmb
  have B1 := Lib.hid hb1
  have HM := Lib.hid hm
  have hb0 := (Below.refl w.heap.size w).alloc (Nat.le_refl _) (Obj.cells #[.slice a0 n p0, .int .i64 be, .int .i64 dn, .int .i64 tr, .bool pa, .bool br] 26)
  have A0 := Lib.hid (Bx.new 26 #[.slice a0 n p0, .int .i64 be, .int .i64 dn, .int .i64 tr, .bool pa, .bool br] w)
  have H0 := Lib.hid (mstK.rd_later h hb0)
  have HB0 := Lib.hid hb0
  clear h hn hb1 hm hb0 hs hq
  show Calls _ _ #[.agg #[.slice a0 n p0, .int .i64 be, .int .i64 dn, .int .i64 tr, .bool pa, .bool br], .int .i64 j] w _
  go_enter Try.func24, Try.ntmps24
  go_wp2_with fail
  generalize w.alloc (Obj.cells #[.slice a0 n p0, .int .i64 be, .int .i64 dn, .int .i64 tr, .bool pa, .bool br] 26) = y0 at A0 H0 HB0 ⊢
  refine (implRight_is B1.out HS.out _ H0.out).mono ?_
  rintro e y1 ⟨rfl, hb⟩
  have A1 := Lib.hid (A0.out.later hb)
  have H1 := Lib.hid (mstK.rd_later H0.out hb)
  have HB1 := Lib.hid (HB0.out.trans (hb.mono HB0.out.size))
  clear A0 H0 HB0 hb
  obtain ⟨g0, g1, g2, g3, g4, g5⟩ := A1.out.cells6
  cases b1 with
  | false =>
    have HE := Lib.hid (show addrM q be dn tr pa br j = -1 by unfold addrM; rw [B1.out]; simp)
    go_wp2_with fail
    go_ret
    exact ⟨by rw [HE.out]; rfl, HB1.out⟩
  | true =>
    go_wp2_with fail
    refine (first_is HM.out HS.out _ H1.out).mono ?_
    rintro e y2 ⟨rfl, hb⟩
    have A2 := Lib.hid (A1.out.later hb)
    have HB2 := Lib.hid (HB1.out.trans (hb.mono HB1.out.size))
    clear A1 H1 HB1 hb g0 g1 g2 g3 g4 g5
    by_cases hin : 0 ≤ j ∧ j < m
    · go_wp2_with fail
      refine (within_isB (u := true) (by simp; omega) _).mono ?_
      rintro e y3 ⟨rfl, hb⟩
      have A3 := Lib.hid (A2.out.later hb)
      have HB3 := Lib.hid (HB2.out.trans (hb.mono HB2.out.size))
      clear A2 HB2 hb
      obtain ⟨g0, g1, g2, g3, g4, g5⟩ := A3.out.cells6
      cases q with
      | nil => exfalso; have h0 : (0 : Int) = m := HM.out; omega
      | cons r q' =>
        have hn0 : 0 < n := by have := HN.out; simp at this; omega
        have hqq := reqS.rd_later HQ.out HB3.out
        obtain ⟨ad, cp, e, hl, hrow⟩ := hqq
        obtain ⟨rfl, _⟩ : a0 = ad ∧ p0 = cp := by
          have e2 : Value.slice a0 n p0 = .slice ad (r :: q').length cp := by simpa using e
          injection e2 with e3 e4 e5; exact ⟨e3, e5⟩
        obtain ⟨b, o, es, rfl, hlt, hcell, hrd⟩ := hrow 0 r rfl
        obtain ⟨rw_, x1, x2, x3, x4, xl⟩ := r
        obtain ⟨ra, rp, rfl, _⟩ := req_form hrd
        have c0 := hcell 0 _ rfl
        have c1 := hcell 1 _ rfl
        have c2 := hcell 2 _ rfl
        have c3 := hcell 3 _ rfl
        have c4 := hcell 4 _ rfl
        have c5 := hcell 5 _ rfl
        rw [Nat.zero_mul, Nat.add_zero] at c0 c1 c2 c3 c4 c5
        have hok : okQ (rw_, x1, x2, x3, x4, xl) = true := by
          have h1 := right_all B1.out
          rw [List.all_cons, Bool.and_eq_true] at h1
          exact h1.1
        have hbm : beatsW x3 = m := HM.out
        have hlen : ((addrsW x1 x2 x3).length : Int) = m := by rw [← hbm]; exact okQ_addrs hok (show 0 < beatsW x3 by omega)
        obtain ⟨k, rfl⟩ : ∃ k : Nat, j = k := ⟨j.toNat, by omega⟩
        have hk : k < (addrsW x1 x2 x3).length := by omega
        have HE := Lib.hid (show addrM ((rw_, x1, x2, x3, x4, xl) :: q') be dn tr pa br (k : Int) = (addrsW x1 x2 x3).getD k 0 by
          unfold addrM; rw [HM.out, if_pos ⟨B1.out, hin⟩, Int.toNat_natCast])
        have HLE := Lib.hid hlen
        have HK := Lib.hid hk
        clear e hl hrow hcell hrd hok hbm hlen hk hlt
        have hn1 : (0 : Int) ≤ 0 ∧ (0 : Int) < ((n : Nat) : Int) := by omega
        go_wp2_with fail
        refine (implBurst x1 x2 x3 _).mono ?_
        rintro e y4 ⟨v, rfl, hown, hb⟩
        obtain ⟨vd, vc, rfl, hvr⟩ := hown.rd
        obtain ⟨vb, vo, rfl, hvb, hvc⟩ := hvr k HK.out
        have hin3 : (0 : Int) ≤ (k : Int) ∧ (k : Int) < (((addrsW x1 x2 x3).length : Nat) : Int) := by have := HK.out; omega
        have HBA := Lib.hid (hb)
        clear hown hvr
        generalize (addrsW x1 x2 x3).getD k 0 = y at hvc HE
        generalize (addrsW x1 x2 x3).length = ln at hin3 HLE HK ⊢
        go_wp2_with fail
        go_ret
        exact ⟨by rw [HE.out]; rfl, GR.below_alloc1 HB3.out HB3.out.size HBA.out⟩
    · have HE := Lib.hid (show addrM q be dn tr pa br j = -1 by unfold addrM; rw [HM.out, if_neg (by rintro ⟨_, h1, h2⟩; exact hin ⟨h1, h2⟩)])
      go_wp2_with fail
      refine (within_isB (u := false) (by rw [Bool.eq_false_iff]; simp; omega) _).mono ?_
      rintro e y3 ⟨rfl, hb⟩
      have HB3 := Lib.hid (HB2.out.trans (hb.mono HB2.out.size))
      go_wp2_with fail
      go_ret
      exact ⟨by rw [HE.out]; rfl, HB3.out⟩
theorem right_top {q : List ReqX} {be dn tr : Int} {pa br : Bool} (h : rightM q be dn tr pa br = true) : be ≤ dn + 2 := by
  unfold rightM at h
  simp only [Bool.and_eq_true, decide_eq_true_eq] at h
  obtain ⟨_, h1, h2, h3⟩ := h
  split at h3
  · simp only [Bool.and_eq_true, beq_iff_eq] at h3
    obtain ⟨h4, h5, _⟩ := h3
    omega
  · simp only [Bool.and_eq_true, decide_eq_true_eq] at h3
    obtain ⟨h4, h5, h6, h7⟩ := h3
    omega
set_option maxHeartbeats 8000000 in
set_option maxRecDepth 100000 in
theorem implIssue : MstI 16 issueM := by
  intro cs q be dn tr pa br hs w h
  obtain ⟨a0, p0, rfl, _⟩ := mst_form h
  obtain ⟨n, hn⟩ : ∃ n, q.length = n := ⟨_, rfl⟩
  have HN := Lib.hid hn
  rw [hn] at h ⊢
  have HS := Lib.hid hs
  have H := Lib.hid h
  have hsz : ∀ (w : World) o, (w.alloc o).heap.size = w.heap.size + 1 := fun w o => by simp
  have A0 := Lib.hid ((Bx.new 26 #[.slice a0 n p0, .int .i64 be, .int .i64 dn, .int .i64 tr, .bool pa, .bool br] w).alloc (Obj.cells #[.slice none 0 0, .int .i64 0, .int .i64 0, .int .i64 0, .bool false, .bool false] 26))
  have B0 := Bx.new 26 #[.slice none 0 0, .int .i64 0, .int .i64 0, .int .i64 0, .bool false, .bool false] (w.alloc (Obj.cells #[.slice a0 n p0, .int .i64 be, .int .i64 dn, .int .i64 tr, .bool pa, .bool br] 26))
  rw [hsz] at B0
  have X0 := Lib.hid B0
  have HB0 := Lib.hid (((Below.refl w.heap.size w).alloc (Nat.le_refl _) (Obj.cells #[.slice a0 n p0, .int .i64 be, .int .i64 dn, .int .i64 tr, .bool pa, .bool br] 26)).alloc (by simp) (Obj.cells #[.slice none 0 0, .int .i64 0, .int .i64 0, .int .i64 0, .bool false, .bool false] 26))
  obtain ⟨T, hT⟩ : ∃ T, wantsM q be dn tr pa br = T := ⟨_, rfl⟩
  have HT := Lib.hid hT
  obtain ⟨R, hR⟩ : ∃ R, issueM q be dn tr pa br = R := ⟨_, rfl⟩
  have HR := Lib.hid hR
  rw [hR]
  clear B0 hsz h hn hs hT hR
  show Calls _ _ #[.agg #[.slice a0 n p0, .int .i64 be, .int .i64 dn, .int .i64 tr, .bool pa, .bool br]] w _
  go_enter Try.func16, Try.ntmps16
  go_wp2_with fail
  generalize (w.alloc (Obj.cells #[.slice a0 n p0, .int .i64 be, .int .i64 dn, .int .i64 tr, .bool pa, .bool br] 26)).alloc (Obj.cells #[.slice none 0 0, .int .i64 0, .int .i64 0, .int .i64 0, .bool false, .bool false] 26) = y0 at A0 X0 HB0 ⊢
  have hbd : T = true → 0 ≤ dn ∧ dn ≤ 8 ∧ dn ≤ be ∧ be ≤ dn + 2 ∧ be ≤ 10 := fun e => by
    have hr : rightM q be dn tr pa br = true := by unfold wantsM at HT; have := HT.out.trans e; rw [Bool.and_eq_true] at this; exact this.1
    obtain ⟨h1, h2, h3, h4, h5⟩ := right_bd hr
    have h6 := right_top hr
    exact ⟨h1, h2, h3, h6, h4⟩
  have HBd := Lib.hid hbd
  clear hbd
  refine (implWants_is HT.out HS.out _ (mstK.rd_later H.out HB0.out)).mono ?_
  rintro e y1 ⟨rfl, hb⟩
  have A1 := Lib.hid (A0.out.later hb)
  have X1 := Lib.hid (X0.out.later hb)
  have HB1 := Lib.hid (HB0.out.trans (hb.mono HB0.out.size))
  have hX1 : w.heap.size + 1 < y1.heap.size := X1.out.lt
  clear hb A0 X0 HB0
  obtain ⟨g0, g1, g2, g3, g4, g5⟩ := A1.out.cells6
  cases T with
  | false =>
    obtain rfl : R = ((q, be, dn, tr, pa, br), false) := by rw [← HR.out]; unfold issueM; rw [HT.out]; simp
    go_wp2_with fail
    refine (implCopyMst [.slice a0 n p0, .int .i64 be, .int .i64 dn, .int .i64 tr, .bool pa, .bool br] q be dn tr pa br HS.out _ (mstK.rd_later H.out HB1.out)).mono ?_
    rintro e y2 ⟨us, he, hc, hb⟩
    have hby := hb.size
    obtain ⟨a1, p1, F1, e1, hq1, hF1⟩ := cap_mst hc
    rw [HN.out] at e1 hq1
    subst e1
    obtain rfl : e = .returned (.agg #[.slice a1 n p1, .int .i64 be, .int .i64 dn, .int .i64 tr, .bool pa, .bool br]) := he
    have A2 := Lib.hid (A1.out.later hb)
    have X2 := Lib.hid (X1.out.later hb)
    have HB2 := Lib.hid (HB1.out.trans (hb.mono HB1.out.size))
    have HQ2 := Lib.hid (show ∀ y5, Turn (fun k => k = w.heap.size ∨ k = w.heap.size + 1) y2 y5 → reqS.cap (fun k => w.heap.size + 2 ≤ k) [.slice a1 n p1] q y5 from fun y5 ht => reqS.cap_wide (reqS.cap_turn hq1 ht (fun k _ h1 h2 => by have := hF1 k h1; omega)) (fun k _ h1 => by have := hF1 k h1; omega))
    have hT2 := Turn.refl (fun k => k = w.heap.size ∨ k = w.heap.size + 1) y2
    clear g0 g1 g2 g3 g4 g5 hq1 hF1 hc hb A1 X1 HB1
    obtain ⟨g0, g1, g2, g3, g4, g5⟩ := A2.out.cells6
    obtain ⟨z0, z1, z2, z3, z4, z5⟩ := warm6 A2.out
    have A3 := Lib.hid (show Bx 26 w.heap.size #[.slice a1 n p1, .int .i64 be, .int .i64 dn, .int .i64 tr, .bool pa, .bool br] _ from ((((((A2.out.set 0 (.slice a1 n p1)).set 1 (.int .i64 be)).set 2 (.int .i64 dn)).set 3 (.int .i64 tr)).set 4 (.bool pa)).set 5 (.bool br)))
    have X3 := Lib.hid (((((((X2.out.far (p := ⟨w.heap.size, 0, none⟩) (by dsimp only; omega) (.slice a1 n p1)).far (p := ⟨w.heap.size, 1, none⟩) (by dsimp only; omega) (.int .i64 be)).far (p := ⟨w.heap.size, 2, none⟩) (by dsimp only; omega) (.int .i64 dn)).far (p := ⟨w.heap.size, 3, none⟩) (by dsimp only; omega) (.int .i64 tr)).far (p := ⟨w.heap.size, 4, none⟩) (by dsimp only; omega) (.bool pa)).far (p := ⟨w.heap.size, 5, none⟩) (by dsimp only; omega) (.bool br)))
    have HT3 := Lib.hid (((((((hT2.set (p := ⟨w.heap.size, 0, none⟩) (.inl rfl) (.slice a1 n p1)).set (p := ⟨w.heap.size, 1, none⟩) (.inl rfl) (.int .i64 be)).set (p := ⟨w.heap.size, 2, none⟩) (.inl rfl) (.int .i64 dn)).set (p := ⟨w.heap.size, 3, none⟩) (.inl rfl) (.int .i64 tr)).set (p := ⟨w.heap.size, 4, none⟩) (.inl rfl) (.bool pa)).set (p := ⟨w.heap.size, 5, none⟩) (.inl rfl) (.bool br)))
    have HB3 := Lib.hid (HB2.out.trans (HT3.out.below HB2.out.size (fun k hk => by omega)))
    clear hT2 A2 X2 HB2
    go_upto_region 3 with fail
    clear g0 g1 g2 g3 g4 g5 z0 z1 z2 z3 z4 z5
    generalize World.setCell _ _ _ = y3 at A3 X3 HT3 HB3 ⊢
    obtain ⟨g0, g1, g2, g3, g4, g5⟩ := A3.out.cells6
    obtain ⟨k0, k1, k2, k3, k4, k5⟩ := X3.out.cells6
    obtain ⟨z0, z1, z2, z3, z4, z5⟩ := warm6 X3.out
    obtain ⟨e0, e1, e2, e3, e4, e5⟩ := Bx.cells6 (show Bx 26 (w.heap.size + 1) #[.slice a1 n p1, .int .i64 be, .int .i64 dn, .int .i64 tr, .bool pa, .bool br] _ from ((((((X3.out.set 0 (.slice a1 n p1)).set 1 (.int .i64 be)).set 2 (.int .i64 dn)).set 3 (.int .i64 tr)).set 4 (.bool pa)).set 5 (.bool br)))
    go_wp2_with fail
    refine bodyPost_ret (v := .tuple #[.agg #[.slice a1 n p1, .int .i64 be, .int .i64 dn, .int .i64 tr, .bool pa, .bool br], .bool false]) (by simp [results, Try.results16, go_sem, e0, e1, e2, e3, e4, e5]) rfl ⟨_, rfl, mst_cap (Fx0 := fun k => w.heap.size + 2 ≤ k) (HQ2.out _ ?_) (fun k hk => by omega), ?_⟩
    · iterate 6 refine Turn.set (F := (fun k => k = w.heap.size ∨ k = w.heap.size + 1)) ?_ (.inr rfl) _
      exact HT3.out
    · iterate 6 refine Below.setCell ?_ (by dsimp only; omega) _
      exact HB3.out
  | true =>
    obtain ⟨hd0, hd1, hd2, hd3, hd4⟩ := HBd.out rfl
    by_cases hq : be < dn + 2
    · obtain rfl : R = ((q, be + 1, dn, tr, pa, br), true) := by rw [← HR.out]; unfold issueM; rw [HT.out, if_pos ⟨rfl, by omega⟩]
      go_wp2_with fail
      refine (implCopyMst [.slice a0 n p0, .int .i64 be, .int .i64 dn, .int .i64 tr, .bool pa, .bool br] q be dn tr pa br HS.out _ (mstK.rd_later H.out HB1.out)).mono ?_
      rintro e y2 ⟨us, he, hc, hb⟩
      have hby := hb.size
      obtain ⟨a1, p1, F1, e1, hq1, hF1⟩ := cap_mst hc
      rw [HN.out] at e1 hq1
      subst e1
      obtain rfl : e = .returned (.agg #[.slice a1 n p1, .int .i64 be, .int .i64 dn, .int .i64 tr, .bool pa, .bool br]) := he
      have A2 := Lib.hid (A1.out.later hb)
      have X2 := Lib.hid (X1.out.later hb)
      have HB2 := Lib.hid (HB1.out.trans (hb.mono HB1.out.size))
      have HQ2 := Lib.hid (show ∀ y5, Turn (fun k => k = w.heap.size ∨ k = w.heap.size + 1) y2 y5 → reqS.cap (fun k => w.heap.size + 2 ≤ k) [.slice a1 n p1] q y5 from fun y5 ht => reqS.cap_wide (reqS.cap_turn hq1 ht (fun k _ h1 h2 => by have := hF1 k h1; omega)) (fun k _ h1 => by have := hF1 k h1; omega))
      have hT2 := Turn.refl (fun k => k = w.heap.size ∨ k = w.heap.size + 1) y2
      clear g0 g1 g2 g3 g4 g5 hq1 hF1 hc hb A1 X1 HB1
      obtain ⟨g0, g1, g2, g3, g4, g5⟩ := A2.out.cells6
      obtain ⟨z0, z1, z2, z3, z4, z5⟩ := warm6 A2.out
      have A3 := Lib.hid (show Bx 26 w.heap.size #[.slice a1 n p1, .int .i64 be, .int .i64 dn, .int .i64 tr, .bool pa, .bool br] _ from ((((((A2.out.set 0 (.slice a1 n p1)).set 1 (.int .i64 be)).set 2 (.int .i64 dn)).set 3 (.int .i64 tr)).set 4 (.bool pa)).set 5 (.bool br)))
      have X3 := Lib.hid (((((((X2.out.far (p := ⟨w.heap.size, 0, none⟩) (by dsimp only; omega) (.slice a1 n p1)).far (p := ⟨w.heap.size, 1, none⟩) (by dsimp only; omega) (.int .i64 be)).far (p := ⟨w.heap.size, 2, none⟩) (by dsimp only; omega) (.int .i64 dn)).far (p := ⟨w.heap.size, 3, none⟩) (by dsimp only; omega) (.int .i64 tr)).far (p := ⟨w.heap.size, 4, none⟩) (by dsimp only; omega) (.bool pa)).far (p := ⟨w.heap.size, 5, none⟩) (by dsimp only; omega) (.bool br)))
      have HT3 := Lib.hid (((((((hT2.set (p := ⟨w.heap.size, 0, none⟩) (.inl rfl) (.slice a1 n p1)).set (p := ⟨w.heap.size, 1, none⟩) (.inl rfl) (.int .i64 be)).set (p := ⟨w.heap.size, 2, none⟩) (.inl rfl) (.int .i64 dn)).set (p := ⟨w.heap.size, 3, none⟩) (.inl rfl) (.int .i64 tr)).set (p := ⟨w.heap.size, 4, none⟩) (.inl rfl) (.bool pa)).set (p := ⟨w.heap.size, 5, none⟩) (.inl rfl) (.bool br)))
      have HB3 := Lib.hid (HB2.out.trans (HT3.out.below HB2.out.size (fun k hk => by omega)))
      clear hT2 A2 X2 HB2
      go_upto_region 3 with fail
      clear g0 g1 g2 g3 g4 g5 z0 z1 z2 z3 z4 z5
      generalize World.setCell _ _ _ = y3 at A3 X3 HT3 HB3 ⊢
      obtain ⟨g0, g1, g2, g3, g4, g5⟩ := A3.out.cells6
      have zz := A3.out.warm 1
      have A4 := Lib.hid (show Bx 26 w.heap.size #[.slice a1 n p1, .int .i64 (be + 1), .int .i64 dn, .int .i64 tr, .bool pa, .bool br] _ from A3.out.set 1 (.int .i64 (be + 1)))
      have X4 := Lib.hid (X3.out.far (p := ⟨w.heap.size, 1, none⟩) (by dsimp only; omega) (.int .i64 (be + 1)))
      have HT4 := Lib.hid (HT3.out.set (p := ⟨w.heap.size, 1, none⟩) (.inl rfl) (.int .i64 (be + 1)))
      have HB4 := Lib.hid (show Below w.heap.size w (World.setCell y3 ⟨w.heap.size, 1, none⟩ (.int .i64 (be + 1))) from Below.setCell HB3.out (Nat.le_refl _) _)
      clear A3 X3 HT3 HB3
      go_upto_region 5 with fail
      clear g0 g1 g2 g3 g4 g5 zz
      generalize World.setCell _ _ _ = y4 at A4 X4 HT4 HB4 ⊢
      obtain ⟨g0, g1, g2, g3, g4, g5⟩ := A4.out.cells6
      obtain ⟨k0, k1, k2, k3, k4, k5⟩ := X4.out.cells6
      obtain ⟨z0, z1, z2, z3, z4, z5⟩ := warm6 X4.out
      obtain ⟨e0, e1, e2, e3, e4, e5⟩ := Bx.cells6 (show Bx 26 (w.heap.size + 1) #[.slice a1 n p1, .int .i64 (be + 1), .int .i64 dn, .int .i64 tr, .bool pa, .bool br] _ from ((((((X4.out.set 0 (.slice a1 n p1)).set 1 (.int .i64 (be + 1))).set 2 (.int .i64 dn)).set 3 (.int .i64 tr)).set 4 (.bool pa)).set 5 (.bool br)))
      go_wp2_with fail
      refine bodyPost_ret (v := .tuple #[.agg #[.slice a1 n p1, .int .i64 (be + 1), .int .i64 dn, .int .i64 tr, .bool pa, .bool br], .bool true]) (by simp [results, Try.results16, go_sem, e0, e1, e2, e3, e4, e5]) rfl ⟨_, rfl, mst_cap (Fx0 := fun k => w.heap.size + 2 ≤ k) (HQ2.out _ ?_) (fun k hk => by omega), ?_⟩
      · iterate 6 refine Turn.set (F := (fun k => k = w.heap.size ∨ k = w.heap.size + 1)) ?_ (.inr rfl) _
        exact HT4.out
      · iterate 6 refine Below.setCell ?_ (by dsimp only; omega) _
        exact HB4.out
    · obtain rfl : R = ((q, be, dn, tr, pa, br), false) := by rw [← HR.out]; unfold issueM; rw [HT.out, if_neg (by rintro ⟨_, h⟩; omega)]
      have hdq : decide (be < dn + 2) = false := by simp; omega
      go_wp2_with fail
      refine (implCopyMst [.slice a0 n p0, .int .i64 be, .int .i64 dn, .int .i64 tr, .bool pa, .bool br] q be dn tr pa br HS.out _ (mstK.rd_later H.out HB1.out)).mono ?_
      rintro e y2 ⟨us, he, hc, hb⟩
      have hby := hb.size
      obtain ⟨a1, p1, F1, e1, hq1, hF1⟩ := cap_mst hc
      rw [HN.out] at e1 hq1
      subst e1
      obtain rfl : e = .returned (.agg #[.slice a1 n p1, .int .i64 be, .int .i64 dn, .int .i64 tr, .bool pa, .bool br]) := he
      have A2 := Lib.hid (A1.out.later hb)
      have X2 := Lib.hid (X1.out.later hb)
      have HB2 := Lib.hid (HB1.out.trans (hb.mono HB1.out.size))
      have HQ2 := Lib.hid (show ∀ y5, Turn (fun k => k = w.heap.size ∨ k = w.heap.size + 1) y2 y5 → reqS.cap (fun k => w.heap.size + 2 ≤ k) [.slice a1 n p1] q y5 from fun y5 ht => reqS.cap_wide (reqS.cap_turn hq1 ht (fun k _ h1 h2 => by have := hF1 k h1; omega)) (fun k _ h1 => by have := hF1 k h1; omega))
      have hT2 := Turn.refl (fun k => k = w.heap.size ∨ k = w.heap.size + 1) y2
      clear g0 g1 g2 g3 g4 g5 hq1 hF1 hc hb A1 X1 HB1
      obtain ⟨g0, g1, g2, g3, g4, g5⟩ := A2.out.cells6
      obtain ⟨z0, z1, z2, z3, z4, z5⟩ := warm6 A2.out
      have A3 := Lib.hid (show Bx 26 w.heap.size #[.slice a1 n p1, .int .i64 be, .int .i64 dn, .int .i64 tr, .bool pa, .bool br] _ from ((((((A2.out.set 0 (.slice a1 n p1)).set 1 (.int .i64 be)).set 2 (.int .i64 dn)).set 3 (.int .i64 tr)).set 4 (.bool pa)).set 5 (.bool br)))
      have X3 := Lib.hid (((((((X2.out.far (p := ⟨w.heap.size, 0, none⟩) (by dsimp only; omega) (.slice a1 n p1)).far (p := ⟨w.heap.size, 1, none⟩) (by dsimp only; omega) (.int .i64 be)).far (p := ⟨w.heap.size, 2, none⟩) (by dsimp only; omega) (.int .i64 dn)).far (p := ⟨w.heap.size, 3, none⟩) (by dsimp only; omega) (.int .i64 tr)).far (p := ⟨w.heap.size, 4, none⟩) (by dsimp only; omega) (.bool pa)).far (p := ⟨w.heap.size, 5, none⟩) (by dsimp only; omega) (.bool br)))
      have HT3 := Lib.hid (((((((hT2.set (p := ⟨w.heap.size, 0, none⟩) (.inl rfl) (.slice a1 n p1)).set (p := ⟨w.heap.size, 1, none⟩) (.inl rfl) (.int .i64 be)).set (p := ⟨w.heap.size, 2, none⟩) (.inl rfl) (.int .i64 dn)).set (p := ⟨w.heap.size, 3, none⟩) (.inl rfl) (.int .i64 tr)).set (p := ⟨w.heap.size, 4, none⟩) (.inl rfl) (.bool pa)).set (p := ⟨w.heap.size, 5, none⟩) (.inl rfl) (.bool br)))
      have HB3 := Lib.hid (HB2.out.trans (HT3.out.below HB2.out.size (fun k hk => by omega)))
      clear hT2 A2 X2 HB2
      go_upto_region 3 with fail
      clear g0 g1 g2 g3 g4 g5 z0 z1 z2 z3 z4 z5
      generalize World.setCell _ _ _ = y3 at A3 X3 HT3 HB3 ⊢
      obtain ⟨g0, g1, g2, g3, g4, g5⟩ := A3.out.cells6
      obtain ⟨k0, k1, k2, k3, k4, k5⟩ := X3.out.cells6
      obtain ⟨z0, z1, z2, z3, z4, z5⟩ := warm6 X3.out
      obtain ⟨e0, e1, e2, e3, e4, e5⟩ := Bx.cells6 (show Bx 26 (w.heap.size + 1) #[.slice a1 n p1, .int .i64 be, .int .i64 dn, .int .i64 tr, .bool pa, .bool br] _ from ((((((X3.out.set 0 (.slice a1 n p1)).set 1 (.int .i64 be)).set 2 (.int .i64 dn)).set 3 (.int .i64 tr)).set 4 (.bool pa)).set 5 (.bool br)))
      go_wp2_with fail
      refine bodyPost_ret (v := .tuple #[.agg #[.slice a1 n p1, .int .i64 be, .int .i64 dn, .int .i64 tr, .bool pa, .bool br], .bool false]) (by simp [results, Try.results16, go_sem, e0, e1, e2, e3, e4, e5]) rfl ⟨_, rfl, mst_cap (Fx0 := fun k => w.heap.size + 2 ≤ k) (HQ2.out _ ?_) (fun k hk => by omega), ?_⟩
      · iterate 6 refine Turn.set (F := (fun k => k = w.heap.size ∨ k = w.heap.size + 1)) ?_ (.inr rfl) _
        exact HT3.out
      · iterate 6 refine Below.setCell ?_ (by dsimp only; omega) _
        exact HB3.out
set_option maxHeartbeats 8000000 in
set_option maxRecDepth 100000 in
theorem implBack : MstI 23 backM := by
  intro cs q be dn tr pa br hs w h
  obtain ⟨a0, p0, rfl, _⟩ := mst_form h
  obtain ⟨n, hn⟩ : ∃ n, q.length = n := ⟨_, rfl⟩
  have HN := Lib.hid hn
  rw [hn] at h ⊢
  have HS := Lib.hid hs
  have H := Lib.hid h
  have hsz : ∀ (w : World) o, (w.alloc o).heap.size = w.heap.size + 1 := fun w o => by simp
  have A0 := Lib.hid ((Bx.new 26 #[.slice a0 n p0, .int .i64 be, .int .i64 dn, .int .i64 tr, .bool pa, .bool br] w).alloc (Obj.cells #[.slice none 0 0, .int .i64 0, .int .i64 0, .int .i64 0, .bool false, .bool false] 26))
  have B0 := Bx.new 26 #[.slice none 0 0, .int .i64 0, .int .i64 0, .int .i64 0, .bool false, .bool false] (w.alloc (Obj.cells #[.slice a0 n p0, .int .i64 be, .int .i64 dn, .int .i64 tr, .bool pa, .bool br] 26))
  rw [hsz] at B0
  have X0 := Lib.hid B0
  have HB0 := Lib.hid (((Below.refl w.heap.size w).alloc (Nat.le_refl _) (Obj.cells #[.slice a0 n p0, .int .i64 be, .int .i64 dn, .int .i64 tr, .bool pa, .bool br] 26)).alloc (by simp) (Obj.cells #[.slice none 0 0, .int .i64 0, .int .i64 0, .int .i64 0, .bool false, .bool false] 26))
  obtain ⟨T, hT⟩ : ∃ T, grantedM q be dn tr pa br = T := ⟨_, rfl⟩
  have HT := Lib.hid hT
  obtain ⟨R, hR⟩ : ∃ R, backM q be dn tr pa br = R := ⟨_, rfl⟩
  have HR := Lib.hid hR
  rw [hR]
  clear B0 hsz h hn hs hT hR
  show Calls _ _ #[.agg #[.slice a0 n p0, .int .i64 be, .int .i64 dn, .int .i64 tr, .bool pa, .bool br]] w _
  go_enter Try.func23, Try.ntmps23
  go_wp2_with fail
  generalize (w.alloc (Obj.cells #[.slice a0 n p0, .int .i64 be, .int .i64 dn, .int .i64 tr, .bool pa, .bool br] 26)).alloc (Obj.cells #[.slice none 0 0, .int .i64 0, .int .i64 0, .int .i64 0, .bool false, .bool false] 26) = y0 at A0 X0 HB0 ⊢
  refine (granted_is HT.out HS.out _ (mstK.rd_later H.out HB0.out)).mono ?_
  rintro e y1 ⟨rfl, hb⟩
  have A1 := Lib.hid (A0.out.later hb)
  have X1 := Lib.hid (X0.out.later hb)
  have HB1 := Lib.hid (HB0.out.trans (hb.mono HB0.out.size))
  have hX1 : w.heap.size + 1 < y1.heap.size := X1.out.lt
  clear hb A0 X0 HB0
  obtain ⟨g0, g1, g2, g3, g4, g5⟩ := A1.out.cells6
  cases T with
  | false =>
    obtain rfl : R = ((q, be, dn, tr, pa, br), false) := by
      rw [← HR.out]; unfold backM; rw [if_neg]
      rintro ⟨hr, hne⟩
      have := right_bd hr
      have hg := HT.out
      unfold grantedM at hg
      rw [hr] at hg
      simp at hg
      omega
    go_wp2_with fail
    refine (implCopyMst [.slice a0 n p0, .int .i64 be, .int .i64 dn, .int .i64 tr, .bool pa, .bool br] q be dn tr pa br HS.out _ (mstK.rd_later H.out HB1.out)).mono ?_
    rintro e y2 ⟨us, he, hc, hb⟩
    have hby := hb.size
    obtain ⟨a1, p1, F1, e1, hq1, hF1⟩ := cap_mst hc
    rw [HN.out] at e1 hq1
    subst e1
    obtain rfl : e = .returned (.agg #[.slice a1 n p1, .int .i64 be, .int .i64 dn, .int .i64 tr, .bool pa, .bool br]) := he
    have A2 := Lib.hid (A1.out.later hb)
    have X2 := Lib.hid (X1.out.later hb)
    have HB2 := Lib.hid (HB1.out.trans (hb.mono HB1.out.size))
    have HQ2 := Lib.hid (show ∀ y5, Turn (fun k => k = w.heap.size ∨ k = w.heap.size + 1) y2 y5 → reqS.cap (fun k => w.heap.size + 2 ≤ k) [.slice a1 n p1] q y5 from fun y5 ht => reqS.cap_wide (reqS.cap_turn hq1 ht (fun k _ h1 h2 => by have := hF1 k h1; omega)) (fun k _ h1 => by have := hF1 k h1; omega))
    have hT2 := Turn.refl (fun k => k = w.heap.size ∨ k = w.heap.size + 1) y2
    clear g0 g1 g2 g3 g4 g5 hq1 hF1 hc hb A1 X1 HB1
    obtain ⟨g0, g1, g2, g3, g4, g5⟩ := A2.out.cells6
    obtain ⟨z0, z1, z2, z3, z4, z5⟩ := warm6 A2.out
    have A3 := Lib.hid (show Bx 26 w.heap.size #[.slice a1 n p1, .int .i64 be, .int .i64 dn, .int .i64 tr, .bool pa, .bool br] _ from ((((((A2.out.set 0 (.slice a1 n p1)).set 1 (.int .i64 be)).set 2 (.int .i64 dn)).set 3 (.int .i64 tr)).set 4 (.bool pa)).set 5 (.bool br)))
    have X3 := Lib.hid (((((((X2.out.far (p := ⟨w.heap.size, 0, none⟩) (by dsimp only; omega) (.slice a1 n p1)).far (p := ⟨w.heap.size, 1, none⟩) (by dsimp only; omega) (.int .i64 be)).far (p := ⟨w.heap.size, 2, none⟩) (by dsimp only; omega) (.int .i64 dn)).far (p := ⟨w.heap.size, 3, none⟩) (by dsimp only; omega) (.int .i64 tr)).far (p := ⟨w.heap.size, 4, none⟩) (by dsimp only; omega) (.bool pa)).far (p := ⟨w.heap.size, 5, none⟩) (by dsimp only; omega) (.bool br)))
    have HT3 := Lib.hid (((((((hT2.set (p := ⟨w.heap.size, 0, none⟩) (.inl rfl) (.slice a1 n p1)).set (p := ⟨w.heap.size, 1, none⟩) (.inl rfl) (.int .i64 be)).set (p := ⟨w.heap.size, 2, none⟩) (.inl rfl) (.int .i64 dn)).set (p := ⟨w.heap.size, 3, none⟩) (.inl rfl) (.int .i64 tr)).set (p := ⟨w.heap.size, 4, none⟩) (.inl rfl) (.bool pa)).set (p := ⟨w.heap.size, 5, none⟩) (.inl rfl) (.bool br)))
    have HB3 := Lib.hid (HB2.out.trans (HT3.out.below HB2.out.size (fun k hk => by omega)))
    clear hT2 A2 X2 HB2
    go_upto_region 3 with fail
    clear g0 g1 g2 g3 g4 g5 z0 z1 z2 z3 z4 z5
    generalize World.setCell _ _ _ = y3 at A3 X3 HT3 HB3 ⊢
    obtain ⟨g0, g1, g2, g3, g4, g5⟩ := A3.out.cells6
    obtain ⟨k0, k1, k2, k3, k4, k5⟩ := X3.out.cells6
    obtain ⟨z0, z1, z2, z3, z4, z5⟩ := warm6 X3.out
    obtain ⟨e0, e1, e2, e3, e4, e5⟩ := Bx.cells6 (show Bx 26 (w.heap.size + 1) #[.slice a1 n p1, .int .i64 be, .int .i64 dn, .int .i64 tr, .bool pa, .bool br] _ from ((((((X3.out.set 0 (.slice a1 n p1)).set 1 (.int .i64 be)).set 2 (.int .i64 dn)).set 3 (.int .i64 tr)).set 4 (.bool pa)).set 5 (.bool br)))
    go_wp2_with fail
    refine bodyPost_ret (v := .tuple #[.agg #[.slice a1 n p1, .int .i64 be, .int .i64 dn, .int .i64 tr, .bool pa, .bool br], .bool false]) (by simp [results, Try.results23, go_sem, e0, e1, e2, e3, e4, e5]) rfl ⟨_, rfl, mst_cap (Fx0 := fun k => w.heap.size + 2 ≤ k) (HQ2.out _ ?_) (fun k hk => by omega), ?_⟩
    · iterate 6 refine Turn.set (F := (fun k => k = w.heap.size ∨ k = w.heap.size + 1)) ?_ (.inr rfl) _
      exact HT3.out
    · iterate 6 refine Below.setCell ?_ (by dsimp only; omega) _
      exact HB3.out
  | true =>
    obtain ⟨hd0, hd1, hd2⟩ : rightM q be dn tr pa br = true ∧ dn < be ∧ (0 ≤ dn ∧ be ≤ 10) := by
      have hg := HT.out
      unfold grantedM at hg
      rw [Bool.and_eq_true, decide_eq_true_eq] at hg
      have := right_bd hg.1
      exact ⟨hg.1, hg.2, this.1, this.2.2.2.1⟩
    obtain rfl : R = ((q, be - 1, dn, tr, pa, br), true) := by rw [← HR.out]; unfold backM; rw [if_pos ⟨hd0, by omega⟩]
    clear hd0
    go_wp2_with fail
    refine (implCopyMst [.slice a0 n p0, .int .i64 be, .int .i64 dn, .int .i64 tr, .bool pa, .bool br] q be dn tr pa br HS.out _ (mstK.rd_later H.out HB1.out)).mono ?_
    rintro e y2 ⟨us, he, hc, hb⟩
    have hby := hb.size
    obtain ⟨a1, p1, F1, e1, hq1, hF1⟩ := cap_mst hc
    rw [HN.out] at e1 hq1
    subst e1
    obtain rfl : e = .returned (.agg #[.slice a1 n p1, .int .i64 be, .int .i64 dn, .int .i64 tr, .bool pa, .bool br]) := he
    have A2 := Lib.hid (A1.out.later hb)
    have X2 := Lib.hid (X1.out.later hb)
    have HB2 := Lib.hid (HB1.out.trans (hb.mono HB1.out.size))
    have HQ2 := Lib.hid (show ∀ y5, Turn (fun k => k = w.heap.size ∨ k = w.heap.size + 1) y2 y5 → reqS.cap (fun k => w.heap.size + 2 ≤ k) [.slice a1 n p1] q y5 from fun y5 ht => reqS.cap_wide (reqS.cap_turn hq1 ht (fun k _ h1 h2 => by have := hF1 k h1; omega)) (fun k _ h1 => by have := hF1 k h1; omega))
    have hT2 := Turn.refl (fun k => k = w.heap.size ∨ k = w.heap.size + 1) y2
    clear g0 g1 g2 g3 g4 g5 hq1 hF1 hc hb A1 X1 HB1
    obtain ⟨g0, g1, g2, g3, g4, g5⟩ := A2.out.cells6
    obtain ⟨z0, z1, z2, z3, z4, z5⟩ := warm6 A2.out
    have A3 := Lib.hid (show Bx 26 w.heap.size #[.slice a1 n p1, .int .i64 be, .int .i64 dn, .int .i64 tr, .bool pa, .bool br] _ from ((((((A2.out.set 0 (.slice a1 n p1)).set 1 (.int .i64 be)).set 2 (.int .i64 dn)).set 3 (.int .i64 tr)).set 4 (.bool pa)).set 5 (.bool br)))
    have X3 := Lib.hid (((((((X2.out.far (p := ⟨w.heap.size, 0, none⟩) (by dsimp only; omega) (.slice a1 n p1)).far (p := ⟨w.heap.size, 1, none⟩) (by dsimp only; omega) (.int .i64 be)).far (p := ⟨w.heap.size, 2, none⟩) (by dsimp only; omega) (.int .i64 dn)).far (p := ⟨w.heap.size, 3, none⟩) (by dsimp only; omega) (.int .i64 tr)).far (p := ⟨w.heap.size, 4, none⟩) (by dsimp only; omega) (.bool pa)).far (p := ⟨w.heap.size, 5, none⟩) (by dsimp only; omega) (.bool br)))
    have HT3 := Lib.hid (((((((hT2.set (p := ⟨w.heap.size, 0, none⟩) (.inl rfl) (.slice a1 n p1)).set (p := ⟨w.heap.size, 1, none⟩) (.inl rfl) (.int .i64 be)).set (p := ⟨w.heap.size, 2, none⟩) (.inl rfl) (.int .i64 dn)).set (p := ⟨w.heap.size, 3, none⟩) (.inl rfl) (.int .i64 tr)).set (p := ⟨w.heap.size, 4, none⟩) (.inl rfl) (.bool pa)).set (p := ⟨w.heap.size, 5, none⟩) (.inl rfl) (.bool br)))
    have HB3 := Lib.hid (HB2.out.trans (HT3.out.below HB2.out.size (fun k hk => by omega)))
    clear hT2 A2 X2 HB2
    go_upto_region 3 with fail
    clear g0 g1 g2 g3 g4 g5 z0 z1 z2 z3 z4 z5
    generalize World.setCell _ _ _ = y3 at A3 X3 HT3 HB3 ⊢
    obtain ⟨g0, g1, g2, g3, g4, g5⟩ := A3.out.cells6
    have zz := A3.out.warm 1
    have A4 := Lib.hid (show Bx 26 w.heap.size #[.slice a1 n p1, .int .i64 (be - 1), .int .i64 dn, .int .i64 tr, .bool pa, .bool br] _ from A3.out.set 1 (.int .i64 (be - 1)))
    have X4 := Lib.hid (X3.out.far (p := ⟨w.heap.size, 1, none⟩) (by dsimp only; omega) (.int .i64 (be - 1)))
    have HT4 := Lib.hid (HT3.out.set (p := ⟨w.heap.size, 1, none⟩) (.inl rfl) (.int .i64 (be - 1)))
    have HB4 := Lib.hid (show Below w.heap.size w (World.setCell y3 ⟨w.heap.size, 1, none⟩ (.int .i64 (be - 1))) from Below.setCell HB3.out (Nat.le_refl _) _)
    clear A3 X3 HT3 HB3
    go_upto_region 5 with fail
    clear g0 g1 g2 g3 g4 g5 zz
    generalize World.setCell _ _ _ = y4 at A4 X4 HT4 HB4 ⊢
    obtain ⟨g0, g1, g2, g3, g4, g5⟩ := A4.out.cells6
    obtain ⟨k0, k1, k2, k3, k4, k5⟩ := X4.out.cells6
    obtain ⟨z0, z1, z2, z3, z4, z5⟩ := warm6 X4.out
    obtain ⟨e0, e1, e2, e3, e4, e5⟩ := Bx.cells6 (show Bx 26 (w.heap.size + 1) #[.slice a1 n p1, .int .i64 (be - 1), .int .i64 dn, .int .i64 tr, .bool pa, .bool br] _ from ((((((X4.out.set 0 (.slice a1 n p1)).set 1 (.int .i64 (be - 1))).set 2 (.int .i64 dn)).set 3 (.int .i64 tr)).set 4 (.bool pa)).set 5 (.bool br)))
    go_wp2_with fail
    refine bodyPost_ret (v := .tuple #[.agg #[.slice a1 n p1, .int .i64 (be - 1), .int .i64 dn, .int .i64 tr, .bool pa, .bool br], .bool true]) (by simp [results, Try.results23, go_sem, e0, e1, e2, e3, e4, e5]) rfl ⟨_, rfl, mst_cap (Fx0 := fun k => w.heap.size + 2 ≤ k) (HQ2.out _ ?_) (fun k hk => by omega), ?_⟩
    · iterate 6 refine Turn.set (F := (fun k => k = w.heap.size ∨ k = w.heap.size + 1)) ?_ (.inr rfl) _
      exact HT4.out
    · iterate 6 refine Below.setCell ?_ (by dsimp only; omega) _
      exact HB4.out
end Go.Proofs.Ytijilhaoknpeeaa.KD

namespace Go.Proofs.Ytijilhaoknpeeaa.KD
open Go.RowKit Rows3 GR Num
set_option linter.unusedVariables false

set_option maxHeartbeats 8000000 in
set_option maxRecDepth 100000 in
theorem implEnd : MstI 18 endM := by
  intro cs q be dn tr pa br hs w h
  obtain ⟨a0, p0, rfl, _⟩ := mst_form h
  obtain ⟨n, hn⟩ : ∃ n, q.length = n := ⟨_, rfl⟩
  have HN := Lib.hid hn
  rw [hn] at h ⊢
  have HS := Lib.hid hs
  have H := Lib.hid h
  have hsz : ∀ (w : World) o, (w.alloc o).heap.size = w.heap.size + 1 := fun w o => by simp
  have A0 := Lib.hid ((Bx.new 26 #[.slice a0 n p0, .int .i64 be, .int .i64 dn, .int .i64 tr, .bool pa, .bool br] w).alloc (Obj.cells #[.slice none 0 0, .int .i64 0, .int .i64 0, .int .i64 0, .bool false, .bool false] 26))
  have B0 := Bx.new 26 #[.slice none 0 0, .int .i64 0, .int .i64 0, .int .i64 0, .bool false, .bool false] (w.alloc (Obj.cells #[.slice a0 n p0, .int .i64 be, .int .i64 dn, .int .i64 tr, .bool pa, .bool br] 26))
  rw [hsz] at B0
  have X0 := Lib.hid B0
  have HB0 := Lib.hid (((Below.refl w.heap.size w).alloc (Nat.le_refl _) (Obj.cells #[.slice a0 n p0, .int .i64 be, .int .i64 dn, .int .i64 tr, .bool pa, .bool br] 26)).alloc (by simp) (Obj.cells #[.slice none 0 0, .int .i64 0, .int .i64 0, .int .i64 0, .bool false, .bool false] 26))
  obtain ⟨T, hT⟩ : ∃ T, grantedM q be dn tr pa br = T := ⟨_, rfl⟩
  have HT := Lib.hid hT
  obtain ⟨R, hR⟩ : ∃ R, endM q be dn tr pa br = R := ⟨_, rfl⟩
  have HR := Lib.hid hR
  rw [hR]
  clear B0 hsz h hn hs hT hR
  show Calls _ _ #[.agg #[.slice a0 n p0, .int .i64 be, .int .i64 dn, .int .i64 tr, .bool pa, .bool br]] w _
  go_enter Try.func18, Try.ntmps18
  go_wp2_with fail
  generalize (w.alloc (Obj.cells #[.slice a0 n p0, .int .i64 be, .int .i64 dn, .int .i64 tr, .bool pa, .bool br] 26)).alloc (Obj.cells #[.slice none 0 0, .int .i64 0, .int .i64 0, .int .i64 0, .bool false, .bool false] 26) = y0 at A0 X0 HB0 ⊢
  obtain ⟨m, hm⟩ : ∃ m, beats0 q = m := ⟨_, rfl⟩
  have HM := Lib.hid hm
  clear hm
  refine (granted_is HT.out HS.out _ (mstK.rd_later H.out HB0.out)).mono ?_
  rintro e y1 ⟨rfl, hb⟩
  have A1 := Lib.hid (A0.out.later hb)
  have X1 := Lib.hid (X0.out.later hb)
  have HB1 := Lib.hid (HB0.out.trans (hb.mono HB0.out.size))
  have hX1 : w.heap.size + 1 < y1.heap.size := X1.out.lt
  clear hb A0 X0 HB0
  obtain ⟨g0, g1, g2, g3, g4, g5⟩ := A1.out.cells6
  cases T with
  | false =>
    obtain rfl : R = ((q, be, dn, tr, pa, br), false) := by
      rw [← HR.out]; unfold endM; rw [if_neg]
      rintro ⟨hr, hne⟩
      have := right_bd hr
      have hg := HT.out
      unfold grantedM at hg
      rw [hr] at hg
      simp at hg
      omega
    go_wp2_with fail
    refine (implCopyMst [.slice a0 n p0, .int .i64 be, .int .i64 dn, .int .i64 tr, .bool pa, .bool br] q be dn tr pa br HS.out _ (mstK.rd_later H.out HB1.out)).mono ?_
    rintro e y2 ⟨us, he, hc, hb⟩
    have hby := hb.size
    obtain ⟨a1, p1, F1, e1, hq1, hF1⟩ := cap_mst hc
    rw [HN.out] at e1 hq1
    subst e1
    obtain rfl : e = .returned (.agg #[.slice a1 n p1, .int .i64 be, .int .i64 dn, .int .i64 tr, .bool pa, .bool br]) := he
    have A2 := Lib.hid (A1.out.later hb)
    have X2 := Lib.hid (X1.out.later hb)
    have HB2 := Lib.hid (HB1.out.trans (hb.mono HB1.out.size))
    have HQ2 := Lib.hid (show ∀ y5, Turn (fun k => k = w.heap.size ∨ k = w.heap.size + 1) y2 y5 → reqS.cap (fun k => w.heap.size + 2 ≤ k) [.slice a1 n p1] q y5 from fun y5 ht => reqS.cap_wide (reqS.cap_turn hq1 ht (fun k _ h1 h2 => by have := hF1 k h1; omega)) (fun k _ h1 => by have := hF1 k h1; omega))
    have hT2 := Turn.refl (fun k => k = w.heap.size ∨ k = w.heap.size + 1) y2
    clear g0 g1 g2 g3 g4 g5 hq1 hF1 hc hb A1 X1 HB1
    obtain ⟨g0, g1, g2, g3, g4, g5⟩ := A2.out.cells6
    obtain ⟨z0, z1, z2, z3, z4, z5⟩ := warm6 A2.out
    have A3 := Lib.hid (show Bx 26 w.heap.size #[.slice a1 n p1, .int .i64 be, .int .i64 dn, .int .i64 tr, .bool pa, .bool br] _ from ((((((A2.out.set 0 (.slice a1 n p1)).set 1 (.int .i64 be)).set 2 (.int .i64 dn)).set 3 (.int .i64 tr)).set 4 (.bool pa)).set 5 (.bool br)))
    have X3 := Lib.hid (((((((X2.out.far (p := ⟨w.heap.size, 0, none⟩) (by dsimp only; omega) (.slice a1 n p1)).far (p := ⟨w.heap.size, 1, none⟩) (by dsimp only; omega) (.int .i64 be)).far (p := ⟨w.heap.size, 2, none⟩) (by dsimp only; omega) (.int .i64 dn)).far (p := ⟨w.heap.size, 3, none⟩) (by dsimp only; omega) (.int .i64 tr)).far (p := ⟨w.heap.size, 4, none⟩) (by dsimp only; omega) (.bool pa)).far (p := ⟨w.heap.size, 5, none⟩) (by dsimp only; omega) (.bool br)))
    have HT3 := Lib.hid (((((((hT2.set (p := ⟨w.heap.size, 0, none⟩) (.inl rfl) (.slice a1 n p1)).set (p := ⟨w.heap.size, 1, none⟩) (.inl rfl) (.int .i64 be)).set (p := ⟨w.heap.size, 2, none⟩) (.inl rfl) (.int .i64 dn)).set (p := ⟨w.heap.size, 3, none⟩) (.inl rfl) (.int .i64 tr)).set (p := ⟨w.heap.size, 4, none⟩) (.inl rfl) (.bool pa)).set (p := ⟨w.heap.size, 5, none⟩) (.inl rfl) (.bool br)))
    have HB3 := Lib.hid (HB2.out.trans (HT3.out.below HB2.out.size (fun k hk => by omega)))
    clear hT2 A2 X2 HB2
    go_upto_region 3 with fail
    clear g0 g1 g2 g3 g4 g5 z0 z1 z2 z3 z4 z5
    generalize World.setCell _ _ _ = y3 at A3 X3 HT3 HB3 ⊢
    obtain ⟨g0, g1, g2, g3, g4, g5⟩ := A3.out.cells6
    obtain ⟨k0, k1, k2, k3, k4, k5⟩ := X3.out.cells6
    obtain ⟨z0, z1, z2, z3, z4, z5⟩ := warm6 X3.out
    go_wp2_with fail
    obtain ⟨e0, e1, e2, e3, e4, e5⟩ := Bx.cells6 (show Bx 26 (w.heap.size + 1) #[.slice a1 n p1, .int .i64 be, .int .i64 dn, .int .i64 tr, .bool pa, .bool br] _ from ((((((X3.out.set 0 (.slice a1 n p1)).set 1 (.int .i64 be)).set 2 (.int .i64 dn)).set 3 (.int .i64 tr)).set 4 (.bool pa)).set 5 (.bool br)))
    refine bodyPost_ret (v := .tuple #[.agg #[.slice a1 n p1, .int .i64 be, .int .i64 dn, .int .i64 tr, .bool pa, .bool br], .bool false]) (by simp [results, Try.results18, go_sem, e0, e1, e2, e3, e4, e5]) rfl ⟨_, rfl, mst_cap (Fx0 := fun k => w.heap.size + 2 ≤ k) (HQ2.out _ ?_) (fun k hk => by omega), ?_⟩
    · iterate 6 refine Turn.set (F := (fun k => k = w.heap.size ∨ k = w.heap.size + 1)) ?_ (.inr rfl) _
      exact HT3.out
    · iterate 6 refine Below.setCell ?_ (by dsimp only; omega) _
      exact HB3.out
  | true =>
    obtain ⟨hd0, hd1, hd2, hdq⟩ : rightM q be dn tr pa br = true ∧ be ≠ dn ∧ (0 ≤ dn ∧ dn ≤ 8) ∧ q ≠ [] := by
      have hg := HT.out
      unfold grantedM at hg
      rw [Bool.and_eq_true, decide_eq_true_eq] at hg
      have := right_bd hg.1
      refine ⟨hg.1, by omega, by omega, ?_⟩
      rintro rfl
      have h7 := this.2.2.2.2.2.2.1 rfl
      omega
    have HDQ := Lib.hid hdq
    have hE : R = if dn + 1 = m then ((q.tail, 0, 0, 0, false, false), true) else ((q, be, dn + 1, 0, false, br), true) := by rw [← HR.out]; unfold endM; rw [if_pos ⟨hd0, hd1⟩, HM.out]
    have HE := Lib.hid hE
    clear hd0 hd1 hdq hE
    go_wp2_with fail
    refine (implCopyMst [.slice a0 n p0, .int .i64 be, .int .i64 dn, .int .i64 tr, .bool pa, .bool br] q be dn tr pa br HS.out _ (mstK.rd_later H.out HB1.out)).mono ?_
    rintro e y2 ⟨us, he, hc, hb⟩
    have hby := hb.size
    obtain ⟨a1, p1, F1, e1, hq1, hF1⟩ := cap_mst hc
    rw [HN.out] at e1 hq1
    subst e1
    obtain rfl : e = .returned (.agg #[.slice a1 n p1, .int .i64 be, .int .i64 dn, .int .i64 tr, .bool pa, .bool br]) := he
    have A2 := Lib.hid (A1.out.later hb)
    have X2 := Lib.hid (X1.out.later hb)
    have HB2 := Lib.hid (HB1.out.trans (hb.mono HB1.out.size))
    have HQ2 := Lib.hid (show ∀ y5, Turn (fun k => k = w.heap.size ∨ k = w.heap.size + 1) y2 y5 → reqS.cap (fun k => w.heap.size + 2 ≤ k) [.slice a1 n p1] q y5 from fun y5 ht => reqS.cap_wide (reqS.cap_turn hq1 ht (fun k _ h1 h2 => by have := hF1 k h1; omega)) (fun k _ h1 => by have := hF1 k h1; omega))
    have hT2 := Turn.refl (fun k => k = w.heap.size ∨ k = w.heap.size + 1) y2
    clear g0 g1 g2 g3 g4 g5 hq1 hF1 hc hb A1 X1 HB1
    obtain ⟨g0, g1, g2, g3, g4, g5⟩ := A2.out.cells6
    obtain ⟨z0, z1, z2, z3, z4, z5⟩ := warm6 A2.out
    have A3 := Lib.hid (show Bx 26 w.heap.size #[.slice a1 n p1, .int .i64 be, .int .i64 dn, .int .i64 tr, .bool pa, .bool br] _ from ((((((A2.out.set 0 (.slice a1 n p1)).set 1 (.int .i64 be)).set 2 (.int .i64 dn)).set 3 (.int .i64 tr)).set 4 (.bool pa)).set 5 (.bool br)))
    have X3 := Lib.hid (((((((X2.out.far (p := ⟨w.heap.size, 0, none⟩) (by dsimp only; omega) (.slice a1 n p1)).far (p := ⟨w.heap.size, 1, none⟩) (by dsimp only; omega) (.int .i64 be)).far (p := ⟨w.heap.size, 2, none⟩) (by dsimp only; omega) (.int .i64 dn)).far (p := ⟨w.heap.size, 3, none⟩) (by dsimp only; omega) (.int .i64 tr)).far (p := ⟨w.heap.size, 4, none⟩) (by dsimp only; omega) (.bool pa)).far (p := ⟨w.heap.size, 5, none⟩) (by dsimp only; omega) (.bool br)))
    have HT3 := Lib.hid (((((((hT2.set (p := ⟨w.heap.size, 0, none⟩) (.inl rfl) (.slice a1 n p1)).set (p := ⟨w.heap.size, 1, none⟩) (.inl rfl) (.int .i64 be)).set (p := ⟨w.heap.size, 2, none⟩) (.inl rfl) (.int .i64 dn)).set (p := ⟨w.heap.size, 3, none⟩) (.inl rfl) (.int .i64 tr)).set (p := ⟨w.heap.size, 4, none⟩) (.inl rfl) (.bool pa)).set (p := ⟨w.heap.size, 5, none⟩) (.inl rfl) (.bool br)))
    have HB3 := Lib.hid (HB2.out.trans (HT3.out.below HB2.out.size (fun k hk => by omega)))
    clear hT2 A2 X2 HB2
    go_upto_region 3 with fail
    clear g0 g1 g2 g3 g4 g5 z0 z1 z2 z3 z4 z5
    generalize World.setCell _ _ _ = y3 at A3 X3 HT3 HB3 ⊢
    obtain ⟨g0, g1, g2, g3, g4, g5⟩ := A3.out.cells6
    have zz := A3.out.warm 2
    have A4 := Lib.hid (show Bx 26 w.heap.size #[.slice a1 n p1, .int .i64 be, .int .i64 (dn + 1), .int .i64 tr, .bool pa, .bool br] _ from A3.out.set 2 (.int .i64 (dn + 1)))
    have X4 := Lib.hid (X3.out.far (p := ⟨w.heap.size, 2, none⟩) (by dsimp only; omega) (.int .i64 (dn + 1)))
    have HT4 := Lib.hid (HT3.out.set (p := ⟨w.heap.size, 2, none⟩) (.inl rfl) (.int .i64 (dn + 1)))
    have HB4 := Lib.hid (show Below w.heap.size w (World.setCell y3 ⟨w.heap.size, 2, none⟩ (.int .i64 (dn + 1))) from Below.setCell HB3.out (Nat.le_refl _) _)
    clear A3 X3 HT3 HB3
    go_upto_region 6 with fail
    clear g0 g1 g2 g3 g4 g5 zz
    generalize World.setCell _ _ _ = y4 at A4 X4 HT4 HB4 ⊢
    obtain ⟨g0, g1, g2, g3, g4, g5⟩ := A4.out.cells6
    have zz := A4.out.warm 3
    have A5 := Lib.hid (show Bx 26 w.heap.size #[.slice a1 n p1, .int .i64 be, .int .i64 (dn + 1), .int .i64 0, .bool pa, .bool br] _ from A4.out.set 3 (.int .i64 0))
    have X5 := Lib.hid (X4.out.far (p := ⟨w.heap.size, 3, none⟩) (by dsimp only; omega) (.int .i64 0))
    have HT5 := Lib.hid (HT4.out.set (p := ⟨w.heap.size, 3, none⟩) (.inl rfl) (.int .i64 0))
    have HB5 := Lib.hid (show Below w.heap.size w (World.setCell y4 ⟨w.heap.size, 3, none⟩ (.int .i64 0)) from Below.setCell HB4.out (Nat.le_refl _) _)
    clear A4 X4 HT4 HB4
    go_upto_region 7 with fail
    clear g0 g1 g2 g3 g4 g5 zz
    generalize World.setCell _ _ _ = y5 at A5 X5 HT5 HB5 ⊢
    obtain ⟨g0, g1, g2, g3, g4, g5⟩ := A5.out.cells6
    have zz := A5.out.warm 4
    have A6 := Lib.hid (show Bx 26 w.heap.size #[.slice a1 n p1, .int .i64 be, .int .i64 (dn + 1), .int .i64 0, .bool false, .bool br] _ from A5.out.set 4 (.bool false))
    have X6 := Lib.hid (X5.out.far (p := ⟨w.heap.size, 4, none⟩) (by dsimp only; omega) (.bool false))
    have HT6 := Lib.hid (HT5.out.set (p := ⟨w.heap.size, 4, none⟩) (.inl rfl) (.bool false))
    have HB6 := Lib.hid (show Below w.heap.size w (World.setCell y5 ⟨w.heap.size, 4, none⟩ (.bool false)) from Below.setCell HB5.out (Nat.le_refl _) _)
    clear A5 X5 HT5 HB5
    go_upto_region 8 with fail
    clear g0 g1 g2 g3 g4 g5 zz
    generalize World.setCell _ _ _ = y6 at A6 X6 HT6 HB6 ⊢
    obtain ⟨g0, g1, g2, g3, g4, g5⟩ := A6.out.cells6
    have Hm6 := Lib.hid (mst_rd (x1 := be) (x2 := dn + 1) (x3 := 0) (x4 := false) (x5 := br) (reqS.cap_rd (HQ2.out _ HT6.out)))
    have hsm : mstK.sz (q, be, dn + 1, 0, false, br) ≤ 2000000 := by have h9 := HS.out; rw [mst_sz] at h9 ⊢; exact h9
    have HSM := Lib.hid hsm
    have G0 := cell_regrown g0
    have G1 := cell_regrown g1
    have G2 := cell_regrown g2
    have G3 := cell_regrown g3
    have G4 := cell_regrown g4
    have G5 := cell_regrown g5
    clear g0 g1 g2 g3 g4 g5 hsm
    refine wp_region_quiet_below (by kernel_rfl) (by kernel_rfl) ?_
    repeat (go_big_quiet_step (first
      | (go_at_call 60; exact Calls.regrown_of (first_is HM.out HSM.out _ (mstK.rd_later Hm6.out (below_regrown _ _ _))))))
    refine wpQuiet_nil ?_
    rintro _ ⟨qq, rfl⟩
    have hqb := below_regrown y6 qq.d qq.os
    have A7 := Lib.hid (A6.out.later hqb)
    have X7 := Lib.hid (X6.out.later hqb)
    have HT7 := Lib.hid (HT6.out.trans (Turn.later hqb))
    have HB7 := Lib.hid (HB6.out.trans (hqb.mono HB6.out.size))
    clear hqb G0 G1 G2 G3 G4 G5 A6 X6 HT6 HB6 Hm6
    generalize Sort.grow (redrawn y6 qq.d) qq.os = y7 at A7 X7 HT7 HB7 ⊢
    obtain ⟨g0, g1, g2, g3, g4, g5⟩ := A7.out.cells6
    by_cases hend : dn + 1 = m
    · obtain rfl : R = ((q.tail, 0, 0, 0, false, false), true) := by rw [HE.out, if_pos hend]
      subst hend
      have hq7 : ((dn + 1 : Int) == dn + 1) = true := by simp
      have HM' := HM
      obtain ⟨x0, ql, rfl⟩ : ∃ x0 ql, q = x0 :: ql := by
        cases q with
        | nil => exact absurd rfl HDQ.out
        | cons x0 ql => exact ⟨x0, ql, rfl⟩
      obtain ⟨sg, so, rfl, hsg, hnl, hpl, hpm, hsl, htl, htl1⟩ := row_tail (HQ2.out _ HT7.out)
      have HTL := Lib.hid htl
      have HT1 := Lib.hid htl1
      have hin0 : (0 : Int) ≤ 1 ∧ (1 : Int) ≤ ((n : Nat) : Int) ∧ ((n : Nat) : Int) ≤ ((p1 : Nat) : Int) := by omega
      have hX7 : w.heap.size + 1 < y7.heap.size := X7.out.lt
      clear htl htl1 HQ2 HT7 HE HR HM HM' HDQ HSM
      have HT7 := Lib.hid (Turn.refl (fun k => k = w.heap.size ∨ k = w.heap.size + 1) y7)
      by_cases hp1 : p1 = 1
      · have HT2 := Lib.hid (HT1.out hp1)
        clear HT1
        subst hp1
        obtain rfl : ql = [] := List.length_eq_zero_iff.1 (by omega)
        have HQ2 := Lib.hid (show ∀ y5, Turn (fun k => k = w.heap.size ∨ k = w.heap.size + 1) y7 y5 → reqS.cap (fun k => w.heap.size + 2 ≤ k) [.slice (some ⟨sg, so, none⟩) 0 0] [] y5 from fun y5 ht => reqS.cap_turn HT2.out ht (fun k _ h1 h2 => by omega))
        obtain ⟨zz0, zz1, zz2, zz3, zz4, zz5⟩ := warm6 A7.out
        go_upto_region 10 with fail
        have A8 := Lib.hid (show Bx 26 w.heap.size #[.slice (some ⟨sg, so, none⟩) 0 0, .int .i64 0, .int .i64 0, .int .i64 0, .bool false, .bool false] _ from ((((((A7.out.set 0 (.slice (some ⟨sg, so, none⟩) 0 0)).set 1 (.int .i64 0)).set 2 (.int .i64 0)).set 3 (.int .i64 0)).set 4 (.bool false)).set 5 (.bool false)))
        have X8 := Lib.hid (((((((X7.out.far (p := ⟨w.heap.size, 0, none⟩) (by dsimp only; omega) (.slice (some ⟨sg, so, none⟩) 0 0)).far (p := ⟨w.heap.size, 1, none⟩) (by dsimp only; omega) (.int .i64 0)).far (p := ⟨w.heap.size, 2, none⟩) (by dsimp only; omega) (.int .i64 0)).far (p := ⟨w.heap.size, 3, none⟩) (by dsimp only; omega) (.int .i64 0)).far (p := ⟨w.heap.size, 4, none⟩) (by dsimp only; omega) (.bool false)).far (p := ⟨w.heap.size, 5, none⟩) (by dsimp only; omega) (.bool false)))
        have HT8 := Lib.hid (((((((HT7.out.set (p := ⟨w.heap.size, 0, none⟩) (.inl rfl) (.slice (some ⟨sg, so, none⟩) 0 0)).set (p := ⟨w.heap.size, 1, none⟩) (.inl rfl) (.int .i64 0)).set (p := ⟨w.heap.size, 2, none⟩) (.inl rfl) (.int .i64 0)).set (p := ⟨w.heap.size, 3, none⟩) (.inl rfl) (.int .i64 0)).set (p := ⟨w.heap.size, 4, none⟩) (.inl rfl) (.bool false)).set (p := ⟨w.heap.size, 5, none⟩) (.inl rfl) (.bool false)))
        have HB8 := Lib.hid (show Below w.heap.size w _ from HB7.out.trans (((((((((Turn.refl (fun k => k = w.heap.size ∨ k = w.heap.size + 1) y7).set (p := ⟨w.heap.size, 0, none⟩) (.inl rfl) (.slice (some ⟨sg, so, none⟩) 0 0)).set (p := ⟨w.heap.size, 1, none⟩) (.inl rfl) (.int .i64 0)).set (p := ⟨w.heap.size, 2, none⟩) (.inl rfl) (.int .i64 0)).set (p := ⟨w.heap.size, 3, none⟩) (.inl rfl) (.int .i64 0)).set (p := ⟨w.heap.size, 4, none⟩) (.inl rfl) (.bool false)).set (p := ⟨w.heap.size, 5, none⟩) (.inl rfl) (.bool false))).below (B := w.heap.size) (by omega) (fun k hk => by omega)))
        clear A7 X7 HT7 HB7
        clear g0 g1 g2 g3 g4 g5 zz0 zz1 zz2 zz3 zz4 zz5
        generalize World.setCell _ _ _ = y8 at A8 X8 HT8 HB8 ⊢
        obtain ⟨g0, g1, g2, g3, g4, g5⟩ := A8.out.cells6
        obtain ⟨k0, k1, k2, k3, k4, k5⟩ := X8.out.cells6
        obtain ⟨z0, z1, z2, z3, z4, z5⟩ := warm6 X8.out
        go_wp2_with fail
        obtain ⟨e0, e1, e2, e3, e4, e5⟩ := Bx.cells6 (show Bx 26 (w.heap.size + 1) #[.slice (some ⟨sg, so, none⟩) 0 0, .int .i64 0, .int .i64 0, .int .i64 0, .bool false, .bool false] _ from ((((((X8.out.set 0 (.slice (some ⟨sg, so, none⟩) 0 0)).set 1 (.int .i64 0)).set 2 (.int .i64 0)).set 3 (.int .i64 0)).set 4 (.bool false)).set 5 (.bool false)))
        refine bodyPost_ret (v := .tuple #[.agg #[.slice (some ⟨sg, so, none⟩) 0 0, .int .i64 0, .int .i64 0, .int .i64 0, .bool false, .bool false], .bool true]) (by simp [results, Try.results18, go_sem, e0, e1, e2, e3, e4, e5]) rfl ⟨_, rfl, mst_cap (Fx0 := fun k => w.heap.size + 2 ≤ k) (HQ2.out _ ?_) (fun k hk => by omega), ?_⟩
        · iterate 6 refine Turn.set (F := (fun k => k = w.heap.size ∨ k = w.heap.size + 1)) ?_ (.inr rfl) _
          exact HT8.out
        · iterate 6 refine Below.setCell ?_ (by dsimp only; omega) _
          exact HB8.out
      · have hp2 : 1 < p1 := by omega
        have HQ2 := Lib.hid (show ∀ y5, Turn (fun k => k = w.heap.size ∨ k = w.heap.size + 1) y7 y5 → reqS.cap (fun k => w.heap.size + 2 ≤ k) [.slice (some ⟨sg, so + 6, none⟩) ql.length (p1 - 1)] ql y5 from fun y5 ht => reqS.cap_turn HTL.out ht (fun k _ h1 h2 => by omega))
        obtain ⟨zz0, zz1, zz2, zz3, zz4, zz5⟩ := warm6 A7.out
        go_upto_region 10 with fail
        have A8 := Lib.hid (show Bx 26 w.heap.size #[.slice (some ⟨sg, so + 6, none⟩) ql.length (p1 - 1), .int .i64 0, .int .i64 0, .int .i64 0, .bool false, .bool false] _ from ((((((A7.out.set 0 (.slice (some ⟨sg, so + 6, none⟩) ql.length (p1 - 1))).set 1 (.int .i64 0)).set 2 (.int .i64 0)).set 3 (.int .i64 0)).set 4 (.bool false)).set 5 (.bool false)))
        have X8 := Lib.hid (((((((X7.out.far (p := ⟨w.heap.size, 0, none⟩) (by dsimp only; omega) (.slice (some ⟨sg, so + 6, none⟩) ql.length (p1 - 1))).far (p := ⟨w.heap.size, 1, none⟩) (by dsimp only; omega) (.int .i64 0)).far (p := ⟨w.heap.size, 2, none⟩) (by dsimp only; omega) (.int .i64 0)).far (p := ⟨w.heap.size, 3, none⟩) (by dsimp only; omega) (.int .i64 0)).far (p := ⟨w.heap.size, 4, none⟩) (by dsimp only; omega) (.bool false)).far (p := ⟨w.heap.size, 5, none⟩) (by dsimp only; omega) (.bool false)))
        have HT8 := Lib.hid (((((((HT7.out.set (p := ⟨w.heap.size, 0, none⟩) (.inl rfl) (.slice (some ⟨sg, so + 6, none⟩) ql.length (p1 - 1))).set (p := ⟨w.heap.size, 1, none⟩) (.inl rfl) (.int .i64 0)).set (p := ⟨w.heap.size, 2, none⟩) (.inl rfl) (.int .i64 0)).set (p := ⟨w.heap.size, 3, none⟩) (.inl rfl) (.int .i64 0)).set (p := ⟨w.heap.size, 4, none⟩) (.inl rfl) (.bool false)).set (p := ⟨w.heap.size, 5, none⟩) (.inl rfl) (.bool false)))
        have HB8 := Lib.hid (show Below w.heap.size w _ from HB7.out.trans (((((((((Turn.refl (fun k => k = w.heap.size ∨ k = w.heap.size + 1) y7).set (p := ⟨w.heap.size, 0, none⟩) (.inl rfl) (.slice (some ⟨sg, so + 6, none⟩) ql.length (p1 - 1))).set (p := ⟨w.heap.size, 1, none⟩) (.inl rfl) (.int .i64 0)).set (p := ⟨w.heap.size, 2, none⟩) (.inl rfl) (.int .i64 0)).set (p := ⟨w.heap.size, 3, none⟩) (.inl rfl) (.int .i64 0)).set (p := ⟨w.heap.size, 4, none⟩) (.inl rfl) (.bool false)).set (p := ⟨w.heap.size, 5, none⟩) (.inl rfl) (.bool false))).below (B := w.heap.size) (by omega) (fun k hk => by omega)))
        clear A7 X7 HT7 HB7
        clear g0 g1 g2 g3 g4 g5 zz0 zz1 zz2 zz3 zz4 zz5
        generalize World.setCell _ _ _ = y8 at A8 X8 HT8 HB8 ⊢
        obtain ⟨g0, g1, g2, g3, g4, g5⟩ := A8.out.cells6
        obtain ⟨k0, k1, k2, k3, k4, k5⟩ := X8.out.cells6
        obtain ⟨z0, z1, z2, z3, z4, z5⟩ := warm6 X8.out
        go_wp2_with fail
        obtain ⟨e0, e1, e2, e3, e4, e5⟩ := Bx.cells6 (show Bx 26 (w.heap.size + 1) #[.slice (some ⟨sg, so + 6, none⟩) ql.length (p1 - 1), .int .i64 0, .int .i64 0, .int .i64 0, .bool false, .bool false] _ from ((((((X8.out.set 0 (.slice (some ⟨sg, so + 6, none⟩) ql.length (p1 - 1))).set 1 (.int .i64 0)).set 2 (.int .i64 0)).set 3 (.int .i64 0)).set 4 (.bool false)).set 5 (.bool false)))
        refine bodyPost_ret (v := .tuple #[.agg #[.slice (some ⟨sg, so + 6, none⟩) ql.length (p1 - 1), .int .i64 0, .int .i64 0, .int .i64 0, .bool false, .bool false], .bool true]) (by simp [results, Try.results18, go_sem, e0, e1, e2, e3, e4, e5]) rfl ⟨_, rfl, mst_cap (Fx0 := fun k => w.heap.size + 2 ≤ k) (HQ2.out _ ?_) (fun k hk => by omega), ?_⟩
        · iterate 6 refine Turn.set (F := (fun k => k = w.heap.size ∨ k = w.heap.size + 1)) ?_ (.inr rfl) _
          exact HT8.out
        · iterate 6 refine Below.setCell ?_ (by dsimp only; omega) _
          exact HB8.out
    · have hq7 : (dn + 1 == m) = false := by simp [hend]
      obtain rfl : R = ((q, be, dn + 1, 0, false, br), true) := by rw [HE.out, if_neg hend]
      have HEND := Lib.hid hend
      clear hend
      obtain ⟨k0, k1, k2, k3, k4, k5⟩ := X7.out.cells6
      obtain ⟨z0, z1, z2, z3, z4, z5⟩ := warm6 X7.out
      go_wp2_with fail
      obtain ⟨e0, e1, e2, e3, e4, e5⟩ := Bx.cells6 (show Bx 26 (w.heap.size + 1) #[.slice a1 n p1, .int .i64 be, .int .i64 (dn + 1), .int .i64 0, .bool false, .bool br] _ from ((((((X7.out.set 0 (.slice a1 n p1)).set 1 (.int .i64 be)).set 2 (.int .i64 (dn + 1))).set 3 (.int .i64 0)).set 4 (.bool false)).set 5 (.bool br)))
      refine bodyPost_ret (v := .tuple #[.agg #[.slice a1 n p1, .int .i64 be, .int .i64 (dn + 1), .int .i64 0, .bool false, .bool br], .bool true]) (by simp [results, Try.results18, go_sem, e0, e1, e2, e3, e4, e5]) rfl ⟨_, rfl, mst_cap (Fx0 := fun k => w.heap.size + 2 ≤ k) (HQ2.out _ ?_) (fun k hk => by omega), ?_⟩
      · iterate 6 refine Turn.set (F := (fun k => k = w.heap.size ∨ k = w.heap.size + 1)) ?_ (.inr rfl) _
        exact HT7.out
      · iterate 6 refine Below.setCell ?_ (by dsimp only; omega) _
        exact HB7.out
end Go.Proofs.Ytijilhaoknpeeaa.KD
