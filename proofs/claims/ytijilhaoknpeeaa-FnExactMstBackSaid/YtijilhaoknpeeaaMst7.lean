
/-
  Where a beat of the first request goes: MstAddr of the model.
-/
import Derived.Test.YtijilhaoknpeeaaMst6
import Derived.Test.YtijilhaoknpeeaaSameReq
namespace Go.Proofs.Ytijilhaoknpeeaa.KD
open Go.RowKit Rows3 GR Num
set_option linter.unusedVariables false

/-- where a beat of the first request goes. -/
def addrM (q : List ReqX) (be dn tr : Int) (pa br : Bool) (j : Int) : Int :=
  if rightM q be dn tr pa br = true ∧ 0 ≤ j ∧ j < beats0 q then (match q with | [] => 0 | r :: _ => (addrsW r.2.1 r.2.2.1 r.2.2.2.1).getD j.toNat 0) else -1
theorem right_all {q : List ReqX} {be dn tr : Int} {pa br : Bool} (h : rightM q be dn tr pa br = true) : q.all okQ = true := by
  unfold rightM at h; rw [Bool.and_eq_true] at h; exact h.1
theorem addrs_full {r : ReqX} (h : okQ r = true) : ((addrsW r.2.1 r.2.2.1 r.2.2.2.1).length : Int) = beatsW r.2.2.2.1 ∨ (addrsW r.2.1 r.2.2.1 r.2.2.2.1).length = 0 := by
  unfold addrsW
  split
  · left; rw [itL_length]; have := (beatsW_bd r.2.2.2.1).1; omega
  · right; rfl
theorem okQ_addrs {r : ReqX} (h : okQ r = true) (hb : 0 < beatsW r.2.2.2.1) : ((addrsW r.2.1 r.2.2.1 r.2.2.2.1).length : Int) = beatsW r.2.2.2.1 := by
  rcases addrs_full h with h1 | h1
  · exact h1
  · exfalso
    unfold okQ okR at h
    rw [Bool.and_eq_true] at h
    have h2 := h.1
    unfold okL at h2
    simp at h2
    omega
set_option maxHeartbeats 8000000 in
set_option maxRecDepth 100000 in
theorem specAddr (j : Int) (cs : List Value) (q : List ReqX) (be dn tr : Int) (pa br : Bool) (hs : mstK.sz (q, be, dn, tr, pa, br) ≤ 2000000) (w : World) (h : mstK.rd cs (q, be, dn, tr, pa, br) w) :
    Calls Try.prog 52 #[agg cs, .int .i64 j] w fun e w' => e = .returned (.int .i64 (addrM q be dn tr pa br j)) ∧ Below w.heap.size w w' := by
  obtain ⟨a0, p0, rfl, hq⟩ := mst_form h
  obtain ⟨n, hn⟩ : ∃ n, q.length = n := ⟨_, rfl⟩
  rw [hn] at h hq ⊢
  have HS := Lib.hid hs
  have HN := Lib.hid hn
  have HQ := Lib.hid hq
  obtain ⟨b1, hb1⟩ : ∃ b, rightM q be dn tr pa br = b := ⟨_, rfl⟩
  obtain ⟨m, hm⟩ : ∃ m, beats0 q = m := ⟨_, rfl⟩
  have hmb := beats0_bd q
  rw [hm] at hmb
  have B1 := Lib.hid hb1
  have HM := Lib.hid hm
  have hb0 := (Below.refl w.heap.size w).alloc (Nat.le_refl _) (Obj.cells #[.slice a0 n p0, .int .i64 be, .int .i64 dn, .int .i64 tr, .bool pa, .bool br] 26)
  have A0 := Lib.hid (Bx.new 26 #[.slice a0 n p0, .int .i64 be, .int .i64 dn, .int .i64 tr, .bool pa, .bool br] w)
  have H0 := Lib.hid (mstK.rd_later h hb0)
  have HB0 := Lib.hid hb0
  clear h hn hb1 hm hb0 hs hq
  show Calls _ _ #[.agg #[.slice a0 n p0, .int .i64 be, .int .i64 dn, .int .i64 tr, .bool pa, .bool br], .int .i64 j] w _
  go_enter Try.func52, Try.ntmps52
  go_wp2_with fail
  generalize w.alloc (Obj.cells #[.slice a0 n p0, .int .i64 be, .int .i64 dn, .int .i64 tr, .bool pa, .bool br] 26) = y0 at A0 H0 HB0 ⊢
  refine (right_is B1.out HS.out _ H0.out).mono ?_
  rintro e y1 ⟨rfl, hb⟩
  have A1 := Lib.hid (A0.out.later hb)
  have H1 := Lib.hid (mstK.rd_later H0.out hb)
  have HB1 := Lib.hid (HB0.out.trans (hb.mono HB0.out.size))
  clear A0 H0 HB0 hb
  obtain ⟨g0, g1, g2, g3, g4, g5⟩ := A1.out.cells6
  cases b1 with
  | false =>
    have HE := Lib.hid (show addrM q be dn tr pa br j = -1 by unfold addrM; rw [B1.out]; simp)
    go_wp2_with fail
    go_ret
    exact ⟨by rw [HE.out]; rfl, HB1.out⟩
  | true =>
    go_wp2_with fail
    refine (beats_is HM.out HS.out _ H1.out).mono ?_
    rintro e y2 ⟨rfl, hb⟩
    have A2 := Lib.hid (A1.out.later hb)
    have HB2 := Lib.hid (HB1.out.trans (hb.mono HB1.out.size))
    clear A1 H1 HB1 hb g0 g1 g2 g3 g4 g5
    by_cases hin : 0 ≤ j ∧ j < m
    · go_wp2_with fail
      refine (in_is (u := true) (by simp; omega) _).mono ?_
      rintro e y3 ⟨rfl, hb⟩
      have A3 := Lib.hid (A2.out.later hb)
      have HB3 := Lib.hid (HB2.out.trans (hb.mono HB2.out.size))
      clear A2 HB2 hb
      obtain ⟨g0, g1, g2, g3, g4, g5⟩ := A3.out.cells6
      cases q with
      | nil => exfalso; have h0 : (0 : Int) = m := HM.out; omega
      | cons r q' =>
        have hn0 : 0 < n := by have := HN.out; simp at this; omega
        have hqq := reqS.rd_later HQ.out HB3.out
        obtain ⟨ad, cp, e, hl, hrow⟩ := hqq
        obtain ⟨rfl, _⟩ : a0 = ad ∧ p0 = cp := by
          have e2 : Value.slice a0 n p0 = .slice ad (r :: q').length cp := by simpa using e
          injection e2 with e3 e4 e5; exact ⟨e3, e5⟩
        obtain ⟨b, o, es, rfl, hlt, hcell, hrd⟩ := hrow 0 r rfl
        obtain ⟨rw_, x1, x2, x3, x4, xl⟩ := r
        obtain ⟨ra, rp, rfl, _⟩ := req_form hrd
        have c0 := hcell 0 _ rfl
        have c1 := hcell 1 _ rfl
        have c2 := hcell 2 _ rfl
        have c3 := hcell 3 _ rfl
        have c4 := hcell 4 _ rfl
        have c5 := hcell 5 _ rfl
        rw [Nat.zero_mul, Nat.add_zero] at c0 c1 c2 c3 c4 c5
        have hok : okQ (rw_, x1, x2, x3, x4, xl) = true := by
          have h1 := right_all B1.out
          rw [List.all_cons, Bool.and_eq_true] at h1
          exact h1.1
        have hbm : beatsW x3 = m := HM.out
        have hlen : ((addrsW x1 x2 x3).length : Int) = m := by rw [← hbm]; exact okQ_addrs hok (show 0 < beatsW x3 by omega)
        obtain ⟨k, rfl⟩ : ∃ k : Nat, j = k := ⟨j.toNat, by omega⟩
        have hk : k < (addrsW x1 x2 x3).length := by omega
        have HE := Lib.hid (show addrM ((rw_, x1, x2, x3, x4, xl) :: q') be dn tr pa br (k : Int) = (addrsW x1 x2 x3).getD k 0 by
          unfold addrM; rw [HM.out, if_pos ⟨B1.out, hin⟩, Int.toNat_natCast])
        have HLE := Lib.hid hlen
        have HK := Lib.hid hk
        clear e hl hrow hcell hrd hok hbm hlen hk hlt
        have hn1 : (0 : Int) ≤ 0 ∧ (0 : Int) < ((n : Nat) : Int) := by omega
        go_wp2_with fail
        refine (specBurst x1 x2 x3 _).mono ?_
        rintro e y4 ⟨v, rfl, hown, hb⟩
        obtain ⟨vd, vc, rfl, hvr⟩ := hown.rd
        obtain ⟨vb, vo, rfl, hvb, hvc⟩ := hvr k HK.out
        have hin3 : (0 : Int) ≤ (k : Int) ∧ (k : Int) < (((addrsW x1 x2 x3).length : Nat) : Int) := by have := HK.out; omega
        have HBA := Lib.hid (hb)
        clear hown hvr
        generalize (addrsW x1 x2 x3).getD k 0 = y at hvc HE
        generalize (addrsW x1 x2 x3).length = ln at hin3 HLE HK ⊢
        go_wp2_with fail
        go_ret
        exact ⟨by rw [HE.out]; rfl, GR.below_alloc1 HB3.out HB3.out.size HBA.out⟩
    · have HE := Lib.hid (show addrM q be dn tr pa br j = -1 by unfold addrM; rw [HM.out, if_neg (by rintro ⟨_, h1, h2⟩; exact hin ⟨h1, h2⟩)])
      go_wp2_with fail
      refine (in_is (u := false) (by rw [Bool.eq_false_iff]; simp; omega) _).mono ?_
      rintro e y3 ⟨rfl, hb⟩
      have HB3 := Lib.hid (HB2.out.trans (hb.mono HB2.out.size))
      go_wp2_with fail
      go_ret
      exact ⟨by rw [HE.out]; rfl, HB3.out⟩
end Go.Proofs.Ytijilhaoknpeeaa.KD
