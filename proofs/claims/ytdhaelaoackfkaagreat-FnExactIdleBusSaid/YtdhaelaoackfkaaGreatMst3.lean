
/-
  Is it a master: the model's MstOk; copies of a request and of a master.
-/
import Derived.Test.YtdhaelaoackfkaaGreatGMa13
import Derived.Test.YtdhaelaoackfkaaGreatEqAny
namespace Go.Proofs.YtdhaelaoackfkaaGreat.KD
open Go.RowKit Rows3 GR Num
set_option linter.unusedVariables false

def okMst (q : List ReqX) (be dn tr : Int) (pa br : Bool) (c : ConfX) : Bool := okX c && (rightM q be dn tr pa br && decide (tr ≤ c.2.2.2.1))
set_option maxHeartbeats 8000000 in
set_option maxRecDepth 100000 in
theorem specMstOk (cs ds : List Value) (q : List ReqX) (be dn tr : Int) (pa br : Bool) (l : List (Int × Bool × Int × Int)) (qu mw mr ms lm : Int) (hs : mstK.sz (q, be, dn, tr, pa, br) ≤ 2000000) (hc : confK.sz (l, qu, mw, mr, ms, lm) ≤ 2000000) (w : World) (h : mstK.rd cs (q, be, dn, tr, pa, br) w) (h' : confK.rd ds (l, qu, mw, mr, ms, lm) w) :
    Calls Tryz.prog 22 #[agg cs, agg ds] w fun e w' => e = .returned (.bool (okMst q be dn tr pa br (l, qu, mw, mr, ms, lm))) ∧ Below w.heap.size w w' := by
  obtain ⟨a0, p0, rfl, _⟩ := mst_form h
  obtain ⟨c0, q0, rfl, _⟩ := conf_form h'
  obtain ⟨n, hn⟩ : ∃ n, q.length = n := ⟨_, rfl⟩
  obtain ⟨m, hm⟩ : ∃ m, l.length = m := ⟨_, rfl⟩
  rw [hn] at h ⊢
  rw [hm] at h' ⊢
  obtain ⟨b1, hb1⟩ : ∃ b, okX (l, qu, mw, mr, ms, lm) = b := ⟨_, rfl⟩
  obtain ⟨b2, hb2⟩ : ∃ b, rightM q be dn tr pa br = b := ⟨_, rfl⟩
  have He := Lib.hid (show okMst q be dn tr pa br (l, qu, mw, mr, ms, lm) = (b1 && (b2 && decide (tr ≤ mr))) by unfold okMst; rw [hb1, hb2])
  have B1 := Lib.hid hb1
  have B2 := Lib.hid hb2
  have hlc := conf_len hc
  have HS := Lib.hid hs
  have hsz : ∀ (w : World) o, (w.alloc o).heap.size = w.heap.size + 1 := fun w o => by simp
  have A0 := Lib.hid ((Bx.new 70 #[.slice a0 n p0, .int .i64 be, .int .i64 dn, .int .i64 tr, .bool pa, .bool br] w).alloc (Obj.cells #[.slice c0 m q0, .int .i64 qu, .int .i64 mw, .int .i64 mr, .int .i64 ms, .int .i64 lm] 43))
  have C0 := Bx.new 43 #[.slice c0 m q0, .int .i64 qu, .int .i64 mw, .int .i64 mr, .int .i64 ms, .int .i64 lm] (w.alloc (Obj.cells #[.slice a0 n p0, .int .i64 be, .int .i64 dn, .int .i64 tr, .bool pa, .bool br] 70))
  rw [hsz] at C0
  have HC0 := Lib.hid C0
  have hb0 := ((Below.refl w.heap.size w).alloc (Nat.le_refl _) (Obj.cells #[.slice a0 n p0, .int .i64 be, .int .i64 dn, .int .i64 tr, .bool pa, .bool br] 70)).alloc (by simp) (Obj.cells #[.slice c0 m q0, .int .i64 qu, .int .i64 mw, .int .i64 mr, .int .i64 ms, .int .i64 lm] 43)
  have HB0 := Lib.hid hb0
  have H0 := Lib.hid (mstK.rd_later h hb0)
  have H1 := Lib.hid (confK.rd_later h' hb0)
  clear h h' hn hm hb1 hb2 hs hc hsz C0 hb0
  show Calls _ _ #[.agg #[.slice a0 n p0, .int .i64 be, .int .i64 dn, .int .i64 tr, .bool pa, .bool br], .agg #[.slice c0 m q0, .int .i64 qu, .int .i64 mw, .int .i64 mr, .int .i64 ms, .int .i64 lm]] w _
  generalize okMst q be dn tr pa br (l, qu, mw, mr, ms, lm) = R at He ⊢
  cases b1 with
  | false =>
    obtain ⟨k0, k1, k2, k3, k4, k5⟩ : _ ∧ _ ∧ _ ∧ _ ∧ _ ∧ _ := ⟨HC0.out.cell 0 _ rfl, HC0.out.cell 1 _ rfl, HC0.out.cell 2 _ rfl, HC0.out.cell 3 _ rfl, HC0.out.cell 4 _ rfl, HC0.out.cell 5 _ rfl⟩
    go_enter Tryz.func22, Tryz.ntmps22
    go_wp2_with (go_at_call 18; refine (specConfX [.slice c0 m q0, .int .i64 qu, .int .i64 mw, .int .i64 mr, .int .i64 ms, .int .i64 lm] l qu mw mr ms lm hlc _ H1.out).mono ?_; rintro e w2 ⟨rfl, hb⟩; rw [B1.out])
    go_ret
    exact ⟨by rw [He.out]; rfl, HB0.out.trans (hb.mono HB0.out.size)⟩
  | true =>
    obtain ⟨k0, k1, k2, k3, k4, k5⟩ : _ ∧ _ ∧ _ ∧ _ ∧ _ ∧ _ := ⟨HC0.out.cell 0 _ rfl, HC0.out.cell 1 _ rfl, HC0.out.cell 2 _ rfl, HC0.out.cell 3 _ rfl, HC0.out.cell 4 _ rfl, HC0.out.cell 5 _ rfl⟩
    go_enter Tryz.func22, Tryz.ntmps22
    go_wp2_with fail
    refine (specConfX [.slice c0 m q0, .int .i64 qu, .int .i64 mw, .int .i64 mr, .int .i64 ms, .int .i64 lm] l qu mw mr ms lm hlc _ H1.out).mono ?_
    rintro e w2 ⟨rfl, hb⟩
    rw [B1.out]
    have A2 := Lib.hid (A0.out.later hb)
    have C2 := Lib.hid (HC0.out.later hb)
    have H2 := Lib.hid (mstK.rd_later H0.out hb)
    have HB2 := Lib.hid (HB0.out.trans (hb.mono HB0.out.size))
    clear hb k0 k1 k2 k3 k4 k5
    obtain ⟨g0, g1, g2, g3, g4, g5⟩ : _ ∧ _ ∧ _ ∧ _ ∧ _ ∧ _ := ⟨A2.out.cell 0 _ rfl, A2.out.cell 1 _ rfl, A2.out.cell 2 _ rfl, A2.out.cell 3 _ rfl, A2.out.cell 4 _ rfl, A2.out.cell 5 _ rfl⟩
    go_wp2_with fail
    refine (spec12Right [.slice a0 n p0, .int .i64 be, .int .i64 dn, .int .i64 tr, .bool pa, .bool br] q be dn tr pa br HS.out _ H2.out).mono ?_
    rintro e w3 ⟨rfl, hb⟩
    rw [B2.out]
    have HB3 := Lib.hid (HB2.out.trans (hb.mono HB2.out.size))
    have g3 := (A2.out.later hb).cell 3 _ rfl
    have k3 := (C2.out.later hb).cell 3 _ rfl
    clear hb
    cases b2 with
    | false =>
      go_wp2_with fail
      go_ret
      exact ⟨by rw [He.out]; rfl, HB3.out⟩
    | true =>
      go_wp2_with fail
      go_ret
      exact ⟨by rw [He.out]; simp, HB3.out⟩
end Go.Proofs.YtdhaelaoackfkaaGreat.KD
