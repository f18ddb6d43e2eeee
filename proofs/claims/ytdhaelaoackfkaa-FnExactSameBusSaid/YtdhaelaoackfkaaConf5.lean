
/-
  Are two configurations the same: SameConf, for the program and for its model.
-/
import Derived.Test.YtdhaelaoackfkaaGConf13
import Derived.Laws.StructEq
namespace Go.Proofs.Ytdhaelaoackfkaa.Num
open Go.RowKit GR

theorem below_drewN {B : Nat} {a w : World} (h : Below B a w) (n : Nat) : Below B a (w.drewN n) := ⟨h.os, h.tape, h.output, h.size, h.block⟩
/-- are two masters' numbers the same. -/
def sameM (x y : MC) : Bool := decide (x = y)
theorem sameM_eq (x y : MC) : sameM x y = (x.wt == y.wt && (x.pr == y.pr && (x.ev == y.ev && x.cp == y.cp))) := by
  obtain ⟨a, p, b, c⟩ := x
  obtain ⟨a', p', b', c'⟩ := y
  unfold sameM
  rw [Bool.eq_iff_iff]
  simp [MC.mk.injEq]
theorem neqMC (x y : MC) (w : World) : (binOp .neq 75 (.agg #[.int .i64 x.wt, .bool x.pr, .int .i64 x.ev, .int .i64 x.cp]) (.agg #[.int .i64 y.wt, .bool y.pr, .int .i64 y.ev, .int .i64 y.cp])).run Try.prog w = .ok (.bool (!sameM x y)) w := by
  have hS : Try.prog.underlying 75 = some (.struct (Try.prog.fieldsOf 75)) := by kernel_rfl
  have hp : Try.prog.stoodInHeld 75 = false := by kernel_rfl
  rw [sameM_eq, run_neq_struct, show (10000 : Nat) = 9999 + 1 from rfl, run_equalIn_agg w 9999 75 _ _ hS hp]
  clear hS hp
  simp only [Program.fieldsOf, Try.underlying75]
  go_simp
  by_cases h1 : x.wt = y.wt <;> by_cases h2 : x.pr = y.pr <;> by_cases h3 : x.ev = y.ev <;> by_cases h4 : x.cp = y.cp <;> simp [h1, h2, h3, h4]
theorem guardMC : Try.prog.eqGuardType Try.prog.depth 75 = false := by kernel_rfl
/-- the first k are the same. -/
def sameUp (l m : List MC) (k : Nat) : Prop := l.take k = m.take k
theorem sameUp_step {l m : List MC} {k : Nat} {x y : MC} (hx : l[k]? = some x) (hy : m[k]? = some y) (h : sameUp l m k) (h1 : sameM x y = true) : sameUp l m (k + 1) := by
  obtain ⟨h2, rfl⟩ := List.getElem?_eq_some_iff.1 hx
  obtain ⟨h3, rfl⟩ := List.getElem?_eq_some_iff.1 hy
  unfold sameUp at h ⊢
  rw [List.take_succ_eq_append_getElem h2, List.take_succ_eq_append_getElem h3, h, of_decide_eq_true h1]
/-- are two lists the same. -/
def sameL (l m : List MC) : Bool := decide (l = m)
theorem sameL_len {l m : List MC} (h : ¬ l.length = m.length) : sameL l m = false := by unfold sameL; rw [decide_eq_false_iff_not]; intro e; exact h (by rw [e])
theorem sameL_bad {l m : List MC} {k : Nat} {x y : MC} (hx : l[k]? = some x) (hy : m[k]? = some y) (h : sameM x y = false) : sameL l m = false := by
  unfold sameL; rw [decide_eq_false_iff_not]; intro e; subst e
  rw [hx] at hy; cases hy; simp [sameM] at h
theorem sameL_all {l m : List MC} {n : Nat} (h1 : l.length = n) (h2 : m.length = n) (h : sameUp l m n) : sameL l m = true := by
  unfold sameUp at h
  rw [List.take_of_length_le (by omega), List.take_of_length_le (by omega)] at h
  unfold sameL; rw [decide_eq_true_iff]; exact h
set_option maxRecDepth 100000 in
theorem equalMC (v u : Value) (l m : List MC) (hl : l.length ≤ 2000000) (w : World) (hv : Rd mcK v l w) (hu : Rd mcK u m w) :
    Calls Try.prog 101 #[v, u] w fun e w' => e = .returned (.bool (sameL l m)) ∧ Below w.heap.size w w' := by
  obtain ⟨ad, cap, rfl, h1⟩ := hv
  obtain ⟨bd, cbp, rfl, h2⟩ := hu
  by_cases hne : l.length = m.length
  · obtain ⟨n, hln⟩ : ∃ n, l.length = n := ⟨_, rfl⟩
    have hmn : m.length = n := by omega
    rw [hln] at hl ⊢
    rw [hmn]
    have H1 := Lib.hid h1
    have H2 := Lib.hid h2
    have HL := Lib.hid hln
    have HM := Lib.hid hmn
    clear h1 h2 hln hmn hne
    have hnn : (((n : Nat) : Int) != ((n : Nat) : Int)) = false := by simp
    go_enter Try.func101, Try.ntmps101
    go_wp2
    go_loopw [13] (fun i wr => ∃ k : Nat, k ≤ n ∧ i = .int .i64 k ∧ sameUp l m k ∧ Below w.heap.size w wr) (fun i _ => n - (intOf i).toNat)
    case atStart => exact ⟨0, by omega, rfl, rfl, Below.refl _ _⟩
    case round =>
      obtain ⟨k, hk, rfl, hs, hb⟩ := hrel
      have Hs := Lib.hid hs
      clear hs
      by_cases hlt : k < n
      · obtain ⟨x, hx⟩ := get_of (l := l) (i := k) (by rw [HL.out]; exact hlt)
        obtain ⟨y, hy⟩ := get_of (l := m) (i := k) (by rw [HM.out]; exact hlt)
        obtain ⟨b, o, rfl, hb1, hc1⟩ := H1.out k x hx
        obtain ⟨b', o', rfl, hb2, hc2⟩ := H2.out k y hy
        obtain ⟨g0, g1, g2, g3⟩ := mc_at hc1
        obtain ⟨e0, e1, e2, e3⟩ := mc_at hc2
        rw [← below_cells hb hb1] at g0 g1 g2 g3
        rw [← below_cells hb hb2] at e0 e1 e2 e3
        have Hb := Lib.hid hb
        obtain ⟨z, hz⟩ : ∃ z, sameM x y = z := ⟨_, rfl⟩
        have hq := neqMC x y
        rw [hz] at hq
        have hgd := guardMC
        have HZ := Lib.hid hz
        have HX := Lib.hid hx
        have HY := Lib.hid hy
        clear hc1 hc2 hx hy hz hb
        cases z with
        | true =>
          go_wp2_with fail
          go_quiet (fail)
          go_wp2_with fail
          go_roundw
          case rel => exact ⟨k + 1, by omega, by go_num, sameUp_step HX.out HY.out Hs.out HZ.out, ⟨Hb.out.os, Hb.out.tape, Hb.out.output, Hb.out.size, Hb.out.block⟩⟩
          case measure => simp [intOf]; omega
        | false =>
          have He := Lib.hid (sameL_bad HX.out HY.out HZ.out)
          go_wp2_with fail
          go_quiet (fail)
          go_wp2_with fail
          go_ret
          exact ⟨by rw [He.out]; rfl, ⟨Hb.out.os, Hb.out.tape, Hb.out.output, Hb.out.size, Hb.out.block⟩⟩
      · obtain rfl : n = k := by omega
        have He := Lib.hid (sameL_all HL.out HM.out Hs.out)
        go_wp2
        go_ret
        exact ⟨by rw [He.out]; rfl, hb⟩
  · have He := Lib.hid (sameL_len hne)
    have hnn : (((l.length : Nat) : Int) != ((m.length : Nat) : Int)) = true := by simp; omega
    clear h1 h2
    go_enter Try.func101, Try.ntmps101
    go_wp2
    go_ret
    exact ⟨by rw [He.out]; rfl, Below.refl _ _⟩
/-- are two configurations the same. -/
def sameC (l : List MC) (q mw mr ms lm : Int) (l' : List MC) (q' mw' mr' ms' lm' : Int) : Bool :=
  sameL l l' && ((q == q') && ((mw == mw') && ((mr == mr') && ((ms == ms') && (lm == lm')))))
set_option maxHeartbeats 4000000 in
set_option maxRecDepth 100000 in
theorem implSameConf (v : Value) (l : List MC) (q mw mr ms lm : Int) (v' : Value) (l' : List MC) (q' mw' mr' ms' lm' : Int) (hl : l.length ≤ 2000000) (w : World) (hv : Rd mcK v l w) (hv' : Rd mcK v' l' w) :
    Calls Try.prog 65 #[.agg #[v, .int .i64 q, .int .i64 mw, .int .i64 mr, .int .i64 ms, .int .i64 lm], .agg #[v', .int .i64 q', .int .i64 mw', .int .i64 mr', .int .i64 ms', .int .i64 lm']] w fun e w' =>
      e = .returned (.bool (sameC l q mw mr ms lm l' q' mw' mr' ms' lm')) ∧ Below w.heap.size w w' := by
  have Hv := Lib.hid hv
  have Hv' := Lib.hid hv'
  obtain ⟨ad, cap, rfl⟩ := hv.slice
  obtain ⟨ad', cap', rfl⟩ := hv'.slice
  obtain ⟨b1, h1⟩ : ∃ b, sameL l l' = b := ⟨_, rfl⟩
  obtain ⟨b2, h2⟩ : ∃ b, (q == q') = b := ⟨_, rfl⟩
  obtain ⟨b3, h3⟩ : ∃ b, (mw == mw') = b := ⟨_, rfl⟩
  obtain ⟨b4, h4⟩ : ∃ b, (mr == mr') = b := ⟨_, rfl⟩
  obtain ⟨b5, h5⟩ : ∃ b, (ms == ms') = b := ⟨_, rfl⟩
  obtain ⟨b6, h6⟩ : ∃ b, (lm == lm') = b := ⟨_, rfl⟩
  have He := Lib.hid (show sameC l q mw mr ms lm l' q' mw' mr' ms' lm' = (b1 && (b2 && (b3 && (b4 && (b5 && b6))))) by unfold sameC; rw [h1, h2, h3, h4, h5, h6])
  have HE := Lib.hid h1
  clear h1 hv hv'
  go_enter Try.func65, Try.ntmps65
  go_wp2_with fail
  refine (equalMC _ _ l l' hl _ ((Hv.out.alloc _).alloc _) ((Hv'.out.alloc _).alloc _)).mono ?_
  rintro e w1 ⟨rfl, hb⟩
  rw [HE.out]
  have A1 := ((Bx.new 28 #[.slice ad l.length cap, .int .i64 q, .int .i64 mw, .int .i64 mr, .int .i64 ms, .int .i64 lm] w).alloc (Obj.cells #[.slice ad' l'.length cap', .int .i64 q', .int .i64 mw', .int .i64 mr', .int .i64 ms', .int .i64 lm'] 28)).later hb
  have A2 := (Bx.new 28 #[.slice ad' l'.length cap', .int .i64 q', .int .i64 mw', .int .i64 mr', .int .i64 ms', .int .i64 lm'] (w.alloc (Obj.cells #[.slice ad l.length cap, .int .i64 q, .int .i64 mw, .int .i64 mr, .int .i64 ms, .int .i64 lm] 28))).later hb
  rw [size_alloc1] at A2
  obtain ⟨c0, c1, c2, c3, c4, c5⟩ := A1.cells6
  obtain ⟨g0, g1, g2, g3, g4, g5⟩ := A2.cells6
  have Hb := Lib.hid (below_alloc1 ((Below.refl w.heap.size _).alloc (Nat.le_refl _) _) (by simp) hb)
  clear A1 A2 hb
  go_wp2_with fail
  all_goals
    go_ret
    refine ⟨?_, Hb.out⟩
    rw [He.out]; simp_all

set_option maxHeartbeats 4000000 in
set_option maxRecDepth 100000 in
theorem specSameConf (v : Value) (l : List MC) (q mw mr ms lm : Int) (v' : Value) (l' : List MC) (q' mw' mr' ms' lm' : Int) (hl : l.length ≤ 2000000) (w : World) (hv : Rd mcK v l w) (hv' : Rd mcK v' l' w) :
    Calls Try.prog 53 #[.agg #[v, .int .i64 q, .int .i64 mw, .int .i64 mr, .int .i64 ms, .int .i64 lm], .agg #[v', .int .i64 q', .int .i64 mw', .int .i64 mr', .int .i64 ms', .int .i64 lm']] w fun e w' =>
      e = .returned (.bool (sameC l q mw mr ms lm l' q' mw' mr' ms' lm')) ∧ Below w.heap.size w w' := by
  obtain ⟨ad, cap, rfl, h1⟩ := hv
  obtain ⟨bd, cbp, rfl, h2⟩ := hv'
  by_cases hne : l.length = l'.length
  · obtain ⟨n, hln⟩ : ∃ n, l.length = n := ⟨_, rfl⟩
    have hmn : l'.length = n := by omega
    rw [hln] at hl ⊢
    rw [hmn]
    have H1 := Lib.hid h1
    have H2 := Lib.hid h2
    have HL := Lib.hid hln
    have HM := Lib.hid hmn
    have A := Lib.hid ((Bx.new 28 #[.slice ad n cap, .int .i64 q, .int .i64 mw, .int .i64 mr, .int .i64 ms, .int .i64 lm] w).alloc (Obj.cells #[.slice bd n cbp, .int .i64 q', .int .i64 mw', .int .i64 mr', .int .i64 ms', .int .i64 lm'] 28))
    have A2' := Bx.new 28 #[.slice bd n cbp, .int .i64 q', .int .i64 mw', .int .i64 mr', .int .i64 ms', .int .i64 lm'] (w.alloc (Obj.cells #[.slice ad n cap, .int .i64 q, .int .i64 mw, .int .i64 mr, .int .i64 ms, .int .i64 lm] 28))
    rw [size_alloc1] at A2'
    have A2 := Lib.hid A2'
    have Hw := Lib.hid (((Below.refl w.heap.size w).alloc (Nat.le_refl _) (Obj.cells #[.slice ad n cap, .int .i64 q, .int .i64 mw, .int .i64 mr, .int .i64 ms, .int .i64 lm] 28)).alloc (by simp) (Obj.cells #[.slice bd n cbp, .int .i64 q', .int .i64 mw', .int .i64 mr', .int .i64 ms', .int .i64 lm'] 28))
    clear h1 h2 hln hmn hne A2'
    have hnn : (((n : Nat) : Int) != ((n : Nat) : Int)) = false := by simp
    go_enter Try.func53, Try.ntmps53
    go_wp2
    generalize (w.alloc (Obj.cells #[.slice ad n cap, .int .i64 q, .int .i64 mw, .int .i64 mr, .int .i64 ms, .int .i64 lm] 28)).alloc (Obj.cells #[.slice bd n cbp, .int .i64 q', .int .i64 mw', .int .i64 mr', .int .i64 ms', .int .i64 lm'] 28) = ww at A A2 Hw ⊢
    go_loopw [5] (fun i wr => ∃ k d : Nat, k ≤ n ∧ i = .int .i64 k ∧ sameUp l l' k ∧ wr = ww.drewN d) (fun i _ => n - (intOf i).toNat)
    case atStart => exact ⟨0, 0, by omega, rfl, rfl, rfl⟩
    case round =>
      obtain ⟨k, d, hk, rfl, hs, rfl⟩ := hrel
      have Hs := Lib.hid hs
      obtain ⟨c0, c1, c2, c3, c4, c5⟩ := A.out.cells6
      obtain ⟨d0, d1, d2, d3, d4, d5⟩ := A2.out.cells6
      have Hd := Lib.hid (below_drewN Hw.out d)
      clear hs
      by_cases hlt : k < n
      · obtain ⟨x, hx⟩ := get_of (l := l) (i := k) (by rw [HL.out]; exact hlt)
        obtain ⟨y, hy⟩ := get_of (l := l') (i := k) (by rw [HM.out]; exact hlt)
        obtain ⟨b, o, rfl, hb1, hc1⟩ := H1.out k x hx
        obtain ⟨b', o', rfl, hb2, hc2⟩ := H2.out k y hy
        obtain ⟨g0, g1, g2, g3⟩ := mc_at hc1
        obtain ⟨e0, e1, e2, e3⟩ := mc_at hc2
        rw [← below_cells Hw.out hb1] at g0 g1 g2 g3
        rw [← below_cells Hw.out hb2] at e0 e1 e2 e3
        obtain ⟨z, hz⟩ : ∃ z, sameM x y = z := ⟨_, rfl⟩
        have hq := neqMC x y
        rw [hz] at hq
        have hgd := guardMC
        have HZ := Lib.hid hz
        have HX := Lib.hid hx
        have HY := Lib.hid hy
        clear hc1 hc2 hx hy hz
        cases z with
        | true =>
          go_wp2_with fail
          go_quiet (fail)
          go_wp2_with fail
          go_roundw
          case rel => exact ⟨k + 1, d + nq, by omega, by go_num, sameUp_step HX.out HY.out Hs.out HZ.out, rfl⟩
          case measure => simp [intOf]; omega
        | false =>
          have He := Lib.hid (show sameC l q mw mr ms lm l' q' mw' mr' ms' lm' = false by unfold sameC; rw [sameL_bad HX.out HY.out HZ.out]; rfl)
          go_wp2_with fail
          go_quiet (fail)
          go_wp2_with fail
          go_ret
          exact ⟨by rw [He.out]; rfl, ⟨Hd.out.os, Hd.out.tape, Hd.out.output, Hd.out.size, Hd.out.block⟩⟩
      · obtain rfl : n = k := by omega
        obtain ⟨b2, h2⟩ : ∃ b, (q == q') = b := ⟨_, rfl⟩
        obtain ⟨b3, h3⟩ : ∃ b, (mw == mw') = b := ⟨_, rfl⟩
        obtain ⟨b4, h4⟩ : ∃ b, (mr == mr') = b := ⟨_, rfl⟩
        obtain ⟨b5, h5⟩ : ∃ b, (ms == ms') = b := ⟨_, rfl⟩
        obtain ⟨b6, h6⟩ : ∃ b, (lm == lm') = b := ⟨_, rfl⟩
        have He := Lib.hid (show sameC l q mw mr ms lm l' q' mw' mr' ms' lm' = (b2 && (b3 && (b4 && (b5 && b6)))) by unfold sameC; rw [sameL_all HL.out HM.out Hs.out, h2, h3, h4, h5, h6, Bool.true_and])
        go_wp2_with fail
        all_goals
          go_ret
          refine ⟨?_, Hd.out⟩
          rw [He.out]; simp_all
  · have He := Lib.hid (show sameC l q mw mr ms lm l' q' mw' mr' ms' lm' = false by unfold sameC; rw [sameL_len hne]; rfl)
    have hnn : (((l.length : Nat) : Int) != ((l'.length : Nat) : Int)) = true := by simp; omega
    clear h1 h2
    go_enter Try.func53, Try.ntmps53
    go_wp2
    go_ret
    exact ⟨by rw [He.out]; rfl, ((Below.refl _ _).alloc (Nat.le_refl _) _).alloc (by simp) _⟩
end Go.Proofs.Ytdhaelaoackfkaa.Num
