
/-
  Whether a request is one: ReqOk, for the program and for its model.
-/
import Derived.Test.YtijilhaoknpeeaaReq
import Derived.Deep.RegionHeld3
import Derived.WalkSmall
import Derived.IntWalk
namespace Go.Proofs.Ytijilhaoknpeeaa.Num
open Go.RowKit Rows3

/-- is it a request: its beats possible, its data fit. -/
def okR (q : Bool) (x y z : Int) (l : List Int) : Bool :=
  okL (addrsW x y z) x && (if q then decide ((l.length : Int) = beatsW z) && l.all (fun v => inLB v y) else decide (l.length = 0))
theorem okR_burst {q : Bool} {x y z : Int} {l : List Int} (h : okL (addrsW x y z) x = false) : okR q x y z l = false := by unfold okR; rw [h]; rfl
theorem okR_read {x y z : Int} {l : List Int} (h : okL (addrsW x y z) x = true) : okR false x y z l = ((l.length : Int) == 0) := by
  unfold okR; rw [h, if_neg (by simp), Bool.true_and, Bool.eq_iff_iff, decide_eq_true_iff, beq_iff_eq]; omega
theorem okR_len {x y z : Int} {l : List Int} (hl : ¬ (l.length : Int) = beatsW z) : okR true x y z l = false := by
  unfold okR; rw [if_pos rfl, decide_eq_false hl, Bool.false_and, Bool.and_false]
theorem okR_bad {q : Bool} {x y z : Int} {l : List Int} {j : Nat} (hj : j < l.length) (hb : inLB (l.getD j 0) y = false) : okR q x y z l = false := by
  unfold okR
  have h1 : (l.all fun v => inLB v y) = false := by
    rw [List.all_eq_false]
    exact ⟨l[j], List.getElem_mem hj, by rw [← getD_lt hj, hb]; simp⟩
  have h2 : decide (l.length = 0) = false := by rw [decide_eq_false_iff_not]; omega
  rw [h1]
  cases q
  · rw [if_neg (by simp), h2, Bool.and_false]
  · rw [if_pos rfl, Bool.and_false, Bool.and_false]
/-- the first j fit. -/
def FitTo (l : List Int) (y : Int) (j : Nat) : Prop := ∀ i, i < j → inLB (l.getD i 0) y = true
theorem FitTo.step {l : List Int} {y : Int} {j : Nat} (h : FitTo l y j) (h1 : inLB (l.getD j 0) y = true) : FitTo l y (j + 1) := by
  intro i hi
  by_cases hj : i = j
  · rw [hj]; exact h1
  · exact h i (by omega)
theorem okR_fit {q : Bool} {x y z : Int} {l : List Int} (hb : okL (addrsW x y z) x = true) (hf : FitTo l y l.length) : okR q x y z l = (if q then decide ((l.length : Int) = beatsW z) else decide (l.length = 0)) := by
  unfold okR
  have h1 : (l.all fun v => inLB v y) = true := by
    rw [List.all_eq_true]
    intro v hv
    obtain ⟨i, hi, rfl⟩ := List.getElem_of_mem hv
    rw [← getD_lt hi]; exact hf i hi
  rw [hb, h1]; cases q <;> simp
theorem qBeatsI (z m : Int) (h : beatsW z = m) (w : World) : Calls Try.prog 98 #[.int .i64 z] w fun e w' => e = .returned (.int .i64 m) ∧ w' = w := by
  rw [← h]; exact (implBeats z w).mono fun e w' ⟨a, b⟩ => ⟨a, b.symm⟩

set_option maxRecDepth 100000 in
theorem implReqOk (q : Bool) (x y z : Int) (k : Bool) (v : Value) (l : List Int) (hl : l.length ≤ 2000000) (w : World) (hv : RdI v l w) :
    Calls Try.prog 67 #[.agg #[.bool q, .int .i64 x, .int .i64 y, .int .i64 z, .bool k, v]] w fun e w' => e = .returned (.bool (okR q x y z l)) ∧ Below w.heap.size w w' := by
  obtain ⟨ad, cap, rfl, hr⟩ := hv
  have Hr := Lib.hid hr
  obtain ⟨bo, hbo⟩ : ∃ bo, okL (addrsW x y z) x = bo := ⟨_, rfl⟩
  have Hbo := Lib.hid hbo
  obtain ⟨n, hn⟩ : ∃ n, l.length = n := ⟨_, rfl⟩
  rw [hn] at Hr hl ⊢
  have Hn := Lib.hid hn
  obtain ⟨m, hm⟩ : ∃ m, beatsW z = m := ⟨_, rfl⟩
  have Hm := Lib.hid hm
  clear hr hbo hn hm
  have B0 := Blk.new 35 (.bool q) (.int .i64 x) (.int .i64 y) (.int .i64 z) (.bool k) (.slice ad n cap) w
  cases bo with
  | false =>
    have He := Lib.hid (okR_burst (q := q) (l := l) Hbo.out)
    clear B0
    go_enter Try.func67, Try.ntmps67
    go_wp2_with fail
    refine (implOk _ _ _ _).mono ?_
    rintro e w1 ⟨rfl, hb⟩
    rw [Hbo.out]
    go_wp2
    go_ret
    exact ⟨by rw [He.out]; rfl, below_alloc1 (Below.refl _ _) (Nat.le_refl _) hb⟩
  | true =>
    go_enter Try.func67, Try.ntmps67
    go_wp2_with fail
    refine (implOk _ _ _ _).mono ?_
    rintro e w1 ⟨rfl, hb⟩
    rw [Hbo.out]
    obtain ⟨g0, g1, g2, g3, g4, g5⟩ := (B0.later hb).cells
    have Hb := Lib.hid (below_alloc1 (Below.refl _ _) (Nat.le_refl _) hb)
    clear B0 hb
    cases q with
    | false =>
      have He := Lib.hid (okR_read (l := l) Hbo.out)
      rw [Hn.out] at He
      go_wp2
      go_ret
      exact ⟨by rw [He.out]; rfl, Hb.out⟩
    | true =>
      by_cases hnm : (n : Int) = m
      · have hq1 : ((n : Int) != m) = false := by simp [hnm]
        have Hnm := Lib.hid hnm
        clear hnm
        go_wp2_with fail
        go_quiet ((first | (go_at_call 98; exact Calls.quiet_of_same (qBeatsI _ _ Hm.out _)) | fail))
        go_wp2_with fail
        go_loop [30] (fun i => ∃ j : Nat, j ≤ n ∧ i = .int .i64 j ∧ FitTo l y j) (fun i => n - (intOf i).toNat)
        case atStart => exact ⟨0, by omega, rfl, fun i hi => by omega⟩
        case round =>
          obtain ⟨j, hj, rfl, hok⟩ := hrel
          have Hk := Lib.hid hok
          clear hok
          by_cases hlt : j < n
          · obtain ⟨bb, o, rfl, hb1, hc1⟩ := Hr.out j hlt
            rw [← Hb.out.cell (p := ⟨bb, o + j, none⟩) hb1] at hc1
            obtain ⟨u, hu⟩ : ∃ u, inLB (l.getD j 0) y = u := ⟨_, rfl⟩
            have Hu := Lib.hid hu
            clear hu
            obtain ⟨c, hcc⟩ : ∃ c, l.getD j 0 = c := ⟨_, rfl⟩
            rw [hcc] at hc1
            have Hc := Lib.hid hcc
            have Huc : Hid (inLB c y = u) := Lib.hid (by rw [← Hc.out]; exact Hu.out)
            clear hcc
            cases u with
            | true =>
              go_wp2_with (go_at_call 105; refine (implIn _ _ _).mono ?_; rintro e w' ⟨rfl, rfl⟩; rw [Huc.out])
              go_round
              case rel => exact ⟨j + 1, by omega, by go_num, Hk.out.step Hu.out⟩
              case measure => simp [intOf]; omega
            | false =>
              have He := Lib.hid (okR_bad (q := true) (x := x) (z := z) (by rw [Hn.out]; exact hlt) Hu.out)
              go_wp2_with (go_at_call 105; refine (implIn _ _ _).mono ?_; rintro e w' ⟨rfl, rfl⟩; rw [Huc.out])
              go_ret
              exact ⟨by rw [He.out]; rfl, below_drewN Hb.out _⟩
          · obtain rfl : j = n := by omega
            have He := Lib.hid (show okR true x y z l = true by rw [okR_fit Hbo.out (fun i hi => Hk.out i (by rw [← Hn.out]; exact hi)), if_pos rfl, Hn.out, Hm.out, decide_eq_true_iff]; exact Hnm.out)
            go_wp2
            go_ret
            exact ⟨by rw [He.out]; rfl, below_drewN Hb.out _⟩
      · have hq1 : ((n : Int) != m) = true := by simp [hnm]
        have He := Lib.hid (okR_len (x := x) (y := y) (z := z) (l := l) (by rw [Hn.out, Hm.out]; exact hnm))
        clear hnm
        go_wp2_with fail
        go_quiet ((first | (go_at_call 98; exact Calls.quiet_of_same (qBeatsI _ _ Hm.out _)) | fail))
        go_wp2_with fail
        go_ret
        exact ⟨by rw [He.out]; rfl, below_drewN Hb.out _⟩

theorem beats_ok {x y z : Int} (h : okL (addrsW x y z) x = true) : 1 ≤ beatsW z := by
  unfold okL at h
  rw [Bool.and_eq_true, decide_eq_true_iff] at h
  have h1 := h.1
  unfold addrsW at h1
  split at h1
  · rw [itL_length] at h1; omega
  · simp at h1
theorem qLimitS (z m : Int) (h : limW z = m) (w : World) : Calls Try.prog 108 #[.int .i64 z] w fun e w' => e = .returned (.int .i64 m) ∧ w' = w := by
  rw [← h]; exact (specLimit z w).mono fun e w' ⟨a, b⟩ => ⟨a, b.symm⟩
theorem qInS (v k m : Int) (u : Bool) (hm : m = limW k - 1) (h : inLB v k = u) (w : World) : Calls Try.prog 90 #[.int .i64 v, .int .i64 0, .int .i64 m] w fun e w' => e = .returned (.bool u) ∧ w' = w := by
  rw [← h]; exact (specIn v k m hm w).mono fun e w' ⟨a, b⟩ => ⟨a, b.symm⟩
set_option maxHeartbeats 4000000 in
set_option maxRecDepth 100000 in
theorem specReqOk (q : Bool) (x y z : Int) (k : Bool) (v : Value) (l : List Int) (hl : l.length ≤ 2000000) (w : World) (hv : RdI v l w) :
    Calls Try.prog 69 #[.agg #[.bool q, .int .i64 x, .int .i64 y, .int .i64 z, .bool k, v]] w fun e w' => e = .returned (.bool (okR q x y z l)) ∧ Below w.heap.size w w' := by
  obtain ⟨ad, cap, rfl, hr⟩ := hv
  have Hr := Lib.hid hr
  obtain ⟨bo, hbo⟩ : ∃ bo, okL (addrsW x y z) x = bo := ⟨_, rfl⟩
  have Hbo := Lib.hid hbo
  obtain ⟨n, hn⟩ : ∃ n, l.length = n := ⟨_, rfl⟩
  rw [hn] at Hr hl ⊢
  have Hn := Lib.hid hn
  obtain ⟨m, hm⟩ : ∃ m, beatsW z = m := ⟨_, rfl⟩
  have Hm := Lib.hid hm
  have hm1 : okL (addrsW x y z) x = true → 1 ≤ m := fun h => by rw [← Hm.out]; exact beats_ok h
  have Hm1 := Lib.hid hm1
  clear hm1
  have hL := limW_bd y
  obtain ⟨L, hL0⟩ : ∃ L, limW y = L := ⟨_, rfl⟩
  rw [hL0] at hL
  have HL := Lib.hid hL0
  have hLw : IntKind.i64.wrap (L - 1) = L - 1 := IntWalk.i64_in _ (by omega)
  clear hr hbo hn hm hL0
  have B0 := Blk.new 35 (.bool q) (.int .i64 x) (.int .i64 y) (.int .i64 z) (.bool k) (.slice ad n cap) w
  cases bo with
  | false =>
    have He := Lib.hid (okR_burst (q := q) (l := l) Hbo.out)
    clear B0
    go_enter Try.func69, Try.ntmps69
    go_wp2_with fail
    refine (specOk _ _ _ _).mono ?_
    rintro e w1 ⟨rfl, hb⟩
    rw [Hbo.out]
    go_wp2
    go_ret
    exact ⟨by rw [He.out]; rfl, below_alloc1 (Below.refl _ _) (Nat.le_refl _) hb⟩
  | true =>
    go_enter Try.func69, Try.ntmps69
    go_wp2_with fail
    refine (specOk _ _ _ _).mono ?_
    rintro e w1 ⟨rfl, hb⟩
    rw [Hbo.out]
    have B1 := Lib.hid (B0.later hb)
    have Hb := Lib.hid (below_alloc1 (Below.refl _ _) (Nat.le_refl _) hb)
    clear B0 hb
    go_wp2_with fail
    go_loopw [3] (fun i wr => ∃ j : Nat, j ≤ n ∧ i = .int .i64 j ∧ FitTo l y j ∧ Below w1.heap.size w1 wr) (fun i _ => n - (intOf i).toNat)
    case atStart => exact ⟨0, by omega, rfl, fun i hi => by omega, Below.refl _ _⟩
    case round =>
      obtain ⟨j, hj, rfl, hok, hbr⟩ := hrel
      have Hk := Lib.hid hok
      have Hbr := Lib.hid (Hb.out.trans (hbr.mono Hb.out.size))
      obtain ⟨g0, g1, g2, g3, g4, g5⟩ := (B1.out.later hbr).cells
      clear hok
      by_cases hlt : j < n
      · obtain ⟨bb, o, rfl, hb1, hc1⟩ := Hr.out j hlt
        rw [← Hbr.out.cell (p := ⟨bb, o + j, none⟩) hb1] at hc1
        obtain ⟨u, hu⟩ : ∃ u, inLB (l.getD j 0) y = u := ⟨_, rfl⟩
        have Hu := Lib.hid hu
        clear hu
        obtain ⟨c, hcc⟩ : ∃ c, l.getD j 0 = c := ⟨_, rfl⟩
        rw [hcc] at hc1
        have Hc := Lib.hid hcc
        have Huc : Hid (inLB c y = u) := Lib.hid (by rw [← Hc.out]; exact Hu.out)
        have HL1 : Hid (L - 1 = limW y - 1) := Lib.hid (by rw [HL.out])
        have Hbr1 := Lib.hid hbr
        clear hcc hbr
        cases u with
        | true =>
          go_wp2_with fail
          go_quiet ((first | (go_at_call 108; exact Calls.quiet_of_same (qLimitS _ _ HL.out _)) | (go_at_call 90; exact Calls.quiet_of_same (qInS _ _ _ _ HL1.out Huc.out _))))
          go_wp2_with fail
          go_roundw
          case rel => exact ⟨j + 1, by omega, by go_num, Hk.out.step Hu.out, below_drewN Hbr1.out _⟩
          case measure => simp [intOf]; omega
        | false =>
          have He := Lib.hid (okR_bad (q := q) (x := x) (z := z) (by rw [Hn.out]; exact hlt) Hu.out)
          go_wp2_with fail
          go_quiet ((first | (go_at_call 108; exact Calls.quiet_of_same (qLimitS _ _ HL.out _)) | (go_at_call 90; exact Calls.quiet_of_same (qInS _ _ _ _ HL1.out Huc.out _))))
          go_wp2_with fail
          go_ret
          exact ⟨by rw [He.out]; rfl, below_drewN Hbr.out _⟩
      · obtain rfl : j = n := by omega
        have He := Lib.hid (show okR q x y z l = (if q then decide ((j : Int) = m) else decide (j = 0)) by rw [okR_fit Hbo.out (fun i hi => Hk.out i (by rw [← Hn.out]; exact hi)), Hn.out, Hm.out])
        have hsz : w.heap.size < wr.heap.size := (B1.out.later hbr).lt
        clear hbr
        have q0 : ∃ t, ((j : Int) == 0) = t := ⟨_, rfl⟩
        obtain ⟨t, ht⟩ := q0
        have q1 : ∃ t, ((j : Int) == m) = t := ⟨_, rfl⟩
        obtain ⟨t', ht'⟩ := q1
        have HE : Hid (decide ((j : Int) = m) = t') := Lib.hid (by rw [← ht', Bool.eq_iff_iff]; simp)
        have hj2 : j ≤ 2000000 := hl
        clear hl
        cases t with
        | true =>
          cases q with
          | false =>
            go_wp2_with fail
            go_quiet (fail)
            go_wp2_with fail
            go_ret
            exact ⟨by rw [He.out, if_neg (by simp), decide_eq_true (by simpa using ht)]; rfl, below_drewN Hbr.out _⟩
          | true =>
            obtain rfl : t' = false := by
              have hj0 : (j : Int) = 0 := by simpa using ht
              rw [← ht', beq_eq_false_iff_ne]; have := Hm1.out Hbo.out; omega
            go_wp2_with fail
            first
              | (go_region_with (go_at_call 99; refine (specBeats _ _).mono ?_; rintro e w' ⟨rfl, hb⟩; rw [Hm.out]; have hk : ∀ i, w'.cell? ⟨w.heap.size, i, none⟩ = wr.cell? ⟨w.heap.size, i, none⟩ := fun i => hb.cell (p := ⟨w.heap.size, i, none⟩) hsz))
              | fail
            all_goals
              go_wp2_with fail
              go_ret
              exact ⟨by rw [He.out, HE.out]; rfl, Hbr.out.trans ((⟨hb.os, hb.tape, hb.output, hb.size, hb.block⟩ : Below _ wr _).mono Hbr.out.size)⟩
        | false =>
            have HF := Lib.hid (show okR q x y z l = (t' && q) by
              have hj0 : ¬ j = 0 := by simpa using ht
              rw [He.out, HE.out]
              cases q
              · rw [if_neg (by simp), decide_eq_false hj0, Bool.and_false]
              · rw [if_pos rfl, Bool.and_true])
            cases t' with
            | true =>
              go_wp2_with fail
              first
                | (go_region_with (go_at_call 99; refine (specBeats _ _).mono ?_; rintro e w' ⟨rfl, hb⟩; rw [Hm.out]; have hk : ∀ i, w'.cell? ⟨w.heap.size, i, none⟩ = wr.cell? ⟨w.heap.size, i, none⟩ := fun i => hb.cell (p := ⟨w.heap.size, i, none⟩) hsz))
                | fail
              all_goals
                go_wp2_with fail
                go_ret
                exact ⟨by rw [HF.out]; cases q <;> rfl, Hbr.out.trans ((⟨hb.os, hb.tape, hb.output, hb.size, hb.block⟩ : Below _ wr _).mono Hbr.out.size)⟩
            | false =>
              go_wp2_with fail
              first
                | (go_region_with (go_at_call 99; refine (specBeats _ _).mono ?_; rintro e w' ⟨rfl, hb⟩; rw [Hm.out]; have hk : ∀ i, w'.cell? ⟨w.heap.size, i, none⟩ = wr.cell? ⟨w.heap.size, i, none⟩ := fun i => hb.cell (p := ⟨w.heap.size, i, none⟩) hsz))
                | fail
              all_goals
                go_wp2_with fail
                go_ret
                exact ⟨by rw [HF.out]; cases q <;> rfl, Hbr.out.trans ((⟨hb.os, hb.tape, hb.output, hb.size, hb.block⟩ : Below _ wr _).mono Hbr.out.size)⟩
end Go.Proofs.Ytijilhaoknpeeaa.Num
