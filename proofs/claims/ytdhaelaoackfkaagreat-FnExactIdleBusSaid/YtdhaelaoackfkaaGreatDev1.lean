
/-
  The device: a new one, are two the same, is it one; for the program and for its model.
-/
import Derived.Test.YtdhaelaoackfkaaGreatKDev
import Derived.Test.YtdhaelaoackfkaaGreatEqAny
import Derived.Test.YtdhaelaoackfkaaGreatGA13
import Derived.Lib.QuietBelow
namespace Go.Proofs.YtdhaelaoackfkaaGreat.KD
open Go.RowKit Rows3 GR Num
set_option linter.unusedVariables false

theorem below_drewN' {B : Nat} {a w : World} (h : Below B a w) (n : Nat) : Below B a (w.drewN n) := ⟨h.os, h.tape, h.output, h.size, h.block⟩
/-- are all numbers words. -/
def wordB (x : Int) : Bool := inLB x 2
theorem wordB_iff (x : Int) : wordB x = true ↔ 0 ≤ x ∧ x < 4294967296 := by unfold wordB; rw [inLB_iff]; rfl
def wordsTo (l : List Int) (k : Nat) : Bool := (l.take k).all wordB
def wordsB (l : List Int) : Bool := l.all wordB
theorem wordsTo_all (l : List Int) : wordsTo l l.length = wordsB l := by unfold wordsTo wordsB; rw [List.take_length]
theorem wordsTo_succ {l : List Int} {k : Nat} (h : k < l.length) : wordsTo l (k + 1) = (wordsTo l k && wordB (l.getD k 0)) := by
  unfold wordsTo
  rw [List.take_succ_eq_append_getElem h, List.all_append, getD_lt h]
  simp only [List.all_cons, List.all_nil, Bool.and_true]
theorem wordsB_bad {l : List Int} {k : Nat} (h : k < l.length) (hx : wordB (l.getD k 0) = false) : wordsB l = false := by
  rw [← Bool.not_eq_true]
  intro ha
  unfold wordsB at ha
  rw [List.all_eq_true] at ha
  have := ha (l.getD k 0) (by rw [getD_lt h]; exact List.getElem_mem h)
  rw [hx] at this; cases this
theorem qLimit2 (w : World) : Calls Tryz.prog 62 #[.int .i64 2] w fun e w' => e = .returned (.int .i64 4294967296) ∧ w' = w :=
  (specLimit 2 w).mono fun e w' ⟨a, b⟩ => ⟨a, b.symm⟩
theorem qWord (v : Int) (u : Bool) (h : wordB v = u) (w : World) : Calls Tryz.prog 19 #[.int .i64 v, .int .i64 0, .int .i64 4294967295] w fun e w' => e = .returned (.bool u) ∧ w' = w := by
  rw [← h]; exact (specIn v 2 4294967295 rfl w).mono fun e w' ⟨a, b⟩ => ⟨a, b.symm⟩

set_option maxRecDepth 100000 in
theorem specWords (v : Value) (l : List Int) (hl : l.length ≤ 2000000) (w : World) (hv : RdI v l w) :
    Calls Tryz.prog 89 #[v] w fun e w' => e = .returned (.bool (wordsB l)) ∧ ∃ d, w' = w.drewN d := by
  obtain ⟨ad, cap, rfl, h1⟩ := hv
  obtain ⟨n, hln⟩ : ∃ n, l.length = n := ⟨_, rfl⟩
  rw [hln] at h1 hl ⊢
  have H1 := Lib.hid h1
  have HL := Lib.hid hln
  clear h1 hln
  go_enter Tryz.func89, Tryz.ntmps89
  go_wp2
  go_loopw [3] (fun i wr => ∃ k d : Nat, k ≤ n ∧ i = .int .i64 k ∧ wordsTo l k = true ∧ wr = w.drewN d) (fun i _ => n - (intOf i).toNat)
  case atStart => exact ⟨0, 0, by omega, rfl, rfl, rfl⟩
  case round =>
    obtain ⟨k, d, hk, rfl, hok, hwr⟩ := hrel
    have Hok := Lib.hid hok
    clear hok
    by_cases hlt : k < n
    · obtain ⟨b, o, rfl, hb1, hc1⟩ := H1.out k hlt
      obtain ⟨y, hy⟩ : ∃ y, l.getD k 0 = y := ⟨_, rfl⟩
      obtain ⟨u, hu⟩ : ∃ u, wordB y = u := ⟨_, rfl⟩
      rw [hy] at hc1
      have hc1 : wr.cell? ⟨b, o + k, none⟩ = some (.int .i64 y) := by rw [hwr]; exact hc1
      have Hwr := Lib.hid hwr
      have Hs := Lib.hid (wordsTo_succ (l := l) (k := k) (by rw [HL.out]; exact hlt))
      have Hb := Lib.hid (fun hx => wordsB_bad (l := l) (k := k) (by rw [HL.out]; exact hlt) hx)
      have Hu := Lib.hid hu
      rw [hy, hu] at Hs
      rw [hy, hu] at Hb
      clear hy hu hwr
      cases u with
      | true =>
        go_wp2_with fail
        go_quiet ((first | (go_at_call 62; exact Calls.quiet_of_same (qLimit2 _)) | (go_at_call 19; exact Calls.quiet_of_same (qWord _ _ Hu.out _))))
        go_wp2_with fail
        go_roundw
        case rel => exact ⟨k + 1, d + nq, by omega, by go_num, by rw [Hs.out, Hok.out]; rfl, by rw [Hwr.out, World.drewN_drewN]⟩
        case measure => simp [intOf]; omega
      | false =>
        have Hbad := Lib.hid (Hb.out rfl)
        go_wp2_with fail
        go_quiet ((first | (go_at_call 62; exact Calls.quiet_of_same (qLimit2 _)) | (go_at_call 19; exact Calls.quiet_of_same (qWord _ _ Hu.out _))))
        go_wp2_with fail
        go_ret
        exact ⟨by rw [Hbad.out]; rfl, d + nq, by rw [Hwr.out, World.drewN_drewN]⟩
    · obtain rfl : k = n := by omega
      have He : Hid (wordsB l = true) := Lib.hid (by rw [← wordsTo_all, HL.out, Hok.out])
      go_wp2
      go_ret
      exact ⟨by rw [He.out]; rfl, d, rfl⟩
set_option maxRecDepth 100000 in
theorem implWords (v : Value) (l : List Int) (hl : l.length ≤ 2000000) (w : World) (hv : RdI v l w) :
    Calls Tryz.prog 111 #[v] w fun e w' => e = .returned (.bool (wordsB l)) ∧ w = w' := by
  obtain ⟨ad, cap, rfl, h1⟩ := hv
  obtain ⟨n, hln⟩ : ∃ n, l.length = n := ⟨_, rfl⟩
  rw [hln] at h1 hl ⊢
  have H1 := Lib.hid h1
  have HL := Lib.hid hln
  clear h1 hln
  go_enter Tryz.func111, Tryz.ntmps111
  go_wp2
  go_loop [7] (fun i => ∃ k : Nat, k ≤ n ∧ i = .int .i64 k ∧ wordsTo l k = true) (fun i => n - (intOf i).toNat)
  case atStart => exact ⟨0, by omega, rfl, rfl⟩
  case round =>
    obtain ⟨k, hk, rfl, hok⟩ := hrel
    have Hok := Lib.hid hok
    clear hok
    by_cases hlt : k < n
    · obtain ⟨b, o, rfl, hb1, hc1⟩ := H1.out k hlt
      obtain ⟨y, hy⟩ : ∃ y, l.getD k 0 = y := ⟨_, rfl⟩
      obtain ⟨u, hu⟩ : ∃ u, wordB y = u := ⟨_, rfl⟩
      rw [hy] at hc1
      have Hs := Lib.hid (wordsTo_succ (l := l) (k := k) (by rw [HL.out]; exact hlt))
      have Hb := Lib.hid (fun hx => wordsB_bad (l := l) (k := k) (by rw [HL.out]; exact hlt) hx)
      rw [hy, hu] at Hs
      rw [hy, hu] at Hb
      have Hu : Hid (inLB y 2 = u) := Lib.hid hu
      clear hy hu
      cases u with
      | true =>
        go_wp2_with (go_at_call 103; refine (implIn _ _ _).mono ?_; rintro e w' ⟨rfl, rfl⟩; rw [Hu.out])
        go_round
        case rel => exact ⟨k + 1, by omega, by go_num, by rw [Hs.out, Hok.out]; rfl⟩
        case measure => simp [intOf]; omega
      | false =>
        have Hbad := Lib.hid (Hb.out rfl)
        go_wp2_with (go_at_call 103; refine (implIn _ _ _).mono ?_; rintro e w' ⟨rfl, rfl⟩; rw [Hu.out])
        go_ret
        exact ⟨by rw [Hbad.out]; rfl, rfl⟩
    · obtain rfl : k = n := by omega
      have He : Hid (wordsB l = true) := Lib.hid (by rw [← wordsTo_all, HL.out, Hok.out])
      go_wp2
      go_ret
      exact ⟨by rw [He.out]; rfl, rfl⟩

theorem specWords_is {v : Value} {l : List Int} {u : Bool} (hu : wordsB l = u) (hl : l.length ≤ 2000000) (w : World) (hv : RdI v l w) :
    Calls Tryz.prog 89 #[v] w fun e w' => e = .returned (.bool u) ∧ Below w.heap.size w w' :=
  (specWords v l hl w hv).mono fun _ _ ⟨x, d, y⟩ => ⟨by rw [x, hu], by rw [y]; exact below_drewN' (Below.refl _ _) _⟩
theorem implWords_is {v : Value} {l : List Int} {u : Bool} (hu : wordsB l = u) (hl : l.length ≤ 2000000) (w : World) (hv : RdI v l w) :
    Calls Tryz.prog 111 #[v] w fun e w' => e = .returned (.bool u) ∧ w = w' :=
  (implWords v l hl w hv).mono fun _ _ ⟨x, y⟩ => ⟨by rw [x, hu], y⟩
theorem limit2_is (w : World) : Calls Tryz.prog 62 #[.int .i64 2] w fun e w' => e = .returned (.int .i64 4294967296) ∧ Below w.heap.size w w' :=
  (specLimit 2 w).mono fun e w' ⟨a, b⟩ => ⟨a, by rw [b]; exact Below.refl _ _⟩
theorem word_is {v : Int} {u : Bool} (h : wordB v = u) (w : World) : Calls Tryz.prog 19 #[.int .i64 v, .int .i64 0, .int .i64 4294967295] w fun e w' => e = .returned (.bool u) ∧ Below w.heap.size w w' := by
  rw [← h]; exact (specIn v 2 4294967295 rfl w).mono fun e w' ⟨a, b⟩ => ⟨a, by rw [b]; exact Below.refl _ _⟩

/-- is it a device. -/
def okD (r : List Int) (t : Int) (f : List Int) : Bool := (r.length : Int) == 4 && (wordsB r && (wordB t && (decide ((f.length : Int) ≤ 4) && wordsB f)))
set_option maxHeartbeats 4000000 in
set_option maxRecDepth 100000 in
theorem specDevOk (cs : List Value) (r : List Int) (t : Int) (f : List Int) (hr : r.length ≤ 2000000) (hf : f.length ≤ 2000000) (w : World) (h : devK.rd cs (r, t, f) w) :
    Calls Tryz.prog 58 #[agg cs] w fun e w' => e = .returned (.bool (okD r t f)) ∧ Below w.heap.size w w' := by
  obtain ⟨a0, p0, a2, p2, rfl, h0, h2⟩ := dev_form h
  obtain ⟨_, _, e0, _, R0⟩ := rd_ints h0
  obtain ⟨_, _, e2, _, R2⟩ := rd_ints h2
  cases e0
  cases e2
  have H0 := Lib.hid R0
  have H2 := Lib.hid R2
  clear h h0 h2 R0 R2
  obtain ⟨n, hn⟩ : ∃ n, r.length = n := ⟨_, rfl⟩
  obtain ⟨m, hm⟩ : ∃ m, f.length = m := ⟨_, rfl⟩
  obtain ⟨b2, hb2⟩ : ∃ b, wordsB r = b := ⟨_, rfl⟩
  obtain ⟨b3, hb3⟩ : ∃ b, wordB t = b := ⟨_, rfl⟩
  obtain ⟨b5, hb5⟩ : ∃ b, wordsB f = b := ⟨_, rfl⟩
  have He := Lib.hid (show okD r t f = ((n : Int) == 4 && (b2 && (b3 && (decide ((m : Int) ≤ 4) && b5)))) by unfold okD; rw [hn, hm, hb2, hb3, hb5])
  rw [hn] at H0
  rw [hm] at H2
  have B2 := Lib.hid hb2
  have B3 := Lib.hid hb3
  have B5 := Lib.hid hb5
  have A0 := Bx.new 48 #[.slice a0 n p0, .int .i64 t, .slice a2 m p2] w
  have HB := Lib.hid ((Below.refl w.heap.size w).alloc (Nat.le_refl _) (Obj.cells #[.slice a0 n p0, .int .i64 t, .slice a2 m p2] 48))
  have g0 := fun d os => cell_regrown (A0.cell 0 _ rfl) d os
  have g1 := fun d os => cell_regrown (A0.cell 1 _ rfl) d os
  have g2 := fun d os => cell_regrown (A0.cell 2 _ rfl) d os
  rw [hn, hm]
  have hlr := Lib.hid hr
  have hlf := Lib.hid hf
  rw [hn] at hr
  rw [hm] at hf
  clear hb2 hb3 hb5 A0 hn hm
  show Calls _ _ #[.agg #[.slice a0 n p0, .int .i64 t, .slice a2 m p2]] w _
  obtain ⟨b1, hb1⟩ : ∃ b, ((n : Int) == 4) = b := ⟨_, rfl⟩
  obtain ⟨b4, hb4⟩ : ∃ b, decide ((m : Int) ≤ 4) = b := ⟨_, rfl⟩
  have E1 := Lib.hid hb1
  have E4 := Lib.hid hb4
  have paths : b1 = false ∨ (b1 = true ∧ b2 = false) ∨ (b1 = true ∧ b2 = true ∧ b3 = false) ∨ (b1 = true ∧ b2 = true ∧ b3 = true ∧ b4 = false) ∨ (b1 = true ∧ b2 = true ∧ b3 = true ∧ b4 = true ∧ b5 = false) ∨ (b1 = true ∧ b2 = true ∧ b3 = true ∧ b4 = true ∧ b5 = true) := by
    cases b1 <;> cases b2 <;> cases b3 <;> cases b4 <;> cases b5 <;> simp
  have HLR := hlr
  rcases paths with rfl | ⟨rfl, rfl⟩ | ⟨rfl, rfl, rfl⟩ | ⟨rfl, rfl, rfl, rfl⟩ | ⟨rfl, rfl, rfl, rfl, rfl⟩ | ⟨rfl, rfl, rfl, rfl, rfl⟩
  all_goals go_enter Tryz.func58, Tryz.ntmps58
  all_goals go_wp2_with fail
  all_goals refine wp_region_quiet_below (by kernel_rfl) (by kernel_rfl) ?_
  all_goals (repeat (go_big_quiet_step (first
    | (go_at_call 62; exact Calls.regrown_of (limit2_is _))
    | (go_at_call 19; exact Calls.regrown_of (word_is B3.out _))
    | (go_at_call 89; first
      | (with_reducible exact Calls.regrown_of (specWords_is B2.out hlr.out _ (H0.out.below (HB.out.trans ((below_regrown _ _ _).mono HB.out.size)))))
      | (with_reducible exact Calls.regrown_of (specWords_is B5.out hlf.out _ (H2.out.below (HB.out.trans ((below_regrown _ _ _).mono HB.out.size)))))))))
  all_goals refine wpQuiet_nil ?_
  all_goals rintro _ ⟨⟨dq, osq⟩, rfl⟩
  all_goals go_wp2_with fail
  all_goals go_ret
  all_goals exact ⟨by rw [He.out, E1.out, E4.out]; rfl, HB.out.trans ((below_regrown _ dq osq).mono HB.out.size)⟩
end Go.Proofs.YtdhaelaoackfkaaGreat.KD
