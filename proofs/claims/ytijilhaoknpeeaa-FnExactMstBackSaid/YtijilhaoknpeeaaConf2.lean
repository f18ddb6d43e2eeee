
/-
  What chapter 6's numbers are: CostOf, SlotOf, ConfOk, for the program and for its model.
-/
import Derived.Test.YtijilhaoknpeeaaConf1
import Derived.IntWalk
import Derived.WalkSmall
namespace Go.Proofs.Ytijilhaoknpeeaa.Num
open Go.RowKit GR

/-- is it within bounds. -/
def inB (x lo hi : Int) : Bool := decide (lo ≤ x) && decide (x ≤ hi)
theorem inB_yes {x lo hi : Int} (h1 : lo ≤ x) (h2 : x ≤ hi) : inB x lo hi = true := by simp [inB, h1, h2]
theorem inB_no {x lo hi : Int} (h : x < lo ∨ hi < x) : inB x lo hi = false := by
  unfold inB; rcases h with h | h
  · rw [decide_eq_false (by omega)]; rfl
  · rw [decide_eq_false (p := x ≤ hi) (by omega)]; simp
theorem inB_iff {x lo hi : Int} : inB x lo hi = true ↔ lo ≤ x ∧ x ≤ hi := by simp [inB]
theorem l1In_any (x lo hi : Int) (w : World) :
    Calls Try.prog 90 #[.int .i64 x, .int .i64 lo, .int .i64 hi] w fun e w' => e = .returned (.bool (inB x lo hi)) ∧ w = w' := by
  by_cases h0 : lo ≤ x
  · by_cases h1 : x ≤ hi
    · have He := Lib.hid (inB_yes h0 h1)
      go_enter Try.func90, Try.ntmps90
      go_wp2
      go_ret
      exact ⟨by rw [He.out]; rfl, rfl⟩
    · have He := Lib.hid (inB_no (x := x) (lo := lo) (hi := hi) (by omega))
      go_enter Try.func90, Try.ntmps90
      go_wp2
      go_ret
      exact ⟨by rw [He.out]; rfl, rfl⟩
  · have h0' : x < lo := by omega
    have He := Lib.hid (inB_no (x := x) (lo := lo) (hi := hi) (by omega))
    go_enter Try.func90, Try.ntmps90
    go_wp2
    go_ret
    exact ⟨by rw [He.out]; rfl, rfl⟩
theorem within_any (x lo hi : Int) (w : World) :
    Calls Try.prog 64 #[.int .i64 x, .int .i64 lo, .int .i64 hi] w fun e w' => e = .returned (.bool (inB x lo hi)) ∧ w = w' := by
  by_cases h0 : lo ≤ x
  · by_cases h1 : x ≤ hi
    · have He := Lib.hid (inB_yes h0 h1)
      go_enter Try.func64, Try.ntmps64
      go_wp2
      go_ret
      exact ⟨by rw [He.out]; rfl, rfl⟩
    · have He := Lib.hid (inB_no (x := x) (lo := lo) (hi := hi) (by omega))
      go_enter Try.func64, Try.ntmps64
      go_wp2
      go_ret
      exact ⟨by rw [He.out]; rfl, rfl⟩
  · have h0' : x < lo := by omega
    have He := Lib.hid (inB_no (x := x) (lo := lo) (hi := hi) (by omega))
    go_enter Try.func64, Try.ntmps64
    go_wp2
    go_ret
    exact ⟨by rw [He.out]; rfl, rfl⟩
theorem within_is {x lo hi : Int} {b : Bool} (h : inB x lo hi = b) (w : World) :
    Calls Try.prog 64 #[.int .i64 x, .int .i64 lo, .int .i64 hi] w fun e w' => e = .returned (.bool b) ∧ w = w' := by rw [← h]; exact within_any x lo hi w
theorem l1In_is {x lo hi : Int} {b : Bool} (h : inB x lo hi = b) (w : World) :
    Calls Try.prog 90 #[.int .i64 x, .int .i64 lo, .int .i64 hi] w fun e w' => e = .returned (.bool b) ∧ w = w' := by rw [← h]; exact l1In_any x lo hi w
theorem l1In_isB {x lo hi : Int} {b : Bool} (h : inB x lo hi = b) (w : World) :
    Calls Try.prog 90 #[.int .i64 x, .int .i64 lo, .int .i64 hi] w fun e w' => e = .returned (.bool b) ∧ Below w.heap.size w w' :=
  (l1In_is h w).mono fun _ _ ⟨h1, h2⟩ => ⟨h1, h2 ▸ Below.refl _ _⟩

/-- the cost of a beat. -/
def costW (mr mw : Int) : Int := if inB mr 0 3 && inB mw 0 3 then (mr + 2) * (mw + 6) else 0
theorem costW_bd (mr mw : Int) : 0 ≤ costW mr mw ∧ costW mr mw ≤ 45 := by
  unfold costW; split
  · rename_i h
    rw [Bool.and_eq_true, inB_iff, inB_iff] at h
    obtain ⟨⟨h1, h2⟩, h3, h4⟩ := h
    have hmr : mr = 0 ∨ mr = 1 ∨ mr = 2 ∨ mr = 3 := by omega
    rcases hmr with rfl | rfl | rfl | rfl <;> omega
  · omega
/-- the slot. -/
def slotW (mr mw lm : Int) : Int := if costW mr mw ≠ 0 ∧ inB lm 1 40 = true then 2 * costW mr mw + lm else 0
theorem slotW_bd (mr mw lm : Int) : 0 ≤ slotW mr mw lm ∧ slotW mr mw lm ≤ 130 := by
  have h0 := costW_bd mr mw
  unfold slotW; split
  · rename_i h
    have := inB_iff.1 h.2
    omega
  · omega
set_option maxRecDepth 100000 in
theorem specCost (ad : Option Addr) (n cap : Nat) (q mw mr ms lm : Int) (w : World) :
    Calls Try.prog 126 #[.agg #[.slice ad n cap, .int .i64 q, .int .i64 mw, .int .i64 mr, .int .i64 ms, .int .i64 lm]] w fun e w' => e = .returned (.int .i64 (costW mr mw)) ∧ Below w.heap.size w w' := by
  obtain ⟨b1, h1⟩ : ∃ b, inB mr 0 3 = b := ⟨_, rfl⟩
  obtain ⟨b2, h2⟩ : ∃ b, inB mw 0 3 = b := ⟨_, rfl⟩
  have H1 := Lib.hid h1
  have H2 := Lib.hid h2
  have He := Lib.hid (show costW mr mw = if b1 && b2 then (mr + 2) * (mw + 6) else 0 by unfold costW; rw [h1, h2])
  by_cases hb : b1 = true ∧ b2 = true
  · obtain ⟨rfl, rfl⟩ := hb
    obtain ⟨h3, h4⟩ := inB_iff.1 h1
    obtain ⟨h5, h6⟩ := inB_iff.1 h2
    have hw : IntKind.i64.wrap ((mr + 2) * (mw + 6)) = (mr + 2) * (mw + 6) := by
      have hmr : mr = 0 ∨ mr = 1 ∨ mr = 2 ∨ mr = 3 := by omega
      rcases hmr with rfl | rfl | rfl | rfl <;> exact IntWalk.i64_in _ (by omega)
    clear h1 h2
    go_enter Try.func126, Try.ntmps126
    go_wp2_with (go_at_call 90; first | ((with_reducible refine (l1In_is H1.out _).mono ?_); rintro e w' ⟨rfl, rfl⟩) | ((with_reducible refine (l1In_is H2.out _).mono ?_); rintro e w' ⟨rfl, rfl⟩))
    go_ret
    exact ⟨by rw [He.out, Bool.and_self, if_pos rfl]; rfl, (Below.refl _ _).alloc (Nat.le_refl _) _⟩
  · have Hz := Lib.hid (show costW mr mw = 0 by rw [He.out, if_neg (by simpa using hb)])
    clear h1 h2 He
    cases b1 with
    | false =>
      go_enter Try.func126, Try.ntmps126
      go_wp2_with (go_at_call 90; ((with_reducible refine (l1In_is H1.out _).mono ?_); rintro e w' ⟨rfl, rfl⟩))
      go_ret
      exact ⟨by rw [Hz.out]; rfl, (Below.refl _ _).alloc (Nat.le_refl _) _⟩
    | true =>
      obtain rfl : b2 = false := by simpa using hb
      go_enter Try.func126, Try.ntmps126
      go_wp2_with (go_at_call 90; first | ((with_reducible refine (l1In_is H1.out _).mono ?_); rintro e w' ⟨rfl, rfl⟩) | ((with_reducible refine (l1In_is H2.out _).mono ?_); rintro e w' ⟨rfl, rfl⟩))
      go_ret
      exact ⟨by rw [Hz.out]; rfl, (Below.refl _ _).alloc (Nat.le_refl _) _⟩
set_option maxRecDepth 100000 in
theorem implCost (ad : Option Addr) (n cap : Nat) (q mw mr ms lm : Int) (w : World) :
    Calls Try.prog 127 #[.agg #[.slice ad n cap, .int .i64 q, .int .i64 mw, .int .i64 mr, .int .i64 ms, .int .i64 lm]] w fun e w' => e = .returned (.int .i64 (costW mr mw)) ∧ Below w.heap.size w w' := by
  obtain ⟨b1, h1⟩ : ∃ b, inB mr 0 3 = b := ⟨_, rfl⟩
  obtain ⟨b2, h2⟩ : ∃ b, inB mw 0 3 = b := ⟨_, rfl⟩
  have H1 := Lib.hid h1
  have H2 := Lib.hid h2
  have He := Lib.hid (show costW mr mw = if b1 && b2 then (mr + 2) * (mw + 6) else 0 by unfold costW; rw [h1, h2])
  by_cases hb : b1 = true ∧ b2 = true
  · obtain ⟨rfl, rfl⟩ := hb
    obtain ⟨h3, h4⟩ := inB_iff.1 h1
    obtain ⟨h5, h6⟩ := inB_iff.1 h2
    have hw : IntKind.i64.wrap ((mr + 2) * (mw + 6)) = (mr + 2) * (mw + 6) := by
      have hmr : mr = 0 ∨ mr = 1 ∨ mr = 2 ∨ mr = 3 := by omega
      rcases hmr with rfl | rfl | rfl | rfl <;> exact IntWalk.i64_in _ (by omega)
    clear h1 h2
    go_enter Try.func127, Try.ntmps127
    go_wp2_with (go_at_call 64; first | ((with_reducible refine (within_is H1.out _).mono ?_); rintro e w' ⟨rfl, rfl⟩) | ((with_reducible refine (within_is H2.out _).mono ?_); rintro e w' ⟨rfl, rfl⟩))
    go_ret
    exact ⟨by rw [He.out, Bool.and_self, if_pos rfl]; rfl, (Below.refl _ _).alloc (Nat.le_refl _) _⟩
  · have Hz := Lib.hid (show costW mr mw = 0 by rw [He.out, if_neg (by simpa using hb)])
    clear h1 h2 He
    cases b1 with
    | false =>
      go_enter Try.func127, Try.ntmps127
      go_wp2_with (go_at_call 64; ((with_reducible refine (within_is H1.out _).mono ?_); rintro e w' ⟨rfl, rfl⟩))
      go_ret
      exact ⟨by rw [Hz.out]; rfl, (Below.refl _ _).alloc (Nat.le_refl _) _⟩
    | true =>
      obtain rfl : b2 = false := by simpa using hb
      go_enter Try.func127, Try.ntmps127
      go_wp2_with (go_at_call 64; first | ((with_reducible refine (within_is H1.out _).mono ?_); rintro e w' ⟨rfl, rfl⟩) | ((with_reducible refine (within_is H2.out _).mono ?_); rintro e w' ⟨rfl, rfl⟩))
      go_ret
      exact ⟨by rw [Hz.out]; rfl, (Below.refl _ _).alloc (Nat.le_refl _) _⟩

theorem specCost_is {ad : Option Addr} {n cap : Nat} {q mw mr ms lm c : Int} (h : costW mr mw = c) (w : World) :
    Calls Try.prog 126 #[.agg #[.slice ad n cap, .int .i64 q, .int .i64 mw, .int .i64 mr, .int .i64 ms, .int .i64 lm]] w fun e w' => e = .returned (.int .i64 c) ∧ Below w.heap.size w w' := by rw [← h]; exact specCost ad n cap q mw mr ms lm w

theorem slotW_of {mr mw lm c : Int} (hc : costW mr mw = c) : slotW mr mw lm = if c ≠ 0 ∧ inB lm 1 40 = true then 2 * c + lm else 0 := by unfold slotW; rw [hc]
set_option maxRecDepth 100000 in
theorem implSlot (ad : Option Addr) (n cap : Nat) (q mw mr ms lm : Int) (w : World) :
    Calls Try.prog 114 #[.agg #[.slice ad n cap, .int .i64 q, .int .i64 mw, .int .i64 mr, .int .i64 ms, .int .i64 lm]] w fun e w' => e = .returned (.int .i64 (slotW mr mw lm)) ∧ Below w.heap.size w w' := by
  obtain ⟨c, hc⟩ : ∃ c, costW mr mw = c := ⟨_, rfl⟩
  have hbd := costW_bd mr mw
  rw [hc] at hbd
  obtain ⟨c0, c1⟩ := hbd
  have Hs := Lib.hid (slotW_of (lm := lm) hc)
  have Hc := Lib.hid hc
  have A := Bx.new 66 #[.slice ad n cap, .int .i64 q, .int .i64 mw, .int .i64 mr, .int .i64 ms, .int .i64 lm] w
  clear hc
  by_cases hz : c = 0
  · subst hz
    have Hz := Lib.hid (show slotW mr mw lm = 0 by rw [Hs.out, if_neg (by simp)])
    clear A c0 c1 Hs
    go_enter Try.func114, Try.ntmps114
    go_wp2_with fail
    refine (implCost _ _ _ _ _ _ _ _ _).mono ?_
    rintro e w1 ⟨rfl, hb⟩
    rw [Hc.out]
    go_wp2
    go_ret
    exact ⟨by rw [Hz.out]; rfl, below_alloc1 (Below.refl _ _) (Nat.le_refl _) hb⟩
  · obtain ⟨b, hb⟩ : ∃ b, inB lm 1 40 = b := ⟨_, rfl⟩
    have Hb := Lib.hid hb
    have hcz : (c == 0) = false := by simpa using hz
    cases b with
    | false =>
      have Hz := Lib.hid (show slotW mr mw lm = 0 by rw [Hs.out, if_neg (by rw [hb]; simp)])
      clear hb Hs hz
      go_enter Try.func114, Try.ntmps114
      go_wp2_with fail
      refine (implCost _ _ _ _ _ _ _ _ _).mono ?_
      rintro e w1 ⟨rfl, hb⟩
      rw [Hc.out]
      obtain ⟨g0, g1, g2, g3, g4, g5⟩ := (A.later hb).cells6
      have Hw := Lib.hid (below_alloc1 (Below.refl _ _) (Nat.le_refl _) hb)
      clear A hb
      go_wp2_with (go_at_call 64; ((with_reducible refine (within_is Hb.out _).mono ?_); rintro e w' ⟨rfl, rfl⟩))
      go_ret
      exact ⟨by rw [Hz.out]; rfl, Hw.out⟩
    | true =>
      obtain ⟨h3, h4⟩ := inB_iff.1 hb
      have Hz := Lib.hid (show slotW mr mw lm = 2 * c + lm by rw [Hs.out, if_pos ⟨hz, hb⟩])
      clear hb Hs hz
      go_enter Try.func114, Try.ntmps114
      go_wp2_with fail
      refine (implCost _ _ _ _ _ _ _ _ _).mono ?_
      rintro e w1 ⟨rfl, hb⟩
      rw [Hc.out]
      obtain ⟨g0, g1, g2, g3, g4, g5⟩ := (A.later hb).cells6
      have Hw := Lib.hid (below_alloc1 (Below.refl _ _) (Nat.le_refl _) hb)
      clear A hb
      go_wp2_with (go_at_call 64; ((with_reducible refine (within_is Hb.out _).mono ?_); rintro e w' ⟨rfl, rfl⟩))
      go_ret
      exact ⟨by rw [Hz.out]; rfl, Hw.out⟩
set_option maxRecDepth 100000 in
theorem specSlot (ad : Option Addr) (n cap : Nat) (q mw mr ms lm : Int) (w : World) :
    Calls Try.prog 111 #[.agg #[.slice ad n cap, .int .i64 q, .int .i64 mw, .int .i64 mr, .int .i64 ms, .int .i64 lm]] w fun e w' => e = .returned (.int .i64 (slotW mr mw lm)) ∧ Below w.heap.size w w' := by
  obtain ⟨c, hc⟩ : ∃ c, costW mr mw = c := ⟨_, rfl⟩
  have hbd := costW_bd mr mw
  rw [hc] at hbd
  obtain ⟨c0, c1⟩ := hbd
  have Hs := Lib.hid (slotW_of (lm := lm) hc)
  have Hc := Lib.hid hc
  have A := Bx.new 66 #[.slice ad n cap, .int .i64 q, .int .i64 mw, .int .i64 mr, .int .i64 ms, .int .i64 lm] w
  clear hc
  by_cases hz : c = 0
  · subst hz
    have Hz := Lib.hid (show slotW mr mw lm = 0 by rw [Hs.out, if_neg (by simp)])
    clear A c0 c1 Hs
    go_enter Try.func111, Try.ntmps111
    go_wp2_with fail
    refine (specCost _ _ _ _ _ _ _ _ _).mono ?_
    rintro e w1 ⟨rfl, hb⟩
    rw [Hc.out]
    go_wp2
    go_ret
    exact ⟨by rw [Hz.out]; rfl, below_alloc1 (Below.refl _ _) (Nat.le_refl _) hb⟩
  · obtain ⟨b, hb⟩ : ∃ b, inB lm 1 40 = b := ⟨_, rfl⟩
    have Hb := Lib.hid hb
    have hcz : (c == 0) = false := by simpa using hz
    cases b with
    | false =>
      have Hz := Lib.hid (show slotW mr mw lm = 0 by rw [Hs.out, if_neg (by rw [hb]; simp)])
      clear hb Hs hz
      go_enter Try.func111, Try.ntmps111
      go_wp2_with fail
      refine (specCost _ _ _ _ _ _ _ _ _).mono ?_
      rintro e w1 ⟨rfl, hb⟩
      rw [Hc.out]
      obtain ⟨g0, g1, g2, g3, g4, g5⟩ := (A.later hb).cells6
      have Hw := Lib.hid (below_alloc1 (Below.refl _ _) (Nat.le_refl _) hb)
      clear A hb
      go_wp2_with (go_at_call 90; ((with_reducible refine (l1In_is Hb.out _).mono ?_); rintro e w' ⟨rfl, rfl⟩))
      go_ret
      exact ⟨by rw [Hz.out]; rfl, Hw.out⟩
    | true =>
      obtain ⟨h3, h4⟩ := inB_iff.1 hb
      have Hz := Lib.hid (show slotW mr mw lm = 2 * c + lm by rw [Hs.out, if_pos ⟨hz, hb⟩])
      clear hb Hs hz
      go_enter Try.func111, Try.ntmps111
      go_wp2_with fail
      refine (specCost _ _ _ _ _ _ _ _ _).mono ?_
      rintro e w1 ⟨rfl, hb⟩
      rw [Hc.out]
      obtain ⟨g0, g1, g2, g3, g4, g5⟩ := (A.later hb).cells6
      have Hw := Lib.hid (below_alloc1 (Below.refl _ _) (Nat.le_refl _) hb)
      clear A hb
      go_wp2_with (go_at_call 90; ((with_reducible refine (l1In_is Hb.out _).mono ?_); rintro e w' ⟨rfl, rfl⟩))
      replace g0 := fun d os => cell_regrown g0 d os
      replace g1 := fun d os => cell_regrown g1 d os
      replace g2 := fun d os => cell_regrown g2 d os
      replace g3 := fun d os => cell_regrown g3 d os
      replace g4 := fun d os => cell_regrown g4 d os
      replace g5 := fun d os => cell_regrown g5 d os
      refine wp_region_quiet_below (by kernel_rfl) (by kernel_rfl) ?_
      repeat (go_big_quiet_step ((go_at_call 126; exact Calls.regrown_of (specCost_is Hc.out _))))
      refine wpQuiet_nil ?_
      rintro _ ⟨⟨dq, osq⟩, rfl⟩
      have Hbw := Lib.hid (below_regrown w1 dq osq)
      clear g0 g1 g2 g3 g4 g5
      go_wp2_with fail
      go_ret
      exact ⟨by rw [Hz.out]; rfl, Hw.out.trans (Hbw.out.mono Hw.out.size)⟩
end Go.Proofs.Ytijilhaoknpeeaa.Num
