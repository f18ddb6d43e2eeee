
/-
  A number put into the lanes of a word: what Merge returns, for the program and for its model.
-/
import Derived.Test.YtjninjlmjllcoaaLane
import Derived.Test.YtjninjlmjllcoaaMergeMath
namespace Go.Proofs.Ytjninjlmjllcoaa.Num
open Go.RowKit Rows3

theorem belowN (w : World) (n : Nat) : Below w.heap.size w (w.drewN n) := ⟨rfl, rfl, rfl, Nat.le_refl _, fun _ _ => rfl⟩
theorem qLimit (k y : Int) (h : limW k = y) (w : World) :
    Calls Try.prog 23 #[.int .i64 k] w fun e w' => e = .returned (.int .i64 y) ∧ w' = w :=
  (specLimit k w).mono fun _ _ ⟨h1, h2⟩ => ⟨by rw [h1, h], h2.symm⟩
def mergeB (x v a k : Int) : Bool := alB a k && (inLB x 2 && inLB v k)
/-- the lanes' bits, of b numbers from 2^s on. -/
def lanePut (x v p b : Int) : Int := x - x / p % b * p + v * p
def laneP (r : Int) : Int := if r = 0 then 1 else if r = 1 then 256 else if r = 2 then 65536 else 16777216
def mergeW (x v a k : Int) : Int := if mergeB x v a k = true then lanePut x v (laneP (a % 4)) (limW k) else x
theorem mergeW_no {x v a k : Int} (h : mergeB x v a k = false) : mergeW x v a k = x := by unfold mergeW; rw [h]; rfl
/-- the seven ways. -/
theorem merge_ways {x v a k : Int} (h : mergeB x v a k = true) : 0 ≤ x ∧ x < 4294967296 ∧ 0 ≤ v ∧ v < limW k ∧ 0 ≤ a ∧ mergeW x v a k = lanePut x v (laneP (a % 4)) (limW k) ∧ ((k = 0 ∧ (a % 4 = 0 ∨ a % 4 = 1 ∨ a % 4 = 2 ∨ a % 4 = 3)) ∨ (k = 1 ∧ (a % 4 = 0 ∨ a % 4 = 2)) ∨ (k = 2 ∧ a % 4 = 0)) := by
  have h' := h
  unfold mergeB at h
  rw [Bool.and_eq_true, Bool.and_eq_true, alB_iff, inLB_iff, inLB_iff] at h
  obtain ⟨⟨h1, h2, h3⟩, ⟨h4, h5⟩, h6, h7⟩ := h
  refine ⟨h4, h5, h6, h7, h2, by unfold mergeW; rw [if_pos h'], ?_⟩
  rcases bytesW_cases k with e | ⟨e0, e⟩ | ⟨e0, e⟩ | ⟨e0, e⟩
  · omega
  all_goals
    rw [e] at h3
    subst e0
    omega

set_option maxHeartbeats 1000000 in
theorem implMerge_no (x v a k : Int) (h : mergeB x v a k = false) (w : World) :
    Calls Try.prog 19 #[.int .i64 x, .int .i64 v, .int .i64 a, .int .i64 k] w fun e w' => e = .returned (.int .i64 x) ∧ w = w' := by
  obtain ⟨A, hA⟩ : ∃ A, alB a k = A := ⟨_, rfl⟩
  obtain ⟨X, hX⟩ : ∃ X, inLB x 2 = X := ⟨_, rfl⟩
  obtain ⟨V, hV⟩ : ∃ V, inLB v k = V := ⟨_, rfl⟩
  have hf : (A && (X && V)) = false := by rw [← hA, ← hX, ← hV]; exact h
  have Ha := Lib.hid hA
  have Hx := Lib.hid hX
  have Hv := Lib.hid hV
  have hlb := limW_bd k
  generalize hl : limW k = lim at hlb
  have Hl := Lib.hid hl
  clear hA hX hV h hl
  cases A
  · go_enter Try.func19, Try.ntmps19
    go_wp2_with fail
    refine (implAligned _ _ _).mono ?_
    rintro e w' ⟨rfl, rfl⟩
    rw [Ha.out]
    go_wp2
    go_ret
    exact ⟨rfl, rfl⟩
  · cases X
    · go_enter Try.func19, Try.ntmps19
      go_wp2_with fail
      refine (implAligned _ _ _).mono ?_
      rintro e w' ⟨rfl, rfl⟩
      rw [Ha.out]
      go_wp2_with fail
      refine (implIn x 2 _).mono ?_
      rintro e w' ⟨rfl, rfl⟩
      rw [Hx.out]
      go_wp2
      go_ret
      exact ⟨rfl, rfl⟩
    · cases V
      · go_enter Try.func19, Try.ntmps19
        go_wp2_with fail
        refine (implAligned _ _ _).mono ?_
        rintro e w' ⟨rfl, rfl⟩
        rw [Ha.out]
        go_wp2_with fail
        refine (implIn x 2 _).mono ?_
        rintro e w' ⟨rfl, rfl⟩
        rw [Hx.out]
        go_wp2_with fail
        refine (implIn v k _).mono ?_
        rintro e w' ⟨rfl, rfl⟩
        rw [Hv.out]
        go_wp2
        go_ret
        exact ⟨rfl, rfl⟩
      · cases hf

set_option maxHeartbeats 4000000 in
theorem implMerge_yes (x v a k : Int) (h : mergeB x v a k = true) (w : World) :
    Calls Try.prog 19 #[.int .i64 x, .int .i64 v, .int .i64 a, .int .i64 k] w fun e w' => e = .returned (.int .i64 (mergeW x v a k)) ∧ Below w.heap.size w w' := by
  obtain ⟨x0, x1, v0, v1, a0, hw, hway⟩ := merge_ways h
  unfold mergeB at h
  rw [Bool.and_eq_true, Bool.and_eq_true] at h
  have Ha := Lib.hid h.1
  have Hx := Lib.hid h.2.1
  have Hv := Lib.hid h.2.2
  have Hw := Lib.hid hw
  generalize mergeW x v a k = W at Hw ⊢
  clear h hw
  rcases hway with ⟨rfl, hr | hr | hr | hr⟩ | ⟨rfl, hr | hr⟩ | ⟨rfl, hr⟩
  · rw [show limW 0 = 256 from rfl] at v1
    have Hw2 := Lib.hid (show W = lanePut x v 1 256 by rw [Hw.out, hr]; rfl)
    clear Hw
    have Hm := Lib.hid (mergeBits x v 0 8 x0 x1 v0 (by simpa using v1) (by omega))
    go_enter Try.func19, Try.ntmps19
    go_wp2_with fail
    refine (implAligned _ _ _).mono ?_
    rintro e w' ⟨rfl, rfl⟩
    rw [Ha.out]
    go_wp2_with fail
    refine (implIn x 2 _).mono ?_
    rintro e w' ⟨rfl, rfl⟩
    rw [Hx.out]
    go_wp2_with fail
    refine (implIn v 0 _).mono ?_
    rintro e w' ⟨rfl, rfl⟩
    rw [Hv.out]
    go_wp2_with fail
    refine (implLimit 0 _).mono ?_
    rintro e w' ⟨rfl, rfl⟩
    rw [show limW 0 = 256 from rfl]
    go_wp2
    go_ret
    exact ⟨by rw [Hw2.out]; unfold lanePut; have h := Hm.out; simp at h ⊢; exact h, Below.refl _ _⟩
  · rw [show limW 0 = 256 from rfl] at v1
    have Hw2 := Lib.hid (show W = lanePut x v 256 256 by rw [Hw.out, hr]; rfl)
    clear Hw
    have Hm := Lib.hid (mergeBits x v 8 8 x0 x1 v0 (by simpa using v1) (by omega))
    go_enter Try.func19, Try.ntmps19
    go_wp2_with fail
    refine (implAligned _ _ _).mono ?_
    rintro e w' ⟨rfl, rfl⟩
    rw [Ha.out]
    go_wp2_with fail
    refine (implIn x 2 _).mono ?_
    rintro e w' ⟨rfl, rfl⟩
    rw [Hx.out]
    go_wp2_with fail
    refine (implIn v 0 _).mono ?_
    rintro e w' ⟨rfl, rfl⟩
    rw [Hv.out]
    go_wp2_with fail
    refine (implLimit 0 _).mono ?_
    rintro e w' ⟨rfl, rfl⟩
    rw [show limW 0 = 256 from rfl]
    go_wp2
    go_ret
    exact ⟨by rw [Hw2.out]; unfold lanePut; have h := Hm.out; simp at h ⊢; exact h, Below.refl _ _⟩
  · rw [show limW 0 = 256 from rfl] at v1
    have Hw2 := Lib.hid (show W = lanePut x v 65536 256 by rw [Hw.out, hr]; rfl)
    clear Hw
    have Hm := Lib.hid (mergeBits x v 16 8 x0 x1 v0 (by simpa using v1) (by omega))
    go_enter Try.func19, Try.ntmps19
    go_wp2_with fail
    refine (implAligned _ _ _).mono ?_
    rintro e w' ⟨rfl, rfl⟩
    rw [Ha.out]
    go_wp2_with fail
    refine (implIn x 2 _).mono ?_
    rintro e w' ⟨rfl, rfl⟩
    rw [Hx.out]
    go_wp2_with fail
    refine (implIn v 0 _).mono ?_
    rintro e w' ⟨rfl, rfl⟩
    rw [Hv.out]
    go_wp2_with fail
    refine (implLimit 0 _).mono ?_
    rintro e w' ⟨rfl, rfl⟩
    rw [show limW 0 = 256 from rfl]
    go_wp2
    go_ret
    exact ⟨by rw [Hw2.out]; unfold lanePut; have h := Hm.out; simp at h ⊢; exact h, Below.refl _ _⟩
  · rw [show limW 0 = 256 from rfl] at v1
    have Hw2 := Lib.hid (show W = lanePut x v 16777216 256 by rw [Hw.out, hr]; rfl)
    clear Hw
    have Hm := Lib.hid (mergeBits x v 24 8 x0 x1 v0 (by simpa using v1) (by omega))
    go_enter Try.func19, Try.ntmps19
    go_wp2_with fail
    refine (implAligned _ _ _).mono ?_
    rintro e w' ⟨rfl, rfl⟩
    rw [Ha.out]
    go_wp2_with fail
    refine (implIn x 2 _).mono ?_
    rintro e w' ⟨rfl, rfl⟩
    rw [Hx.out]
    go_wp2_with fail
    refine (implIn v 0 _).mono ?_
    rintro e w' ⟨rfl, rfl⟩
    rw [Hv.out]
    go_wp2_with fail
    refine (implLimit 0 _).mono ?_
    rintro e w' ⟨rfl, rfl⟩
    rw [show limW 0 = 256 from rfl]
    go_wp2
    go_ret
    exact ⟨by rw [Hw2.out]; unfold lanePut; have h := Hm.out; simp at h ⊢; exact h, Below.refl _ _⟩
  · rw [show limW 1 = 65536 from rfl] at v1
    have Hw2 := Lib.hid (show W = lanePut x v 1 65536 by rw [Hw.out, hr]; rfl)
    clear Hw
    have Hm := Lib.hid (mergeBits x v 0 16 x0 x1 v0 (by simpa using v1) (by omega))
    go_enter Try.func19, Try.ntmps19
    go_wp2_with fail
    refine (implAligned _ _ _).mono ?_
    rintro e w' ⟨rfl, rfl⟩
    rw [Ha.out]
    go_wp2_with fail
    refine (implIn x 2 _).mono ?_
    rintro e w' ⟨rfl, rfl⟩
    rw [Hx.out]
    go_wp2_with fail
    refine (implIn v 1 _).mono ?_
    rintro e w' ⟨rfl, rfl⟩
    rw [Hv.out]
    go_wp2_with fail
    refine (implLimit 1 _).mono ?_
    rintro e w' ⟨rfl, rfl⟩
    rw [show limW 1 = 65536 from rfl]
    go_wp2
    go_ret
    exact ⟨by rw [Hw2.out]; unfold lanePut; have h := Hm.out; simp at h ⊢; exact h, Below.refl _ _⟩
  · rw [show limW 1 = 65536 from rfl] at v1
    have Hw2 := Lib.hid (show W = lanePut x v 65536 65536 by rw [Hw.out, hr]; rfl)
    clear Hw
    have Hm := Lib.hid (mergeBits x v 16 16 x0 x1 v0 (by simpa using v1) (by omega))
    go_enter Try.func19, Try.ntmps19
    go_wp2_with fail
    refine (implAligned _ _ _).mono ?_
    rintro e w' ⟨rfl, rfl⟩
    rw [Ha.out]
    go_wp2_with fail
    refine (implIn x 2 _).mono ?_
    rintro e w' ⟨rfl, rfl⟩
    rw [Hx.out]
    go_wp2_with fail
    refine (implIn v 1 _).mono ?_
    rintro e w' ⟨rfl, rfl⟩
    rw [Hv.out]
    go_wp2_with fail
    refine (implLimit 1 _).mono ?_
    rintro e w' ⟨rfl, rfl⟩
    rw [show limW 1 = 65536 from rfl]
    go_wp2
    go_ret
    exact ⟨by rw [Hw2.out]; unfold lanePut; have h := Hm.out; simp at h ⊢; exact h, Below.refl _ _⟩
  · rw [show limW 2 = 4294967296 from rfl] at v1
    have Hw2 := Lib.hid (show W = lanePut x v 1 4294967296 by rw [Hw.out, hr]; rfl)
    clear Hw
    have Hm := Lib.hid (mergeBits x v 0 32 x0 x1 v0 (by simpa using v1) (by omega))
    go_enter Try.func19, Try.ntmps19
    go_wp2_with fail
    refine (implAligned _ _ _).mono ?_
    rintro e w' ⟨rfl, rfl⟩
    rw [Ha.out]
    go_wp2_with fail
    refine (implIn x 2 _).mono ?_
    rintro e w' ⟨rfl, rfl⟩
    rw [Hx.out]
    go_wp2_with fail
    refine (implIn v 2 _).mono ?_
    rintro e w' ⟨rfl, rfl⟩
    rw [Hv.out]
    go_wp2_with fail
    refine (implLimit 2 _).mono ?_
    rintro e w' ⟨rfl, rfl⟩
    rw [show limW 2 = 4294967296 from rfl]
    go_wp2
    go_ret
    exact ⟨by rw [Hw2.out]; unfold lanePut; have h := Hm.out; simp at h ⊢; exact h, Below.refl _ _⟩

set_option maxHeartbeats 1000000 in
theorem specMerge_no (x v a k : Int) (h : mergeB x v a k = false) (w : World) :
    Calls Try.prog 20 #[.int .i64 x, .int .i64 v, .int .i64 a, .int .i64 k] w fun e w' => e = .returned (.int .i64 x) ∧ w = w' := by
  obtain ⟨A, hA⟩ : ∃ A, alB a k = A := ⟨_, rfl⟩
  obtain ⟨X, hX⟩ : ∃ X, inLB x 2 = X := ⟨_, rfl⟩
  obtain ⟨V, hV⟩ : ∃ V, inLB v k = V := ⟨_, rfl⟩
  have hf : (A && (X && V)) = false := by rw [← hA, ← hX, ← hV]; exact h
  have Ha := Lib.hid hA
  have Hx := Lib.hid hX
  have Hv := Lib.hid hV
  have hlb := limW_bd k
  generalize hl : limW k = lim at hlb
  have Hl := Lib.hid hl
  clear hA hX hV h hl
  cases A
  · go_enter Try.func20, Try.ntmps20
    go_wp2_with fail
    refine (specAligned _ _ _).mono ?_
    rintro e w' ⟨rfl, rfl⟩
    rw [Ha.out]
    go_wp2
    go_ret
    exact ⟨rfl, rfl⟩
  · cases X
    · go_enter Try.func20, Try.ntmps20
      go_wp2_with fail
      refine (specAligned _ _ _).mono ?_
      rintro e w' ⟨rfl, rfl⟩
      rw [Ha.out]
      go_wp2_with fail
      refine (specLimit 2 _).mono ?_
      rintro e w' ⟨rfl, rfl⟩
      rw [show limW 2 = 4294967296 from rfl]
      go_wp2_with fail
      refine (specIn x 2 _ rfl _).mono ?_
      rintro e w' ⟨rfl, rfl⟩
      rw [Hx.out]
      go_wp2
      go_ret
      exact ⟨rfl, rfl⟩
    · cases V
      · go_enter Try.func20, Try.ntmps20
        go_wp2_with fail
        refine (specAligned _ _ _).mono ?_
        rintro e w' ⟨rfl, rfl⟩
        rw [Ha.out]
        go_wp2_with fail
        refine (specLimit 2 _).mono ?_
        rintro e w' ⟨rfl, rfl⟩
        rw [show limW 2 = 4294967296 from rfl]
        go_wp2_with fail
        refine (specIn x 2 _ rfl _).mono ?_
        rintro e w' ⟨rfl, rfl⟩
        rw [Hx.out]
        go_wp2_with fail
        refine (specLimit k _).mono ?_
        rintro e w' ⟨rfl, rfl⟩
        rw [Hl.out]
        go_wp2_with fail
        refine (specIn v k _ (by rw [Hl.out]) _).mono ?_
        rintro e w' ⟨rfl, rfl⟩
        rw [Hv.out]
        go_wp2
        go_ret
        exact ⟨rfl, rfl⟩
      · cases hf

set_option maxHeartbeats 4000000 in
theorem specMerge_yes (x v a k : Int) (h : mergeB x v a k = true) (w : World) :
    Calls Try.prog 20 #[.int .i64 x, .int .i64 v, .int .i64 a, .int .i64 k] w fun e w' => e = .returned (.int .i64 (mergeW x v a k)) ∧ Below w.heap.size w w' := by
  obtain ⟨x0, x1, v0, v1, a0, hw, hway⟩ := merge_ways h
  unfold mergeB at h
  rw [Bool.and_eq_true, Bool.and_eq_true] at h
  have Ha := Lib.hid h.1
  have Hx := Lib.hid h.2.1
  have Hv := Lib.hid h.2.2
  have Hw := Lib.hid hw
  generalize mergeW x v a k = W at Hw ⊢
  clear h hw
  rcases hway with ⟨rfl, hr | hr | hr | hr⟩ | ⟨rfl, hr | hr⟩ | ⟨rfl, hr⟩
  · rw [show limW 0 = 256 from rfl] at v1
    have Hw2 := Lib.hid (show W = lanePut x v 1 256 by rw [Hw.out, hr]; rfl)
    clear Hw
    go_enter Try.func20, Try.ntmps20
    go_wp2_with fail
    refine (specAligned _ _ _).mono ?_
    rintro e w' ⟨rfl, rfl⟩
    rw [Ha.out]
    go_wp2_with fail
    refine (specLimit 2 _).mono ?_
    rintro e w' ⟨rfl, rfl⟩
    rw [show limW 2 = 4294967296 from rfl]
    go_wp2_with fail
    refine (specIn x 2 _ rfl _).mono ?_
    rintro e w' ⟨rfl, rfl⟩
    rw [Hx.out]
    go_wp2_with fail
    refine (specLimit 0 _).mono ?_
    rintro e w' ⟨rfl, rfl⟩
    rw [show limW 0 = 256 from rfl]
    go_wp2_with fail
    refine (specIn v 0 _ rfl _).mono ?_
    rintro e w' ⟨rfl, rfl⟩
    rw [Hv.out]
    go_wp2_with fail
    go_quiet ((go_at_call 23; exact Calls.quiet_of_same (qLimit 0 256 rfl _)))
    go_wp2
    go_ret
    exact ⟨by rw [Hw2.out]; unfold lanePut; simp, belowN _ _⟩
  · rw [show limW 0 = 256 from rfl] at v1
    have Hw2 := Lib.hid (show W = lanePut x v 256 256 by rw [Hw.out, hr]; rfl)
    clear Hw
    go_enter Try.func20, Try.ntmps20
    go_wp2_with fail
    refine (specAligned _ _ _).mono ?_
    rintro e w' ⟨rfl, rfl⟩
    rw [Ha.out]
    go_wp2_with fail
    refine (specLimit 2 _).mono ?_
    rintro e w' ⟨rfl, rfl⟩
    rw [show limW 2 = 4294967296 from rfl]
    go_wp2_with fail
    refine (specIn x 2 _ rfl _).mono ?_
    rintro e w' ⟨rfl, rfl⟩
    rw [Hx.out]
    go_wp2_with fail
    refine (specLimit 0 _).mono ?_
    rintro e w' ⟨rfl, rfl⟩
    rw [show limW 0 = 256 from rfl]
    go_wp2_with fail
    refine (specIn v 0 _ rfl _).mono ?_
    rintro e w' ⟨rfl, rfl⟩
    rw [Hv.out]
    go_wp2_with fail
    go_quiet ((go_at_call 23; exact Calls.quiet_of_same (qLimit 0 256 rfl _)))
    go_wp2
    go_ret
    exact ⟨by rw [Hw2.out]; unfold lanePut; simp, belowN _ _⟩
  · rw [show limW 0 = 256 from rfl] at v1
    have Hw2 := Lib.hid (show W = lanePut x v 65536 256 by rw [Hw.out, hr]; rfl)
    clear Hw
    go_enter Try.func20, Try.ntmps20
    go_wp2_with fail
    refine (specAligned _ _ _).mono ?_
    rintro e w' ⟨rfl, rfl⟩
    rw [Ha.out]
    go_wp2_with fail
    refine (specLimit 2 _).mono ?_
    rintro e w' ⟨rfl, rfl⟩
    rw [show limW 2 = 4294967296 from rfl]
    go_wp2_with fail
    refine (specIn x 2 _ rfl _).mono ?_
    rintro e w' ⟨rfl, rfl⟩
    rw [Hx.out]
    go_wp2_with fail
    refine (specLimit 0 _).mono ?_
    rintro e w' ⟨rfl, rfl⟩
    rw [show limW 0 = 256 from rfl]
    go_wp2_with fail
    refine (specIn v 0 _ rfl _).mono ?_
    rintro e w' ⟨rfl, rfl⟩
    rw [Hv.out]
    go_wp2_with fail
    go_quiet ((go_at_call 23; exact Calls.quiet_of_same (qLimit 0 256 rfl _)))
    go_wp2
    go_ret
    exact ⟨by rw [Hw2.out]; unfold lanePut; simp, belowN _ _⟩
  · rw [show limW 0 = 256 from rfl] at v1
    have Hw2 := Lib.hid (show W = lanePut x v 16777216 256 by rw [Hw.out, hr]; rfl)
    clear Hw
    go_enter Try.func20, Try.ntmps20
    go_wp2_with fail
    refine (specAligned _ _ _).mono ?_
    rintro e w' ⟨rfl, rfl⟩
    rw [Ha.out]
    go_wp2_with fail
    refine (specLimit 2 _).mono ?_
    rintro e w' ⟨rfl, rfl⟩
    rw [show limW 2 = 4294967296 from rfl]
    go_wp2_with fail
    refine (specIn x 2 _ rfl _).mono ?_
    rintro e w' ⟨rfl, rfl⟩
    rw [Hx.out]
    go_wp2_with fail
    refine (specLimit 0 _).mono ?_
    rintro e w' ⟨rfl, rfl⟩
    rw [show limW 0 = 256 from rfl]
    go_wp2_with fail
    refine (specIn v 0 _ rfl _).mono ?_
    rintro e w' ⟨rfl, rfl⟩
    rw [Hv.out]
    go_wp2_with fail
    go_quiet ((go_at_call 23; exact Calls.quiet_of_same (qLimit 0 256 rfl _)))
    go_wp2
    go_ret
    exact ⟨by rw [Hw2.out]; unfold lanePut; simp, belowN _ _⟩
  · rw [show limW 1 = 65536 from rfl] at v1
    have Hw2 := Lib.hid (show W = lanePut x v 1 65536 by rw [Hw.out, hr]; rfl)
    clear Hw
    go_enter Try.func20, Try.ntmps20
    go_wp2_with fail
    refine (specAligned _ _ _).mono ?_
    rintro e w' ⟨rfl, rfl⟩
    rw [Ha.out]
    go_wp2_with fail
    refine (specLimit 2 _).mono ?_
    rintro e w' ⟨rfl, rfl⟩
    rw [show limW 2 = 4294967296 from rfl]
    go_wp2_with fail
    refine (specIn x 2 _ rfl _).mono ?_
    rintro e w' ⟨rfl, rfl⟩
    rw [Hx.out]
    go_wp2_with fail
    refine (specLimit 1 _).mono ?_
    rintro e w' ⟨rfl, rfl⟩
    rw [show limW 1 = 65536 from rfl]
    go_wp2_with fail
    refine (specIn v 1 _ rfl _).mono ?_
    rintro e w' ⟨rfl, rfl⟩
    rw [Hv.out]
    go_wp2_with fail
    go_quiet ((go_at_call 23; exact Calls.quiet_of_same (qLimit 1 65536 rfl _)))
    go_wp2
    go_ret
    exact ⟨by rw [Hw2.out]; unfold lanePut; simp, belowN _ _⟩
  · rw [show limW 1 = 65536 from rfl] at v1
    have Hw2 := Lib.hid (show W = lanePut x v 65536 65536 by rw [Hw.out, hr]; rfl)
    clear Hw
    go_enter Try.func20, Try.ntmps20
    go_wp2_with fail
    refine (specAligned _ _ _).mono ?_
    rintro e w' ⟨rfl, rfl⟩
    rw [Ha.out]
    go_wp2_with fail
    refine (specLimit 2 _).mono ?_
    rintro e w' ⟨rfl, rfl⟩
    rw [show limW 2 = 4294967296 from rfl]
    go_wp2_with fail
    refine (specIn x 2 _ rfl _).mono ?_
    rintro e w' ⟨rfl, rfl⟩
    rw [Hx.out]
    go_wp2_with fail
    refine (specLimit 1 _).mono ?_
    rintro e w' ⟨rfl, rfl⟩
    rw [show limW 1 = 65536 from rfl]
    go_wp2_with fail
    refine (specIn v 1 _ rfl _).mono ?_
    rintro e w' ⟨rfl, rfl⟩
    rw [Hv.out]
    go_wp2_with fail
    go_quiet ((go_at_call 23; exact Calls.quiet_of_same (qLimit 1 65536 rfl _)))
    go_wp2
    go_ret
    exact ⟨by rw [Hw2.out]; unfold lanePut; simp, belowN _ _⟩
  · rw [show limW 2 = 4294967296 from rfl] at v1
    have Hw2 := Lib.hid (show W = lanePut x v 1 4294967296 by rw [Hw.out, hr]; rfl)
    clear Hw
    go_enter Try.func20, Try.ntmps20
    go_wp2_with fail
    refine (specAligned _ _ _).mono ?_
    rintro e w' ⟨rfl, rfl⟩
    rw [Ha.out]
    go_wp2_with fail
    refine (specLimit 2 _).mono ?_
    rintro e w' ⟨rfl, rfl⟩
    rw [show limW 2 = 4294967296 from rfl]
    go_wp2_with fail
    refine (specIn x 2 _ rfl _).mono ?_
    rintro e w' ⟨rfl, rfl⟩
    rw [Hx.out]
    go_wp2_with fail
    refine (specLimit 2 _).mono ?_
    rintro e w' ⟨rfl, rfl⟩
    rw [show limW 2 = 4294967296 from rfl]
    go_wp2_with fail
    refine (specIn v 2 _ rfl _).mono ?_
    rintro e w' ⟨rfl, rfl⟩
    rw [Hv.out]
    go_wp2_with fail
    go_quiet ((go_at_call 23; exact Calls.quiet_of_same (qLimit 2 4294967296 rfl _)))
    go_wp2
    go_ret
    exact ⟨by rw [Hw2.out]; unfold lanePut; simp, belowN _ _⟩
theorem implMerge (x v a k : Int) (w : World) :
    Calls Try.prog 19 #[.int .i64 x, .int .i64 v, .int .i64 a, .int .i64 k] w fun e w' => e = .returned (.int .i64 (mergeW x v a k)) ∧ Below w.heap.size w w' := by
  cases h : mergeB x v a k with
  | false =>
    rw [mergeW_no h]
    exact (implMerge_no x v a k h w).mono fun _ _ ⟨h1, h2⟩ => ⟨h1, by rw [h2]; exact Below.refl _ _⟩
  | true => exact implMerge_yes x v a k h w
theorem specMerge (x v a k : Int) (w : World) :
    Calls Try.prog 20 #[.int .i64 x, .int .i64 v, .int .i64 a, .int .i64 k] w fun e w' => e = .returned (.int .i64 (mergeW x v a k)) ∧ Below w.heap.size w w' := by
  cases h : mergeB x v a k with
  | false =>
    rw [mergeW_no h]
    exact (specMerge_no x v a k h w).mono fun _ _ ⟨h1, h2⟩ => ⟨h1, by rw [h2]; exact Below.refl _ _⟩
  | true => exact specMerge_yes x v a k h w
end Go.Proofs.Ytjninjlmjllcoaa.Num
