
/-
  What the functions of chapter 3 return, for the program and for its model, whatever the world.
-/
import Derived.Test.YtijilhaoknpeeaaSig
import Derived.Test.YtijilhaoknpeeaaIntRow
namespace Go.Proofs.Ytijilhaoknpeeaa.Num
open Go.RowKit Rows3

/-- how many beats a burst has. -/
def beatsW (b : Int) : Int := if b = 0 then 1 else if b = 1 then 4 else if b = 2 then 4 else if b = 3 then 8 else 0
theorem beatsW_no {b : Int} (h : b < 0 ∨ 3 < b) : beatsW b = 0 := by
  unfold beatsW; rw [if_neg (by omega), if_neg (by omega), if_neg (by omega), if_neg (by omega)]
theorem beatsW_bd (b : Int) : 0 ≤ beatsW b ∧ beatsW b ≤ 8 := by unfold beatsW; repeat' split <;> omega
theorem implBeats (k : Int) (w : World) :
    Calls Try.prog 98 #[.int .i64 k] w fun e w' => e = .returned (.int .i64 (beatsW k)) ∧ w = w' := by
  by_cases h : k < 0 ∨ 3 < k
  · have Hb := Lib.hid (beatsW_no h)
    have h0 : (k == 0) = false := by rw [beq_eq_false_iff_ne]; omega
    have h1 : (k == 1) = false := by rw [beq_eq_false_iff_ne]; omega
    have h2 : (k == 2) = false := by rw [beq_eq_false_iff_ne]; omega
    have h3 : (k == 3) = false := by rw [beq_eq_false_iff_ne]; omega
    go_enter Try.func98, Try.ntmps98
    go_wp2
    go_ret
    exact ⟨by rw [Hb.out]; rfl, rfl⟩
  · have hk : k = 0 ∨ k = 1 ∨ k = 2 ∨ k = 3 := by omega
    clear h
    rcases hk with rfl | rfl | rfl | rfl
    all_goals
      go_enter Try.func98, Try.ntmps98
      go_wp2
      go_ret
      exact ⟨rfl, rfl⟩
theorem specBeats (k : Int) (w : World) :
    Calls Try.prog 99 #[.int .i64 k] w fun e w' => e = .returned (.int .i64 (beatsW k)) ∧ Below w.heap.size w w' := by
  by_cases h : k < 0 ∨ 3 < k
  · have Hb := Lib.hid (beatsW_no h)
    go_enter Try.func99, Try.ntmps99
    go_wp2_with (go_at_call 90; refine (sl1In_no _ _ _ (by omega) _).mono ?_; rintro e w' ⟨rfl, rfl⟩)
    go_ret
    exact ⟨by rw [Hb.out]; rfl, Below.refl _ _⟩
  · have hk : k = 0 ∨ k = 1 ∨ k = 2 ∨ k = 3 := by omega
    clear h
    rcases hk with rfl | rfl | rfl | rfl
    all_goals
      go_enter Try.func99, Try.ntmps99
      go_wp2_with (go_at_call 90; refine (sl1In_yes _ _ _ (by omega) (by omega) _).mono ?_; rintro e w' ⟨rfl, rfl⟩)
      go_ret
      exact ⟨rfl, (Below.refl _ _).alloc (Nat.le_refl _) _⟩

/-- where the next beat goes. -/
def nextW (a k b : Int) : Int :=
  if alB a k = true ∧ a < 512 ∧ beatsW b ≠ 0 then (if b = 2 ∧ (a + bytesW k) % (4 * bytesW k) = 0 then a + bytesW k - 4 * bytesW k else a + bytesW k) else -1
theorem nextW_al {a k b : Int} (h : alB a k = false) : nextW a k b = -1 := by unfold nextW; rw [if_neg]; simp [h]
theorem nextW_far {a k b : Int} (h : 512 ≤ a) : nextW a k b = -1 := by unfold nextW; rw [if_neg]; rintro ⟨_, h2, _⟩; omega
theorem nextW_no {a k b : Int} (h : beatsW b = 0) : nextW a k b = -1 := by unfold nextW; rw [if_neg]; rintro ⟨_, _, h3⟩; exact h3 h
theorem bytesW_cases (k : Int) : bytesW k = 0 ∨ (k = 0 ∧ bytesW k = 1) ∨ (k = 1 ∧ bytesW k = 2) ∨ (k = 2 ∧ bytesW k = 4) := by
  by_cases h0 : k = 0
  · exact .inr (.inl ⟨h0, by rw [h0]; rfl⟩)
  · by_cases h1 : k = 1
    · exact .inr (.inr (.inl ⟨h1, by rw [h1]; rfl⟩))
    · by_cases h2 : k = 2
      · exact .inr (.inr (.inr ⟨h2, by rw [h2]; rfl⟩))
      · exact .inl (by unfold bytesW; rw [if_neg h0, if_neg h1, if_neg h2])
theorem alB_iff (a k : Int) : alB a k = true ↔ 0 < bytesW k ∧ 0 ≤ a ∧ a % bytesW k = 0 := by
  unfold alB; simp [Bool.and_eq_true, beq_iff_eq]
theorem nextW_bd (a k b : Int) : nextW a k b = -1 ∨ (0 ≤ nextW a k b ∧ nextW a k b ≤ 515) := by
  unfold nextW
  split
  · rename_i h
    obtain ⟨h1, h2, h3⟩ := h
    obtain ⟨h4, h5, h6⟩ := (alB_iff a k).1 h1
    rcases bytesW_cases k with e | ⟨_, e⟩ | ⟨_, e⟩ | ⟨_, e⟩
    · omega
    all_goals
      rw [e] at h6 ⊢
      right
      split <;> omega
  · exact .inl rfl
theorem nextW_neg {a k b : Int} (h : a < 0) : nextW a k b = -1 := nextW_al (alB_neg a k h)

theorem implNext (a k b : Int) (w : World) :
    Calls Try.prog 101 #[.int .i64 a, .int .i64 k, .int .i64 b] w fun e w' => e = .returned (.int .i64 (nextW a k b)) ∧ w = w' := by
  cases hal : alB a k with
  | false =>
    have Hn := Lib.hid (nextW_al (b := b) hal)
    go_enter Try.func101, Try.ntmps101
    go_wp2_with (go_at_call 121; refine (implAligned _ _ _).mono ?_; rintro e w' ⟨rfl, rfl⟩)
    go_ret
    exact ⟨by rw [Hn.out]; rfl, rfl⟩
  | true =>
    by_cases hf : 512 ≤ a
    · have Hn := Lib.hid (nextW_far (k := k) (b := b) hf)
      go_enter Try.func101, Try.ntmps101
      go_wp2_with (go_at_call 121; refine (implAligned _ _ _).mono ?_; rintro e w' ⟨rfl, rfl⟩)
      go_ret
      exact ⟨by rw [Hn.out]; rfl, rfl⟩
    · by_cases hb : b < 0 ∨ 3 < b
      · have Hn := Lib.hid (nextW_no (a := a) (k := k) (beatsW_no hb))
        have hbw := beatsW_no hb
        go_enter Try.func101, Try.ntmps101
        go_wp2_with (first
          | (go_at_call 121; refine (implAligned _ _ _).mono ?_; rintro e w' ⟨rfl, rfl⟩)
          | (go_at_call 98; refine (implBeats _ _).mono ?_; rintro e w' ⟨rfl, rfl⟩))
        go_ret
        exact ⟨by rw [Hn.out]; rfl, rfl⟩
      · have hb' : b = 0 ∨ b = 1 ∨ b = 2 ∨ b = 3 := by omega
        clear hb
        obtain ⟨h4, h5, h6⟩ := (alB_iff a k).1 hal
        have h7 : a < 512 := by omega
        clear hf
        have hk : k = 0 ∨ k = 1 ∨ k = 2 := by rcases bytesW_cases k with e | ⟨e, _⟩ | ⟨e, _⟩ | ⟨e, _⟩ <;> omega
        have Hn := Lib.hid (show nextW a k b = if b = 2 ∧ (a + bytesW k) % (4 * bytesW k) = 0 then a + bytesW k - 4 * bytesW k else a + bytesW k from if_pos ⟨hal, h7, by rcases hb' with rfl | rfl | rfl | rfl <;> decide⟩)
        have H6 := Lib.hid h6
        clear h6 h4
        rcases hk with rfl | rfl | rfl
        all_goals
          rcases hb' with rfl | rfl | rfl | rfl
          all_goals
            go_enter Try.func101, Try.ntmps101
            go_wp2_with (first
              | (go_at_call 121; refine (implAligned _ _ _).mono ?_; rintro e w' ⟨rfl, rfl⟩)
              | (go_at_call 122; refine (implBytes _ _).mono ?_; rintro e w' ⟨rfl, rfl⟩; simp only [show bytesW 0 = 1 from rfl, show bytesW 1 = 2 from rfl, show bytesW 2 = 4 from rfl])
              | (go_at_call 98; refine (implBeats _ _).mono ?_; rintro e w' ⟨rfl, rfl⟩; simp only [show beatsW 0 = 1 from rfl, show beatsW 1 = 4 from rfl, show beatsW 2 = 4 from rfl, show beatsW 3 = 8 from rfl]))
            all_goals
              go_ret
              refine ⟨?_, rfl⟩
              rw [Hn.out]
              simp only [show bytesW 0 = 1 from rfl, show bytesW 1 = 2 from rfl, show bytesW 2 = 4 from rfl]
              first | rfl | (rw [if_neg (by omega)]; rfl) | (rw [if_pos (by simp_all)]; rfl) | (rw [if_neg (by simp_all)]; rfl)

theorem specNext (a k b : Int) (w : World) :
    Calls Try.prog 118 #[.int .i64 a, .int .i64 k, .int .i64 b] w fun e w' => e = .returned (.int .i64 (nextW a k b)) ∧ Below w.heap.size w w' := by
  cases hal : alB a k with
  | false =>
    have Hn := Lib.hid (nextW_al (b := b) hal)
    go_enter Try.func118, Try.ntmps118
    go_wp2_with (first
      | (go_at_call 124; refine (specBytes _ _).mono ?_; rintro e w' ⟨rfl, rfl⟩)
      | (go_at_call 128; refine (specAligned _ _ _).mono ?_; rintro e w' ⟨rfl, rfl⟩))
    go_ret
    exact ⟨by rw [Hn.out]; rfl, Below.refl _ _⟩
  | true =>
    obtain ⟨h4, h5, h6⟩ := (alB_iff a k).1 hal
    have H6 := Lib.hid h6
    clear h6
    by_cases hf : 512 ≤ a
    · have Hn := Lib.hid (nextW_far (k := k) (b := b) hf)
      go_enter Try.func118, Try.ntmps118
      go_wp2_with (first
        | (go_at_call 124; refine (specBytes _ _).mono ?_; rintro e w' ⟨rfl, rfl⟩)
        | (go_at_call 128; refine (specAligned _ _ _).mono ?_; rintro e w' ⟨rfl, rfl⟩)
        | (go_at_call 90; refine (sl1In_no _ _ _ (by omega) _).mono ?_; rintro e w' ⟨rfl, rfl⟩))
      go_ret
      exact ⟨by rw [Hn.out]; rfl, Below.refl _ _⟩
    · by_cases hb : b < 0 ∨ 3 < b
      · have Hn := Lib.hid (nextW_no (a := a) (k := k) (beatsW_no hb))
        have hbw := beatsW_no hb
        go_enter Try.func118, Try.ntmps118
        go_wp2_with (first
          | (go_at_call 124; refine (specBytes _ _).mono ?_; rintro e w' ⟨rfl, rfl⟩)
          | (go_at_call 128; refine (specAligned _ _ _).mono ?_; rintro e w' ⟨rfl, rfl⟩)
          | (go_at_call 90; refine (sl1In_yes _ _ _ (by omega) (by omega) _).mono ?_; rintro e w' ⟨rfl, rfl⟩)
          | (go_at_call 99; refine (specBeats _ _).mono ?_; rintro e w1 ⟨rfl, hb1⟩))
        go_ret
        exact ⟨by rw [Hn.out]; rfl, hb1⟩
      · have hb' : b = 0 ∨ b = 1 ∨ b = 2 ∨ b = 3 := by omega
        clear hb
        have h7 : a < 512 := by omega
        clear hf
        have hk : k = 0 ∨ k = 1 ∨ k = 2 := by rcases bytesW_cases k with e | ⟨e, _⟩ | ⟨e, _⟩ | ⟨e, _⟩ <;> omega
        have Hn := Lib.hid (show nextW a k b = if b = 2 ∧ (a + bytesW k) % (4 * bytesW k) = 0 then a + bytesW k - 4 * bytesW k else a + bytesW k from if_pos ⟨hal, h7, by rcases hb' with rfl | rfl | rfl | rfl <;> decide⟩)
        clear h4
        rcases hk with rfl | rfl | rfl
        all_goals
          rcases hb' with rfl | rfl | rfl | rfl
          all_goals
            go_enter Try.func118, Try.ntmps118
            go_wp2_with (first
              | (go_at_call 124; refine (specBytes _ _).mono ?_; rintro e w' ⟨rfl, rfl⟩; simp only [show bytesW 0 = 1 from rfl, show bytesW 1 = 2 from rfl, show bytesW 2 = 4 from rfl])
              | (go_at_call 128; refine (specAligned _ _ _).mono ?_; rintro e w' ⟨rfl, rfl⟩)
              | (go_at_call 90; refine (sl1In_yes _ _ _ (by omega) (by omega) _).mono ?_; rintro e w' ⟨rfl, rfl⟩)
              | (go_at_call 99; refine (specBeats _ _).mono ?_; rintro e w1 ⟨rfl, hb1⟩; simp only [show beatsW 0 = 1 from rfl, show beatsW 1 = 4 from rfl, show beatsW 2 = 4 from rfl, show beatsW 3 = 8 from rfl]))
            all_goals
              go_ret
              refine ⟨?_, by assumption⟩
              rw [Hn.out]
              simp only [show bytesW 0 = 1 from rfl, show bytesW 1 = 2 from rfl, show bytesW 2 = 4 from rfl]
              first | rfl | (rw [if_neg (by omega)]; rfl) | (rw [if_pos (by simp_all)]; rfl) | (rw [if_neg (by simp_all)]; rfl)
end Go.Proofs.Ytijilhaoknpeeaa.Num
