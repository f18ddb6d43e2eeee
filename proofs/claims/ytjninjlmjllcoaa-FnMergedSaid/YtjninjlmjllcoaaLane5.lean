
/-
  The lanes that a transfer uses: what Strobes returns, for the program and for its model.
-/
import Derived.Test.YtjninjlmjllcoaaLane
import Derived.Test.YtjninjlmjllcoaaEqO
namespace Go.Proofs.Ytjninjlmjllcoaa.Num
open Go.RowKit Rows3

/-- four lanes, of which j from r on are used. -/
def lanesTo (r j : Nat) : List Bool := (List.range 4).map fun i => decide (r ≤ i) && decide (i < r + j)
theorem lanesTo_succ {r j : Nat} (h : r + j < 4) : (lanesTo r j).set (r + j) true = lanesTo r (j + 1) := by
  have hr : r = 0 ∨ r = 1 ∨ r = 2 ∨ r = 3 := by omega
  have hj : j = 0 ∨ j = 1 ∨ j = 2 ∨ j = 3 := by omega
  rcases hr with rfl | rfl | rfl | rfl <;> rcases hj with rfl | rfl | rfl | rfl <;> first | rfl | omega
def lanesW (a k : Int) : List Bool := if alB a k = true then lanesTo (a % 4).toNat (bytesW k).toNat else []
theorem lanesW_no {a k : Int} (h : alB a k = false) : lanesW a k = [] := by unfold lanesW; rw [h]; rfl
theorem lanesW_length (a k : Int) : (lanesW a k).length ≤ 4 := by unfold lanesW; split <;> simp [lanesTo]
theorem lanes_yes {a k : Int} (h : alB a k = true) : ∃ r n : Nat, a % 4 = r ∧ bytesW k = n ∧ (n = 1 ∨ n = 2 ∨ n = 4) ∧ r + n ≤ 4 ∧ 0 ≤ a ∧ lanesW a k = lanesTo r n := by
  have h' := h
  rw [alB_iff] at h
  obtain ⟨h1, h2, h3⟩ := h
  have e : lanesW a k = lanesTo (a % 4).toNat (bytesW k).toNat := by unfold lanesW; rw [if_pos h']
  refine ⟨(a % 4).toNat, (bytesW k).toNat, by omega, by omega, ?_, ?_, h2, e⟩
  · rcases bytesW_cases k with e | ⟨_, e⟩ | ⟨_, e⟩ | ⟨_, e⟩ <;> omega
  · rcases bytesW_cases k with e | ⟨_, e⟩ | ⟨_, e⟩ | ⟨_, e⟩
    · omega
    all_goals
      rw [e] at h3 ⊢
      omega

set_option maxRecDepth 100000 in
theorem implStrobes (a k : Int) (w : World) :
    Calls Try.prog 21 #[.int .i64 a, .int .i64 k] w (NewO (lanesW a k) w) := by
  cases hal : alB a k with
  | false =>
    rw [lanesW_no hal]
    have Ha := Lib.hid hal
    clear hal
    go_enter Try.func21, Try.ntmps21
    go_wp2_with (go_at_call 44; refine (implAligned _ _ _).mono ?_; rintro e w' ⟨rfl, rfl⟩; rw [Ha.out])
    go_ret
    exact ⟨_, rfl, OwnO.nil _ _, Below.refl _ _⟩
  | true =>
    obtain ⟨r, n, hr, hn, hn3, h4, h0, hw⟩ := lanes_yes hal
    rw [hw]
    have Ha := Lib.hid hal
    have Hn := Lib.hid hn
    have Ho0 := Lib.hid (OwnO.make0 w.heap.size w (Nat.le_refl _) 4 (by omega))
    have hmk : ∀ W : World, (Instr.makeSlice 36 (.int .i64 4) (.int .i64 4)).run Try.prog W = .ok (.slice (some ⟨W.heap.size, 0, none⟩) 4 4) (W.alloc (.cells (madeCells #[.bool false] 4) 4)) := fun W => makeO 4 (by omega) W
    have h00 : lanesTo r 0 = List.replicate 4 false := by
      have : ∀ i : Nat, (decide (r ≤ i) && decide (i < r + 0)) = false := fun i => by simp
      simp only [lanesTo, this]; rfl
    rw [← h00] at Ho0
    have H0b := Lib.hid ((Below.refl w.heap.size w).alloc (Nat.le_refl _) (.cells (madeCells #[.bool false] 4) 4))
    clear hal hn hw h00
    have hn4 : n ≤ 4 := by omega
    go_enter Try.func21, Try.ntmps21
    go_wp2_with (go_at_call 44; refine (implAligned _ _ _).mono ?_; rintro e w' ⟨rfl, rfl⟩; rw [Ha.out])
    clear hmk
    refine (implBytes _ _).mono ?_
    rintro e w' ⟨rfl, rfl⟩
    rw [Hn.out]
    go_wp2_with fail
    go_loopw [14] (fun i wr => ∃ j : Nat, j ≤ n ∧ i = .int .i64 j ∧ OwnO w.heap.size (.slice (some ⟨w.heap.size, 0, none⟩) 4 4) (lanesTo r j) wr ∧ Below w.heap.size w wr) (fun i _ => n - (intOf i).toNat)
    case atStart => exact ⟨0, by omega, rfl, Ho0.out, H0b.out⟩
    case round =>
      obtain ⟨j, hj, rfl, hown, hb⟩ := hrel
      have Ho := Lib.hid hown
      by_cases hlt : j < n
      · have hc := hown.cell (i := r + j) (by simp [lanesTo]; omega)
        have hf := hown.frozen (r + j)
        have Hs := Lib.hid (lanesTo_succ (r := r) (j := j) (by omega))
        generalize (lanesTo r j).getD (r + j) false = y at hc
        clear hown
        go_wp2
        go_roundw
        case rel =>
          refine ⟨j + 1, by omega, by go_num, ?_, hb.setCell (Nat.le_refl _) _⟩
          rw [← Hs.out]
          exact Ho.out.set (r + j) true
        case measure => simp [intOf]; omega
      · obtain rfl : j = n := by omega
        clear hown
        go_wp2
        go_ret
        exact ⟨_, rfl, Ho.out, hb⟩
set_option maxRecDepth 100000 in
theorem specStrobes (a k : Int) (w : World) :
    Calls Try.prog 22 #[.int .i64 a, .int .i64 k] w (NewO (lanesW a k) w) := by
  cases hal : alB a k with
  | false =>
    rw [lanesW_no hal]
    have Ha := Lib.hid hal
    clear hal
    go_enter Try.func22, Try.ntmps22
    go_wp2_with (go_at_call 45; refine (specAligned _ _ _).mono ?_; rintro e w' ⟨rfl, rfl⟩; rw [Ha.out])
    go_ret
    exact ⟨_, rfl, OwnO.made _ _ (Nat.le_refl _), (Below.refl _ _).alloc (Nat.le_refl _) _⟩
  | true =>
    obtain ⟨r, n, hr, hn, hn3, h4, h0, hw⟩ := lanes_yes hal
    rw [hw]
    have Ha := Lib.hid hal
    have Hn := Lib.hid hn
    have Ho0 := Lib.hid (OwnO.make0 w.heap.size w (Nat.le_refl _) 4 (by omega))
    have hmk : ∀ W : World, (Instr.makeSlice 36 (.int .i64 4) (.int .i64 4)).run Try.prog W = .ok (.slice (some ⟨W.heap.size, 0, none⟩) 4 4) (W.alloc (.cells (madeCells #[.bool false] 4) 4)) := fun W => makeO 4 (by omega) W
    have h00 : lanesTo r 0 = List.replicate 4 false := by
      have : ∀ i : Nat, (decide (r ≤ i) && decide (i < r + 0)) = false := fun i => by simp
      simp only [lanesTo, this]; rfl
    rw [← h00] at Ho0
    have H0b := Lib.hid ((Below.refl w.heap.size w).alloc (Nat.le_refl _) (.cells (madeCells #[.bool false] 4) 4))
    clear hal hn hw h00
    have hn4 : n ≤ 4 := by omega
    go_enter Try.func22, Try.ntmps22
    go_wp2_with (go_at_call 45; refine (specAligned _ _ _).mono ?_; rintro e w' ⟨rfl, rfl⟩; rw [Ha.out])
    clear hmk
    go_loopw [6] (fun i wr => ∃ j : Nat, j ≤ n ∧ i = .int .i64 j ∧ OwnO w.heap.size (.slice (some ⟨w.heap.size, 0, none⟩) 4 4) (lanesTo r j) wr ∧ Below w.heap.size w wr) (fun i _ => n - (intOf i).toNat)
    case atStart => exact ⟨0, by omega, rfl, Ho0.out, H0b.out⟩
    case round =>
      obtain ⟨j, hj, rfl, hown, hb⟩ := hrel
      have Ho := Lib.hid hown
      by_cases hlt : j < n
      · have hc := hown.cell (i := r + j) (by simp [lanesTo]; omega)
        have hf := hown.frozen (r + j)
        have Hs := Lib.hid (lanesTo_succ (r := r) (j := j) (by omega))
        generalize (lanesTo r j).getD (r + j) false = y at hc
        clear hown
        go_wp2_with fail
        refine (specBytes _ _).mono ?_
        rintro e w' ⟨rfl, rfl⟩
        rw [Hn.out]
        go_wp2
        go_roundw
        case rel =>
          refine ⟨j + 1, by omega, by go_num, ?_, hb.setCell (Nat.le_refl _) _⟩
          rw [← Hs.out]
          exact Ho.out.set (r + j) true
        case measure => simp [intOf]; omega
      · obtain rfl : j = n := by omega
        clear hown
        go_wp2_with fail
        refine (specBytes _ _).mono ?_
        rintro e w' ⟨rfl, rfl⟩
        rw [Hn.out]
        go_wp2
        go_ret
        exact ⟨_, rfl, Ho.out, hb⟩
end Go.Proofs.Ytjninjlmjllcoaa.Num
