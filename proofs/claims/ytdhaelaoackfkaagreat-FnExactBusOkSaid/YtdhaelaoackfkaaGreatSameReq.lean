
/-
  Whether two requests are the same: SameReq, for the program and for its model.
-/
import Derived.Test.YtdhaelaoackfkaaGreatGReq13
namespace Go.Proofs.YtdhaelaoackfkaaGreat.Num
open Go.RowKit Rows3

theorem drewN_drewN (w : World) (a b : Nat) : (w.drewN a).drewN b = w.drewN (a + b) := by simp [World.drewN, Nat.add_assoc]
theorem eqLB_len {l m : List Int} (h : ¬ l.length = m.length) : eqLB l m = false := by unfold eqLB; rw [decide_eq_false_iff_not]; intro e; exact h (by rw [e])
theorem eqLB_bad {l m : List Int} {j : Nat} (h : ¬ l.getD j 0 = m.getD j 0) : eqLB l m = false := by unfold eqLB; rw [decide_eq_false_iff_not]; intro e; exact h (by rw [e])
theorem sameTo_step {l m : List Int} {k : Nat} (h : sameTo l m k) (h1 : l.getD k 0 = m.getD k 0) : sameTo l m (k + 1) := by
  intro i hi
  by_cases hk : i = k
  · rw [hk]; exact h1
  · exact h i (by omega)
theorem eqLB_all {l m : List Int} (hn : l.length = m.length) (h : sameTo l m l.length) : eqLB l m = true := by unfold eqLB; rw [decide_eq_true_iff]; exact eq_of_sameTo hn h

set_option maxRecDepth 100000 in
theorem equal_any (v u : Value) (l m : List Int) (hl : l.length ≤ 2000000) (w : World) (hv : RdI v l w) (hu : RdI u m w) :
    Calls Tryz.prog 124 #[v, u] w fun e w' => e = .returned (.bool (eqLB l m)) ∧ ∃ d, w' = w.drewN d := by
  obtain ⟨ad, cap, rfl, h1⟩ := hv
  obtain ⟨bd, cbp, rfl, h2⟩ := hu
  by_cases hne : l.length = m.length
  · obtain ⟨n, hln⟩ : ∃ n, l.length = n := ⟨_, rfl⟩
    have hmn : m.length = n := by omega
    rw [hln] at h1 hl ⊢
    rw [hmn] at h2 ⊢
    have H1 := Lib.hid h1
    have H2 := Lib.hid h2
    have HL := Lib.hid hln
    have HM := Lib.hid hmn
    clear h1 h2 hln hmn hne
    have hnn : (((n : Nat) : Int) != ((n : Nat) : Int)) = false := by simp
    go_enter Tryz.func124, Tryz.ntmps124
    go_wp2
    go_loopw [13] (fun i wr => ∃ k d : Nat, k ≤ n ∧ i = .int .i64 k ∧ sameTo l m k ∧ wr = w.drewN d) (fun i _ => n - (intOf i).toNat)
    case atStart => exact ⟨0, 0, by omega, rfl, fun i hi => by omega, rfl⟩
    case round =>
      obtain ⟨k, d, hk, rfl, hs, rfl⟩ := hrel
      have Hs := Lib.hid hs
      clear hs
      by_cases hlt : k < n
      · obtain ⟨b, o, rfl, hb1, hc1⟩ := H1.out k hlt
        obtain ⟨b', o', rfl, hb2, hc2⟩ := H2.out k hlt
        obtain ⟨y, hy⟩ : ∃ y, l.getD k 0 = y := ⟨_, rfl⟩
        obtain ⟨z, hz⟩ : ∃ z, m.getD k 0 = z := ⟨_, rfl⟩
        rw [hy] at hc1
        rw [hz] at hc2
        have Hy := Lib.hid hy
        have Hz := Lib.hid hz
        clear hy hz
        by_cases hyz : y = z
        · have Hyz := Lib.hid hyz
          have hyy : (y != z) = false := by simp [hyz]
          clear hyz
          go_wp2_with fail
          go_quiet (fail)
          go_wp2_with fail
          go_roundw
          case rel => exact ⟨k + 1, d + nq, by omega, by go_num, sameTo_step Hs.out (by rw [Hy.out, Hz.out]; exact Hyz.out), rfl⟩
          case measure => simp [intOf]; omega
        · have He := Lib.hid (eqLB_bad (l := l) (m := m) (j := k) (by rw [Hy.out, Hz.out]; exact hyz))
          have hyy : (y != z) = true := by simp [hyz]
          clear hyz
          go_wp2_with fail
          go_quiet (fail)
          go_wp2_with fail
          go_ret
          exact ⟨by rw [He.out]; rfl, _, drewN_drewN _ _ _⟩
      · obtain rfl : k = n := by omega
        have He := Lib.hid (eqLB_all (by rw [HL.out, HM.out]) (by rw [HL.out]; exact Hs.out) : eqLB l m = true)
        go_wp2
        go_ret
        exact ⟨by rw [He.out]; rfl, _, rfl⟩
  · have He := Lib.hid (eqLB_len hne)
    have hnn : (((l.length : Nat) : Int) != ((m.length : Nat) : Int)) = true := by simp; omega
    clear h1 h2
    go_enter Tryz.func124, Tryz.ntmps124
    go_wp2
    go_ret
    exact ⟨by rw [He.out]; rfl, 0, rfl⟩

/-- are two requests the same. -/
def sameR (q : Bool) (x y z : Int) (k : Bool) (l : List Int) (q' : Bool) (x' y' z' : Int) (k' : Bool) (l' : List Int) : Bool :=
  (q == q') && ((x == x') && ((y == y') && ((z == z') && ((k == k') && eqLB l l'))))

set_option maxHeartbeats 4000000 in
set_option maxRecDepth 100000 in
theorem implSame (q : Bool) (x y z : Int) (k : Bool) (v : Value) (l : List Int) (q' : Bool) (x' y' z' : Int) (k' : Bool) (v' : Value) (l' : List Int) (hl : l.length ≤ 2000000) (w : World) (hv : RdI v l w) (hv' : RdI v' l' w) :
    Calls Tryz.prog 120 #[.agg #[.bool q, .int .i64 x, .int .i64 y, .int .i64 z, .bool k, v], .agg #[.bool q', .int .i64 x', .int .i64 y', .int .i64 z', .bool k', v']] w fun e w' =>
      e = .returned (.bool (sameR q x y z k l q' x' y' z' k' l')) ∧ Below w.heap.size w w' := by
  have Hv := Lib.hid hv
  have Hv' := Lib.hid hv'
  obtain ⟨ad, cap, rfl, hr⟩ := hv
  obtain ⟨ad', cap', rfl, hr'⟩ := hv'
  clear hr hr'
  obtain ⟨b1, h1⟩ : ∃ b, (q == q') = b := ⟨_, rfl⟩
  obtain ⟨b2, h2⟩ : ∃ b, (x == x') = b := ⟨_, rfl⟩
  obtain ⟨b3, h3⟩ : ∃ b, (y == y') = b := ⟨_, rfl⟩
  obtain ⟨b4, h4⟩ : ∃ b, (z == z') = b := ⟨_, rfl⟩
  obtain ⟨b5, h5⟩ : ∃ b, (k == k') = b := ⟨_, rfl⟩
  obtain ⟨b6, h6⟩ : ∃ b, eqLB l l' = b := ⟨_, rfl⟩
  have He := Lib.hid (show sameR q x y z k l q' x' y' z' k' l' = (b1 && (b2 && (b3 && (b4 && (b5 && b6))))) by unfold sameR; rw [h1, h2, h3, h4, h5, h6])
  have H6 := Lib.hid h6
  clear h6
  go_enter Tryz.func120, Tryz.ntmps120
  go_wp2_with (go_at_call 124; refine (equal_any _ _ l l' hl _ (rdI_alloc (rdI_alloc Hv.out _) _) (rdI_alloc (rdI_alloc Hv'.out _) _)).mono ?_; rintro e w' ⟨rfl, d, rfl⟩; rw [H6.out])
  all_goals
    go_ret
    refine ⟨?_, ?_⟩
    · rw [He.out]; simp_all
    · first
      | exact below_drewN ((below_alloc1 ((Below.refl _ _).alloc (Nat.le_refl _) _) (by simp) (Below.refl _ _))) _
      | exact (below_alloc1 ((Below.refl _ _).alloc (Nat.le_refl _) _) (by simp) (Below.refl _ _))
end Go.Proofs.YtdhaelaoackfkaaGreat.Num
