
/-
  The addresses of a burst: what BurstAddrs returns, for the program and for its model.
-/
import Derived.Test.YtijilhaoknpeeaaBurst
namespace Go.Proofs.Ytijilhaoknpeeaa.Num
open Go.RowKit Rows3

/-- the address of beat j; below 0 where there is none. -/
def itW (a k b : Int) : Nat → Int
  | 0 => a
  | n + 1 => nextW (itW a k b n) k b
def itL (a k b : Int) (n : Nat) : List Int := (List.range n).map (itW a k b)
def addrsW (a k b : Int) : List Int := if 0 ≤ itW a k b (beatsW b).toNat then itL a k b (beatsW b).toNat else []
theorem itL_length (a k b : Int) (n : Nat) : (itL a k b n).length = n := by simp [itL]
theorem itL_succ (a k b : Int) (n : Nat) : itL a k b (n + 1) = itL a k b n ++ [itW a k b n] := by simp [itL, List.range_succ]
theorem itW_neg {a k b : Int} {j n : Nat} (h : itW a k b j < 0) (hn : j ≤ n) : itW a k b n < 0 := by
  induction n with
  | zero => obtain rfl : j = 0 := by omega
            exact h
  | succ n ih =>
    by_cases hj : j = n + 1
    · subst hj; exact h
    · have := ih (by omega)
      show nextW _ k b < 0
      rw [nextW_neg this]; decide
theorem addrsW_none {a k b : Int} {n j : Nat} (hn : beatsW b = n) (h : itW a k b j < 0) (hj : j ≤ n) : addrsW a k b = [] := by
  have := itW_neg (n := (beatsW b).toNat) h (by omega)
  unfold addrsW; rw [if_neg (by omega)]
theorem addrsW_all {a k b : Int} {n : Nat} (hn : beatsW b = n) (h : n = 0 ∨ 0 ≤ itW a k b n) : addrsW a k b = itL a k b n := by
  unfold addrsW; rw [hn, Int.toNat_natCast]
  rcases h with rfl | h
  · split <;> rfl
  · rw [if_pos h]
theorem addrsW_length (a k b : Int) : (addrsW a k b).length ≤ 8 := by
  have := beatsW_bd b
  unfold addrsW; split
  · rw [itL_length]; omega
  · simp


set_option maxRecDepth 100000 in
theorem implBurst (a k b : Int) (w : World) :
    Calls Try.prog 65 #[.int .i64 a, .int .i64 k, .int .i64 b] w (NewI (addrsW a k b) w) := by
  obtain ⟨i0, hi, hz0, hz1, hz2⟩ := info_parts info_int
  obtain ⟨n, hn⟩ : ∃ n : Nat, beatsW b = n := ⟨_, (Int.toNat_of_nonneg (beatsW_bd b).1).symm⟩
  have hn8 : n ≤ 8 := by have := (beatsW_bd b).2; omega
  have Hn := Lib.hid hn
  clear hn
  have Hi := Lib.hid hi; have Z0 := Lib.hid hz0; have Z1 := Lib.hid hz1; have Z2 := Lib.hid hz2
  clear hi hz0 hz1 hz2
  go_enter Try.func65, Try.ntmps65
  go_wp2_with fail
  refine (implBeats _ _).mono ?_
  rintro e w' ⟨rfl, rfl⟩
  rw [Hn.out]
  go_wp2_with (at_make; refine wpList_make_own _ rfl _ _ 33 rfl w.heap.size 3 i0 (.int .i64 0) 1 Try.underlying33 Hi.out Z0.out Z1.out .i64 .i64 _ n rfl rfl rfl (by rw [Z2.out]; omega) (by unfold maxLen; omega) (Nat.le_refl _) ?_; intro w1 hown hgr)
  have Ho : Hid (OwnI w.heap.size (.slice (some ⟨w.heap.size, 0, none⟩) 0 n) [] w1) := Lib.hid hown
  have hb1 := (Below.refl w.heap.size w).grown hgr (Nat.le_refl _) (fun k hk => by cases hk)
  clear hown hgr
  go_loopw [0, 8, 15] (fun x v i wr => ∃ (j : Nat), j ≤ n ∧ i = .int .i64 j ∧ x = .int .i64 (itW a k b j) ∧ (j = 0 ∨ 0 ≤ itW a k b j) ∧ OwnI w.heap.size v (itL a k b j) wr ∧ Below w.heap.size w wr) (fun _ _ i _ => n - (intOf i).toNat)
  case atStart => exact ⟨0, by omega, rfl, rfl, .inl rfl, Ho.out, hb1⟩
  case round =>
    obtain ⟨j, hj, rfl, rfl, hpos, hown, hb⟩ := hrel
    have Hp := Lib.hid hpos
    clear hpos Ho hb1
    have hbs := hb.size
    by_cases hlt : j < n
    · have hll := itL_length a k b j
      obtain ⟨q, hq⟩ : ∃ q, itW a k b j = q := ⟨_, rfl⟩
      obtain ⟨y, hy⟩ : ∃ y, nextW q k b = y := ⟨_, rfl⟩
      have hnx := nextW_bd q k b
      rw [hy] at hnx
      have Hs := Lib.hid (show itW a k b (j + 1) = y by rw [← hy, ← hq]; rfl)
      have Hy := Lib.hid hy
      have Hq := Lib.hid hq
      have hl8 : (itL a k b j).length + 1 ≤ 17592186044416 := by omega
      have Ho := Lib.hid hown
      rw [hq]
      clear hy hll hq hown
      by_cases hneg : y < 0
      · go_wp2_with fail
        refine (implNext _ _ _ _).mono ?_
        rintro e w' ⟨rfl, rfl⟩
        rw [Hy.out]
        go_wp2
        go_ret
        rw [addrsW_none Hn.out (j := j + 1) (by rw [Hs.out]; exact hneg) (by omega)]
        exact ⟨_, rfl, OwnI.nil _ _, hb⟩
      · go_wp2_with fail
        refine (implNext _ _ _ _).mono ?_
        rintro e w' ⟨rfl, rfl⟩
        rw [Hy.out]
        go_wp2_with (at_builtin; refine appI rfl _ _ rfl w.heap.size u8 (itL a k b j) wr _ rfl rfl Ho.out hbs hl8 ?_; intro v' w1 hown1 hb1; have Ho1 := Lib.hid hown1; clear hown1)
        go_roundw
        case rel => exact ⟨j + 1, by omega, by go_num, by rw [Hs.out], .inr (by rw [Hs.out]; omega), by rw [itL_succ, Hq.out]; exact Ho1.out, hb.trans hb1⟩
        case measure => simp [intOf]; omega
    · obtain rfl : j = n := by omega
      go_wp2
      go_ret
      rw [addrsW_all Hn.out Hp.out]
      exact ⟨_, rfl, hown, hb⟩

/-- what a loop's head holds: j addresses are there. -/
def SpecRel (a k b : Int) (n : Nat) (w : World) (x v : Value) (wr : World) : Prop :=
  ∃ (j : Nat) (ad : Option Addr) (cap : Nat), j ≤ n ∧ x = .int .i64 (itW a k b j) ∧ v = .slice ad j cap ∧ (j = 0 ∨ 0 ≤ itW a k b j) ∧ OwnI w.heap.size (.slice ad j cap) (itL a k b j) wr ∧ Below w.heap.size w wr
def lenOf : Value → Nat | .slice _ n _ => n | _ => 0
set_option maxHeartbeats 1000000 in
set_option maxRecDepth 100000 in
theorem specBurst (a k b : Int) (w : World) :
    Calls Try.prog 91 #[.int .i64 a, .int .i64 k, .int .i64 b] w (NewI (addrsW a k b) w) := by
  obtain ⟨n, hn⟩ : ∃ n : Nat, beatsW b = n := ⟨_, (Int.toNat_of_nonneg (beatsW_bd b).1).symm⟩
  have hn8 : n ≤ 8 := by have := (beatsW_bd b).2; omega
  have Hn := Lib.hid hn
  clear hn
  go_enter Try.func91, Try.ntmps91
  go_wp2_with fail
  go_loopw [0, 7] (fun x v wr => SpecRel a k b n w x v wr) (fun _ v _ => n - lenOf v)
  case atStart => exact ⟨0, _, _, by omega, rfl, rfl, .inl rfl, OwnI.made _ _ (Nat.le_refl _), (Below.refl _ _).alloc (Nat.le_refl _) _⟩
  case round =>
    obtain ⟨j, ad, cap, hj, rfl, rfl, hpos, hown, hb⟩ := hrel
    have Hp := Lib.hid hpos
    have Ho := Lib.hid hown
    clear hpos hown
    have hbs := hb.size
    have hll := itL_length a k b j
    obtain ⟨q, hq⟩ : ∃ q, itW a k b j = q := ⟨_, rfl⟩
    obtain ⟨y, hy⟩ : ∃ y, nextW q k b = y := ⟨_, rfl⟩
    have hnx := nextW_bd q k b
    rw [hy] at hnx
    have Hs := Lib.hid (show itW a k b (j + 1) = y by rw [← hy, ← hq]; rfl)
    have Hy := Lib.hid hy
    have Hq := Lib.hid hq
    have hl8 : (itL a k b j).length + 1 ≤ 17592186044416 := by omega
    rw [hq]
    clear hy hll hq
    by_cases hlt : j < n
    · go_wp2_with fail
      refine (specBeats _ _).mono ?_
      rintro e w1 ⟨rfl, hb1⟩
      rw [Hn.out]
      go_wp2_with fail
      refine (specNext _ _ _ _).mono ?_
      rintro e w2 ⟨rfl, hb2⟩
      rw [Hy.out]
      have hb02 := (hb.trans (hb1.mono hbs)).trans (hb2.mono (Nat.le_trans hbs hb1.size))
      have Ho2 := Lib.hid (((Ho.out.later hb1).later hb2))
      have hbs2 := hb02.size
      by_cases hneg : y < 0
      · go_wp2_with fail
        refine (specBeats _ _).mono ?_
        rintro e w3 ⟨rfl, hb3⟩
        rw [Hn.out]
        have hb03 := hb02.trans (hb3.mono hbs2)
        have hbs3 := hb03.size
        go_wp2
        go_ret
        rw [addrsW_none Hn.out (j := j + 1) (by rw [Hs.out]; exact hneg) (by omega)]
        exact ⟨_, rfl, OwnI.made _ _ hbs3, hb03.alloc hbs3 _⟩
      · go_wp2_with (at_builtin; refine appI rfl _ _ rfl w.heap.size (.slice ad j cap) (itL a k b j) w2 q rfl rfl Ho2.out hbs2 hl8 ?_; intro v' w3 hown3 hb3; have Ho3 := Lib.hid hown3; clear hown3)
        refine (specNext _ _ _ _).mono ?_
        rintro e w4 ⟨rfl, hb4⟩
        rw [Hy.out]
        have hb03 := hb02.trans hb3
        have hb04 := hb03.trans (hb4.mono hb03.size)
        obtain ⟨ad', cap', rfl⟩ := Ho3.out.slice
        go_wp2_with fail
        go_roundw
        case rel =>
          refine ⟨j + 1, ad', cap', by omega, by rw [Hs.out], by simp [itL_length], .inr (by rw [Hs.out]; omega), ?_, hb04⟩
          have h := Ho3.out.later hb4
          rw [itL_succ, Hq.out]
          simpa [itL_length] using h
        case measure => simp [lenOf, itL_length]; omega
    · go_wp2_with fail
      refine (specBeats _ _).mono ?_
      rintro e w1 ⟨rfl, hb1⟩
      rw [Hn.out]
      go_wp2_with fail
      refine (specBeats _ _).mono ?_
      rintro e w2 ⟨rfl, hb2⟩
      rw [Hn.out]
      have hb02 := (hb.trans (hb1.mono hbs)).trans (hb2.mono (Nat.le_trans hbs hb1.size))
      have Ho2 := Lib.hid (((Ho.out.later hb1).later hb2))
      obtain rfl : j = n := by omega
      go_wp2
      go_ret
      rw [addrsW_all Hn.out Hp.out]
      exact ⟨_, rfl, Ho2.out, hb02⟩
end Go.Proofs.Ytijilhaoknpeeaa.Num
