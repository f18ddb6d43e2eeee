/-
  Several texts in one: Burst2, Burst3, Req, ReqOk.
-/
import Derived.Test.YtdhaelaoackfkaaGreatGA13
import Derived.Deep.QuietTactic
import Derived.BigQuiet
import Derived.Deep.RegionHeld3
import Derived.WalkSmall
import Derived.IntWalk
namespace Go.Proofs.YtdhaelaoackfkaaGreat.Num
open Go.RowKit Rows3

/-- the address of beat j; below 0 where there is none. -/
def itW (a k b : Int) : Nat → Int
  | 0 => a
  | n + 1 => nextW (itW a k b n) k b
def itL (a k b : Int) (n : Nat) : List Int := (List.range n).map (itW a k b)
def addrsW (a k b : Int) : List Int := if 0 ≤ itW a k b (beatsW b).toNat then itL a k b (beatsW b).toNat else []
theorem itL_length (a k b : Int) (n : Nat) : (itL a k b n).length = n := by simp [itL]
theorem itL_succ (a k b : Int) (n : Nat) : itL a k b (n + 1) = itL a k b n ++ [itW a k b n] := by simp [itL, List.range_succ]
theorem itW_neg {a k b : Int} {j n : Nat} (h : itW a k b j < 0) (hn : j ≤ n) : itW a k b n < 0 := by
  induction n with
  | zero => obtain rfl : j = 0 := by omega
            exact h
  | succ n ih =>
    by_cases hj : j = n + 1
    · subst hj; exact h
    · have := ih (by omega)
      show nextW _ k b < 0
      rw [nextW_neg this]; decide
theorem addrsW_none {a k b : Int} {n j : Nat} (hn : beatsW b = n) (h : itW a k b j < 0) (hj : j ≤ n) : addrsW a k b = [] := by
  have := itW_neg (n := (beatsW b).toNat) h (by omega)
  unfold addrsW; rw [if_neg (by omega)]
theorem addrsW_all {a k b : Int} {n : Nat} (hn : beatsW b = n) (h : n = 0 ∨ 0 ≤ itW a k b n) : addrsW a k b = itL a k b n := by
  unfold addrsW; rw [hn, Int.toNat_natCast]
  rcases h with rfl | h
  · split <;> rfl
  · rw [if_pos h]
theorem addrsW_length (a k b : Int) : (addrsW a k b).length ≤ 8 := by
  have := beatsW_bd b
  unfold addrsW; split
  · rw [itL_length]; omega
  · simp


set_option maxRecDepth 100000 in
theorem implBurst (a k b : Int) (w : World) :
    Calls Tryz.prog 126 #[.int .i64 a, .int .i64 k, .int .i64 b] w (NewI (addrsW a k b) w) := by
  obtain ⟨i0, hi, hz0, hz1, hz2⟩ := info_parts info_int
  obtain ⟨n, hn⟩ : ∃ n : Nat, beatsW b = n := ⟨_, (Int.toNat_of_nonneg (beatsW_bd b).1).symm⟩
  have hn8 : n ≤ 8 := by have := (beatsW_bd b).2; omega
  have Hn := Lib.hid hn
  clear hn
  have Hi := Lib.hid hi; have Z0 := Lib.hid hz0; have Z1 := Lib.hid hz1; have Z2 := Lib.hid hz2
  clear hi hz0 hz1 hz2
  go_enter Tryz.func126, Tryz.ntmps126
  go_wp2_with fail
  refine (implBeats _ _).mono ?_
  rintro e w' ⟨rfl, rfl⟩
  rw [Hn.out]
  go_wp2_with (at_make; refine wpList_make_own _ rfl _ _ 29 rfl w.heap.size 3 i0 (.int .i64 0) 1 Tryz.underlying29 Hi.out Z0.out Z1.out .i64 .i64 _ n rfl rfl rfl (by rw [Z2.out]; omega) (by unfold maxLen; omega) (Nat.le_refl _) ?_; intro w1 hown hgr)
  have Ho : Hid (OwnI w.heap.size (.slice (some ⟨w.heap.size, 0, none⟩) 0 n) [] w1) := Lib.hid hown
  have hb1 := (Below.refl w.heap.size w).grown hgr (Nat.le_refl _) (fun k hk => by cases hk)
  clear hown hgr
  go_loopw [0, 8, 15] (fun x v i wr => ∃ (j : Nat), j ≤ n ∧ i = .int .i64 j ∧ x = .int .i64 (itW a k b j) ∧ (j = 0 ∨ 0 ≤ itW a k b j) ∧ OwnI w.heap.size v (itL a k b j) wr ∧ Below w.heap.size w wr) (fun _ _ i _ => n - (intOf i).toNat)
  case atStart => exact ⟨0, by omega, rfl, rfl, .inl rfl, Ho.out, hb1⟩
  case round =>
    obtain ⟨j, hj, rfl, rfl, hpos, hown, hb⟩ := hrel
    have Hp := Lib.hid hpos
    clear hpos Ho hb1
    have hbs := hb.size
    by_cases hlt : j < n
    · have hll := itL_length a k b j
      obtain ⟨q, hq⟩ : ∃ q, itW a k b j = q := ⟨_, rfl⟩
      obtain ⟨y, hy⟩ : ∃ y, nextW q k b = y := ⟨_, rfl⟩
      have hnx := nextW_bd q k b
      rw [hy] at hnx
      have Hs := Lib.hid (show itW a k b (j + 1) = y by rw [← hy, ← hq]; rfl)
      have Hy := Lib.hid hy
      have Hq := Lib.hid hq
      have hl8 : (itL a k b j).length + 1 ≤ 17592186044416 := by omega
      have Ho := Lib.hid hown
      rw [hq]
      clear hy hll hq hown
      by_cases hneg : y < 0
      · go_wp2_with fail
        refine (implNext _ _ _ _).mono ?_
        rintro e w' ⟨rfl, rfl⟩
        rw [Hy.out]
        go_wp2
        go_ret
        rw [addrsW_none Hn.out (j := j + 1) (by rw [Hs.out]; exact hneg) (by omega)]
        exact ⟨_, rfl, OwnI.nil _ _, hb⟩
      · go_wp2_with fail
        refine (implNext _ _ _ _).mono ?_
        rintro e w' ⟨rfl, rfl⟩
        rw [Hy.out]
        go_wp2_with (at_builtin; refine appI rfl _ _ rfl w.heap.size u8 (itL a k b j) wr _ rfl rfl Ho.out hbs hl8 ?_; intro v' w1 hown1 hb1; have Ho1 := Lib.hid hown1; clear hown1)
        go_roundw
        case rel => exact ⟨j + 1, by omega, by go_num, by rw [Hs.out], .inr (by rw [Hs.out]; omega), by rw [itL_succ, Hq.out]; exact Ho1.out, hb.trans hb1⟩
        case measure => simp [intOf]; omega
    · obtain rfl : j = n := by omega
      go_wp2
      go_ret
      rw [addrsW_all Hn.out Hp.out]
      exact ⟨_, rfl, hown, hb⟩

/-- what a loop's head holds: j addresses are there. -/
def SpecRel (a k b : Int) (n : Nat) (w : World) (x v : Value) (wr : World) : Prop :=
  ∃ (j : Nat) (ad : Option Addr) (cap : Nat), j ≤ n ∧ x = .int .i64 (itW a k b j) ∧ v = .slice ad j cap ∧ (j = 0 ∨ 0 ≤ itW a k b j) ∧ OwnI w.heap.size (.slice ad j cap) (itL a k b j) wr ∧ Below w.heap.size w wr
def lenOf : Value → Nat | .slice _ n _ => n | _ => 0
set_option maxHeartbeats 1000000 in
set_option maxRecDepth 100000 in
theorem specBurst (a k b : Int) (w : World) :
    Calls Tryz.prog 118 #[.int .i64 a, .int .i64 k, .int .i64 b] w (NewI (addrsW a k b) w) := by
  obtain ⟨n, hn⟩ : ∃ n : Nat, beatsW b = n := ⟨_, (Int.toNat_of_nonneg (beatsW_bd b).1).symm⟩
  have hn8 : n ≤ 8 := by have := (beatsW_bd b).2; omega
  have Hn := Lib.hid hn
  clear hn
  go_enter Tryz.func118, Tryz.ntmps118
  go_wp2_with fail
  go_loopw [0, 7] (fun x v wr => SpecRel a k b n w x v wr) (fun _ v _ => n - lenOf v)
  case atStart => exact ⟨0, _, _, by omega, rfl, rfl, .inl rfl, OwnI.made _ _ (Nat.le_refl _), (Below.refl _ _).alloc (Nat.le_refl _) _⟩
  case round =>
    obtain ⟨j, ad, cap, hj, rfl, rfl, hpos, hown, hb⟩ := hrel
    have Hp := Lib.hid hpos
    have Ho := Lib.hid hown
    clear hpos hown
    have hbs := hb.size
    have hll := itL_length a k b j
    obtain ⟨q, hq⟩ : ∃ q, itW a k b j = q := ⟨_, rfl⟩
    obtain ⟨y, hy⟩ : ∃ y, nextW q k b = y := ⟨_, rfl⟩
    have hnx := nextW_bd q k b
    rw [hy] at hnx
    have Hs := Lib.hid (show itW a k b (j + 1) = y by rw [← hy, ← hq]; rfl)
    have Hy := Lib.hid hy
    have Hq := Lib.hid hq
    have hl8 : (itL a k b j).length + 1 ≤ 17592186044416 := by omega
    rw [hq]
    clear hy hll hq
    by_cases hlt : j < n
    · go_wp2_with fail
      refine (specBeats _ _).mono ?_
      rintro e w1 ⟨rfl, hb1⟩
      rw [Hn.out]
      go_wp2_with fail
      refine (specNext _ _ _ _).mono ?_
      rintro e w2 ⟨rfl, hb2⟩
      rw [Hy.out]
      have hb02 := (hb.trans (hb1.mono hbs)).trans (hb2.mono (Nat.le_trans hbs hb1.size))
      have Ho2 := Lib.hid (((Ho.out.later hb1).later hb2))
      have hbs2 := hb02.size
      by_cases hneg : y < 0
      · go_wp2_with fail
        refine (specBeats _ _).mono ?_
        rintro e w3 ⟨rfl, hb3⟩
        rw [Hn.out]
        have hb03 := hb02.trans (hb3.mono hbs2)
        have hbs3 := hb03.size
        go_wp2
        go_ret
        rw [addrsW_none Hn.out (j := j + 1) (by rw [Hs.out]; exact hneg) (by omega)]
        exact ⟨_, rfl, OwnI.made _ _ hbs3, hb03.alloc hbs3 _⟩
      · go_wp2_with (at_builtin; refine appI rfl _ _ rfl w.heap.size (.slice ad j cap) (itL a k b j) w2 q rfl rfl Ho2.out hbs2 hl8 ?_; intro v' w3 hown3 hb3; have Ho3 := Lib.hid hown3; clear hown3)
        refine (specNext _ _ _ _).mono ?_
        rintro e w4 ⟨rfl, hb4⟩
        rw [Hy.out]
        have hb03 := hb02.trans hb3
        have hb04 := hb03.trans (hb4.mono hb03.size)
        obtain ⟨ad', cap', rfl⟩ := Ho3.out.slice
        go_wp2_with fail
        go_roundw
        case rel =>
          refine ⟨j + 1, ad', cap', by omega, by rw [Hs.out], by simp [itL_length], .inr (by rw [Hs.out]; omega), ?_, hb04⟩
          have h := Ho3.out.later hb4
          rw [itL_succ, Hq.out]
          simpa [itL_length] using h
        case measure => simp [lenOf, itL_length]; omega
    · go_wp2_with fail
      refine (specBeats _ _).mono ?_
      rintro e w1 ⟨rfl, hb1⟩
      rw [Hn.out]
      go_wp2_with fail
      refine (specBeats _ _).mono ?_
      rintro e w2 ⟨rfl, hb2⟩
      rw [Hn.out]
      have hb02 := (hb.trans (hb1.mono hbs)).trans (hb2.mono (Nat.le_trans hbs hb1.size))
      have Ho2 := Lib.hid (((Ho.out.later hb1).later hb2))
      obtain rfl : j = n := by omega
      go_wp2
      go_ret
      rw [addrsW_all Hn.out Hp.out]
      exact ⟨_, rfl, Ho2.out, hb02⟩
end Go.Proofs.YtdhaelaoackfkaaGreat.Num

namespace Go.Proofs.YtdhaelaoackfkaaGreat.Num
open Go.RowKit Rows3

theorem itW_bd {a k b : Int} {n j : Nat} (h : 0 ≤ itW a k b n) (hj : j < n) : 0 ≤ itW a k b j ∧ itW a k b j < 512 ∧ itW a k b j % bytesW k = 0 ∧ 0 < bytesW k := by
  have h1 : 0 ≤ itW a k b (j + 1) := by
    by_cases hn : itW a k b (j + 1) < 0
    · have := itW_neg hn (show j + 1 ≤ n by omega); omega
    · omega
  have h2 : 0 ≤ nextW (itW a k b j) k b := h1
  unfold nextW at h2
  split at h2
  · rename_i hc
    obtain ⟨p, q, _⟩ := hc
    obtain ⟨r, s, t⟩ := (alB_iff _ _).1 p
    exact ⟨s, q, t, r⟩
  · omega
theorem itL_getD {a k b : Int} {n j : Nat} (hj : j < n) : (itL a k b n).getD j 0 = itW a k b j := by simp [itL, List.getD, hj]
theorem addrsW_getD {a k b : Int} {j : Nat} (hj : j < (addrsW a k b).length) : (addrsW a k b).getD j 0 = itW a k b j ∧ 0 ≤ itW a k b j ∧ itW a k b j < 512 ∧ itW a k b j % bytesW k = 0 ∧ 0 < bytesW k := by
  unfold addrsW at hj ⊢
  by_cases h : 0 ≤ itW a k b (beatsW b).toNat
  · rw [if_pos h] at hj ⊢
    rw [itL_length] at hj
    exact ⟨itL_getD hj, itW_bd h hj⟩
  · rw [if_neg h] at hj
    simp at hj

/-- are these in the page of a. -/
def okL (l : List Int) (a : Int) : Bool := decide (0 < l.length) && l.all fun x => x / 64 == a / 64
theorem okL_no {l : List Int} {a : Int} {k : Nat} (hk : k < l.length) (h : ¬ l.getD k 0 / 64 = a / 64) : okL l a = false := by
  have : (l.all fun x => x / 64 == a / 64) = false := by
    rw [Bool.eq_false_iff]
    intro h1
    rw [List.all_eq_true] at h1
    have := h1 l[k] (List.getElem_mem hk)
    rw [beq_iff_eq] at this
    exact h (by rw [getD_lt hk]; exact this)
  unfold okL; rw [this]; simp
theorem okL_yes {l : List Int} {a : Int} (h : ∀ i, i < l.length → l.getD i 0 / 64 = a / 64) : okL l a = decide (0 < l.length) := by
  have : (l.all fun x => x / 64 == a / 64) = true := by
    rw [List.all_eq_true]
    intro x hx
    obtain ⟨i, hi, rfl⟩ := List.getElem_of_mem hx
    rw [beq_iff_eq, ← getD_lt hi]; exact h i hi
  unfold okL; rw [this]; simp
/-- the first j are in the page. -/
def OkTo (l : List Int) (a : Int) (j : Nat) : Prop := ∀ i, i < j → l.getD i 0 / 64 = a / 64
theorem OkTo.step {l : List Int} {a : Int} {j : Nat} (h : OkTo l a j) (h1 : l.getD j 0 / 64 = a / 64) : OkTo l a (j + 1) := by
  intro i hi
  by_cases hj : i = j
  · rw [hj]; exact h1
  · exact h i (by omega)

set_option maxRecDepth 100000 in
theorem implOk (a k b : Int) (w : World) :
    Calls Tryz.prog 125 #[.int .i64 a, .int .i64 k, .int .i64 b] w fun e w' => e = .returned (.bool (okL (addrsW a k b) a)) ∧ Below w.heap.size w w' := by
  have hl8 := addrsW_length a k b
  have hg : ∀ j, j < (addrsW a k b).length → (addrsW a k b).getD j 0 = itW a k b j ∧ 0 ≤ itW a k b j ∧ itW a k b j < 512 := fun j hj => ⟨(addrsW_getD hj).1, (addrsW_getD hj).2.1, (addrsW_getD hj).2.2.1⟩
  obtain ⟨l, hl⟩ : ∃ l, addrsW a k b = l := ⟨_, rfl⟩
  rw [hl] at hl8 hg ⊢
  have Hl := Lib.hid hl
  clear hl
  have Hg0 := Lib.hid hg
  clear hg
  go_enter Tryz.func125, Tryz.ntmps125
  go_wp2_with fail
  refine (implBurst _ _ _ _).mono ?_
  rintro e w1 ⟨v, rfl, hown, hb⟩
  have hg := Hg0.out
  rw [Hl.out] at hown
  obtain ⟨ad, cap, rfl, hrd⟩ := hown.rd
  clear hown Hg0
  obtain ⟨n, hn⟩ : ∃ n, l.length = n := ⟨_, rfl⟩
  rw [hn] at hrd hl8 hg ⊢
  have Hn := Lib.hid hn
  have Hr := Lib.hid hrd
  have Hg := Lib.hid hg
  clear hn hrd hg
  go_wp2_with fail
  go_loop [16] (fun i => ∃ j : Nat, j ≤ n ∧ i = .int .i64 j ∧ OkTo l a j) (fun i => n - (intOf i).toNat)
  case atStart => exact ⟨0, by omega, rfl, fun i hi => by omega⟩
  case round =>
    obtain ⟨j, hj, rfl, hok⟩ := hrel
    have Hk := Lib.hid hok
    clear hok
    by_cases hlt : j < n
    · obtain ⟨bb, o, rfl, hb1, hc1⟩ := Hr.out j hlt
      obtain ⟨h0, -, -⟩ := Hg.out 0 (by omega)
      obtain ⟨g1, g2, g3⟩ := Hg.out j hlt
      obtain ⟨-, a0, a1⟩ := Hg.out 0 (by omega)
      rw [show itW a k b 0 = a from rfl] at a0 a1
      clear h0
      have Hj := Lib.hid g1
      clear g1
      rw [Hj.out] at hc1
      generalize itW a k b j = q at g2 g3 Hj hc1
      by_cases hpg : q / 64 = a / 64
      · have Hp := Lib.hid hpg
        have ht : (q / 64 != a / 64) = false := by simp [hpg]
        clear hpg
        go_wp2_with fail
        go_round
        case rel => exact ⟨j + 1, by omega, by go_num, Hk.out.step (by rw [Hj.out]; exact Hp.out)⟩
        case measure => simp [intOf]; omega
      · have Hp := Lib.hid hpg
        have ht : (q / 64 != a / 64) = true := by simp [hpg]
        clear hpg
        go_wp2_with fail
        go_ret
        exact ⟨by rw [okL_no (k := j) (by rw [Hn.out]; exact hlt) (by rw [Hj.out]; exact Hp.out)]; rfl, hb⟩
    · obtain rfl : j = n := by omega
      have He := Lib.hid (show okL l a = decide (0 < j) by rw [okL_yes (fun i hi => Hk.out i (by rw [← Hn.out]; exact hi)), Hn.out])
      clear Hr Hg
      go_wp2
      go_ret
      exact ⟨by rw [He.out]; simp, hb⟩

set_option maxRecDepth 100000 in
theorem specOk (a k b : Int) (w : World) :
    Calls Tryz.prog 107 #[.int .i64 a, .int .i64 k, .int .i64 b] w fun e w' => e = .returned (.bool (okL (addrsW a k b) a)) ∧ Below w.heap.size w w' := by
  have hl8 := addrsW_length a k b
  have hg : ∀ j, j < (addrsW a k b).length → (addrsW a k b).getD j 0 = itW a k b j ∧ 0 ≤ itW a k b j ∧ itW a k b j < 512 := fun j hj => ⟨(addrsW_getD hj).1, (addrsW_getD hj).2.1, (addrsW_getD hj).2.2.1⟩
  obtain ⟨l, hl⟩ : ∃ l, addrsW a k b = l := ⟨_, rfl⟩
  rw [hl] at hl8 hg ⊢
  have Hl := Lib.hid hl
  clear hl
  have Hg0 := Lib.hid hg
  clear hg
  go_enter Tryz.func107, Tryz.ntmps107
  go_wp2_with fail
  refine (specBurst _ _ _ _).mono ?_
  rintro e w1 ⟨v, rfl, hown, hb⟩
  have hg := Hg0.out
  rw [Hl.out] at hown
  obtain ⟨ad, cap, rfl, hrd⟩ := hown.rd
  clear hown Hg0
  obtain ⟨n, hn⟩ : ∃ n, l.length = n := ⟨_, rfl⟩
  rw [hn] at hrd hl8 hg ⊢
  have Hn := Lib.hid hn
  have Hr := Lib.hid hrd
  have Hg := Lib.hid hg
  clear hn hrd hg
  have Hb := Lib.hid hb
  clear hb
  go_wp2_with fail
  go_loopw [8] (fun i wr => ∃ j : Nat, j ≤ n ∧ i = .int .i64 j ∧ OkTo l a j ∧ Below w1.heap.size w1 wr) (fun i _ => n - (intOf i).toNat)
  case atStart => exact ⟨0, by omega, rfl, fun i hi => by omega, Below.refl _ _⟩
  case round =>
    obtain ⟨j, hj, rfl, hok, hbr⟩ := hrel
    have Hk := Lib.hid hok
    clear hok
    by_cases hlt : j < n
    · obtain ⟨bb, o, e0, hb0, hc0⟩ := Hr.out 0 (by omega)
      obtain ⟨bb', o', rfl, hb1, hc1⟩ := Hr.out j hlt
      cases e0
      obtain ⟨h0, a0, a1⟩ := Hg.out 0 (by omega)
      obtain ⟨g1, g2, g3⟩ := Hg.out j hlt
      rw [show itW a k b 0 = a from rfl] at a0 a1 h0
      rw [h0] at hc0
      rw [Nat.add_zero] at hc0
      clear h0 hb0
      rw [← hbr.cell (p := ⟨bb, o, none⟩) hb1] at hc0
      rw [← hbr.cell (p := ⟨bb, o + j, none⟩) hb1] at hc1
      have Hj := Lib.hid g1
      clear g1
      rw [Hj.out] at hc1
      generalize itW a k b j = q at g2 g3 Hj hc1
      have h0n : 0 < n := by omega
      by_cases hpg : q / 64 = a / 64
      · have Hp := Lib.hid hpg
        have ht : (q / 64 != a / 64) = false := by simp [hpg]
        clear hpg
        go_wp2_with fail
        go_quiet (fail)
        go_wp2_with fail
        go_roundw
        case rel => exact ⟨j + 1, by omega, by go_num, Hk.out.step (by rw [Hj.out]; exact Hp.out), ⟨hbr.os, hbr.tape, hbr.output, hbr.size, hbr.block⟩⟩
        case measure => simp [intOf]; omega
      · have Hp := Lib.hid hpg
        have ht : (q / 64 != a / 64) = true := by simp [hpg]
        clear hpg
        go_wp2_with fail
        go_quiet (fail)
        go_wp2_with fail
        go_ret
        have hb' := Hb.out.trans (hbr.mono Hb.out.size)
        exact ⟨by rw [okL_no (k := j) (by rw [Hn.out]; exact hlt) (by rw [Hj.out]; exact Hp.out)]; rfl, ⟨hb'.os, hb'.tape, hb'.output, hb'.size, hb'.block⟩⟩
    · obtain rfl : j = n := by omega
      have He := Lib.hid (show okL l a = decide (0 < j) by rw [okL_yes (fun i hi => Hk.out i (by rw [← Hn.out]; exact hi)), Hn.out])
      clear Hr Hg
      go_wp2
      go_ret
      exact ⟨by rw [He.out]; simp, Hb.out.trans (hbr.mono Hb.out.size)⟩
end Go.Proofs.YtdhaelaoackfkaaGreat.Num

namespace Go.Proofs.YtdhaelaoackfkaaGreat.Num
open Go.RowKit Rows3

/-- what szReq leaves of 2^20. -/
def szW (n : Nat) : Int := if n ≤ 1048576 then 1048576 - (n : Int) else -1
theorem szW_yes {n : Nat} (h : n ≤ 1048576) : szW n = 1048576 - (n : Int) := if_pos h
theorem szW_no {n : Nat} (h : 1048576 < n) : szW n = -1 := if_neg (by omega)
theorem szI_any (v : Value) (n : Nat) (w : World) (hv : ∃ ad cap, v = .slice ad n cap) (hl : n ≤ 9223372036854775807) :
    Calls Tryz.prog 15 #[v, .int .i64 1048576] w fun e w' => e = .returned (.int .i64 (szW n)) ∧ w = w' := by
  obtain ⟨ad, cap, rfl⟩ := hv
  by_cases h : n ≤ 1048576
  · have He := Lib.hid (szW_yes h)
    go_enter Tryz.func15, Tryz.ntmps15
    go_wp2
    go_ret
    exact ⟨by rw [He.out]; rfl, rfl⟩
  · have He := Lib.hid (szW_no (by omega : 1048576 < n))
    go_enter Tryz.func15, Tryz.ntmps15
    go_wp2
    go_ret
    exact ⟨by rw [He.out]; rfl, rfl⟩
theorem szReq_any (q : Bool) (x y z : Int) (k : Bool) (v : Value) (n : Nat) (w : World) (hv : ∃ ad cap, v = .slice ad n cap) (hl : n ≤ 9223372036854775807) :
    Calls Tryz.prog 106 #[.agg #[.bool q, .int .i64 x, .int .i64 y, .int .i64 z, .bool k, v], .int .i64 1048576] w fun e w' => e = .returned (.int .i64 (szW n)) ∧ Below w.heap.size w w' := by
  obtain ⟨ad, cap, rfl⟩ := hv
  obtain ⟨m, hm⟩ : ∃ m : Int, szW n = m := ⟨_, rfl⟩
  have hm0 : -1 ≤ m := by rw [← hm]; unfold szW; split <;> omega
  have hm1 : m ≤ 1048576 := by rw [← hm]; unfold szW; split <;> omega
  have Hm := Lib.hid hm
  rw [hm]
  clear hm
  by_cases h : m < 0
  · obtain rfl : m = -1 := by omega
    go_enter Tryz.func106, Tryz.ntmps106
    go_wp2_with (go_at_call 15; refine (szI_any _ n _ ⟨_, _, rfl⟩ hl).mono ?_; rintro e w' ⟨rfl, rfl⟩; rw [Hm.out])
    go_ret
    exact ⟨rfl, (Below.refl _ _).alloc (Nat.le_refl _) _⟩
  · go_enter Tryz.func106, Tryz.ntmps106
    go_wp2_with (go_at_call 15; refine (szI_any _ n _ ⟨_, _, rfl⟩ hl).mono ?_; rintro e w' ⟨rfl, rfl⟩; rw [Hm.out])
    go_ret
    exact ⟨rfl, (Below.refl _ _).alloc (Nat.le_refl _) _⟩
/-- block b holds these six cells, none of them frozen. -/
def Blk (T : TypeId) (b : Nat) (c0 c1 c2 c3 c4 c5 : Value) (w : World) : Prop := w.heap[b]? = some (.cells #[c0, c1, c2, c3, c4, c5] T)
theorem Blk.new (T : TypeId) (c0 c1 c2 c3 c4 c5 : Value) (w : World) : Blk T w.heap.size c0 c1 c2 c3 c4 c5 (w.alloc (.cells #[c0, c1, c2, c3, c4, c5] T)) := heap_alloc_new w _
theorem Blk.below {T : TypeId} {b B : Nat} {c0 c1 c2 c3 c4 c5 : Value} {w w' : World} (h : Blk T b c0 c1 c2 c3 c4 c5 w) (hb : Below B w w') (hB : b < B) : Blk T b c0 c1 c2 c3 c4 c5 w' := by
  unfold Blk at h ⊢; rw [hb.block b hB]; exact h
theorem Blk.lt {T : TypeId} {b : Nat} {c0 c1 c2 c3 c4 c5 : Value} {w : World} (h : Blk T b c0 c1 c2 c3 c4 c5 w) : b < w.heap.size := (Array.getElem?_eq_some_iff.1 h).1
theorem Blk.later {T : TypeId} {b : Nat} {c0 c1 c2 c3 c4 c5 : Value} {w w' : World} (h : Blk T b c0 c1 c2 c3 c4 c5 w) (hb : Below w.heap.size w w') : Blk T b c0 c1 c2 c3 c4 c5 w' := h.below hb h.lt
theorem Blk.cells {T : TypeId} {b : Nat} {c0 c1 c2 c3 c4 c5 : Value} {w : World} (h : Blk T b c0 c1 c2 c3 c4 c5 w) :
    w.cell? ⟨b, 0, none⟩ = some c0 ∧ w.cell? ⟨b, 1, none⟩ = some c1 ∧ w.cell? ⟨b, 2, none⟩ = some c2 ∧ w.cell? ⟨b, 3, none⟩ = some c3 ∧ w.cell? ⟨b, 4, none⟩ = some c4 ∧ w.cell? ⟨b, 5, none⟩ = some c5 := by
  unfold Blk at h; simp [World.cell?, h]
theorem Blk.warm {T : TypeId} {b : Nat} {c0 c1 c2 c3 c4 c5 : Value} {w : World} (h : Blk T b c0 c1 c2 c3 c4 c5 w) :
    w.frozen? ⟨b, 0, none⟩ = false ∧ w.frozen? ⟨b, 1, none⟩ = false ∧ w.frozen? ⟨b, 2, none⟩ = false ∧ w.frozen? ⟨b, 3, none⟩ = false ∧ w.frozen? ⟨b, 4, none⟩ = false ∧ w.frozen? ⟨b, 5, none⟩ = false := by
  unfold Blk at h; simp [World.frozen?, h]
theorem rdI_alloc {v : Value} {l : List Int} {w : World} (h : RdI v l w) (o : Obj) : RdI v l (w.alloc o) := h.below ((Below.refl _ _).alloc (Nat.le_refl _) o)
theorem below_alloc1 {B : Nat} {a w w' : World} {o : Obj} (h : Below B a w) (hB : B ≤ w.heap.size) (hb : Below (w.alloc o).heap.size (w.alloc o) w') : Below B a w' :=
  (h.alloc hB o).trans (hb.mono (by simp; omega))
theorem setBelow {B : Nat} {v : Value} {l : List Int} {w : World} (h : OwnI B v l w) {a : Addr} (ha : a.block < B) (u : Value) : OwnI B v l (w.setCell a u) := ownsRow_setCell_below h ha u
set_option maxRecDepth 100000 in
theorem toReq_any (q : Bool) (x y z : Int) (k : Bool) (v : Value) (l : List Int) (hl : l.length ≤ 2000000) (w : World) (hv : RdI v l w) :
    Calls Tryz.prog 109 #[.agg #[.bool q, .int .i64 x, .int .i64 y, .int .i64 z, .bool k, v]] w fun e w' =>
      ∃ u, e = .returned (.agg #[.bool q, .int .i64 x, .int .i64 y, .int .i64 z, .bool k, u]) ∧ OwnI w.heap.size u l w' ∧ Below w.heap.size w w' := by
  have Hv := Lib.hid hv
  obtain ⟨ad, cap, rfl, hr⟩ := hv
  clear hr
  go_enter Tryz.func109, Tryz.ntmps109
  go_wp2_with fail
  refine (toInts_any _ l hl _ (rdI_alloc (rdI_alloc (rdI_alloc Hv.out _) _) _)).mono ?_
  rintro e w1 ⟨u, rfl, ho, hb⟩
  obtain ⟨ad1, cap1, rfl⟩ := ho.slice
  have B2 := (Blk.new 107 (.bool false) (.int .i64 0) (.int .i64 0) (.int .i64 0) (.bool false) (.slice none 0 0) (w.alloc (Obj.cells #[.bool q, .int .i64 x, .int .i64 y, .int .i64 z, .bool k, .slice ad l.length cap] 143))).later (((Below.refl _ _).alloc (Nat.le_refl _) (Obj.cells #[.bool q, .int .i64 x, .int .i64 y, .int .i64 z, .bool k, .slice none 0 0] 107)))
  have B3 := (Blk.new 107 (.bool q) (.int .i64 x) (.int .i64 y) (.int .i64 z) (.bool k) (.slice none 0 0) ((w.alloc (Obj.cells #[.bool q, .int .i64 x, .int .i64 y, .int .i64 z, .bool k, .slice ad l.length cap] 143)).alloc (Obj.cells #[.bool false, .int .i64 0, .int .i64 0, .int .i64 0, .bool false, .slice none 0 0] 107))).later hb
  replace B2 := B2.later hb
  have Ho := Lib.hid ho
  have Hb := Lib.hid (hb.mono (B' := w.heap.size) (by simp; omega))
  have hsz : ∀ (w : World) o, (w.alloc o).heap.size = w.heap.size + 1 := fun w o => by simp
  rw [hsz] at B2
  rw [hsz, hsz] at B3
  clear hsz
  obtain ⟨f20, f21, f22, f23, f24, f25⟩ := B2.warm
  obtain ⟨g20, g21, g22, g23, g24, g25⟩ := B2.cells
  obtain ⟨-, -, -, -, -, f35⟩ := B3.warm
  obtain ⟨g30, g31, g32, g33, g34, g35⟩ := B3.cells
  clear B2 B3 ho hb
  go_wp2_with fail
  refine bodyPost_ret (v := .agg #[.bool q, .int .i64 x, .int .i64 y, .int .i64 z, .bool k, .slice ad1 l.length cap1]) (by simp [results, Tryz.results109, go_sem, g20, g21, g22, g23, g24, g25]) rfl ⟨_, rfl, ?_, ?_⟩
  · have h7 := setBelow (setBelow (setBelow (setBelow (setBelow (setBelow (setBelow Ho.out (a := ⟨w.heap.size + 1 + 1, 5, none⟩) (by simp) (.slice ad1 l.length cap1)) (a := ⟨w.heap.size + 1, 0, none⟩) (by simp) (.bool q)) (a := ⟨w.heap.size + 1, 1, none⟩) (by simp) (.int .i64 x)) (a := ⟨w.heap.size + 1, 2, none⟩) (by simp) (.int .i64 y)) (a := ⟨w.heap.size + 1, 3, none⟩) (by simp) (.int .i64 z)) (a := ⟨w.heap.size + 1, 4, none⟩) (by simp) (.bool k)) (a := ⟨w.heap.size + 1, 5, none⟩) (by simp) (.slice ad1 l.length cap1)
    exact h7.mono (by simp; omega)
  · have h0 := (((Below.refl w.heap.size w).alloc (Nat.le_refl _) (Obj.cells #[.bool q, .int .i64 x, .int .i64 y, .int .i64 z, .bool k, .slice ad l.length cap] 143)).alloc (by simp) (Obj.cells #[.bool false, .int .i64 0, .int .i64 0, .int .i64 0, .bool false, .slice none 0 0] 107)).alloc (by simp; omega) (Obj.cells #[.bool q, .int .i64 x, .int .i64 y, .int .i64 z, .bool k, .slice none 0 0] 107)
    exact (((((((h0.trans Hb.out).setCell (by simp; omega) _).setCell (by simp) _).setCell (by simp) _).setCell (by simp) _).setCell (by simp) _).setCell (by simp) _).setCell (by simp) _
set_option maxRecDepth 100000 in
theorem eqReq_same (q : Bool) (x y z : Int) (k : Bool) (v u : Value) (l : List Int) (hl : l.length ≤ 2000000) (w : World) (hv : RdI v l w) (hu : RdI u l w) :
    Calls Tryz.prog 117 #[.agg #[.bool q, .int .i64 x, .int .i64 y, .int .i64 z, .bool k, v], .agg #[.bool q, .int .i64 x, .int .i64 y, .int .i64 z, .bool k, u]] w fun e w' => e = .returned (.bool true) ∧ Below w.heap.size w w' := by
  have Hv := Lib.hid hv
  have Hu := Lib.hid hu
  obtain ⟨ad, cap, rfl, hr⟩ := hv
  obtain ⟨bd, cbp, rfl, hr'⟩ := hu
  clear hr hr'
  have hx : (x != x) = false := by simp
  have hy : (y != y) = false := by simp
  have hz : (z != z) = false := by simp
  have hq : (q != q) = false := by simp
  have hk : (k != k) = false := by simp
  go_enter Tryz.func117, Tryz.ntmps117
  go_wp2_with fail
  refine (eqI_same _ _ l hl _ (rdI_alloc (rdI_alloc Hv.out _) _) (rdI_alloc (rdI_alloc Hu.out _) _)).mono ?_
  rintro e w1 ⟨rfl, hb⟩
  go_wp2
  go_ret
  exact ⟨rfl, below_alloc1 ((Below.refl _ _).alloc (Nat.le_refl _) _) (by simp) hb⟩
end Go.Proofs.YtdhaelaoackfkaaGreat.Num

namespace Go.Proofs.YtdhaelaoackfkaaGreat.Num
open Go.RowKit Rows3

/-- is it a request: its beats possible, its data fit. -/
def okR (q : Bool) (x y z : Int) (l : List Int) : Bool :=
  okL (addrsW x y z) x && (if q then decide ((l.length : Int) = beatsW z) && l.all (fun v => inLB v y) else decide (l.length = 0))
theorem okR_burst {q : Bool} {x y z : Int} {l : List Int} (h : okL (addrsW x y z) x = false) : okR q x y z l = false := by unfold okR; rw [h]; rfl
theorem okR_read {x y z : Int} {l : List Int} (h : okL (addrsW x y z) x = true) : okR false x y z l = ((l.length : Int) == 0) := by
  unfold okR; rw [h, if_neg (by simp), Bool.true_and, Bool.eq_iff_iff, decide_eq_true_iff, beq_iff_eq]; omega
theorem okR_len {x y z : Int} {l : List Int} (hl : ¬ (l.length : Int) = beatsW z) : okR true x y z l = false := by
  unfold okR; rw [if_pos rfl, decide_eq_false hl, Bool.false_and, Bool.and_false]
theorem okR_bad {q : Bool} {x y z : Int} {l : List Int} {j : Nat} (hj : j < l.length) (hb : inLB (l.getD j 0) y = false) : okR q x y z l = false := by
  unfold okR
  have h1 : (l.all fun v => inLB v y) = false := by
    rw [List.all_eq_false]
    exact ⟨l[j], List.getElem_mem hj, by rw [← getD_lt hj, hb]; simp⟩
  have h2 : decide (l.length = 0) = false := by rw [decide_eq_false_iff_not]; omega
  rw [h1]
  cases q
  · rw [if_neg (by simp), h2, Bool.and_false]
  · rw [if_pos rfl, Bool.and_false, Bool.and_false]
/-- the first j fit. -/
def FitTo (l : List Int) (y : Int) (j : Nat) : Prop := ∀ i, i < j → inLB (l.getD i 0) y = true
theorem FitTo.step {l : List Int} {y : Int} {j : Nat} (h : FitTo l y j) (h1 : inLB (l.getD j 0) y = true) : FitTo l y (j + 1) := by
  intro i hi
  by_cases hj : i = j
  · rw [hj]; exact h1
  · exact h i (by omega)
theorem okR_fit {q : Bool} {x y z : Int} {l : List Int} (hb : okL (addrsW x y z) x = true) (hf : FitTo l y l.length) : okR q x y z l = (if q then decide ((l.length : Int) = beatsW z) else decide (l.length = 0)) := by
  unfold okR
  have h1 : (l.all fun v => inLB v y) = true := by
    rw [List.all_eq_true]
    intro v hv
    obtain ⟨i, hi, rfl⟩ := List.getElem_of_mem hv
    rw [← getD_lt hi]; exact hf i hi
  rw [hb, h1]; cases q <;> simp
theorem qBeatsI (z m : Int) (h : beatsW z = m) (w : World) : Calls Tryz.prog 122 #[.int .i64 z] w fun e w' => e = .returned (.int .i64 m) ∧ w' = w := by
  rw [← h]; exact (implBeats z w).mono fun e w' ⟨a, b⟩ => ⟨a, b.symm⟩

set_option maxRecDepth 100000 in
theorem implReqOk (q : Bool) (x y z : Int) (k : Bool) (v : Value) (l : List Int) (hl : l.length ≤ 2000000) (w : World) (hv : RdI v l w) :
    Calls Tryz.prog 121 #[.agg #[.bool q, .int .i64 x, .int .i64 y, .int .i64 z, .bool k, v]] w fun e w' => e = .returned (.bool (okR q x y z l)) ∧ Below w.heap.size w w' := by
  obtain ⟨ad, cap, rfl, hr⟩ := hv
  have Hr := Lib.hid hr
  obtain ⟨bo, hbo⟩ : ∃ bo, okL (addrsW x y z) x = bo := ⟨_, rfl⟩
  have Hbo := Lib.hid hbo
  obtain ⟨n, hn⟩ : ∃ n, l.length = n := ⟨_, rfl⟩
  rw [hn] at Hr hl ⊢
  have Hn := Lib.hid hn
  obtain ⟨m, hm⟩ : ∃ m, beatsW z = m := ⟨_, rfl⟩
  have Hm := Lib.hid hm
  clear hr hbo hn hm
  have B0 := Blk.new 107 (.bool q) (.int .i64 x) (.int .i64 y) (.int .i64 z) (.bool k) (.slice ad n cap) w
  cases bo with
  | false =>
    have He := Lib.hid (okR_burst (q := q) (l := l) Hbo.out)
    clear B0
    go_enter Tryz.func121, Tryz.ntmps121
    go_wp2_with fail
    refine (implOk _ _ _ _).mono ?_
    rintro e w1 ⟨rfl, hb⟩
    rw [Hbo.out]
    go_wp2
    go_ret
    exact ⟨by rw [He.out]; rfl, below_alloc1 (Below.refl _ _) (Nat.le_refl _) hb⟩
  | true =>
    go_enter Tryz.func121, Tryz.ntmps121
    go_wp2_with fail
    refine (implOk _ _ _ _).mono ?_
    rintro e w1 ⟨rfl, hb⟩
    rw [Hbo.out]
    obtain ⟨g0, g1, g2, g3, g4, g5⟩ := (B0.later hb).cells
    have Hb := Lib.hid (below_alloc1 (Below.refl _ _) (Nat.le_refl _) hb)
    clear B0 hb
    cases q with
    | false =>
      have He := Lib.hid (okR_read (l := l) Hbo.out)
      rw [Hn.out] at He
      go_wp2
      go_ret
      exact ⟨by rw [He.out]; rfl, Hb.out⟩
    | true =>
      by_cases hnm : (n : Int) = m
      · have hq1 : ((n : Int) != m) = false := by simp [hnm]
        have Hnm := Lib.hid hnm
        clear hnm
        go_wp2_with fail
        go_quiet ((first | (go_at_call 122; exact Calls.quiet_of_same (qBeatsI _ _ Hm.out _)) | fail))
        go_wp2_with fail
        go_loop [30] (fun i => ∃ j : Nat, j ≤ n ∧ i = .int .i64 j ∧ FitTo l y j) (fun i => n - (intOf i).toNat)
        case atStart => exact ⟨0, by omega, rfl, fun i hi => by omega⟩
        case round =>
          obtain ⟨j, hj, rfl, hok⟩ := hrel
          have Hk := Lib.hid hok
          clear hok
          by_cases hlt : j < n
          · obtain ⟨bb, o, rfl, hb1, hc1⟩ := Hr.out j hlt
            rw [← Hb.out.cell (p := ⟨bb, o + j, none⟩) hb1] at hc1
            obtain ⟨u, hu⟩ : ∃ u, inLB (l.getD j 0) y = u := ⟨_, rfl⟩
            have Hu := Lib.hid hu
            clear hu
            obtain ⟨c, hcc⟩ : ∃ c, l.getD j 0 = c := ⟨_, rfl⟩
            rw [hcc] at hc1
            have Hc := Lib.hid hcc
            have Huc : Hid (inLB c y = u) := Lib.hid (by rw [← Hc.out]; exact Hu.out)
            clear hcc
            cases u with
            | true =>
              go_wp2_with (go_at_call 103; refine (implIn _ _ _).mono ?_; rintro e w' ⟨rfl, rfl⟩; rw [Huc.out])
              go_round
              case rel => exact ⟨j + 1, by omega, by go_num, Hk.out.step Hu.out⟩
              case measure => simp [intOf]; omega
            | false =>
              have He := Lib.hid (okR_bad (q := true) (x := x) (z := z) (by rw [Hn.out]; exact hlt) Hu.out)
              go_wp2_with (go_at_call 103; refine (implIn _ _ _).mono ?_; rintro e w' ⟨rfl, rfl⟩; rw [Huc.out])
              go_ret
              exact ⟨by rw [He.out]; rfl, below_drewN Hb.out _⟩
          · obtain rfl : j = n := by omega
            have He := Lib.hid (show okR true x y z l = true by rw [okR_fit Hbo.out (fun i hi => Hk.out i (by rw [← Hn.out]; exact hi)), if_pos rfl, Hn.out, Hm.out, decide_eq_true_iff]; exact Hnm.out)
            go_wp2
            go_ret
            exact ⟨by rw [He.out]; rfl, below_drewN Hb.out _⟩
      · have hq1 : ((n : Int) != m) = true := by simp [hnm]
        have He := Lib.hid (okR_len (x := x) (y := y) (z := z) (l := l) (by rw [Hn.out, Hm.out]; exact hnm))
        clear hnm
        go_wp2_with fail
        go_quiet ((first | (go_at_call 122; exact Calls.quiet_of_same (qBeatsI _ _ Hm.out _)) | fail))
        go_wp2_with fail
        go_ret
        exact ⟨by rw [He.out]; rfl, below_drewN Hb.out _⟩

theorem beats_ok {x y z : Int} (h : okL (addrsW x y z) x = true) : 1 ≤ beatsW z := by
  unfold okL at h
  rw [Bool.and_eq_true, decide_eq_true_iff] at h
  have h1 := h.1
  unfold addrsW at h1
  split at h1
  · rw [itL_length] at h1; omega
  · simp at h1
theorem qLimitS (z m : Int) (h : limW z = m) (w : World) : Calls Tryz.prog 62 #[.int .i64 z] w fun e w' => e = .returned (.int .i64 m) ∧ w' = w := by
  rw [← h]; exact (specLimit z w).mono fun e w' ⟨a, b⟩ => ⟨a, b.symm⟩
theorem qInS (v k m : Int) (u : Bool) (hm : m = limW k - 1) (h : inLB v k = u) (w : World) : Calls Tryz.prog 19 #[.int .i64 v, .int .i64 0, .int .i64 m] w fun e w' => e = .returned (.bool u) ∧ w' = w := by
  rw [← h]; exact (specIn v k m hm w).mono fun e w' ⟨a, b⟩ => ⟨a, b.symm⟩
set_option maxHeartbeats 4000000 in
set_option maxRecDepth 100000 in
theorem specReqOk (q : Bool) (x y z : Int) (k : Bool) (v : Value) (l : List Int) (hl : l.length ≤ 2000000) (w : World) (hv : RdI v l w) :
    Calls Tryz.prog 90 #[.agg #[.bool q, .int .i64 x, .int .i64 y, .int .i64 z, .bool k, v]] w fun e w' => e = .returned (.bool (okR q x y z l)) ∧ Below w.heap.size w w' := by
  obtain ⟨ad, cap, rfl, hr⟩ := hv
  have Hr := Lib.hid hr
  obtain ⟨bo, hbo⟩ : ∃ bo, okL (addrsW x y z) x = bo := ⟨_, rfl⟩
  have Hbo := Lib.hid hbo
  obtain ⟨n, hn⟩ : ∃ n, l.length = n := ⟨_, rfl⟩
  rw [hn] at Hr hl ⊢
  have Hn := Lib.hid hn
  obtain ⟨m, hm⟩ : ∃ m, beatsW z = m := ⟨_, rfl⟩
  have Hm := Lib.hid hm
  have hm1 : okL (addrsW x y z) x = true → 1 ≤ m := fun h => by rw [← Hm.out]; exact beats_ok h
  have Hm1 := Lib.hid hm1
  clear hm1
  have hL := limW_bd y
  obtain ⟨L, hL0⟩ : ∃ L, limW y = L := ⟨_, rfl⟩
  rw [hL0] at hL
  have HL := Lib.hid hL0
  have hLw : IntKind.i64.wrap (L - 1) = L - 1 := IntWalk.i64_in _ (by omega)
  clear hr hbo hn hm hL0
  have B0 := Blk.new 107 (.bool q) (.int .i64 x) (.int .i64 y) (.int .i64 z) (.bool k) (.slice ad n cap) w
  cases bo with
  | false =>
    have He := Lib.hid (okR_burst (q := q) (l := l) Hbo.out)
    clear B0
    go_enter Tryz.func90, Tryz.ntmps90
    go_wp2_with fail
    refine (specOk _ _ _ _).mono ?_
    rintro e w1 ⟨rfl, hb⟩
    rw [Hbo.out]
    go_wp2
    go_ret
    exact ⟨by rw [He.out]; rfl, below_alloc1 (Below.refl _ _) (Nat.le_refl _) hb⟩
  | true =>
    go_enter Tryz.func90, Tryz.ntmps90
    go_wp2_with fail
    refine (specOk _ _ _ _).mono ?_
    rintro e w1 ⟨rfl, hb⟩
    rw [Hbo.out]
    have B1 := Lib.hid (B0.later hb)
    have Hb := Lib.hid (below_alloc1 (Below.refl _ _) (Nat.le_refl _) hb)
    clear B0 hb
    go_wp2_with fail
    go_loopw [3] (fun i wr => ∃ j : Nat, j ≤ n ∧ i = .int .i64 j ∧ FitTo l y j ∧ Below w1.heap.size w1 wr) (fun i _ => n - (intOf i).toNat)
    case atStart => exact ⟨0, by omega, rfl, fun i hi => by omega, Below.refl _ _⟩
    case round =>
      obtain ⟨j, hj, rfl, hok, hbr⟩ := hrel
      have Hk := Lib.hid hok
      have Hbr := Lib.hid (Hb.out.trans (hbr.mono Hb.out.size))
      obtain ⟨g0, g1, g2, g3, g4, g5⟩ := (B1.out.later hbr).cells
      clear hok
      by_cases hlt : j < n
      · obtain ⟨bb, o, rfl, hb1, hc1⟩ := Hr.out j hlt
        rw [← Hbr.out.cell (p := ⟨bb, o + j, none⟩) hb1] at hc1
        obtain ⟨u, hu⟩ : ∃ u, inLB (l.getD j 0) y = u := ⟨_, rfl⟩
        have Hu := Lib.hid hu
        clear hu
        obtain ⟨c, hcc⟩ : ∃ c, l.getD j 0 = c := ⟨_, rfl⟩
        rw [hcc] at hc1
        have Hc := Lib.hid hcc
        have Huc : Hid (inLB c y = u) := Lib.hid (by rw [← Hc.out]; exact Hu.out)
        have HL1 : Hid (L - 1 = limW y - 1) := Lib.hid (by rw [HL.out])
        have Hbr1 := Lib.hid hbr
        clear hcc hbr
        cases u with
        | true =>
          go_wp2_with fail
          go_quiet ((first | (go_at_call 62; exact Calls.quiet_of_same (qLimitS _ _ HL.out _)) | (go_at_call 19; exact Calls.quiet_of_same (qInS _ _ _ _ HL1.out Huc.out _))))
          go_wp2_with fail
          go_roundw
          case rel => exact ⟨j + 1, by omega, by go_num, Hk.out.step Hu.out, below_drewN Hbr1.out _⟩
          case measure => simp [intOf]; omega
        | false =>
          have He := Lib.hid (okR_bad (q := q) (x := x) (z := z) (by rw [Hn.out]; exact hlt) Hu.out)
          go_wp2_with fail
          go_quiet ((first | (go_at_call 62; exact Calls.quiet_of_same (qLimitS _ _ HL.out _)) | (go_at_call 19; exact Calls.quiet_of_same (qInS _ _ _ _ HL1.out Huc.out _))))
          go_wp2_with fail
          go_ret
          exact ⟨by rw [He.out]; rfl, below_drewN Hbr.out _⟩
      · obtain rfl : j = n := by omega
        have He := Lib.hid (show okR q x y z l = (if q then decide ((j : Int) = m) else decide (j = 0)) by rw [okR_fit Hbo.out (fun i hi => Hk.out i (by rw [← Hn.out]; exact hi)), Hn.out, Hm.out])
        have hsz : w.heap.size < wr.heap.size := (B1.out.later hbr).lt
        clear hbr
        have q0 : ∃ t, ((j : Int) == 0) = t := ⟨_, rfl⟩
        obtain ⟨t, ht⟩ := q0
        have q1 : ∃ t, ((j : Int) == m) = t := ⟨_, rfl⟩
        obtain ⟨t', ht'⟩ := q1
        have HE : Hid (decide ((j : Int) = m) = t') := Lib.hid (by rw [← ht', Bool.eq_iff_iff]; simp)
        have hj2 : j ≤ 2000000 := hl
        clear hl
        cases t with
        | true =>
          cases q with
          | false =>
            go_wp2_with fail
            go_quiet (fail)
            go_wp2_with fail
            go_ret
            exact ⟨by rw [He.out, if_neg (by simp), decide_eq_true (by simpa using ht)]; rfl, below_drewN Hbr.out _⟩
          | true =>
            obtain rfl : t' = false := by
              have hj0 : (j : Int) = 0 := by simpa using ht
              rw [← ht', beq_eq_false_iff_ne]; have := Hm1.out Hbo.out; omega
            go_wp2_with fail
            first
              | (go_region_with (go_at_call 108; refine (specBeats _ _).mono ?_; rintro e w' ⟨rfl, hb⟩; rw [Hm.out]; have hk : ∀ i, w'.cell? ⟨w.heap.size, i, none⟩ = wr.cell? ⟨w.heap.size, i, none⟩ := fun i => hb.cell (p := ⟨w.heap.size, i, none⟩) hsz))
              | fail
            all_goals
              go_wp2_with fail
              go_ret
              exact ⟨by rw [He.out, HE.out]; rfl, Hbr.out.trans ((⟨hb.os, hb.tape, hb.output, hb.size, hb.block⟩ : Below _ wr _).mono Hbr.out.size)⟩
        | false =>
            have HF := Lib.hid (show okR q x y z l = (t' && q) by
              have hj0 : ¬ j = 0 := by simpa using ht
              rw [He.out, HE.out]
              cases q
              · rw [if_neg (by simp), decide_eq_false hj0, Bool.and_false]
              · rw [if_pos rfl, Bool.and_true])
            cases t' with
            | true =>
              go_wp2_with fail
              first
                | (go_region_with (go_at_call 108; refine (specBeats _ _).mono ?_; rintro e w' ⟨rfl, hb⟩; rw [Hm.out]; have hk : ∀ i, w'.cell? ⟨w.heap.size, i, none⟩ = wr.cell? ⟨w.heap.size, i, none⟩ := fun i => hb.cell (p := ⟨w.heap.size, i, none⟩) hsz))
                | fail
              all_goals
                go_wp2_with fail
                go_ret
                exact ⟨by rw [HF.out]; cases q <;> rfl, Hbr.out.trans ((⟨hb.os, hb.tape, hb.output, hb.size, hb.block⟩ : Below _ wr _).mono Hbr.out.size)⟩
            | false =>
              go_wp2_with fail
              first
                | (go_region_with (go_at_call 108; refine (specBeats _ _).mono ?_; rintro e w' ⟨rfl, hb⟩; rw [Hm.out]; have hk : ∀ i, w'.cell? ⟨w.heap.size, i, none⟩ = wr.cell? ⟨w.heap.size, i, none⟩ := fun i => hb.cell (p := ⟨w.heap.size, i, none⟩) hsz))
                | fail
              all_goals
                go_wp2_with fail
                go_ret
                exact ⟨by rw [HF.out]; cases q <;> rfl, Hbr.out.trans ((⟨hb.os, hb.tape, hb.output, hb.size, hb.block⟩ : Below _ wr _).mono Hbr.out.size)⟩
end Go.Proofs.YtdhaelaoackfkaaGreat.Num
