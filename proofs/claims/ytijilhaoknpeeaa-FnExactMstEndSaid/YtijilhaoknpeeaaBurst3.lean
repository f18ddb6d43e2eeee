
/-
  Whether a burst stays in one page: what BurstOk returns, for the program and for its model.
-/
import Derived.Test.YtijilhaoknpeeaaBurst2
import Derived.Deep.QuietTactic
import Derived.BigQuiet
namespace Go.Proofs.Ytijilhaoknpeeaa.Num
open Go.RowKit Rows3

theorem itW_bd {a k b : Int} {n j : Nat} (h : 0 ≤ itW a k b n) (hj : j < n) : 0 ≤ itW a k b j ∧ itW a k b j < 512 ∧ itW a k b j % bytesW k = 0 ∧ 0 < bytesW k := by
  have h1 : 0 ≤ itW a k b (j + 1) := by
    by_cases hn : itW a k b (j + 1) < 0
    · have := itW_neg hn (show j + 1 ≤ n by omega); omega
    · omega
  have h2 : 0 ≤ nextW (itW a k b j) k b := h1
  unfold nextW at h2
  split at h2
  · rename_i hc
    obtain ⟨p, q, _⟩ := hc
    obtain ⟨r, s, t⟩ := (alB_iff _ _).1 p
    exact ⟨s, q, t, r⟩
  · omega
theorem itL_getD {a k b : Int} {n j : Nat} (hj : j < n) : (itL a k b n).getD j 0 = itW a k b j := by simp [itL, List.getD, hj]
theorem addrsW_getD {a k b : Int} {j : Nat} (hj : j < (addrsW a k b).length) : (addrsW a k b).getD j 0 = itW a k b j ∧ 0 ≤ itW a k b j ∧ itW a k b j < 512 ∧ itW a k b j % bytesW k = 0 ∧ 0 < bytesW k := by
  unfold addrsW at hj ⊢
  by_cases h : 0 ≤ itW a k b (beatsW b).toNat
  · rw [if_pos h] at hj ⊢
    rw [itL_length] at hj
    exact ⟨itL_getD hj, itW_bd h hj⟩
  · rw [if_neg h] at hj
    simp at hj

/-- are these in the page of a. -/
def okL (l : List Int) (a : Int) : Bool := decide (0 < l.length) && l.all fun x => x / 64 == a / 64
theorem okL_no {l : List Int} {a : Int} {k : Nat} (hk : k < l.length) (h : ¬ l.getD k 0 / 64 = a / 64) : okL l a = false := by
  have : (l.all fun x => x / 64 == a / 64) = false := by
    rw [Bool.eq_false_iff]
    intro h1
    rw [List.all_eq_true] at h1
    have := h1 l[k] (List.getElem_mem hk)
    rw [beq_iff_eq] at this
    exact h (by rw [getD_lt hk]; exact this)
  unfold okL; rw [this]; simp
theorem okL_yes {l : List Int} {a : Int} (h : ∀ i, i < l.length → l.getD i 0 / 64 = a / 64) : okL l a = decide (0 < l.length) := by
  have : (l.all fun x => x / 64 == a / 64) = true := by
    rw [List.all_eq_true]
    intro x hx
    obtain ⟨i, hi, rfl⟩ := List.getElem_of_mem hx
    rw [beq_iff_eq, ← getD_lt hi]; exact h i hi
  unfold okL; rw [this]; simp
/-- the first j are in the page. -/
def OkTo (l : List Int) (a : Int) (j : Nat) : Prop := ∀ i, i < j → l.getD i 0 / 64 = a / 64
theorem OkTo.step {l : List Int} {a : Int} {j : Nat} (h : OkTo l a j) (h1 : l.getD j 0 / 64 = a / 64) : OkTo l a (j + 1) := by
  intro i hi
  by_cases hj : i = j
  · rw [hj]; exact h1
  · exact h i (by omega)

set_option maxRecDepth 100000 in
theorem implOk (a k b : Int) (w : World) :
    Calls Try.prog 104 #[.int .i64 a, .int .i64 k, .int .i64 b] w fun e w' => e = .returned (.bool (okL (addrsW a k b) a)) ∧ Below w.heap.size w w' := by
  have hl8 := addrsW_length a k b
  have hg : ∀ j, j < (addrsW a k b).length → (addrsW a k b).getD j 0 = itW a k b j ∧ 0 ≤ itW a k b j ∧ itW a k b j < 512 := fun j hj => ⟨(addrsW_getD hj).1, (addrsW_getD hj).2.1, (addrsW_getD hj).2.2.1⟩
  obtain ⟨l, hl⟩ : ∃ l, addrsW a k b = l := ⟨_, rfl⟩
  rw [hl] at hl8 hg ⊢
  have Hl := Lib.hid hl
  clear hl
  have Hg0 := Lib.hid hg
  clear hg
  go_enter Try.func104, Try.ntmps104
  go_wp2_with fail
  refine (implBurst _ _ _ _).mono ?_
  rintro e w1 ⟨v, rfl, hown, hb⟩
  have hg := Hg0.out
  rw [Hl.out] at hown
  obtain ⟨ad, cap, rfl, hrd⟩ := hown.rd
  clear hown Hg0
  obtain ⟨n, hn⟩ : ∃ n, l.length = n := ⟨_, rfl⟩
  rw [hn] at hrd hl8 hg ⊢
  have Hn := Lib.hid hn
  have Hr := Lib.hid hrd
  have Hg := Lib.hid hg
  clear hn hrd hg
  go_wp2_with fail
  go_loop [16] (fun i => ∃ j : Nat, j ≤ n ∧ i = .int .i64 j ∧ OkTo l a j) (fun i => n - (intOf i).toNat)
  case atStart => exact ⟨0, by omega, rfl, fun i hi => by omega⟩
  case round =>
    obtain ⟨j, hj, rfl, hok⟩ := hrel
    have Hk := Lib.hid hok
    clear hok
    by_cases hlt : j < n
    · obtain ⟨bb, o, rfl, hb1, hc1⟩ := Hr.out j hlt
      obtain ⟨h0, -, -⟩ := Hg.out 0 (by omega)
      obtain ⟨g1, g2, g3⟩ := Hg.out j hlt
      obtain ⟨-, a0, a1⟩ := Hg.out 0 (by omega)
      rw [show itW a k b 0 = a from rfl] at a0 a1
      clear h0
      have Hj := Lib.hid g1
      clear g1
      rw [Hj.out] at hc1
      generalize itW a k b j = q at g2 g3 Hj hc1
      by_cases hpg : q / 64 = a / 64
      · have Hp := Lib.hid hpg
        have ht : (q / 64 != a / 64) = false := by simp [hpg]
        clear hpg
        go_wp2_with fail
        go_round
        case rel => exact ⟨j + 1, by omega, by go_num, Hk.out.step (by rw [Hj.out]; exact Hp.out)⟩
        case measure => simp [intOf]; omega
      · have Hp := Lib.hid hpg
        have ht : (q / 64 != a / 64) = true := by simp [hpg]
        clear hpg
        go_wp2_with fail
        go_ret
        exact ⟨by rw [okL_no (k := j) (by rw [Hn.out]; exact hlt) (by rw [Hj.out]; exact Hp.out)]; rfl, hb⟩
    · obtain rfl : j = n := by omega
      have He := Lib.hid (show okL l a = decide (0 < j) by rw [okL_yes (fun i hi => Hk.out i (by rw [← Hn.out]; exact hi)), Hn.out])
      clear Hr Hg
      go_wp2
      go_ret
      exact ⟨by rw [He.out]; simp, hb⟩

set_option maxRecDepth 100000 in
theorem specOk (a k b : Int) (w : World) :
    Calls Try.prog 107 #[.int .i64 a, .int .i64 k, .int .i64 b] w fun e w' => e = .returned (.bool (okL (addrsW a k b) a)) ∧ Below w.heap.size w w' := by
  have hl8 := addrsW_length a k b
  have hg : ∀ j, j < (addrsW a k b).length → (addrsW a k b).getD j 0 = itW a k b j ∧ 0 ≤ itW a k b j ∧ itW a k b j < 512 := fun j hj => ⟨(addrsW_getD hj).1, (addrsW_getD hj).2.1, (addrsW_getD hj).2.2.1⟩
  obtain ⟨l, hl⟩ : ∃ l, addrsW a k b = l := ⟨_, rfl⟩
  rw [hl] at hl8 hg ⊢
  have Hl := Lib.hid hl
  clear hl
  have Hg0 := Lib.hid hg
  clear hg
  go_enter Try.func107, Try.ntmps107
  go_wp2_with fail
  refine (specBurst _ _ _ _).mono ?_
  rintro e w1 ⟨v, rfl, hown, hb⟩
  have hg := Hg0.out
  rw [Hl.out] at hown
  obtain ⟨ad, cap, rfl, hrd⟩ := hown.rd
  clear hown Hg0
  obtain ⟨n, hn⟩ : ∃ n, l.length = n := ⟨_, rfl⟩
  rw [hn] at hrd hl8 hg ⊢
  have Hn := Lib.hid hn
  have Hr := Lib.hid hrd
  have Hg := Lib.hid hg
  clear hn hrd hg
  have Hb := Lib.hid hb
  clear hb
  go_wp2_with fail
  go_loopw [8] (fun i wr => ∃ j : Nat, j ≤ n ∧ i = .int .i64 j ∧ OkTo l a j ∧ Below w1.heap.size w1 wr) (fun i _ => n - (intOf i).toNat)
  case atStart => exact ⟨0, by omega, rfl, fun i hi => by omega, Below.refl _ _⟩
  case round =>
    obtain ⟨j, hj, rfl, hok, hbr⟩ := hrel
    have Hk := Lib.hid hok
    clear hok
    by_cases hlt : j < n
    · obtain ⟨bb, o, e0, hb0, hc0⟩ := Hr.out 0 (by omega)
      obtain ⟨bb', o', rfl, hb1, hc1⟩ := Hr.out j hlt
      cases e0
      obtain ⟨h0, a0, a1⟩ := Hg.out 0 (by omega)
      obtain ⟨g1, g2, g3⟩ := Hg.out j hlt
      rw [show itW a k b 0 = a from rfl] at a0 a1 h0
      rw [h0] at hc0
      rw [Nat.add_zero] at hc0
      clear h0 hb0
      rw [← hbr.cell (p := ⟨bb, o, none⟩) hb1] at hc0
      rw [← hbr.cell (p := ⟨bb, o + j, none⟩) hb1] at hc1
      have Hj := Lib.hid g1
      clear g1
      rw [Hj.out] at hc1
      generalize itW a k b j = q at g2 g3 Hj hc1
      have h0n : 0 < n := by omega
      by_cases hpg : q / 64 = a / 64
      · have Hp := Lib.hid hpg
        have ht : (q / 64 != a / 64) = false := by simp [hpg]
        clear hpg
        go_wp2_with fail
        go_quiet (fail)
        go_wp2_with fail
        go_roundw
        case rel => exact ⟨j + 1, by omega, by go_num, Hk.out.step (by rw [Hj.out]; exact Hp.out), ⟨hbr.os, hbr.tape, hbr.output, hbr.size, hbr.block⟩⟩
        case measure => simp [intOf]; omega
      · have Hp := Lib.hid hpg
        have ht : (q / 64 != a / 64) = true := by simp [hpg]
        clear hpg
        go_wp2_with fail
        go_quiet (fail)
        go_wp2_with fail
        go_ret
        have hb' := Hb.out.trans (hbr.mono Hb.out.size)
        exact ⟨by rw [okL_no (k := j) (by rw [Hn.out]; exact hlt) (by rw [Hj.out]; exact Hp.out)]; rfl, ⟨hb'.os, hb'.tape, hb'.output, hb'.size, hb'.block⟩⟩
    · obtain rfl : j = n := by omega
      have He := Lib.hid (show okL l a = decide (0 < j) by rw [okL_yes (fun i hi => Hk.out i (by rw [← Hn.out]; exact hi)), Hn.out])
      clear Hr Hg
      go_wp2
      go_ret
      exact ⟨by rw [He.out]; simp, Hb.out.trans (hbr.mono Hb.out.size)⟩
end Go.Proofs.Ytijilhaoknpeeaa.Num
