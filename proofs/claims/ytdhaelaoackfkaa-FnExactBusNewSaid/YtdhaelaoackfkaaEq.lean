
/-
  What the laws' own functions on rows of numbers return: are two the same; marks written into one; are the marks there.
-/
import Derived.Test.YtdhaelaoackfkaaIntRow
namespace Go.Proofs.Ytdhaelaoackfkaa.Rows3
open Go.RowKit

set_option maxRecDepth 100000 in
theorem eqI_same (v u : Value) (l : List Int) (hl : l.length ≤ 2000000) (w : World) (hv : RdI v l w) (hu : RdI u l w) :
    Calls Try.prog 31 #[v, u] w fun e w' => e = .returned (.bool true) ∧ Below w.heap.size w w' := by
  obtain ⟨ad, cap, rfl, h1⟩ := hv
  obtain ⟨bd, cbp, rfl, h2⟩ := hu
  obtain ⟨n, hln⟩ : ∃ n, l.length = n := ⟨_, rfl⟩
  rw [hln] at h1 h2 hl ⊢
  have H1 := Lib.hid h1
  have H2 := Lib.hid h2
  clear h1 h2 hln
  have hne : (((n : Nat) : Int) != ((n : Nat) : Int)) = false := by simp
  go_enter Try.func31, Try.ntmps31
  go_wp2
  go_loopw [5] (fun i wr => ∃ k : Nat, k ≤ n ∧ i = .int .i64 k ∧ Below w.heap.size w wr) (fun i _ => n - (intOf i).toNat)
  case atStart => exact ⟨0, by omega, rfl, Below.refl _ _⟩
  case round =>
    obtain ⟨k, hk, rfl, hb⟩ := hrel
    by_cases hlt : k < n
    · obtain ⟨b, o, rfl, hb1, hc1⟩ := H1.out k hlt
      obtain ⟨b', o', rfl, hb2, hc2⟩ := H2.out k hlt
      rw [← hb.cell (p := ⟨b, o + k, none⟩) hb1] at hc1
      rw [← hb.cell (p := ⟨b', o' + k, none⟩) hb2] at hc2
      generalize l.getD k 0 = y at hc1 hc2
      have hyy : (y != y) = false := by simp
      go_wp2_with fail
      go_quiet (fail)
      go_wp2_with fail
      go_roundw
      case rel => exact ⟨k + 1, by omega, by go_num, ⟨hb.os, hb.tape, hb.output, hb.size, hb.block⟩⟩
      case measure => simp [intOf]; omega
    · go_wp2
      go_ret
      exact ⟨rfl, hb⟩

/-- the marks that markIntS writes from k on. -/
def marks (k : Int) (n : Nat) : List Int := (List.range n).map fun i : Nat => k + (i : Int)
theorem marks_succ (k : Int) (n : Nat) : marks k (n + 1) = marks k n ++ [k + (n : Int)] := by simp [marks, List.range_succ]
theorem marks_length (k : Int) (n : Nat) : (marks k n).length = n := by simp [marks]

set_option maxRecDepth 100000 in
theorem held_same (v : Value) (k : Int) (n : Nat) (hk0 : 0 ≤ k) (hk1 : k ≤ 100000000) (hn : n ≤ 2000000) (w : World) (hv : RdI v (marks k n) w) :
    Calls Try.prog 45 #[v, .int .i64 k] w fun e w' => e = .returned (.int .i64 (k + n)) ∧ Below w.heap.size w w' := by
  obtain ⟨ad, cap, rfl, h1⟩ := hv
  rw [marks_length] at h1 ⊢
  have H1 := Lib.hid h1
  clear h1
  go_enter Try.func45, Try.ntmps45
  go_wp2
  go_loopw [1, 5] (fun q i wr => ∃ j : Nat, j ≤ n ∧ i = .int .i64 j ∧ q = .int .i64 (k + j) ∧ Below w.heap.size w wr) (fun _ i _ => n - (intOf i).toNat)
  case atStart => exact ⟨0, by omega, rfl, by simp, Below.refl _ _⟩
  case round =>
    obtain ⟨j, hj, rfl, rfl, hb⟩ := hrel
    by_cases hlt : j < n
    · obtain ⟨b, o, rfl, hb1, hc1⟩ := H1.out j hlt
      rw [← hb.cell (p := ⟨b, o + j, none⟩) hb1] at hc1
      rw [show (marks k n).getD j 0 = k + j by simp [marks, List.getD, hlt]] at hc1
      have hyy : ((k + (j : Int)) != (k + (j : Int))) = false := by simp
      go_wp2_with fail
      go_roundw
      case rel => exact ⟨j + 1, by omega, by go_num, by go_num, ⟨hb.os, hb.tape, hb.output, hb.size, hb.block⟩⟩
      case measure => simp [intOf]; omega
    · obtain rfl : j = n := by omega
      go_wp2
      go_ret
      exact ⟨rfl, hb⟩

theorem drop_eq {l : List Int} {j : Nat} (h : j < l.length) : l.drop j = l[j] :: l.drop (j + 1) := List.drop_eq_getElem_cons h
theorem marks_set (l : List Int) (k : Int) (j : Nat) (h : j < l.length) : (marks k j ++ l.drop j).set j (k + j) = marks k (j + 1) ++ l.drop (j + 1) := by
  rw [drop_eq h, marks_succ, List.append_assoc]
  have := List.set_append_right (s := marks k j) (t := l[j] :: l.drop (j + 1)) j (k + (j : Int)) (by rw [marks_length]; omega)
  rw [this, marks_length, Nat.sub_self]; rfl
theorem mid_length (l : List Int) (k : Int) (j : Nat) (h : j ≤ l.length) : (marks k j ++ l.drop j).length = l.length := by simp [marks_length]; omega

/-- a store into an own row. -/
theorem OwnI.set {B g n cap : Nat} {l : List Int} {w : World} (h : OwnI B (.slice (some ⟨g, 0, none⟩) n cap) l w) (i : Nat) (x : Int) :
    OwnI B (.slice (some ⟨g, 0, none⟩) n cap) (l.set i x) (w.setCell ⟨g, i, none⟩ (.int .i64 x)) := by
  obtain ⟨h1, h2⟩ := h
  rcases h2 with ⟨h2, _⟩ | ⟨g', cp, cur, e, hb, hg, hn, hm, hs, ht⟩
  · cases h2
  · cases e
    refine ⟨by simp [intCells], .inr ⟨g, cap, cur.set! i (.int .i64 x), by simp, hb, ?_, by simpa using hn, hm, by simpa using hs, ?_⟩⟩
    · have hlt := (Array.getElem?_eq_some_iff.1 hg).1
      simp [World.setCell, Array.getElem?_modify, hg]
    · simp only [List.length_set, Nat.mul_one] at ht ⊢
      rw [Array.set!_eq_setIfInBounds, Array.toList_setIfInBounds, List.take_set, ht]
      simp [intCells, List.map_set]
theorem OwnI.frozen {B g n cap : Nat} {l : List Int} {w : World} (h : OwnI B (.slice (some ⟨g, 0, none⟩) n cap) l w) (i : Nat) : w.frozen? ⟨g, i, none⟩ = false := by
  obtain ⟨h1, h2⟩ := h
  rcases h2 with ⟨h2, _⟩ | ⟨g', cp, cur, e, hb, hg, hn, hm, hs, ht⟩
  · cases h2
  · cases e
    simp [World.frozen?, hg]
theorem grown_set (w w' : World) (g i : Nat) (u : Value) (h : w.grownBy w' (some g)) : w.grownBy (w'.setCell ⟨g, i, none⟩ u) (some g) :=
  ⟨h.os, h.tape, h.output, by simpa [World.setCell] using h.size, fun k hk hne => by
    rw [Below.heap_setCell w' ⟨g, i, none⟩ u k (fun e => hne (by rw [e]))]; exact h.block k hk hne⟩
theorem grown_refl (w : World) (r : Option Nat) : w.grownBy w r := ⟨rfl, rfl, rfl, Nat.le_refl _, fun _ _ _ => rfl⟩

theorem mark_own (B : Nat) (v : Value) (l : List Int) (k : Int) (hk0 : 0 ≤ k) (hk1 : k ≤ 100000000) (hn : l.length ≤ 2000000) (w : World) (hv : OwnI B v l w) :
    Calls Try.prog 39 #[v, .int .i64 k] w fun e w' => e = .returned (.int .i64 (k + l.length)) ∧ OwnI B v (marks k l.length) w' ∧ w.grownBy w' v.ownBlock := by
  have hv' := hv
  rcases hv'.2 with ⟨rfl, h0⟩ | ⟨g, cap, cur, rfl, _⟩
  · obtain rfl : l = [] := List.length_eq_zero_iff.1 h0
    clear hv' h0
    have Hv := Lib.hid hv
    clear hv
    go_enter Try.func39, Try.ntmps39
    go_wp2
    go_loop [1, 5] (fun q i => q = .int .i64 k ∧ i = .int .i64 0) (fun _ _ => 0)
    case atStart => exact ⟨rfl, rfl⟩
    case round =>
      obtain ⟨rfl, rfl⟩ := hrel
      go_wp2
      go_ret
      exact ⟨by simp, Hv.out, grown_refl _ _⟩
  · clear hv'
    obtain ⟨n, hln⟩ : ∃ n, l.length = n := ⟨_, rfl⟩
    rw [hln] at hv hn ⊢
    have Hv := Lib.hid hv
    have HL := Lib.hid hln
    clear hv hln
    have hgb : w.grownBy w (some g) := grown_refl _ _
    go_enter Try.func39, Try.ntmps39
    go_wp2
    go_loopw [1, 5] (fun q i wr => ∃ j : Nat, j ≤ n ∧ i = .int .i64 j ∧ q = .int .i64 (k + j) ∧ OwnI B (.slice (some ⟨g, 0, none⟩) n cap) (marks k j ++ l.drop j) wr ∧ w.grownBy wr (some g)) (fun _ i _ => n - (intOf i).toNat)
    case atStart => exact ⟨0, by omega, rfl, by simp, by simpa [marks] using Hv.out, hgb⟩
    case round =>
      obtain ⟨j, hj, rfl, rfl, hown, hg⟩ := hrel
      have Ho := Lib.hid hown
      by_cases hlt : j < n
      · have hc := hown.cell (i := j) (by rw [mid_length _ _ _ (by rw [HL.out]; exact hj), HL.out]; exact hlt)
        have hf := hown.frozen j
        generalize (marks k j ++ List.drop j l).getD j 0 = y at hc
        clear hown
        go_wp2_with fail
        go_roundw
        case rel =>
          refine ⟨j + 1, by omega, by go_num, by go_num, ?_, grown_set _ _ _ _ _ hg⟩
          rw [← marks_set l k j (by rw [HL.out]; exact hlt)]
          exact Ho.out.set j _
        case measure => simp [intOf]; omega
      · obtain rfl : j = n := by omega
        clear hown
        go_wp2
        go_ret
        refine ⟨rfl, ?_, hg⟩
        have h := Ho.out
        rwa [List.drop_of_length_le (by rw [HL.out]; omega), List.append_nil] at h
end Go.Proofs.Ytdhaelaoackfkaa.Rows3
