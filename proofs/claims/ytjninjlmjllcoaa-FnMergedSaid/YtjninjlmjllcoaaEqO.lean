
/-
  What the laws' own functions on rows of numbers return: are two the same; marksO written into one; are the marksO there.
-/
import Derived.Test.YtjninjlmjllcoaaBoolRow
import Derived.Test.YtjninjlmjllcoaaEq
namespace Go.Proofs.Ytjninjlmjllcoaa.Rows3
open Go.RowKit

set_option maxRecDepth 100000 in
theorem eqO_same (v u : Value) (l : List Bool) (hl : l.length ≤ 2000000) (w : World) (hv : RdO v l w) (hu : RdO u l w) :
    Calls Try.prog 29 #[v, u] w fun e w' => e = .returned (.bool true) ∧ Below w.heap.size w w' := by
  obtain ⟨ad, cap, rfl, h1⟩ := hv
  obtain ⟨bd, cbp, rfl, h2⟩ := hu
  obtain ⟨n, hln⟩ : ∃ n, l.length = n := ⟨_, rfl⟩
  rw [hln] at h1 h2 hl ⊢
  have H1 := Lib.hid h1
  have H2 := Lib.hid h2
  clear h1 h2 hln
  have hne : (((n : Nat) : Int) != ((n : Nat) : Int)) = false := by simp
  go_enter Try.func29, Try.ntmps29
  go_wp2
  go_loopw [5] (fun i wr => ∃ k : Nat, k ≤ n ∧ i = .int .i64 k ∧ Below w.heap.size w wr) (fun i _ => n - (intOf i).toNat)
  case atStart => exact ⟨0, by omega, rfl, Below.refl _ _⟩
  case round =>
    obtain ⟨k, hk, rfl, hb⟩ := hrel
    by_cases hlt : k < n
    · obtain ⟨b, o, rfl, hb1, hc1⟩ := H1.out k hlt
      obtain ⟨b', o', rfl, hb2, hc2⟩ := H2.out k hlt
      rw [← hb.cell (p := ⟨b, o + k, none⟩) hb1] at hc1
      rw [← hb.cell (p := ⟨b', o' + k, none⟩) hb2] at hc2
      generalize l.getD k false = y at hc1 hc2
      have hyy : (y != y) = false := by simp
      go_wp2_with fail
      go_quiet (fail)
      go_wp2_with fail
      go_roundw
      case rel => exact ⟨k + 1, by omega, by go_num, ⟨hb.os, hb.tape, hb.output, hb.size, hb.block⟩⟩
      case measure => simp [intOf]; omega
    · go_wp2
      go_ret
      exact ⟨rfl, hb⟩

/-- the marksO that markBoolS writes from k on. -/
def marksO (k : Int) (n : Nat) : List Bool := (List.range n).map fun i : Nat => ((k + (i : Int)) % 3 == 0)
theorem marksO_succ (k : Int) (n : Nat) : marksO k (n + 1) = marksO k n ++ [((k + (n : Int)) % 3 == 0)] := by simp [marksO, List.range_succ]
theorem marksO_length (k : Int) (n : Nat) : (marksO k n).length = n := by simp [marksO]

set_option maxRecDepth 100000 in
theorem heldO_same (v : Value) (k : Int) (n : Nat) (hk0 : 0 ≤ k) (hk1 : k ≤ 2000000) (hn : n ≤ 2000000) (w : World) (hv : RdO v (marksO k n) w) :
    Calls Try.prog 31 #[v, .int .i64 k] w fun e w' => e = .returned (.int .i64 (k + n)) ∧ Below w.heap.size w w' := by
  obtain ⟨ad, cap, rfl, h1⟩ := hv
  rw [marksO_length] at h1 ⊢
  have H1 := Lib.hid h1
  clear h1
  go_enter Try.func31, Try.ntmps31
  go_wp2
  go_loopw [1, 5] (fun q i wr => ∃ j : Nat, j ≤ n ∧ i = .int .i64 j ∧ q = .int .i64 (k + j) ∧ Below w.heap.size w wr) (fun _ i _ => n - (intOf i).toNat)
  case atStart => exact ⟨0, by omega, rfl, by simp, Below.refl _ _⟩
  case round =>
    obtain ⟨j, hj, rfl, rfl, hb⟩ := hrel
    by_cases hlt : j < n
    · obtain ⟨b, o, rfl, hb1, hc1⟩ := H1.out j hlt
      rw [← hb.cell (p := ⟨b, o + j, none⟩) hb1] at hc1
      rw [show (marksO k n).getD j false = ((k + (j : Int)) % 3 == 0) by simp [marksO, List.getD, hlt]] at hc1
      have hyy : ((k + (j : Int)) != (k + (j : Int))) = false := by simp
      go_wp2_with fail
      go_roundw
      case rel => exact ⟨j + 1, by omega, by go_num, by go_num, ⟨hb.os, hb.tape, hb.output, hb.size, hb.block⟩⟩
      case measure => simp [intOf]; omega
    · obtain rfl : j = n := by omega
      go_wp2
      go_ret
      exact ⟨rfl, hb⟩

theorem dropO_eq {l : List Bool} {j : Nat} (h : j < l.length) : l.drop j = l[j] :: l.drop (j + 1) := List.drop_eq_getElem_cons h
theorem marksO_set (l : List Bool) (k : Int) (j : Nat) (h : j < l.length) : (marksO k j ++ l.drop j).set j ((k + (j : Int)) % 3 == 0) = marksO k (j + 1) ++ l.drop (j + 1) := by
  rw [dropO_eq h, marksO_succ, List.append_assoc]
  have := List.set_append_right (s := marksO k j) (t := l[j] :: l.drop (j + 1)) j ((k + (j : Int)) % 3 == 0) (by rw [marksO_length]; omega)
  rw [this, marksO_length, Nat.sub_self]; rfl
theorem midO_length (l : List Bool) (k : Int) (j : Nat) (h : j ≤ l.length) : (marksO k j ++ l.drop j).length = l.length := by simp [marksO_length]; omega

/-- a store into an own row. -/
theorem OwnO.set {B g n cap : Nat} {l : List Bool} {w : World} (h : OwnO B (.slice (some ⟨g, 0, none⟩) n cap) l w) (i : Nat) (x : Bool) :
    OwnO B (.slice (some ⟨g, 0, none⟩) n cap) (l.set i x) (w.setCell ⟨g, i, none⟩ (.bool x)) := by
  obtain ⟨h1, h2⟩ := h
  rcases h2 with ⟨h2, _⟩ | ⟨g', cp, cur, e, hb, hg, hn, hm, hs, ht⟩
  · cases h2
  · cases e
    refine ⟨by simp [boolCells], .inr ⟨g, cap, cur.set! i (.bool x), by simp, hb, ?_, by simpa using hn, hm, by simpa using hs, ?_⟩⟩
    · have hlt := (Array.getElem?_eq_some_iff.1 hg).1
      simp [World.setCell, Array.getElem?_modify, hg]
    · simp only [List.length_set, Nat.mul_one] at ht ⊢
      rw [Array.set!_eq_setIfInBounds, Array.toList_setIfInBounds, List.take_set, ht]
      simp [boolCells, List.map_set]
theorem OwnO.frozen {B g n cap : Nat} {l : List Bool} {w : World} (h : OwnO B (.slice (some ⟨g, 0, none⟩) n cap) l w) (i : Nat) : w.frozen? ⟨g, i, none⟩ = false := by
  obtain ⟨h1, h2⟩ := h
  rcases h2 with ⟨h2, _⟩ | ⟨g', cp, cur, e, hb, hg, hn, hm, hs, ht⟩
  · cases h2
  · cases e
    simp [World.frozen?, hg]
set_option maxRecDepth 100000 in
theorem markO_own (B : Nat) (v : Value) (l : List Bool) (k : Int) (hk0 : 0 ≤ k) (hk1 : k ≤ 2000000) (hn : l.length ≤ 2000000) (w : World) (hv : OwnO B v l w) :
    Calls Try.prog 30 #[v, .int .i64 k] w fun e w' => e = .returned (.int .i64 (k + l.length)) ∧ OwnO B v (marksO k l.length) w' ∧ w.grownBy w' v.ownBlock := by
  have hv' := hv
  rcases hv'.2 with ⟨rfl, h0⟩ | ⟨g, cap, cur, rfl, _⟩
  · obtain rfl : l = [] := List.length_eq_zero_iff.1 h0
    clear hv' h0
    have Hv := Lib.hid hv
    clear hv
    go_enter Try.func30, Try.ntmps30
    go_wp2
    go_loop [1, 5] (fun q i => q = .int .i64 k ∧ i = .int .i64 0) (fun _ _ => 0)
    case atStart => exact ⟨rfl, rfl⟩
    case round =>
      obtain ⟨rfl, rfl⟩ := hrel
      go_wp2
      go_ret
      exact ⟨by simp, Hv.out, grown_refl _ _⟩
  · clear hv'
    obtain ⟨n, hln⟩ : ∃ n, l.length = n := ⟨_, rfl⟩
    rw [hln] at hv hn ⊢
    have Hv := Lib.hid hv
    have HL := Lib.hid hln
    clear hv hln
    have hgb : w.grownBy w (some g) := grown_refl _ _
    go_enter Try.func30, Try.ntmps30
    go_wp2
    go_loopw [1, 5] (fun q i wr => ∃ j : Nat, j ≤ n ∧ i = .int .i64 j ∧ q = .int .i64 (k + j) ∧ OwnO B (.slice (some ⟨g, 0, none⟩) n cap) (marksO k j ++ l.drop j) wr ∧ w.grownBy wr (some g)) (fun _ i _ => n - (intOf i).toNat)
    case atStart => exact ⟨0, by omega, rfl, by simp, by simpa [marksO] using Hv.out, hgb⟩
    case round =>
      obtain ⟨j, hj, rfl, rfl, hown, hg⟩ := hrel
      have Ho := Lib.hid hown
      by_cases hlt : j < n
      · have hc := hown.cell (i := j) (by rw [midO_length _ _ _ (by rw [HL.out]; exact hj), HL.out]; exact hlt)
        have hf := hown.frozen j
        generalize (marksO k j ++ List.drop j l).getD j false = y at hc
        clear hown
        go_wp2_with fail
        go_roundw
        case rel =>
          refine ⟨j + 1, by omega, by go_num, by go_num, ?_, grown_set _ _ _ _ _ hg⟩
          rw [← marksO_set l k j (by rw [HL.out]; exact hlt)]
          exact Ho.out.set j _
        case measure => simp [intOf]; omega
      · obtain rfl : j = n := by omega
        clear hown
        go_wp2
        go_ret
        refine ⟨rfl, ?_, hg⟩
        have h := Ho.out
        rwa [List.drop_of_length_le (by rw [HL.out]; omega), List.append_nil] at h
end Go.Proofs.Ytjninjlmjllcoaa.Rows3
