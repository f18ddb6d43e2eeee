
/-
  What the laws' own functions on rows of numbers return: are two the same; marksO written into one; are the marksO there.
-/
import Derived.Test.YtddbhokfjdgabaaBoolRow
import Derived.Test.YtddbhokfjdgabaaEq
namespace Go.Proofs.Ytddbhokfjdgabaa.Rows3
open Go.RowKit

set_option maxRecDepth 100000 in
theorem eqO_same (v u : Value) (l : List Bool) (hl : l.length ≤ 2000000) (w : World) (hv : RdO v l w) (hu : RdO u l w) :
    Calls Try.prog 22 #[v, u] w fun e w' => e = .returned (.bool true) ∧ Below w.heap.size w w' := by
  obtain ⟨ad, cap, rfl, h1⟩ := hv
  obtain ⟨bd, cbp, rfl, h2⟩ := hu
  obtain ⟨n, hln⟩ : ∃ n, l.length = n := ⟨_, rfl⟩
  rw [hln] at h1 h2 hl ⊢
  have H1 := Lib.hid h1
  have H2 := Lib.hid h2
  clear h1 h2 hln
  have hne : (((n : Nat) : Int) != ((n : Nat) : Int)) = false := by simp
  go_enter Try.func22, Try.ntmps22
  go_wp2
  go_loopw [5] (fun i wr => ∃ k : Nat, k ≤ n ∧ i = .int .i64 k ∧ Below w.heap.size w wr) (fun i _ => n - (intOf i).toNat)
  case atStart => exact ⟨0, by omega, rfl, Below.refl _ _⟩
  case round =>
    obtain ⟨k, hk, rfl, hb⟩ := hrel
    by_cases hlt : k < n
    · obtain ⟨b, o, rfl, hb1, hc1⟩ := H1.out k hlt
      obtain ⟨b', o', rfl, hb2, hc2⟩ := H2.out k hlt
      rw [← hb.cell (p := ⟨b, o + k, none⟩) hb1] at hc1
      rw [← hb.cell (p := ⟨b', o' + k, none⟩) hb2] at hc2
      generalize l.getD k false = y at hc1 hc2
      have hyy : (y != y) = false := by simp
      go_wp2_with fail
      go_quiet (fail)
      go_wp2_with fail
      go_roundw
      case rel => exact ⟨k + 1, by omega, by go_num, ⟨hb.os, hb.tape, hb.output, hb.size, hb.block⟩⟩
      case measure => simp [intOf]; omega
    · go_wp2
      go_ret
      exact ⟨rfl, hb⟩

/-- the marksO that markBoolS writes from k on. -/
def marksO (k : Int) (n : Nat) : List Bool := (List.range n).map fun i : Nat => ((k + (i : Int)) % 3 == 0)
theorem marksO_succ (k : Int) (n : Nat) : marksO k (n + 1) = marksO k n ++ [((k + (n : Int)) % 3 == 0)] := by simp [marksO, List.range_succ]
theorem marksO_length (k : Int) (n : Nat) : (marksO k n).length = n := by simp [marksO]

theorem dropO_eq {l : List Bool} {j : Nat} (h : j < l.length) : l.drop j = l[j] :: l.drop (j + 1) := List.drop_eq_getElem_cons h
theorem marksO_set (l : List Bool) (k : Int) (j : Nat) (h : j < l.length) : (marksO k j ++ l.drop j).set j ((k + (j : Int)) % 3 == 0) = marksO k (j + 1) ++ l.drop (j + 1) := by
  rw [dropO_eq h, marksO_succ, List.append_assoc]
  have := List.set_append_right (s := marksO k j) (t := l[j] :: l.drop (j + 1)) j ((k + (j : Int)) % 3 == 0) (by rw [marksO_length]; omega)
  rw [this, marksO_length, Nat.sub_self]; rfl
theorem midO_length (l : List Bool) (k : Int) (j : Nat) (h : j ≤ l.length) : (marksO k j ++ l.drop j).length = l.length := by simp [marksO_length]; omega

/-- a store into an own row. -/
theorem OwnO.set {B g n cap : Nat} {l : List Bool} {w : World} (h : OwnO B (.slice (some ⟨g, 0, none⟩) n cap) l w) (i : Nat) (x : Bool) :
    OwnO B (.slice (some ⟨g, 0, none⟩) n cap) (l.set i x) (w.setCell ⟨g, i, none⟩ (.bool x)) := by
  obtain ⟨h1, h2⟩ := h
  rcases h2 with ⟨h2, _⟩ | ⟨g', cp, cur, e, hb, hg, hn, hm, hs, ht⟩
  · cases h2
  · cases e
    refine ⟨by simp [boolCells], .inr ⟨g, cap, cur.set! i (.bool x), by simp, hb, ?_, by simpa using hn, hm, by simpa using hs, ?_⟩⟩
    · have hlt := (Array.getElem?_eq_some_iff.1 hg).1
      simp [World.setCell, Array.getElem?_modify, hg]
    · simp only [List.length_set, Nat.mul_one] at ht ⊢
      rw [Array.set!_eq_setIfInBounds, Array.toList_setIfInBounds, List.take_set, ht]
      simp [boolCells, List.map_set]
theorem OwnO.frozen {B g n cap : Nat} {l : List Bool} {w : World} (h : OwnO B (.slice (some ⟨g, 0, none⟩) n cap) l w) (i : Nat) : w.frozen? ⟨g, i, none⟩ = false := by
  obtain ⟨h1, h2⟩ := h
  rcases h2 with ⟨h2, _⟩ | ⟨g', cp, cur, e, hb, hg, hn, hm, hs, ht⟩
  · cases h2
  · cases e
    simp [World.frozen?, hg]
end Go.Proofs.Ytddbhokfjdgabaa.Rows3
