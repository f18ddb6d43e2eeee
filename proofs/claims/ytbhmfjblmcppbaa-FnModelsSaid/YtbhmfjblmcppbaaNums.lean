
/-
  The law on numbers in memory: what is put is read again, and nothing beside it changes.
-/
import Derived.Test.YtbhmfjblmcppbaaLane4
import Derived.Test.YtbhmfjblmcppbaaDraw4
import Derived.IntWalk
namespace Go.Proofs.Ytbhmfjblmcppbaa.Num
open Go.RowKit Rows3 Cur

theorem getD_set_ne {l : List Int} {i j : Nat} {x : Int} (h : i ≠ j) : (l.set i x).getD j 0 = l.getD j 0 := by
  simp [List.getD, h]
theorem getD_set_eq {l : List Int} {i : Nat} {x : Int} (h : i < l.length) : (l.set i x).getD i 0 = x := by
  simp [List.getD, h]
theorem putL_out (l : List Int) (A : Nat) (v : Int) (n i : Nat) (h : i < A ∨ A + n ≤ i) : (putL l A v n).getD i 0 = l.getD i 0 := by
  induction n with
  | zero => rfl
  | succ n ih => rw [putL, getD_set_ne (by omega), ih (by omega)]
theorem putL_in (l : List Int) (A : Nat) (v : Int) (n j : Nat) (h : j < n) (hl : A + n ≤ l.length) : (putL l A v n).getD (A + j) 0 = v / 256 ^ j % 256 := by
  induction n with
  | zero => omega
  | succ n ih =>
    rw [putL]
    by_cases hj : j = n
    · subst hj; rw [getD_set_eq (by rw [putL_length]; omega)]
    · rw [getD_set_ne (by omega), ih (by omega) (by omega)]
theorem leV_put (l : List Int) (A : Nat) (v : Int) (n : Nat) (hn : n = 1 ∨ n = 2 ∨ n = 4) (hl : A + n ≤ l.length) (h0 : 0 ≤ v) (h1 : v < 256 ^ n) : leV (putL l A v n) A n = v := by
  have h := fun j hj => putL_in l A v n j hj hl
  rcases hn with rfl | rfl | rfl
  · have a0 := h 0 (by omega)
    rw [Nat.add_zero] at a0
    simp only [leV, Nat.add_zero]
    rw [a0]
    simp at h1 ⊢
    omega
  · have a0 := h 0 (by omega)
    have a1 := h 1 (by omega)
    rw [Nat.add_zero] at a0
    simp only [leV, Nat.add_zero]
    rw [a0, a1]
    simp at h1 ⊢
    omega
  · have a0 := h 0 (by omega)
    have a1 := h 1 (by omega)
    have a2 := h 2 (by omega)
    have a3 := h 3 (by omega)
    rw [Nat.add_zero] at a0
    simp only [leV, Nat.add_zero]
    rw [a0, a1, a2, a3]
    simp at h1 ⊢
    omega
theorem putL_mem (l : List Int) (A : Nat) (v : Int) (n : Nat) (h : ∀ x ∈ l, 0 ≤ x ∧ x ≤ 255) : ∀ x ∈ putL l A v n, 0 ≤ x ∧ x ≤ 255 := by
  induction n with
  | zero => exact h
  | succ n ih =>
    intro x hx
    rw [putL] at hx
    rcases List.mem_or_eq_of_mem_set hx with h1 | h1
    · exact ih x h1
    · rw [h1]; omega
theorem lim_pow {k : Int} {n : Nat} (hn : bytesW k = n) (h3 : 0 < n) : limW k = 256 ^ n := by
  rcases limW_cases k with ⟨e, _⟩ | ⟨_, e, e2⟩ | ⟨_, e, e2⟩ | ⟨_, e, e2⟩
  · omega
  · rw [show n = 1 by omega, e2]; rfl
  · rw [show n = 2 by omega, e2]; rfl
  · rw [show n = 4 by omega, e2]; rfl
theorem get_put {l : List Int} {a k v : Int} (h : putB l a k v = true) : getB (putW l a k v) a k = true ∧ getW (putW l a k v) a k = v := by
  have hl := putW_length l a k v
  obtain ⟨A, n, rfl, hn, hn3, hfit, h512, hby, h0, h1, hw⟩ := putB_yes h
  have hg : getB l A k = true := by unfold putB at h; rw [Bool.and_eq_true] at h; exact h.1
  have hi : v < limW k := by unfold putB at h; rw [Bool.and_eq_true, inLB_iff] at h; exact h.2.2
  have hg2 : getB (putW l A k v) A k = true := by
    unfold getB at hg ⊢
    rw [hl]
    rw [Bool.and_eq_true] at hg ⊢
    refine ⟨?_, hg.2⟩
    rw [memB_iff, hl, hw]
    exact ⟨h512, putL_mem l A v n hby⟩
  refine ⟨hg2, ?_⟩
  obtain ⟨A', n', hA, hn', _, _, _, _, hgw⟩ := getB_yes hg2
  obtain rfl : A = A' := by omega
  obtain rfl : n = n' := by omega
  rw [hgw, hw]
  exact leV_put l A v n hn3 hfit h0 (by rw [← lim_pow hn (by omega)]; exact hi)
theorem put_out {l : List Int} {a k v : Int} (h : putB l a k v = true) (i : Nat) (hi : (i : Int) < a ∨ a + bytesW k ≤ i) : (putW l a k v).getD i 0 = l.getD i 0 := by
  obtain ⟨A, n, rfl, hn, hn3, hfit, h512, hby, h0, h1, hw⟩ := putB_yes h
  rw [hw]
  exact putL_out l A v n i (by omega)
theorem rd_get {ad : Option Addr} {n cap : Nat} {l : List Int} {w : World} (h : RdI (.slice ad n cap) l w) {i : Nat} (hi : i < n) :
    ∃ b o, ad = some ⟨b, o, none⟩ ∧ b < w.heap.size ∧ w.cell? ⟨b, o + i, none⟩ = some (.int .i64 (l.getD i 0)) := by
  obtain ⟨ad', cap', e, h⟩ := h
  cases e
  exact h i hi
theorem qBytes (k y : Int) (h : bytesW k = y) (w : World) :
    Calls Try.prog 82 #[.int .i64 k] w fun e w' => e = .returned (.int .i64 y) ∧ w' = w :=
  (implBytes k w).mono fun _ _ ⟨h1, h2⟩ => ⟨by rw [h1, h], h2.symm⟩

end Go.Proofs.Ytbhmfjblmcppbaa.Num
