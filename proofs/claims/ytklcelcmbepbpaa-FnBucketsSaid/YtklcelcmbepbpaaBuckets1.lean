
/-
  The law on token buckets: its mathematics.
-/
import Derived.Test.YtklcelcmbepbpaaDrawB2
namespace Go.Proofs.Ytklcelcmbepbpaa.CurB
open Go.RowKit Bytes Num GR KD Cur
set_option linter.unusedVariables false

/-- what holds after i cycles: n tokens are taken, (t, k) is the bucket, (t0, k0) was the first one. -/
def Inv (p : Bool) (ev cap t0 k0 i t k n : Int) : Prop :=
  okB p ev cap t k = true ∧ (0 ≤ n ∧ n ≤ i) ∧ ((p = false ∧ n = 0) ∨ (p = true ∧ ev * (n + t - t0) ≤ k0 + i - k))
theorem inv_start {p : Bool} {ev cap t k : Int} (hok : okB p ev cap t k = true) : Inv p ev cap t k 0 t k 0 := by
  refine ⟨hok, by omega, ?_⟩
  cases p with
  | false => exact .inl ⟨rfl, rfl⟩
  | true => exact .inr ⟨rfl, by have : (0 : Int) + t - t = 0 := by omega
                                rw [this, Int.mul_zero]; omega⟩
theorem inv_tick {p : Bool} {ev cap t0 k0 i t k n : Int} (hm : MV p ev cap) (h : Inv p ev cap t0 k0 i t k n) : Inv p ev cap t0 k0 (i + 1) (tickT p ev cap t k) (tickC p ev cap t k) n := by
  obtain ⟨hok, hn, h⟩ := h
  refine ⟨okB_tick hm hok, by omega, ?_⟩
  rcases h with ⟨hp, rfl⟩ | ⟨rfl, h⟩
  · exact .inl ⟨hp, rfl⟩
  · refine .inr ⟨rfl, ?_⟩
    rcases hm with ⟨h1, _⟩ | ⟨_, h1, h2⟩
    · cases h1
    · have hu : (true && okB true ev cap t k) = true := by rw [hok]; rfl
      have hv := okB_iff.1 hok
      have he : ev = 1 ∨ ev = 2 ∨ ev = 3 ∨ ev = 4 ∨ ev = 5 ∨ ev = 6 := by omega
      by_cases h3 : k + 1 < ev
      · obtain ⟨e1, e2⟩ := tick_lt hu h3
        rw [e1, e2]
        rcases he with rfl | rfl | rfl | rfl | rfl | rfl <;> omega
      · obtain ⟨e1, e2⟩ := tick_eq hu (by omega)
        rw [e1, e2]
        unfold addB
        split <;> rcases he with rfl | rfl | rfl | rfl | rfl | rfl <;> omega
theorem takes_iff {p : Bool} {ev cap t k : Int} (hok : okB p ev cap t k = true) (hm : MV p ev cap) : takes p ev cap t k = (p && decide (0 < t)) := by
  unfold takes
  rw [hok]
  rcases hm with ⟨rfl, rfl, rfl⟩ | ⟨rfl, h1, h2⟩
  · rfl
  · have hv := okB_iff.1 hok
    by_cases h : t = 0
    · subst h; rfl
    · have h3 : 0 < t := by omega
      simp [h, h3]
theorem inv_take {p : Bool} {ev cap t0 k0 i t k n : Int} (hm : MV p ev cap) (h : Inv p ev cap t0 k0 (i + 1) t k n) (hi : n ≤ i) (ht : takes p ev cap t k = true) : Inv p ev cap t0 k0 (i + 1) (t - 1) k (n + 1) ∧ p = true ∧ 0 < t ∧ t ≤ cap ∧ addB cap (t - 1) = t := by
  obtain ⟨hok, hn, h⟩ := h
  rw [takes_iff hok hm] at ht
  rcases hm with ⟨rfl, rfl, rfl⟩ | ⟨rfl, h1, h2⟩
  · cases ht
  · have h0 : 0 < t := by simpa using ht
    have hv := okB_iff.1 hok
    refine ⟨⟨by rw [okB_iff]; omega, by omega, ?_⟩, rfl, h0, hv.2.1, by rw [addB_lt (by omega)]; omega⟩
    rcases h with ⟨h3, _⟩ | ⟨_, h⟩
    · cases h3
    · refine .inr ⟨rfl, ?_⟩
      have : n + 1 + (t - 1) - t0 = n + t - t0 := by omega
      rw [this]; exact h
theorem inv_end {p : Bool} {ev cap t0 k0 i t k n : Int} (hm : MV p ev cap) (h0 : okB p ev cap t0 k0 = true) (h : Inv p ev cap t0 k0 i t k n) (hi : 0 ≤ i ∧ i < 60) : n ≤ mostW p ev cap i := by
  obtain ⟨hok, hn, h⟩ := h
  rcases hm with ⟨rfl, rfl, rfl⟩ | ⟨rfl, h1, h2⟩
  · rcases h with ⟨_, rfl⟩ | ⟨h3, _⟩
    · rw [mostW_no (by simp)]; omega
    · cases h3
  · rcases h with ⟨h3, _⟩ | ⟨_, h⟩
    · cases h3
    · rw [mostW_yes (by omega) (by omega) (inB_yes (by omega) (by omega))]
      have hv := okB_iff.1 hok
      have hv0 := okB_iff.1 h0
      have hd0 : 0 ≤ i / ev := Int.ediv_nonneg (by omega) (by omega)
      have hd1 : i / ev ≤ i := Int.ediv_le_self _ (by omega)
      have e1 : wrap64 (cap + i / ev) = cap + i / ev := Go.IntWalk.wrap64_in _ ⟨by omega, by omega⟩
      have e2 : wrap64 (cap + i / ev + 1) = cap + i / ev + 1 := Go.IntWalk.wrap64_in _ ⟨by omega, by omega⟩
      rw [e1, e2]
      have he : ev = 1 ∨ ev = 2 ∨ ev = 3 ∨ ev = 4 ∨ ev = 5 ∨ ev = 6 := by omega
      rcases he with rfl | rfl | rfl | rfl | rfl | rfl <;> omega
theorem below_bk (n : Nat) (w : World) (u v : Value) : Below n w ((w.setCell ⟨n, 0, none⟩ u).setCell ⟨n, 1, none⟩ v) :=
  ((Below.refl n w).setCell (p := ⟨n, 0, none⟩) (Nat.le_refl _) u).setCell (p := ⟨n, 1, none⟩) (Nat.le_refl _) v
theorem CodeIn.at {a : Option Addr} {len : Nat} {z : List Int} {w w' : World} (h : CodeIn a len z w) {B : Nat} (hb : Below B w w') (hB : w.heap.size ≤ B) : CodeIn a len z w' := h.below (hb.mono hB)
end Go.Proofs.Ytklcelcmbepbpaa.CurB
