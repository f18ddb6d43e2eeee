
/-
  The law on models: its mathematics.
-/
import Derived.Test.YtbhmfjblmcppbaaMod6
import Derived.Test.YtbhmfjblmcppbaaNums
import Derived.Test.YtbhmfjblmcppbaaDevs
namespace Go.Proofs.Ytbhmfjblmcppbaa.KD
open Go.RowKit Rows3 GR Num
set_option linter.unusedVariables false

theorem okM_iff (l r : List Int) (t : Int) (f : List Int) : okM l r t f = true ↔ l.length = 192 ∧ (∀ x ∈ l, 0 ≤ x ∧ x ≤ 255) ∧ okD r t f = true := by
  unfold okM
  simp only [Bool.and_eq_true, beq_iff_eq, memB_iff]
  constructor
  · rintro ⟨a, ⟨_, b⟩, c⟩; exact ⟨by omega, b, c⟩
  · rintro ⟨a, b, c⟩; exact ⟨by omega, ⟨by omega, b⟩, c⟩
theorem doM_ok {wr : Bool} {a k v : Int} {l r : List Int} {t : Int} {f : List Int} {l' r' : List Int} {t' : Int} {f' : List Int} {n : Int} (h : doM wr a k v l r t f = ((l', (r', t', f')), n, 0)) : okM l r t f = true ∧ doB wr a k v l r t f = ((l', (r', t', f')), n, true) := by
  unfold doM at h
  split at h
  · rename_i h1
    refine ⟨h1.1, ?_⟩
    obtain ⟨D, hD⟩ : ∃ D, doB wr a k v l r t f = D := ⟨_, rfl⟩
    rw [hD] at h h1 ⊢
    obtain ⟨x, m, b⟩ := D
    obtain rfl : b = true := h1.2
    simp only [Prod.mk.injEq] at h
    obtain ⟨h2, h3, _⟩ := h
    rw [h2, h3]
  · simp at h
theorem doM_err {wr : Bool} {a k v : Int} {l r : List Int} {t : Int} {f : List Int} {l' r' : List Int} {t' : Int} {f' : List Int} {n q : Int} (h : doM wr a k v l r t f = ((l', (r', t', f')), n, q)) (hq : ¬ q = 0) : q = 1 ∧ n = 0 ∧ l' = l ∧ r' = r ∧ t' = t ∧ f' = f := by
  unfold doM at h
  split at h
  · simp only [Prod.mk.injEq] at h; omega
  · simp only [Prod.mk.injEq] at h
    obtain ⟨⟨h1, h2, h3, h4⟩, h5, h6⟩ := h
    exact ⟨h6.symm, h5.symm, h1.symm, h2.symm, h3.symm, h4.symm⟩
theorem okM_put {l r : List Int} {t : Int} {f : List Int} {a k v : Int} (h : okM l r t f = true) (hp : putB l a k v = true) : okM (putW l a k v) r t f = true := by
  rw [okM_iff] at h ⊢
  obtain ⟨h1, h2, h3⟩ := h
  refine ⟨by rw [putW_length]; exact h1, ?_, h3⟩
  obtain ⟨A, n, rfl, hn, hn3, hfit, h512, hby, h0, h4, hw⟩ := putB_yes hp
  rw [hw]
  exact putL_mem l A v n h2
theorem doB_ok {wr : Bool} {a k v : Int} {l r : List Int} {t : Int} {f : List Int} {l' r' : List Int} {t' : Int} {f' : List Int} {n : Int} (h : doB wr a k v l r t f = ((l', (r', t', f')), n, true)) (ho : okM l r t f = true) : okM l' r' t' f' = true ∧ (wr = true → n = v) := by
  by_cases h1 : slaveW a = 1 ∨ slaveW a = 2
  · cases wr with
    | true =>
      rw [doB_w h1] at h
      simp only [Prod.mk.injEq] at h
      obtain ⟨⟨rfl, rfl, rfl, rfl⟩, rfl, hp⟩ := h
      exact ⟨okM_put ho hp, fun _ => rfl⟩
    | false =>
      rw [doB_r h1] at h
      simp only [Prod.mk.injEq] at h
      obtain ⟨⟨rfl, rfl, rfl, rfl⟩, _, _⟩ := h
      exact ⟨ho, fun h => by cases h⟩
  · by_cases h2 : slaveW a = 3 ∧ k = 2
    · obtain ⟨h2, rfl⟩ := h2
      rw [doB_d h2] at h
      obtain ⟨D, hD⟩ : ∃ D, doD wr (a - 192) v r t f = D := ⟨_, rfl⟩
      rw [hD] at h
      obtain ⟨⟨r1, t1, f1⟩, n1, k1⟩ := D
      simp only [Prod.mk.injEq] at h
      obtain ⟨⟨rfl, rfl, rfl, rfl⟩, rfl, rfl⟩ := h
      obtain ⟨_, h4, h5⟩ := doD_yes hD
      rw [okM_iff] at ho ⊢
      exact ⟨⟨ho.1, ho.2.1, h4⟩, h5⟩
    · rw [doB_no h1 h2] at h; simp at h
/-- a beat on the memory, then the same read again. -/
theorem doB_low {wr : Bool} {a k v : Int} {l r : List Int} {t : Int} {f : List Int} {l' r' : List Int} {t' : Int} {f' : List Int} {n : Int} (h : doB wr a k v l r t f = ((l', (r', t', f')), n, true)) (ho : okM l r t f = true) (ha : a < 192) :
    ∃ j, doM false a k 0 l' r' t' f' = ((l', (r', t', f')), j, 0) ∧ (wr = true → j = v) ∧ (wr = false → j = n ∧ l' = l ∧ r' = r ∧ t' = t ∧ f' = f) := by
  have ho' := (doB_ok h ho).1
  by_cases h1 : slaveW a = 1 ∨ slaveW a = 2
  · cases wr with
    | true =>
      rw [doB_w h1] at h
      simp only [Prod.mk.injEq] at h
      obtain ⟨⟨rfl, rfl, rfl, rfl⟩, rfl, hp⟩ := h
      obtain ⟨hg, hv⟩ := get_put hp
      refine ⟨v, ?_, fun _ => rfl, fun h => by cases h⟩
      rw [doM_yes ho' (by rw [doB_r h1]; exact hg), doB_r h1, hv]
    | false =>
      rw [doB_r h1] at h
      simp only [Prod.mk.injEq] at h
      obtain ⟨⟨rfl, rfl, rfl, rfl⟩, rfl, hg⟩ := h
      refine ⟨getW l a k, ?_, (fun h => by cases h), fun _ => ⟨rfl, rfl, rfl, rfl, rfl⟩⟩
      rw [doM_yes ho' (by rw [doB_r h1]; exact hg), doB_r h1]
  · by_cases h2 : slaveW a = 3 ∧ k = 2
    · exfalso
      rcases slaveW_cases a with ⟨ha, e⟩ | ⟨ha, e⟩ | ⟨ha, e⟩ | ⟨ha, e⟩ <;> omega
    · rw [doB_no h1 h2] at h; simp at h
theorem doB_high {wr : Bool} {a k v : Int} {l r : List Int} {t : Int} {f : List Int} {l' r' : List Int} {t' : Int} {f' : List Int} {n : Int} {b : Bool} (h : doB wr a k v l r t f = ((l', (r', t', f')), n, b)) (ha : ¬ a < 192) : l' = l := by
  by_cases h1 : slaveW a = 1 ∨ slaveW a = 2
  · exfalso
    rcases slaveW_cases a with ⟨ha, e⟩ | ⟨ha, e⟩ | ⟨ha, e⟩ | ⟨ha, e⟩ <;> omega
  · by_cases h2 : slaveW a = 3 ∧ k = 2
    · obtain ⟨h2, rfl⟩ := h2
      rw [doB_d h2] at h
      simp only [Prod.mk.injEq] at h
      exact h.1.1.symm
    · rw [doB_no h1 h2] at h
      simp only [Prod.mk.injEq] at h
      exact h.1.1.symm
theorem sameMT (cs ds : List Value) (l r : List Int) (t : Int) (f : List Int) (hl : l.length ≤ 2000000) (hr : r.length ≤ 2000000) (hf : f.length ≤ 2000000) (w : World) (h : modelK.rd cs (l, (r, t, f)) w) (h' : modelK.rd ds (l, (r, t, f)) w) :
    Calls Try.prog 13 #[agg cs, agg ds] w fun e w' => e = .returned (.bool true) ∧ Below w.heap.size w w' := by
  have := specSameModel cs ds l r t f l r t f hl hr hf w h h'
  rwa [(sameM_iff l r t f l r t f).2 rfl] at this
theorem okMI (cs : List Value) {l r : List Int} {t : Int} {f : List Int} {b : Bool} (hb : okM l r t f = b) (hl : l.length ≤ 2000000) (hr : r.length ≤ 2000000) (hf : f.length ≤ 2000000) (w : World) (h : modelK.rd cs (l, (r, t, f)) w) :
    Calls Try.prog 14 #[agg cs] w fun e w' => e = .returned (.bool b) ∧ Below w.heap.size w w' := hb ▸ implModelOk cs l r t f hl hr hf w h
end Go.Proofs.Ytbhmfjblmcppbaa.KD
