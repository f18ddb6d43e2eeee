
/-
  How large a model is, ahead of ModelDo and behind it.
-/
import Derived.Test.YtbhmfjblmcppbaaMod5
namespace Go.Proofs.Ytbhmfjblmcppbaa.KD
open Go.RowKit Rows3 GR Num

theorem mod_len {l r : List Int} {t : Int} {f : List Int} (h : modelK.sz (l, (r, t, f)) ≤ 2000000) : l.length ≤ 2000000 := by
  rw [model_sz] at h; have e : ints.sz l = l.length := sz_ints l; omega
theorem mod_dev {l r : List Int} {t : Int} {f : List Int} (h : modelK.sz (l, (r, t, f)) ≤ 2000000) : devK.sz (r, t, f) ≤ 2000000 := by
  rw [model_sz] at h; omega
theorem mod_len0 {l r : List Int} {t : Int} {f : List Int} (h : modelK.sz (l, (r, t, f)) ≤ 2000000) : r.length ≤ 2000000 := dev_len0 (mod_dev h)
theorem mod_len2 {l r : List Int} {t : Int} {f : List Int} (h : modelK.sz (l, (r, t, f)) ≤ 2000000) : f.length ≤ 2000000 := dev_len2 (mod_dev h)
theorem newM_sz : modelK.sz (List.replicate 192 0, (([0, 0, 0, 0] : List Int), (0 : Int), ([] : List Int))) ≤ 2000000 := by
  rw [model_sz, dev_sz]
  have e1 : ints.sz (List.replicate 192 0) = (List.replicate 192 (0 : Int)).length := sz_ints _
  have e2 : ints.sz [0, 0, 0, 0] = ([0, 0, 0, 0] : List Int).length := sz_ints _
  have e3 : ints.sz [] = ([] : List Int).length := sz_ints _
  rw [e1, e2, e3, List.length_replicate]; decide
theorem doD_small {wr : Bool} {a v : Int} {r : List Int} {t : Int} {f r' : List Int} {t' : Int} {f' : List Int} {n : Int} {k : Bool} (ho : okD r t f = true) (hd : doD wr a v r t f = ((r', t', f'), n, k)) : r'.length ≤ 8 ∧ f'.length ≤ 8 := by
  obtain ⟨h4, hf4, _, _⟩ := okD_facts ho
  have same : r.length ≤ 8 ∧ f.length ≤ 8 := ⟨by omega, by omega⟩
  cases wr with
  | true =>
    rw [doD_w ho] at hd
    unfold doW at hd
    split at hd
    · cases hd; exact same
    · split at hd
      · cases hd; exact ⟨by rw [List.length_set]; omega, by omega⟩
      · split at hd
        · cases hd; exact ⟨by omega, by omega⟩
        · split at hd
          · cases hd; exact ⟨by omega, by rw [List.length_append]; simp; omega⟩
          · cases hd; exact same
  | false =>
    rw [doD_r ho] at hd
    unfold doR at hd
    split at hd
    · cases hd; exact same
    · split at hd
      · cases hd; exact ⟨by omega, by omega⟩
      · split at hd
        · cases hd; exact ⟨by omega, by rw [List.length_tail]; omega⟩
        · cases hd; exact same
theorem doM_sz {wr : Bool} {a k v : Int} {l r : List Int} {t : Int} {f : List Int} {x : ModX} {n m : Int} (h : modelK.sz (l, (r, t, f)) ≤ 2000000) (hd : doM wr a k v l r t f = (x, n, m)) : modelK.sz x ≤ 2000000 := by
  obtain ⟨l', r', t', f'⟩ := x
  have same : modelK.sz (l, (r, t, f)) ≤ 2000000 := h
  have e : ∀ l : List Int, ints.sz l = l.length := sz_ints
  unfold doM at hd
  split at hd
  · rename_i ho
    have hl : l.length = 192 := (okM_facts ho.1).1
    obtain ⟨h1, h2⟩ := okD_facts (okM_facts ho.1).2.2
    by_cases h1 : slaveW a = 1 ∨ slaveW a = 2
    · cases wr with
      | true =>
        rw [doB_w h1] at hd
        cases hd
        rw [model_sz, e, putW_length]
        rw [model_sz, e] at h
        exact h
      | false => rw [doB_r h1] at hd; cases hd; exact same
    · by_cases h2 : slaveW a = 3 ∧ k = 2
      · obtain ⟨h2, rfl⟩ := h2
        rw [doB_d h2] at hd
        obtain ⟨D, hD⟩ : ∃ D, doD wr (a - 192) v r t f = D := ⟨_, rfl⟩
        rw [hD] at hd
        obtain ⟨⟨r1, t1, f1⟩, n1, k1⟩ := D
        cases hd
        rw [model_sz, e, hl]
        have h3 := doD_small (okM_facts ho.1).2.2 hD
        rw [dev_sz, e, e]
        omega
      · rw [doB_no h1 h2] at hd; cases hd; exact same
  · cases hd; exact same
end Go.Proofs.Ytbhmfjblmcppbaa.KD
