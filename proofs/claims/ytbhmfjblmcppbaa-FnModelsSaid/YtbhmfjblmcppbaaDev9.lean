
/-
  How long the lists of a device are, ahead of DevDo and behind it.
-/
import Derived.Test.YtbhmfjblmcppbaaDev8
namespace Go.Proofs.Ytbhmfjblmcppbaa.KD
open Go.RowKit Rows3 GR Num

theorem dev_len0 {r : List Int} {t : Int} {f : List Int} (h : devK.sz (r, t, f) ≤ 2000000) : r.length ≤ 2000000 := by
  rw [dev_sz] at h; have e : ints.sz r = r.length := sz_ints r; omega
theorem dev_len2 {r : List Int} {t : Int} {f : List Int} (h : devK.sz (r, t, f) ≤ 2000000) : f.length ≤ 2000000 := by
  rw [dev_sz] at h; have e : ints.sz f = f.length := sz_ints f; omega
theorem doD_sz {wr : Bool} {a v : Int} {r : List Int} {t : Int} {f : List Int} {r' : List Int} {t' : Int} {f' : List Int} {n : Int} {k : Bool} (h : devK.sz (r, t, f) ≤ 2000000) (hd : doD wr a v r t f = ((r', t', f'), n, k)) : devK.sz (r', t', f') ≤ 2000000 := by
  have h0 := dev_len0 h
  have h2 := dev_len2 h
  have same : devK.sz (r, t, f) ≤ 2000000 := h
  have small : ∀ (r1 : List Int) (t1 : Int) (f1 : List Int), r1.length ≤ 8 → f1.length ≤ 8 → devK.sz (r1, t1, f1) ≤ 2000000 := fun r1 t1 f1 h1 h2 => by
    rw [dev_sz]; have e1 : ints.sz r1 = r1.length := sz_ints r1; have e2 : ints.sz f1 = f1.length := sz_ints f1; omega
  cases ho : okD r t f with
  | false => rw [doD_bad ho] at hd; cases hd; exact same
  | true =>
    obtain ⟨h4, hf4, _, _⟩ := okD_facts ho
    cases wr with
    | true =>
      rw [doD_w ho] at hd
      unfold doW at hd
      split at hd
      · cases hd; exact same
      · split at hd
        · cases hd; exact small _ _ _ (by rw [List.length_set]; omega) (by omega)
        · split at hd
          · cases hd; exact small _ _ _ (by omega) (by omega)
          · split at hd
            · cases hd; exact small _ _ _ (by omega) (by rw [List.length_append]; simp; omega)
            · cases hd; exact same
    | false =>
      rw [doD_r ho] at hd
      unfold doR at hd
      split at hd
      · cases hd; exact same
      · split at hd
        · cases hd; exact small _ _ _ (by omega) (by omega)
        · split at hd
          · cases hd; exact small _ _ _ (by omega) (by rw [List.length_tail]; omega)
          · cases hd; exact same
end Go.Proofs.Ytbhmfjblmcppbaa.KD
