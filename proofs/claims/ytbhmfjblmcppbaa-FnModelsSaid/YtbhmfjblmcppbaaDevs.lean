
/-
  The law on devices: what is done with one.
-/
import Derived.Test.YtbhmfjblmcppbaaDrawD3
import Derived.Deep.RegionLaw
namespace Go.Proofs.Ytbhmfjblmcppbaa.KD
open Go.RowKit Rows3 GR Num
set_option linter.unusedVariables false

theorem okD_iff (r : List Int) (t : Int) (f : List Int) : okD r t f = true ↔ r.length = 4 ∧ wordsB r = true ∧ wordB t = true ∧ f.length ≤ 4 ∧ wordsB f = true := by
  unfold okD
  simp only [Bool.and_eq_true, beq_iff_eq, decide_eq_true_eq]
  constructor
  · rintro ⟨a, b, c, d, e⟩; exact ⟨by omega, b, c, by omega, e⟩
  · rintro ⟨a, b, c, d, e⟩; exact ⟨by omega, b, c, by omega, e⟩
theorem wordsB_iff (l : List Int) : wordsB l = true ↔ ∀ x ∈ l, wordB x = true := by unfold wordsB; rw [List.all_eq_true]
theorem doD_no {wr : Bool} {a v : Int} {r : List Int} {t : Int} {f : List Int} {r' : List Int} {t' : Int} {f' : List Int} {n : Int} (hd : doD wr a v r t f = ((r', t', f'), n, false)) : n = 0 ∧ r' = r ∧ t' = t ∧ f' = f := by
  cases ho : okD r t f with
  | false => rw [doD_bad ho] at hd; cases hd; exact ⟨rfl, rfl, rfl, rfl⟩
  | true =>
    cases wr with
    | true =>
      rw [doD_w ho] at hd
      unfold doW at hd
      split at hd
      · cases hd; exact ⟨rfl, rfl, rfl, rfl⟩
      · split at hd
        · cases hd
        · split at hd
          · cases hd
          · split at hd
            · cases hd
            · cases hd; exact ⟨rfl, rfl, rfl, rfl⟩
    | false =>
      rw [doD_r ho] at hd
      unfold doR at hd
      split at hd
      · cases hd
      · split at hd
        · cases hd
        · split at hd
          · cases hd
          · cases hd; exact ⟨rfl, rfl, rfl, rfl⟩
theorem doD_yes {wr : Bool} {a v : Int} {r : List Int} {t : Int} {f : List Int} {r' : List Int} {t' : Int} {f' : List Int} {n : Int} (hd : doD wr a v r t f = ((r', t', f'), n, true)) : okD r t f = true ∧ okD r' t' f' = true ∧ (wr = true → n = v) := by
  cases ho : okD r t f with
  | false => rw [doD_bad ho] at hd; cases hd
  | true =>
    refine ⟨rfl, ?_⟩
    obtain ⟨h4, hr, ht, hf4, hf⟩ := (okD_iff r t f).1 ho
    cases wr with
    | true =>
      rw [doD_w ho] at hd
      unfold doW at hd
      split at hd
      · cases hd
      · rename_i hv
        have hv : wordB v = true := by simpa using hv
        split at hd
        · cases hd
          refine ⟨(okD_iff _ _ _).2 ⟨by simpa using h4, ?_, ht, hf4, hf⟩, fun _ => rfl⟩
          rw [wordsB_iff] at hr ⊢
          intro x hx
          rcases List.mem_or_eq_of_mem_set hx with h | h
          · exact hr x h
          · rw [h]; exact hv
        · split at hd
          · cases hd; exact ⟨(okD_iff _ _ _).2 ⟨h4, hr, hv, hf4, hf⟩, fun _ => rfl⟩
          · split at hd
            · rename_i hh
              cases hd
              refine ⟨(okD_iff _ _ _).2 ⟨h4, hr, ht, by rw [List.length_append]; simp; omega, ?_⟩, fun _ => rfl⟩
              rw [wordsB_iff] at hf ⊢
              intro x hx
              rcases List.mem_append.1 hx with h | h
              · exact hf x h
              · rw [List.mem_singleton.1 h]; exact hv
            · cases hd
    | false =>
      rw [doD_r ho] at hd
      unfold doR at hd
      split at hd
      · cases hd; exact ⟨ho, fun h => by cases h⟩
      · split at hd
        · cases hd
          exact ⟨(okD_iff _ _ _).2 ⟨h4, hr, (wordB_iff _).2 ⟨by omega, by omega⟩, hf4, hf⟩, fun h => by cases h⟩
        · split at hd
          · cases hd
            refine ⟨(okD_iff _ _ _).2 ⟨h4, hr, ht, by rw [List.length_tail]; omega, ?_⟩, fun h => by cases h⟩
            rw [wordsB_iff] at hf ⊢
            intro x hx
            exact hf x (List.mem_of_mem_tail hx)
          · cases hd
theorem doD_reg {a v : Int} {r : List Int} {t : Int} {f : List Int} {r' : List Int} {t' : Int} {f' : List Int} {n : Int} (hd : doD true a v r t f = ((r', t', f'), n, true)) (ha : a < 16) : ∃ d, doD false a 0 r' t' f' = (d, v, true) := by
  obtain ⟨ho, ho', _⟩ := doD_yes hd
  obtain ⟨h4, _⟩ := (okD_iff r t f).1 ho
  rw [doD_w ho] at hd
  unfold doW at hd
  split at hd
  · cases hd
  · split at hd
    · rename_i hR
      cases hd
      rw [doD_r ho']
      unfold doR
      rw [if_pos hR]
      have h := (regB_iff a).1 hR
      have hi : (a / 4).toNat < r.length := by omega
      have e : (r.set (a / 4).toNat v).getD (a / 4).toNat 0 = v := by simp [List.getD, hi]
      rw [e]
      exact ⟨_, rfl⟩
    · split at hd
      · omega
      · split at hd
        · omega
        · cases hd
theorem doD_push {v : Int} {r : List Int} {t : Int} {f : List Int} {r' : List Int} {t' : Int} {f' : List Int} {n : Int} (hd : doD true 20 v r t f = ((r', t', f'), n, true)) : f' = f ++ [v] := by
  obtain ⟨ho, ho', _⟩ := doD_yes hd
  have hR : ¬ regB 20 = true := by rw [regB_iff]; omega
  rw [doD_w ho] at hd
  unfold doW at hd
  split at hd
  · cases hd
  · rw [if_neg (by decide)] at hd
    split at hd
    · cases hd; rfl
    · cases hd
theorem doD_pop {v : Int} {r : List Int} {t : Int} {f : List Int} {r' : List Int} {t' : Int} {f' : List Int} {n : Int} (hd : doD false 20 v r t f = ((r', t', f'), n, true)) : 0 < f.length ∧ f' = f.tail ∧ n = f.getD 0 0 := by
  obtain ⟨ho, ho', _⟩ := doD_yes hd
  have hR : ¬ regB 20 = true := by rw [regB_iff]; omega
  rw [doD_r ho] at hd
  unfold doR at hd
  rw [if_neg hR, if_neg (by decide)] at hd
  split at hd
  · rename_i hh; cases hd; exact ⟨hh.2, rfl, rfl⟩
  · cases hd
theorem sameT (cs ds : List Value) (r : List Int) (t : Int) (f : List Int) (hr : r.length ≤ 2000000) (hf : f.length ≤ 2000000) (w : World) (h : devK.rd cs (r, t, f) w) (h' : devK.rd ds (r, t, f) w) :
    Calls Try.prog 43 #[agg cs, agg ds] w fun e w' => e = .returned (.bool true) ∧ Below w.heap.size w w' := by
  have := specSameDev cs ds r t f r t f hr hf w h h'
  rwa [(sameD_iff r t f r t f).2 rfl] at this
theorem okI (cs : List Value) {r : List Int} {t : Int} {f : List Int} {b : Bool} (hb : okD r t f = b) (hr : r.length ≤ 2000000) (hf : f.length ≤ 2000000) (w : World) (h : devK.rd cs (r, t, f) w) :
    Calls Try.prog 45 #[agg cs] w fun e w' => e = .returned (.bool b) ∧ Below w.heap.size w w' := hb ▸ implDevOk cs r t f hr hf w h
theorem okS (cs : List Value) {r : List Int} {t : Int} {f : List Int} {b : Bool} (hb : okD r t f = b) (hr : r.length ≤ 2000000) (hf : f.length ≤ 2000000) (w : World) (h : devK.rd cs (r, t, f) w) :
    Calls Try.prog 57 #[agg cs] w fun e w' => e = .returned (.bool b) ∧ Below w.heap.size w w' := hb ▸ specDevOk cs r t f hr hf w h
theorem rd_fifo {ad : Option Addr} {n cp : Nat} {l : List Int} {w : World} (h : ints.rd [.slice ad n cp] l w) {i : Nat} (hi : i < l.length) : ∃ b o, ad = some ⟨b, o, none⟩ ∧ w.cell? ⟨b, o + i, none⟩ = some (.int .i64 (l.getD i 0)) := by
  obtain ⟨ad', cp', e, _, ad2, cp2, e2, h2⟩ := rd_ints h
  cases e
  cases e2
  obtain ⟨b, o, e, _, hc⟩ := h2 i hi
  exact ⟨b, o, e, hc⟩
theorem ints_sz (l : List Int) : ints.sz l = l.length := sz_ints l
end Go.Proofs.Ytbhmfjblmcppbaa.KD
