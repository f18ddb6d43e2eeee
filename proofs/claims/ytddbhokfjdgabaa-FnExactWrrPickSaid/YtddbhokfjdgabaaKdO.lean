
/-
  Rows of truth values as data: what the laws' own functions do with them. (Made by wip/genkdo.py.)
-/
import Derived.Test.YtddbhokfjdgabaaKdI
import Derived.Test.YtddbhokfjdgabaaEqO
namespace Go.Proofs.Ytddbhokfjdgabaa.KD
open Go.RowKit Rows3
set_option linter.unusedVariables false

def bools : Kn (List Bool) := row bool (by decide)
theorem sz_bools (l : List Bool) : szL bool l = l.length := by
  induction l with
  | nil => rfl
  | cons x l ih => simp only [szL, ih, List.length_cons]; show 1 + 0 + l.length = _; omega
theorem getD_someO {l : List Bool} {i : Nat} {x : Bool} (h : l[i]? = some x) : l.getD i false = x := by simp [List.getD, h]
theorem some_getDO {l : List Bool} {i : Nat} (h : i < l.length) : l[i]? = some (l.getD i false) := by simp [List.getD, h]
theorem own_bdO {B : Nat} {v : Value} {l : List Bool} {w : World} (h : OwnO B v l w) : ∀ ad n cp, v = .slice ad n cp → n ≤ cp ∧ cp ≤ 9223372036854775807 := by
  intro ad n cp e
  rcases h.2 with ⟨rfl, h0⟩ | ⟨g, cap, cur, rfl, _, _, hn, hm, _⟩
  · cases e; omega
  · cases e; exact ⟨hn, by unfold maxLen at hm; omega⟩
theorem bools_rd {v : Value} {l : List Bool} {w : World} (h : RdO v l w) (hl : ∀ ad n cp, v = .slice ad n cp → n ≤ cp ∧ cp ≤ 9223372036854775807) : bools.rd [v] l w := by
  obtain ⟨ad, cp, rfl, h⟩ := h
  refine ⟨ad, cp, rfl, hl _ _ _ rfl, fun i x hi => ?_⟩
  obtain ⟨b, o, e, h1, h2⟩ := h i (List.getElem?_eq_some_iff.1 hi).1
  refine ⟨b, o, [.bool x], e, h1, fun j u hu => ?_, rfl⟩
  obtain ⟨rfl, rfl⟩ : j = 0 ∧ u = .bool x := by
    match j, hu with
    | 0, hu => exact ⟨rfl, by simpa using hu.symm⟩
  rw [getD_someO hi] at h2
  simpa [bool] using h2
theorem rd_bools {cs : List Value} {l : List Bool} {w : World} (h : bools.rd cs l w) : ∃ ad cp, cs = [.slice ad l.length cp] ∧ (l.length ≤ cp ∧ cp ≤ 9223372036854775807) ∧ RdO (.slice ad l.length cp) l w := by
  obtain ⟨ad, cp, rfl, hl, h⟩ := h
  refine ⟨ad, cp, rfl, hl, ad, cp, rfl, fun i hi => ?_⟩
  obtain ⟨b, o, es, e, h1, h2, h3⟩ := h i _ (some_getDO hi)
  obtain rfl : es = [.bool (l.getD i false)] := h3
  have := h2 0 _ rfl
  exact ⟨b, o, e, h1, by simpa [bool] using this⟩
def RawO (F : Foot) (g o cp : Nat) (l : List Bool) (w : World) : Prop := F g ∧ ∃ xs T, w.heap[g]? = some (.cells xs T) ∧ o + cp ≤ xs.size ∧ ∀ i x, l[i]? = some x → xs[o + i]? = some (.bool x)
theorem RawO.cap {F : Foot} {g o cp n : Nat} {l : List Bool} {w : World} (h : RawO F g o cp l w) (hn : l.length = n) (hl : n ≤ cp ∧ cp ≤ 9223372036854775807) : bools.cap F [.slice (some ⟨g, o, none⟩) n cp] l w := by
  subst hn
  obtain ⟨hF, xs, T, hg, hsz, hx⟩ := h
  refine ⟨_, cp, rfl, hl, .inr ⟨g, o, xs, T, rfl, hF, hg, by show o + cp * 1 ≤ _; omega, fun _ _ => False, fun _ _ h => h.elim, fun _ _ _ _ h => h.elim, fun i x hi => ⟨[.bool x], fun j u hu => ?_, rfl⟩⟩⟩
  obtain ⟨rfl, rfl⟩ : j = 0 ∧ u = .bool x := by
    match j, hu with
    | 0, hu => exact ⟨rfl, by simpa using hu.symm⟩
  simpa [bool] using hx i x hi
theorem cap_rawO {F : Foot} {cs : List Value} {l : List Bool} {w : World} (h : bools.cap F cs l w) : (l = [] ∧ cs = [.slice none 0 0]) ∨ ∃ g o cp, cs = [.slice (some ⟨g, o, none⟩) l.length cp] ∧ (l.length ≤ cp ∧ cp ≤ 9223372036854775807) ∧ RawO F g o cp l w := by
  obtain ⟨ad, cp, rfl, hl, h⟩ := h
  rcases h with ⟨rfl, rfl, rfl⟩ | ⟨g, o, xs, T, rfl, hF, hg, hsz, E, _, _, h⟩
  · exact .inl ⟨rfl, rfl⟩
  · refine .inr ⟨g, o, cp, rfl, hl, hF, xs, T, hg, (by have h0 : o + cp * 1 ≤ xs.size := hsz; omega), fun i x hi => ?_⟩
    obtain ⟨es, hc, rfl⟩ := h i x hi
    have := hc 0 _ rfl
    simpa [bool] using this
theorem cap_nilO (F : Foot) (w : World) : bools.cap F [.slice none 0 0] [] w := ⟨none, 0, rfl, ⟨Nat.zero_le _, Nat.zero_le _⟩, .inl ⟨rfl, rfl, rfl⟩⟩
theorem cap_ownO {B : Nat} {v : Value} {l : List Bool} {w : World} (h : OwnO B v l w) (hl : l.length ≤ 9223372036854775807) : bools.cap (fun k => B ≤ k) [v] l w := by
  have hbd := own_bdO h
  rcases h.2 with ⟨rfl, h0⟩ | ⟨g, cp, cur, rfl, hb, hg, _, _, hcs, _⟩
  · obtain rfl : l = [] := List.length_eq_zero_iff.1 h0
    exact cap_nilO _ _
  · refine RawO.cap (o := 0) ⟨hb, cur, _, hg, by omega, fun i x hi => ?_⟩ rfl (hbd _ _ _ rfl)
    have := h.cell (i := i) (List.getElem?_eq_some_iff.1 hi).1
    rw [getD_someO hi, cell_of_row w g i cur _ (0, 0) hg] at this
    rw [Nat.zero_add]; exact this
theorem RawO.cell {F : Foot} {g o cp : Nat} {l : List Bool} {w : World} (h : RawO F g o cp l w) {i : Nat} {x : Bool} (hi : l[i]? = some x) : w.cell? ⟨g, o + i, none⟩ = some (.bool x) := by
  obtain ⟨hF, xs, T, hg, hsz, hx⟩ := h
  rw [cell_of_row w g _ xs T (0, 0) hg]; exact hx i x hi
theorem take_setO {l : List Bool} {k : Nat} (h : k < l.length) (n : Nat) (hn : l.length = n) : (l.take k ++ List.replicate (n - k) false).set k (l.getD k false) = l.take (k + 1) ++ List.replicate (n - (k + 1)) false := by
  subst hn
  rw [List.set_append_right _ _ (by simp; omega)]
  rw [show k - (l.take k).length = 0 by simp; omega, show l.length - k = (l.length - (k + 1)) + 1 by omega, List.replicate_succ, List.set_cons_zero]
  rw [List.take_succ_eq_append_getElem h, List.append_assoc]
  simp [List.getD, h]
theorem toBools_any (v : Value) (l : List Bool) (hl : l.length ≤ 2000000) (w : World) (hv : RdO v l w) :
    Calls Try.prog 20 #[v] w (NewO l w) := by
  obtain ⟨ad, cap, rfl, h1⟩ := hv
  obtain ⟨n, hln⟩ : ∃ n, l.length = n := ⟨_, rfl⟩
  rw [hln] at h1 hl ⊢
  have H1 := Lib.hid h1
  have HL := Lib.hid hln
  clear h1 hln
  have hmk := fun W => makeO n hl W
  have Ho0 := Lib.hid (OwnO.make0 w.heap.size w (Nat.le_refl _) n hl)
  go_enter Try.func20, Try.ntmps20
  go_wp2
  clear hmk
  go_loopw [4] (fun i wr => ∃ k : Nat, k ≤ n ∧ i = .int .i64 k ∧ OwnO w.heap.size (.slice (some ⟨w.heap.size, 0, none⟩) n n) (l.take k ++ List.replicate (n - k) false) wr ∧ Below w.heap.size w wr) (fun i _ => n - (intOf i).toNat)
  case atStart => exact ⟨0, by omega, rfl, by simpa using Ho0.out, (Below.refl _ _).alloc (Nat.le_refl _) _⟩
  case round =>
    obtain ⟨k, hk, rfl, hown, hb⟩ := hrel
    have Ho := Lib.hid hown
    by_cases hlt : k < n
    · obtain ⟨b, o, rfl, hb1, hc1⟩ := H1.out k hlt
      rw [← hb.cell (p := ⟨b, o + k, none⟩) hb1] at hc1
      have hc := hown.cell (i := k) (by simp [HL.out]; omega)
      have hf := hown.frozen k
      have Hs := Lib.hid (take_setO (l := l) (k := k) (by rw [HL.out]; exact hlt) n HL.out)
      generalize (l.take k ++ List.replicate (n - k) false).getD k false = y at hc
      generalize l.getD k false = x at hc1 Hs
      clear hown
      go_wp2_with fail
      go_roundw
      case rel =>
        refine ⟨k + 1, by omega, by go_num, ?_, hb.setCell (Nat.le_refl _) _⟩
        rw [← Hs.out]
        exact Ho.out.set k x
      case measure => simp [intOf]; omega
    · obtain rfl : k = n := by omega
      clear hown
      go_wp2
      go_ret
      refine ⟨_, rfl, ?_, hb⟩
      have h := Ho.out
      rwa [Nat.sub_self, List.replicate_zero, List.append_nil, List.take_of_length_le (by rw [HL.out]; omega)] at h
theorem toBoolS : ToC bools one 20 := by
  intro cs x w hs hr
  obtain ⟨ad, cp, rfl, hl, hr⟩ := rd_bools hr
  have hs' : x.length ≤ 2000000 := by have := sz_bools x; exact this ▸ hs
  refine (toBools_any _ x hs' _ hr).mono ?_
  rintro e w1 ⟨v, rfl, ho, hb⟩
  exact ⟨[v], rfl, cap_ownO ho (by omega), hb⟩
theorem eqBoolS : EqC bools one 22 := by
  intro cs ds x w hs hr hr'
  obtain ⟨ad, cp, rfl, hl, hr⟩ := rd_bools hr
  obtain ⟨ad', cp', rfl, _, hr'⟩ := rd_bools hr'
  have hs' : x.length ≤ 2000000 := by have := sz_bools x; exact this ▸ hs
  exact (eqO_same _ _ x hs' _ hr hr').mono (fun _ _ h => h)
end Go.Proofs.Ytddbhokfjdgabaa.KD
