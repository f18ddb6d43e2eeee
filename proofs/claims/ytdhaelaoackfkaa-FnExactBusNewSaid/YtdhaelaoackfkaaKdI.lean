
/-
  Rows of whole numbers as data: what the laws' own functions do with them.
-/
import Derived.Test.YtdhaelaoackfkaaKd
import Derived.Test.YtdhaelaoackfkaaEq
import Derived.Test.YtdhaelaoackfkaaLane2
namespace Go.Proofs.Ytdhaelaoackfkaa.KD
open Go.RowKit Rows3

def ints : Kn (List Int) := row int (by decide)
theorem sz_ints (l : List Int) : szL int l = l.length := by
  induction l with
  | nil => rfl
  | cons x l ih => simp only [szL, ih, List.length_cons]; show 1 + 0 + l.length = _; omega
theorem c_ints (l : List Int) : cL int l = l.length := by
  induction l with
  | nil => rfl
  | cons x l ih => simp only [cL, ih, List.length_cons]; show 1 + l.length = _; omega
theorem m_ints (l : List Int) : ∀ k, mL int l k = marks k l.length := by
  induction l with
  | nil => intro k; rfl
  | cons x l ih =>
    intro k
    have e : mL int (x :: l) k = k :: mL int l (k + 1) := rfl
    rw [e, ih]
    unfold marks
    rw [List.length_cons, List.range_succ_eq_map, List.map_cons, List.map_map]
    congr 1
    · simp
    · refine List.map_congr_left fun i _ => ?_
      simp only [Function.comp]
      omega
theorem getD_some {l : List Int} {i : Nat} {x : Int} (h : l[i]? = some x) : l.getD i 0 = x := by simp [List.getD, h]
theorem some_getD {l : List Int} {i : Nat} (h : i < l.length) : l[i]? = some (l.getD i 0) := by simp [List.getD, h]
theorem own_bd {B : Nat} {v : Value} {l : List Int} {w : World} (h : OwnI B v l w) : ∀ ad n cp, v = .slice ad n cp → n ≤ cp ∧ cp ≤ 9223372036854775807 := by
  intro ad n cp e
  rcases h.2 with ⟨rfl, h0⟩ | ⟨g, cap, cur, rfl, _, _, hn, hm, _⟩
  · cases e; omega
  · cases e; exact ⟨hn, by unfold maxLen at hm; omega⟩
theorem ints_rd {v : Value} {l : List Int} {w : World} (h : RdI v l w) (hl : ∀ ad n cp, v = .slice ad n cp → n ≤ cp ∧ cp ≤ 9223372036854775807) : ints.rd [v] l w := by
  obtain ⟨ad, cp, rfl, h⟩ := h
  refine ⟨ad, cp, rfl, hl _ _ _ rfl, fun i x hi => ?_⟩
  obtain ⟨b, o, e, h1, h2⟩ := h i (List.getElem?_eq_some_iff.1 hi).1
  refine ⟨b, o, [.int .i64 x], e, h1, fun j u hu => ?_, rfl⟩
  obtain ⟨rfl, rfl⟩ : j = 0 ∧ u = .int .i64 x := by
    match j, hu with
    | 0, hu => exact ⟨rfl, by simpa using hu.symm⟩
  rw [getD_some hi] at h2
  simpa [int] using h2
theorem rd_ints {cs : List Value} {l : List Int} {w : World} (h : ints.rd cs l w) : ∃ ad cp, cs = [.slice ad l.length cp] ∧ (l.length ≤ cp ∧ cp ≤ 9223372036854775807) ∧ RdI (.slice ad l.length cp) l w := by
  obtain ⟨ad, cp, rfl, hl, h⟩ := h
  refine ⟨ad, cp, rfl, hl, ad, cp, rfl, fun i hi => ?_⟩
  obtain ⟨b, o, es, e, h1, h2, h3⟩ := h i _ (some_getD hi)
  obtain rfl : es = [.int .i64 (l.getD i 0)] := h3
  have := h2 0 _ rfl
  exact ⟨b, o, e, h1, by simpa [int] using this⟩
/-- a row of numbers in a block, from o on. -/
def RawI (F : Foot) (g o cp : Nat) (l : List Int) (w : World) : Prop := F g ∧ ∃ xs T, w.heap[g]? = some (.cells xs T) ∧ o + cp ≤ xs.size ∧ ∀ i x, l[i]? = some x → xs[o + i]? = some (.int .i64 x)
theorem RawI.cap {F : Foot} {g o cp n : Nat} {l : List Int} {w : World} (h : RawI F g o cp l w) (hn : l.length = n) (hl : n ≤ cp ∧ cp ≤ 9223372036854775807) : ints.cap F [.slice (some ⟨g, o, none⟩) n cp] l w := by
  subst hn
  obtain ⟨hF, xs, T, hg, hsz, hx⟩ := h
  refine ⟨_, cp, rfl, hl, .inr ⟨g, o, xs, T, rfl, hF, hg, by show o + cp * 1 ≤ _; omega, fun _ _ => False, fun _ _ h => h.elim, fun _ _ _ _ h => h.elim, fun i x hi => ⟨[.int .i64 x], fun j u hu => ?_, rfl⟩⟩⟩
  obtain ⟨rfl, rfl⟩ : j = 0 ∧ u = .int .i64 x := by
    match j, hu with
    | 0, hu => exact ⟨rfl, by simpa using hu.symm⟩
  simpa [int] using hx i x hi
theorem cap_raw {F : Foot} {cs : List Value} {l : List Int} {w : World} (h : ints.cap F cs l w) : (l = [] ∧ cs = [.slice none 0 0]) ∨ ∃ g o cp, cs = [.slice (some ⟨g, o, none⟩) l.length cp] ∧ (l.length ≤ cp ∧ cp ≤ 9223372036854775807) ∧ RawI F g o cp l w := by
  obtain ⟨ad, cp, rfl, hl, h⟩ := h
  rcases h with ⟨rfl, rfl, rfl⟩ | ⟨g, o, xs, T, rfl, hF, hg, hsz, E, _, _, h⟩
  · exact .inl ⟨rfl, rfl⟩
  · refine .inr ⟨g, o, cp, rfl, hl, hF, xs, T, hg, (by have h0 : o + cp * 1 ≤ xs.size := hsz; omega), fun i x hi => ?_⟩
    obtain ⟨es, hc, rfl⟩ := h i x hi
    have := hc 0 _ rfl
    simpa [int] using this
theorem cap_nil (F : Foot) (w : World) : ints.cap F [.slice none 0 0] [] w := ⟨none, 0, rfl, ⟨Nat.zero_le _, Nat.zero_le _⟩, .inl ⟨rfl, rfl, rfl⟩⟩
theorem cap_own {B : Nat} {v : Value} {l : List Int} {w : World} (h : OwnI B v l w) (hl : l.length ≤ 9223372036854775807) : ints.cap (fun k => B ≤ k) [v] l w := by
  have hbd := own_bd h
  rcases h.2 with ⟨rfl, h0⟩ | ⟨g, cp, cur, rfl, hb, hg, _, _, hcs, _⟩
  · obtain rfl : l = [] := List.length_eq_zero_iff.1 h0
    exact cap_nil _ _
  · refine RawI.cap (o := 0) ⟨hb, cur, _, hg, by omega, fun i x hi => ?_⟩ rfl (hbd _ _ _ rfl)
    have := h.cell (i := i) (List.getElem?_eq_some_iff.1 hi).1
    rw [getD_some hi, cell_of_row w g i cur _ (0, 0) hg] at this
    rw [Nat.zero_add]; exact this
theorem RawI.cell {F : Foot} {g o cp : Nat} {l : List Int} {w : World} (h : RawI F g o cp l w) {i : Nat} {x : Int} (hi : l[i]? = some x) : w.cell? ⟨g, o + i, none⟩ = some (.int .i64 x) := by
  obtain ⟨hF, xs, T, hg, hsz, hx⟩ := h
  rw [cell_of_row w g _ xs T (0, 0) hg]; exact hx i x hi
theorem RawI.warm {F : Foot} {g o cp : Nat} {l : List Int} {w : World} (h : RawI F g o cp l w) (i : Nat) : w.frozen? ⟨g, i, none⟩ = false := by
  obtain ⟨hF, xs, T, hg, hsz, hx⟩ := h
  simp [World.frozen?, hg]
theorem RawI.set {F : Foot} {g o cp : Nat} {l : List Int} {w : World} (h : RawI F g o cp l w) (i : Nat) (x : Int) : RawI F g o cp (l.set i x) (w.setCell ⟨g, o + i, none⟩ (.int .i64 x)) := by
  obtain ⟨hF, xs, T, hg, hsz, hx⟩ := h
  refine ⟨hF, xs.setIfInBounds (o + i) (.int .i64 x), T, by simp [World.setCell, Array.getElem?_modify, hg], by simpa using hsz, fun j y hj => ?_⟩
  by_cases hij : i = j
  · subst hij
    have hi : i < l.length := by simpa using (List.getElem?_eq_some_iff.1 hj).1
    obtain rfl : x = y := by simpa [List.getElem?_set, hi] using hj
    have h1 := hx i _ (List.getElem?_eq_getElem hi)
    have h2 := (Array.getElem?_eq_some_iff.1 h1).1
    simp [h2]
  · rw [List.getElem?_set_ne hij] at hj
    rw [Array.getElem?_setIfInBounds_ne (by omega)]
    exact hx j y hj
theorem RawI.turn {F G : Foot} {g o cp : Nat} {l : List Int} {w w' : World} (h : RawI F g o cp l w) (ht : Turn G w w') (hG : ¬ G g) : RawI F g o cp l w' := by
  obtain ⟨hF, xs, T, hg, hsz, hx⟩ := h
  exact ⟨hF, xs, T, by rw [ht.block g (Array.getElem?_eq_some_iff.1 hg).1 hG]; exact hg, hsz, hx⟩

theorem szIntS : SzC ints one 50 := by
  intro cs x L w hr h0 h1
  obtain ⟨ad, cp, rfl, hl, hr⟩ := rd_ints hr
  have hl := Nat.le_trans hl.1 hl.2
  rw [show ints.sz x = x.length from sz_ints x]
  obtain ⟨n, hn⟩ : ∃ n, x.length = n := ⟨_, rfl⟩
  rw [hn] at hl ⊢
  clear hr hn
  show Calls _ _ #[.slice ad n cp, .int .i64 L] w _
  by_cases h : (n : Int) ≤ L
  · have He := Lib.hid (szW_yes h)
    have h2 : ¬ L - (n : Int) < 0 := by omega
    go_enter Try.func50, Try.ntmps50
    go_wp2
    go_ret
    exact ⟨by rw [He.out]; rfl, Below.refl _ _⟩
  · have He := Lib.hid (szW_no (by omega : L < (n : Int)))
    have h2 : L - (n : Int) < 0 := by omega
    go_enter Try.func50, Try.ntmps50
    go_wp2
    go_ret
    exact ⟨by rw [He.out]; rfl, Below.refl _ _⟩
theorem toIntS : ToC ints one 61 := by
  intro cs x w hs hr
  obtain ⟨ad, cp, rfl, hl, hr⟩ := rd_ints hr
  have hs' : x.length ≤ 2000000 := by have := sz_ints x; exact this ▸ hs
  refine (Num.toInts_any _ x hs' _ hr).mono ?_
  rintro e w1 ⟨v, rfl, ho, hb⟩
  exact ⟨[v], rfl, cap_own ho (by omega), hb⟩
theorem eqIntS : EqC ints one 31 := by
  intro cs ds x w hs hr hr'
  obtain ⟨ad, cp, rfl, hl, hr⟩ := rd_ints hr
  obtain ⟨ad', cp', rfl, _, hr'⟩ := rd_ints hr'
  have hs' : x.length ≤ 2000000 := by have := sz_ints x; exact this ▸ hs
  exact (eqI_same _ _ x hs' _ hr hr').mono (fun _ _ h => h)
theorem heldIntS : HeldC ints one 45 := by
  intro cs x k w hs h0 h1 hr
  have e : ints.mT x k = marks k x.length := m_ints x k
  rw [e] at hr
  have hc : ints.cT x = x.length := c_ints x
  rw [hc] at h1 ⊢
  have hs' : x.length ≤ 2000000 := by have := sz_ints x; exact this ▸ hs
  obtain ⟨ad, cp, rfl, _, hr⟩ := rd_ints hr
  rw [marks_length] at hr ⊢
  obtain ⟨n, hn⟩ : ∃ n, x.length = n := ⟨_, rfl⟩
  rw [hn] at hr hs' h1 ⊢
  clear hn e hs hc
  obtain ⟨ad', cp', ev, h1'⟩ := hr
  obtain rfl : ad = ad' := by injection ev
  clear ev
  rw [marks_length] at h1'
  have H1 := Lib.hid h1'
  clear h1'
  show Calls _ _ #[.slice ad n cp, .int .i64 k] w _
  go_enter Try.func45, Try.ntmps45
  go_wp2
  go_loopw [1, 5] (fun q i wr => ∃ j : Nat, j ≤ n ∧ i = .int .i64 j ∧ q = .int .i64 (k + j) ∧ Below w.heap.size w wr) (fun _ i _ => n - (intOf i).toNat)
  case atStart => exact ⟨0, by omega, rfl, by simp, Below.refl _ _⟩
  case round =>
    obtain ⟨j, hj, rfl, rfl, hb⟩ := hrel
    by_cases hlt : j < n
    · obtain ⟨b, o, rfl, hb1, hc1⟩ := H1.out j hlt
      rw [← hb.cell (p := ⟨b, o + j, none⟩) hb1] at hc1
      rw [show (marks k n).getD j 0 = k + j by simp [marks, List.getD, hlt]] at hc1
      have hyy : ((k + (j : Int)) != (k + (j : Int))) = false := by simp
      go_wp2_with fail
      go_roundw
      case rel => exact ⟨j + 1, by omega, by go_num, by go_num, ⟨hb.os, hb.tape, hb.output, hb.size, hb.block⟩⟩
      case measure => simp [intOf]; omega
    · obtain rfl : j = n := by omega
      go_wp2
      go_ret
      exact ⟨rfl, hb⟩
theorem markIntS : MarkC ints one 39 := by
  intro F cs l k w hs h0 h1 hc
  have e : ints.mT l k = marks k l.length := m_ints l k
  rw [e]
  have hcc : ints.cT l = l.length := c_ints l
  rw [hcc] at h1 ⊢
  have hn : l.length ≤ 2000000 := by have := sz_ints l; exact this ▸ hs
  clear e hcc hs
  rcases cap_raw hc with ⟨rfl, rfl⟩ | ⟨g, o, cp, rfl, hl, hraw⟩
  · have Hv := Lib.hid hc
    clear hc
    show Calls _ _ #[.slice none 0 0, .int .i64 k] w _
    go_enter Try.func39, Try.ntmps39
    go_wp2
    go_loop [1, 5] (fun q i => q = .int .i64 k ∧ i = .int .i64 0) (fun _ _ => 0)
    case atStart => exact ⟨rfl, rfl⟩
    case round =>
      obtain ⟨rfl, rfl⟩ := hrel
      go_wp2
      go_ret
      exact ⟨by simp, cap_nil _ _, Turn.refl _ _⟩
  · obtain ⟨n, hln⟩ : ∃ n, l.length = n := ⟨_, rfl⟩
    have HF := Lib.hid hraw.1
    have Hv := Lib.hid hraw
    rw [hln] at hn hl h1 ⊢
    have HL := Lib.hid hln
    clear hc hraw hln
    show Calls _ _ #[.slice (some ⟨g, o, none⟩) n cp, .int .i64 k] w _
    go_enter Try.func39, Try.ntmps39
    go_wp2
    go_loopw [1, 5] (fun q i wr => ∃ j : Nat, j ≤ n ∧ i = .int .i64 j ∧ q = .int .i64 (k + j) ∧ RawI F g o cp (marks k j ++ l.drop j) wr ∧ Turn F w wr) (fun _ i _ => n - (intOf i).toNat)
    case atStart => exact ⟨0, by omega, rfl, by simp, by simpa [marks] using Hv.out, Turn.refl _ _⟩
    case round =>
      obtain ⟨j, hj, rfl, rfl, hown, hg⟩ := hrel
      have Ho := Lib.hid hown
      by_cases hlt : j < n
      · have hc := hown.cell (some_getD (i := j) (by rw [mid_length _ _ _ (by rw [HL.out]; exact hj), HL.out]; exact hlt))
        have hf := hown.warm (o + j)
        generalize (marks k j ++ List.drop j l).getD j 0 = y at hc
        have Hg := Lib.hid hg
        clear hown hg
        go_wp2_with fail
        go_roundw
        case rel =>
          refine ⟨j + 1, by omega, by go_num, by go_num, ?_, Hg.out.set HF.out _⟩
          rw [← marks_set l k j (by rw [HL.out]; exact hlt)]
          exact Ho.out.set j _
        case measure => simp [intOf]; omega
      · obtain rfl : j = n := by omega
        clear hown
        go_wp2
        go_ret
        refine ⟨rfl, ?_, hg⟩
        have h := Ho.out
        rw [List.drop_of_length_le (by rw [HL.out]; omega), List.append_nil] at h
        exact h.cap (marks_length _ _) hl
end Go.Proofs.Ytdhaelaoackfkaa.KD
