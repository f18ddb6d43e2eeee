
/-
  The law on numbers in memory: what is put is read again, and nothing beside it changes.
-/
import Derived.Test.YtjninjlmjllcoaaLane4
import Derived.Test.YtjninjlmjllcoaaDraw4
import Derived.IntWalk
namespace Go.Proofs.Ytjninjlmjllcoaa.Num
open Go.RowKit Rows3 Cur

theorem getD_set_ne {l : List Int} {i j : Nat} {x : Int} (h : i ≠ j) : (l.set i x).getD j 0 = l.getD j 0 := by
  simp [List.getD, h]
theorem getD_set_eq {l : List Int} {i : Nat} {x : Int} (h : i < l.length) : (l.set i x).getD i 0 = x := by
  simp [List.getD, h]
theorem putL_out (l : List Int) (A : Nat) (v : Int) (n i : Nat) (h : i < A ∨ A + n ≤ i) : (putL l A v n).getD i 0 = l.getD i 0 := by
  induction n with
  | zero => rfl
  | succ n ih => rw [putL, getD_set_ne (by omega), ih (by omega)]
theorem putL_in (l : List Int) (A : Nat) (v : Int) (n j : Nat) (h : j < n) (hl : A + n ≤ l.length) : (putL l A v n).getD (A + j) 0 = v / 256 ^ j % 256 := by
  induction n with
  | zero => omega
  | succ n ih =>
    rw [putL]
    by_cases hj : j = n
    · subst hj; rw [getD_set_eq (by rw [putL_length]; omega)]
    · rw [getD_set_ne (by omega), ih (by omega) (by omega)]
theorem leV_put (l : List Int) (A : Nat) (v : Int) (n : Nat) (hn : n = 1 ∨ n = 2 ∨ n = 4) (hl : A + n ≤ l.length) (h0 : 0 ≤ v) (h1 : v < 256 ^ n) : leV (putL l A v n) A n = v := by
  have h := fun j hj => putL_in l A v n j hj hl
  rcases hn with rfl | rfl | rfl
  · have a0 := h 0 (by omega)
    rw [Nat.add_zero] at a0
    simp only [leV, Nat.add_zero]
    rw [a0]
    simp at h1 ⊢
    omega
  · have a0 := h 0 (by omega)
    have a1 := h 1 (by omega)
    rw [Nat.add_zero] at a0
    simp only [leV, Nat.add_zero]
    rw [a0, a1]
    simp at h1 ⊢
    omega
  · have a0 := h 0 (by omega)
    have a1 := h 1 (by omega)
    have a2 := h 2 (by omega)
    have a3 := h 3 (by omega)
    rw [Nat.add_zero] at a0
    simp only [leV, Nat.add_zero]
    rw [a0, a1, a2, a3]
    simp at h1 ⊢
    omega
theorem putL_mem (l : List Int) (A : Nat) (v : Int) (n : Nat) (h : ∀ x ∈ l, 0 ≤ x ∧ x ≤ 255) : ∀ x ∈ putL l A v n, 0 ≤ x ∧ x ≤ 255 := by
  induction n with
  | zero => exact h
  | succ n ih =>
    intro x hx
    rw [putL] at hx
    rcases List.mem_or_eq_of_mem_set hx with h1 | h1
    · exact ih x h1
    · rw [h1]; omega
theorem lim_pow {k : Int} {n : Nat} (hn : bytesW k = n) (h3 : 0 < n) : limW k = 256 ^ n := by
  rcases limW_cases k with ⟨e, _⟩ | ⟨_, e, e2⟩ | ⟨_, e, e2⟩ | ⟨_, e, e2⟩
  · omega
  · rw [show n = 1 by omega, e2]; rfl
  · rw [show n = 2 by omega, e2]; rfl
  · rw [show n = 4 by omega, e2]; rfl
theorem get_put {l : List Int} {a k v : Int} (h : putB l a k v = true) : getB (putW l a k v) a k = true ∧ getW (putW l a k v) a k = v := by
  have hl := putW_length l a k v
  obtain ⟨A, n, rfl, hn, hn3, hfit, h512, hby, h0, h1, hw⟩ := putB_yes h
  have hg : getB l A k = true := by unfold putB at h; rw [Bool.and_eq_true] at h; exact h.1
  have hi : v < limW k := by unfold putB at h; rw [Bool.and_eq_true, inLB_iff] at h; exact h.2.2
  have hg2 : getB (putW l A k v) A k = true := by
    unfold getB at hg ⊢
    rw [hl]
    rw [Bool.and_eq_true] at hg ⊢
    refine ⟨?_, hg.2⟩
    rw [memB_iff, hl, hw]
    exact ⟨h512, putL_mem l A v n hby⟩
  refine ⟨hg2, ?_⟩
  obtain ⟨A', n', hA, hn', _, _, _, _, hgw⟩ := getB_yes hg2
  obtain rfl : A = A' := by omega
  obtain rfl : n = n' := by omega
  rw [hgw, hw]
  exact leV_put l A v n hn3 hfit h0 (by rw [← lim_pow hn (by omega)]; exact hi)
theorem put_out {l : List Int} {a k v : Int} (h : putB l a k v = true) (i : Nat) (hi : (i : Int) < a ∨ a + bytesW k ≤ i) : (putW l a k v).getD i 0 = l.getD i 0 := by
  obtain ⟨A, n, rfl, hn, hn3, hfit, h512, hby, h0, h1, hw⟩ := putB_yes h
  rw [hw]
  exact putL_out l A v n i (by omega)
theorem rd_get {ad : Option Addr} {n cap : Nat} {l : List Int} {w : World} (h : RdI (.slice ad n cap) l w) {i : Nat} (hi : i < n) :
    ∃ b o, ad = some ⟨b, o, none⟩ ∧ b < w.heap.size ∧ w.cell? ⟨b, o + i, none⟩ = some (.int .i64 (l.getD i 0)) := by
  obtain ⟨ad', cap', e, h⟩ := h
  cases e
  exact h i hi
theorem qBytes (k y : Int) (h : bytesW k = y) (w : World) :
    Calls Try.prog 16 #[.int .i64 k] w fun e w' => e = .returned (.int .i64 y) ∧ w' = w :=
  (implBytes k w).mono fun _ _ ⟨h1, h2⟩ => ⟨by rw [h1, h], h2.symm⟩

set_option maxHeartbeats 2000000 in
set_option maxRecDepth 100000 in
theorem nums_all (a : Option Addr) (len cap : Nat) (z : List Int) (w : World) (hC : CodeIn a len z w) :
    Calls Try.prog 3 #[.slice a len cap] w fun e w' => e = .returned (.bool true) ∧ Below w.heap.size w w' := by
  have HC := Lib.hid hC
  have hlen : ¬ 1048576 < len := by have := hC.2.2; omega
  clear hC
  go_enter Try.func3, Try.ntmps3
  go_wp2_with fail
  refine (bigE_no a len cap hlen _).mono ?_
  rintro e w0 ⟨rfl, rfl⟩
  go_wp2_with fail
  refine (drawPut_any a len cap z _ HC.out).mono ?_
  rintro e w1 ⟨m, l, x, k, v, rfl, hl20, hm, hb1⟩
  go_wp2_with fail
  refine (implPut _ m l (by omega) x k v _ hm).mono ?_
  rintro e w2 ⟨q, rfl, hq, hb2⟩
  have hm2 := hm.later hb2
  have hb02 := hb1.trans (hb2.mono hb1.size)
  go_wp2_with fail
  refine (specPut _ m l (by omega) x k v _ hm2).mono ?_
  rintro e w3 ⟨q', rfl, hq', hb3⟩
  have hm3 := hm2.later hb3
  have hq3 := hq.later hb3
  have hb03 := hb02.trans (hb3.mono hb02.size)
  clear hq hq' hm hm2
  cases hT : putB l x k v with
  | false =>
    have hno := putW_no hT
    rw [hno] at hq3
    have HT := Lib.hid hT
    have Hm := Lib.hid hm3
    have Hq := Lib.hid hq3
    clear hT hno hm3 hq3
    go_wp2_with fail
    refine (sameI_same _ _ l (by omega) _ Hq.out.rd Hm.out.rd).mono ?_
    rintro e w4 ⟨rfl, hb4⟩
    go_wp2
    go_ret
    exact ⟨rfl, hb03.trans (hb4.mono hb03.size)⟩
  | true =>
    obtain ⟨hg1, hg2⟩ := get_put hT
    have hout := Lib.hid (put_out hT)
    have hpl := putW_length l x k v
    have hlim : v < limW k := by unfold putB at hT; rw [Bool.and_eq_true, inLB_iff] at hT; exact hT.2.2
    obtain ⟨A, n, rfl, hn, hn3, hfit, _, _, _, _, _⟩ := putB_yes hT
    generalize hpp : putW l A k v = p at *
    obtain ⟨y, hy⟩ : ∃ y, limW k = y := ⟨_, rfl⟩
    rw [hy] at hlim
    have Hy := Lib.hid hy
    have Hn := Lib.hid hn
    have G1 := Lib.hid hg1
    have G2 := Lib.hid hg2
    have Hpl := Lib.hid hpl
    have Hr := Lib.hid hq3.rd
    have Hs := Lib.hid hm3.rd
    obtain ⟨ad, cp, rfl⟩ := hq3.slice
    obtain ⟨bd, cb, rfl⟩ := hm3.slice
    obtain ⟨N, hN⟩ : ∃ N, l.length = N := ⟨_, rfl⟩
    have HN := Lib.hid hN
    have HP := Lib.hid (show p.length = N by rw [hpl, hN])
    rw [hpl, hN] at Hr
    rw [hN] at Hs hl20 hfit
    rw [hpl, hN]
    clear hy hn hg1 hg2 hpl hm3 hq3 hT hpp hN hb1 hb2 hb3 hb02
    have hp2 : Hid (p.length ≤ 2000000) := Lib.hid (by rw [HP.out]; omega)
    go_wp2_with fail
    refine (implGet _ p hp2.out _ _ _ Hr.out).mono ?_
    rintro e w4 ⟨rfl, rfl⟩
    rw [G1.out, G2.out]
    go_wp2_with fail
    have hnn : ((N : Int) != (N : Int)) = false := by simp
    go_loopw [13] (fun i wr => ∃ j : Nat, j ≤ N ∧ i = .int .i64 j ∧ Below w3.heap.size w3 wr) (fun i _ => N - (intOf i).toNat)
    case atStart => exact ⟨0, by omega, rfl, Below.refl _ _⟩
    case round =>
      obtain ⟨j, hj, rfl, hb⟩ := hrel
      by_cases hlt : j < N
      · obtain ⟨b, o, rfl, hp1, hp2⟩ := rd_get Hr.out hlt
        obtain ⟨b', o', rfl, hs1, hs2⟩ := rd_get Hs.out hlt
        rw [← hb.cell (p := ⟨b, o + j, none⟩) hp1] at hp2
        rw [← hb.cell (p := ⟨b', o' + j, none⟩) hs1] at hs2
        have hsum : IntKind.i64.wrap ((A : Int) + n) = (A : Int) + n := IntWalk.i64_in _ (by omega)
        by_cases hin : (j : Int) < A
        · have hd1 : decide ((j : Int) < A) = true := by simpa using hin
          rw [hout.out j (.inl hin)] at hp2
          generalize l.getD j 0 = q at hp2 hs2
          have hqq : (q != q) = false := by simp
          clear hp1 hs1
          go_wp2_with fail
          go_quiet ((first | (go_at_call 16; exact Calls.quiet_of_same (qBytes _ _ Hn.out _)) | fail))
          go_wp2_with fail
          go_roundw
          case rel => exact ⟨j + 1, by omega, by go_num, ⟨hb.os, hb.tape, hb.output, hb.size, hb.block⟩⟩
          case measure => simp [intOf]; omega
        · by_cases ho : (A : Int) + n ≤ j
          · have hd1 : decide ((j : Int) < A) = false := by simpa using hin
            have hd2 : decide ((A : Int) + n ≤ j) = true := by simpa using ho
            have hd3 : decide (A + n ≤ j) = true := by simp; omega
            have hd4 : decide (j < A) = false := by simp; omega
            rw [hout.out j (.inr (by rw [Hn.out]; exact ho))] at hp2
            generalize l.getD j 0 = q at hp2 hs2
            have hqq : (q != q) = false := by simp
            clear hp1 hs1
            go_wp2_with fail
            go_quiet ((first | (go_at_call 16; exact Calls.quiet_of_same (qBytes _ _ Hn.out _)) | fail))
            go_wp2_with fail
            go_roundw
            case rel => exact ⟨j + 1, by omega, by go_num, ⟨hb.os, hb.tape, hb.output, hb.size, hb.block⟩⟩
            case measure => simp [intOf]; omega
          · have hd1 : decide ((j : Int) < A) = false := by simpa using hin
            have hd2 : decide ((A : Int) + n ≤ j) = false := by simpa using ho
            have hd3 : decide (A + n ≤ j) = false := by simp; omega
            have hd4 : decide (j < A) = false := by simp; omega
            clear hp1 hs1
            go_wp2_with fail
            go_quiet ((first | (go_at_call 16; exact Calls.quiet_of_same (qBytes _ _ Hn.out _)) | fail))
            go_wp2_with fail
            go_roundw
            case rel => exact ⟨j + 1, by omega, by go_num, ⟨hb.os, hb.tape, hb.output, hb.size, hb.block⟩⟩
            case measure => simp [intOf]; omega
      · obtain rfl : j = N := by omega
        go_wp2_with fail
        refine (implLimit _ _).mono ?_
        rintro e w5 ⟨rfl, rfl⟩
        rw [Hy.out]
        go_wp2
        go_ret
        exact ⟨by simp, hb03.trans (hb.mono hb03.size)⟩
end Go.Proofs.Ytjninjlmjllcoaa.Num
