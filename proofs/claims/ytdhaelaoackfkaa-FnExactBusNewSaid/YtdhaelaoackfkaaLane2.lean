
/-
  A number read in a memory: GetNum, for the program and for its model; a copy of a row.
-/
import Derived.Test.YtdhaelaoackfkaaLane
import Derived.Test.YtdhaelaoackfkaaEq
import Derived.Outline
import Derived.Deep.RegionWith
namespace Go.Proofs.Ytdhaelaoackfkaa.Num
open Go.RowKit Rows3

theorem take_set {l : List Int} {k : Nat} (h : k < l.length) (n : Nat) (hn : l.length = n) : (l.take k ++ List.replicate (n - k) 0).set k (l.getD k 0) = l.take (k + 1) ++ List.replicate (n - (k + 1)) 0 := by
  have e1 : (l.take k).length = k := by simp; omega
  rw [List.set_append_right (s := l.take k) (t := List.replicate (n - k) 0) k _ (by omega), e1, Nat.sub_self]
  rw [List.take_succ_eq_append_getElem h, List.append_assoc, getD_lt h]
  obtain ⟨d, hd⟩ : ∃ d, n - k = d + 1 := ⟨n - k - 1, by omega⟩
  rw [hd, show n - (k + 1) = d by omega, List.replicate_succ]
  rfl
set_option maxRecDepth 100000 in
theorem toInts_any (v : Value) (l : List Int) (hl : l.length ≤ 2000000) (w : World) (hv : RdI v l w) :
    Calls Try.prog 61 #[v] w (NewI l w) := by
  obtain ⟨ad, cap, rfl, h1⟩ := hv
  obtain ⟨n, hln⟩ : ∃ n, l.length = n := ⟨_, rfl⟩
  rw [hln] at h1 hl ⊢
  have H1 := Lib.hid h1
  have HL := Lib.hid hln
  clear h1 hln
  have hmk := fun W => makeI n hl W
  have Ho0 := Lib.hid (OwnI.make0 w.heap.size w (Nat.le_refl _) n hl)
  go_enter Try.func61, Try.ntmps61
  go_wp2
  clear hmk
  go_loopw [4] (fun i wr => ∃ k : Nat, k ≤ n ∧ i = .int .i64 k ∧ OwnI w.heap.size (.slice (some ⟨w.heap.size, 0, none⟩) n n) (l.take k ++ List.replicate (n - k) 0) wr ∧ Below w.heap.size w wr) (fun i _ => n - (intOf i).toNat)
  case atStart => exact ⟨0, by omega, rfl, by simpa using Ho0.out, (Below.refl _ _).alloc (Nat.le_refl _) _⟩
  case round =>
    obtain ⟨k, hk, rfl, hown, hb⟩ := hrel
    have Ho := Lib.hid hown
    by_cases hlt : k < n
    · obtain ⟨b, o, rfl, hb1, hc1⟩ := H1.out k hlt
      rw [← hb.cell (p := ⟨b, o + k, none⟩) hb1] at hc1
      have hc := hown.cell (i := k) (by simp [HL.out]; omega)
      have hf := hown.frozen k
      have Hs := Lib.hid (take_set (l := l) (k := k) (by rw [HL.out]; exact hlt) n HL.out)
      generalize (l.take k ++ List.replicate (n - k) 0).getD k 0 = y at hc
      generalize l.getD k 0 = x at hc1 Hs
      clear hown
      go_wp2_with fail
      go_roundw
      case rel =>
        refine ⟨k + 1, by omega, by go_num, ?_, hb.setCell (Nat.le_refl _) _⟩
        rw [← Hs.out]
        exact Ho.out.set k x
      case measure => simp [intOf]; omega
    · obtain rfl : k = n := by omega
      clear hown
      go_wp2
      go_ret
      refine ⟨_, rfl, ?_, hb⟩
      have h := Ho.out
      rwa [Nat.sub_self, List.replicate_zero, List.append_nil, List.take_of_length_le (by rw [HL.out]; omega)] at h

end Go.Proofs.Ytdhaelaoackfkaa.Num
