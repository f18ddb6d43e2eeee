
/-
  What Hex returns, for the program and for its model, whatever the world.
-/
import Derived.Test.YtilbaooancgodaaDoorNum
import Derived.Test.YtilbaooancgodaaDoorShelfB
import Derived.Test.YtilbaooancgodaaDoorShelfG
import Derived.Test.YtilbaooancgodaaDoorBytes
import Derived.StillTailTactics
import Derived.Deep.RegionWith
import Derived.Deep.QuietTactic
import Derived.BigQuiet
import Derived.Deep.RegionLaw
namespace Go.Proofs.YtilbaooancgodaaDoor.Num
open Go.RowKit Bytes

/-- the hexadecimal digit k. -/
def dg (k : Nat) : UInt8 := UInt8.ofNat (if k < 10 then 48 + k else 87 + k)
theorem dg_toNat (k : Nat) (h : k < 16) : (dg k).toNat = if k < 10 then 48 + k else 87 + k := by
  unfold dg; split <;> simp <;> omega
def hexL : List UInt8 → List UInt8
  | [] => []
  | b :: l => dg (b.toNat / 16) :: dg (b.toNat % 16) :: hexL l
theorem hexL_snoc (l : List UInt8) (b : UInt8) : hexL (l ++ [b]) = hexL l ++ [dg (b.toNat / 16), dg (b.toNat % 16)] := by
  induction l with
  | nil => rfl
  | cons a l ih => simp [hexL, ih]
theorem hexL_length (l : List UInt8) : (hexL l).length = 2 * l.length := by
  induction l with
  | nil => rfl
  | cons a l ih => simp [hexL, ih]; omega

theorem digit_at (n : Nat) (h : n < (⟨#[48, 49, 50, 51, 52, 53, 54, 55, 56, 57, 97, 98, 99, 100, 101, 102]⟩ : ByteArray).size) : (⟨#[48, 49, 50, 51, 52, 53, 54, 55, 56, 57, 97, 98, 99, 100, 101, 102]⟩ : ByteArray)[n] = dg n :=
  match n, h with
  | 0, _ => rfl
  | 1, _ => rfl
  | 2, _ => rfl
  | 3, _ => rfl
  | 4, _ => rfl
  | 5, _ => rfl
  | 6, _ => rfl
  | 7, _ => rfl
  | 8, _ => rfl
  | 9, _ => rfl
  | 10, _ => rfl
  | 11, _ => rfl
  | 12, _ => rfl
  | 13, _ => rfl
  | 14, _ => rfl
  | 15, _ => rfl
  | k + 16, h => by exact absurd (show k + 16 < 16 from h) (by omega)

theorem fresh_block (T : TypeId) (w : World) : (w.alloc (.cells #[.pointer none, .slice none 0 0] T)).heap[w.heap.size]? = some (.cells #[.pointer none, .slice none 0 0] T (0, 0)) := heap_alloc_new w _
theorem snoc_cell (l : List UInt8) (n : Int) (b : UInt8) (h : n = (b.toNat : Int)) : Lib.byteCells l ++ [Value.int .u8 n] = Lib.byteCells (l ++ [b]) := by
  subst h; rw [Lib.byteCells_append]; rfl
set_option maxRecDepth 100000 in
theorem implHex_any (s : ByteArray) (hs : s.size ≤ 70368744177664) (w : World) :
    Calls Tryd.prog 27 #[.string s] w fun e w' => e = .returned (.string ⟨(hexL s.data.toList).toArray⟩) ∧ Below w.heap.size w w' := by
  go_enter Tryd.func27, Tryd.ntmps27
  go_wp2_with fail
  refine (Tryd.Builder_Grow w.heap.size w.heap.size _ _ (by omega) (Nat.le_refl _) (fresh_block _ w) (by simp) (by omega)).mono ?_
  rintro e w0 ⟨rfl, hbd0, hb0⟩
  have hb00 := ((Below.refl w.heap.size w).alloc (Nat.le_refl _) (.cells #[.pointer none, .slice none 0 0] 76)).trans hb0
  go_wp2
  go_loopw [11] (fun i wr => ∃ k : Nat, k ≤ s.size ∧ i = .int .i64 k ∧ Lib.IsBuilder 76 5 w.heap.size w.heap.size (Lib.byteCells (hexL (s.data.toList.take k))) wr ∧ Below w.heap.size w wr) (fun i _ => s.size - (intOf i).toNat)
  case atStart => exact ⟨0, by omega, rfl, .inr hbd0, hb00⟩
  case round =>
    obtain ⟨k, hk, rfl, hbd, hb⟩ := hrel
    have hbs := hb.size
    have hlen : (hexL (s.data.toList.take k)).length ≤ 2 * k := by rw [hexL_length]; simp; omega
    by_cases hlt : k < s.size
    · have hb8 : s[k].toNat < 256 := s[k].toNat_lt
      have Ht := Lib.hid (show hexL (s.data.toList.take (k + 1)) = hexL (s.data.toList.take k) ++ [dg (s[k].toNat / 16), dg (s[k].toNat % 16)] by rw [take_snoc s k hlt, hexL_snoc])
      generalize hexL (s.data.toList.take k) = l at hbd hlen Ht
      obtain ⟨lo, hlo, hlo16⟩ : ∃ lo : Nat, s[k].toNat % 16 = lo ∧ lo < 16 := ⟨_, rfl, by omega⟩
      obtain ⟨hi, hhi, hhi16⟩ : ∃ hi : Nat, s[k].toNat / 16 = hi ∧ hi < 16 := ⟨_, rfl, by omega⟩
      have f1 : bits .and .u8 (s[k].toNat : Int) 15 = (lo : Int) := (show bits .and .u8 (s[k].toNat : Int) 15 = (s[k].toNat : Int) % 16 from bits_mask .u8 8 (by decide) wraps_u8 4 (by decide) _ (by omega) (by omega)).trans (by rw [← hlo]; simp)
      have f2 : (s[k].toNat : Int) / 16 = (hi : Int) := by rw [← hhi]; simp
      rw [hhi, hlo] at Ht
      clear hhi hlo
      have hl2 : (Lib.byteCells l).length + 2 ≤ 140737488355328 := by rw [Lib.byteCells_length]; omega
      go_wp2_with fail
      refine (Tryd.Builder_WriteByte _ _ _ _ _ hbd (by omega) hbs).mono ?_
      rintro e w1 ⟨rfl, hbd1, hb1⟩
      rw [digit_at hi hhi16, snoc_cell _ _ _ rfl] at hbd1
      have hbs1 := Nat.le_trans hbs hb1.size
      have hl3 : (Lib.byteCells (l ++ [dg hi])).length + 1 ≤ 140737488355328 := by rw [Lib.byteCells_length] at hl2 ⊢; simp; omega
      go_wp2_with fail
      refine (Tryd.Builder_WriteByte _ _ _ _ _ (.inr hbd1) hl3 hbs1).mono ?_
      rintro e w2 ⟨rfl, hbd2, hb2⟩
      rw [digit_at lo hlo16, snoc_cell _ _ _ rfl] at hbd2
      clear f1 f2
      go_wp2
      go_roundw
      case rel => exact ⟨k + 1, by omega, by go_num, by rw [Ht.out]; exact .inr (by simpa using hbd2), (hb.trans hb1).trans hb2⟩
      case measure => simp [intOf]; omega
    · have hge : ¬ k < s.size := hlt
      have Hl := Lib.hid (show s.data.toList.take k = s.data.toList from List.take_of_length_le (by simp; omega))
      rw [Hl.out] at hbd
      go_wp2_with fail
      refine (Tryd.Builder_String _ _ _ _ hbd hbs).mono ?_
      rintro e w1 ⟨rfl, hb1⟩
      go_wp2
      go_ret
      exact ⟨rfl, hb.trans hb1⟩
end Go.Proofs.YtilbaooancgodaaDoor.Num
