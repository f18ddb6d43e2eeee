
/-
  What Unhex returns, for the program and for its model, whatever the world.
-/
import Derived.Test.YtilbaooancgodaaDoorHex
import Derived.Test.YtilbaooancgodaaDoorShelfI
namespace Go.Proofs.YtilbaooancgodaaDoor.Num
open Go.RowKit Bytes

/-- the value of a hexadecimal digit, or -1. -/
def hx (b : UInt8) : Int := if 48 ≤ b.toNat ∧ b.toNat ≤ 57 then (b.toNat : Int) - 48 else if 97 ≤ b.toNat ∧ b.toNat ≤ 102 then (b.toNat : Int) - 87 else -1
theorem hx_bd (b : UInt8) : -1 ≤ hx b ∧ hx b < 16 := by unfold hx; split; omega; split <;> omega
theorem hx_dg (k : Nat) (h : k < 16) : hx (dg k) = k := by
  unfold hx; rw [dg_toNat k h]; split <;> split <;> omega
theorem dg_of_hx (b : UInt8) (h : 0 ≤ hx b) : dg (hx b).toNat = b := by
  have hb := hx_bd b
  apply UInt8.toNat_inj.1
  rw [dg_toNat _ (by omega)]
  unfold hx at h hb ⊢
  split at h
  · rename_i h1; rw [if_pos h1]; split <;> omega
  · rename_i h1; rw [if_neg h1]
    split at h
    · rename_i h2; rw [if_pos h2]; split <;> omega
    · omega
theorem index_hx : ∀ b : UInt8, Lib.indexByte [48, 49, 50, 51, 52, 53, 54, 55, 56, 57, 97, 98, 99, 100, 101, 102] b = hx b := by
  have h : ∀ n, n < 256 → Lib.indexByte [48, 49, 50, 51, 52, 53, 54, 55, 56, 57, 97, 98, 99, 100, 101, 102] (UInt8.ofNat n) = hx (UInt8.ofNat n) := by decide +kernel
  intro b
  have := h b.toNat b.toNat_lt
  simpa using this

/-- what pairs of digits say; none where one is no digit. -/
def unh : List UInt8 → Option (List UInt8)
  | [] => some []
  | [_] => none
  | a :: b :: l => if hx a < 0 ∨ hx b < 0 then none else (unh l).map (UInt8.ofNat (16 * hx a + hx b).toNat :: ·)
theorem unh_odd : ∀ l : List UInt8, l.length % 2 = 1 → unh l = none
  | [], h => by simp at h
  | [_], _ => rfl
  | a :: b :: l, h => by
    have := unh_odd l (by simp at h; omega)
    simp [unh, this]
theorem unh_hexL : ∀ l : List UInt8, unh (hexL l) = some l
  | [] => rfl
  | b :: l => by
    have hb := b.toNat_lt
    simp only [hexL, unh, hx_dg _ (show b.toNat / 16 < 16 by omega), hx_dg _ (show b.toNat % 16 < 16 by omega), unh_hexL l]
    rw [if_neg (by omega)]
    simp only [Option.map_some]
    congr 2
    apply UInt8.toNat_inj.1
    simp; omega
/-- the two results of Unhex. -/
def unhS (l : List UInt8) : ByteArray := ⟨((unh l).getD []).toArray⟩
def unhB (l : List UInt8) : Bool := (unh l).isSome
theorem drop2 (s : ByteArray) (k : Nat) (h : k + 1 < s.size) : s.data.toList.drop k = s[k] :: s[k + 1] :: s.data.toList.drop (k + 2) := by
  rw [List.drop_eq_getElem_cons (by simp; omega), List.drop_eq_getElem_cons (i := k + 1) (by simp; omega)]; simp; exact ⟨rfl, rfl⟩

theorem unh_step (s : ByteArray) (k : Nat) (l : List UInt8) (h : k + 1 < s.size) (h1 : 0 ≤ hx s[k]) (h2 : 0 ≤ hx s[k + 1]) (hu : (unh (s.data.toList.drop k)).map (l ++ ·) = unh s.data.toList) :
    (unh (s.data.toList.drop (k + 2))).map ((l ++ [UInt8.ofNat (16 * hx s[k] + hx s[k + 1]).toNat]) ++ ·) = unh s.data.toList := by
  rw [← hu, drop2 s k h, unh, if_neg (by omega)]
  cases unh (s.data.toList.drop (k + 2)) <;> simp
theorem unh_bad (s : ByteArray) (k : Nat) (l : List UInt8) (h : k + 1 < s.size) (h1 : hx s[k] < 0 ∨ hx s[k + 1] < 0) (hu : (unh (s.data.toList.drop k)).map (l ++ ·) = unh s.data.toList) : unh s.data.toList = none := by
  rw [← hu, drop2 s k h, unh, if_pos h1]; rfl
theorem unhS_none {l : List UInt8} (h : unh l = none) : unhS l = ⟨#[]⟩ := by unfold unhS; rw [h]; rfl
theorem unhB_none {l : List UInt8} (h : unh l = none) : unhB l = false := by unfold unhB; rw [h]; rfl
theorem unhS_some {l r : List UInt8} (h : unh l = some r) : unhS l = ⟨r.toArray⟩ := by unfold unhS; rw [h]; rfl
theorem unhB_some {l r : List UInt8} (h : unh l = some r) : unhB l = true := by unfold unhB; rw [h]; rfl

theorem or4 (a b : Int) (ha : 0 ≤ a) (ha2 : a < 16) (hb : 0 ≤ b) (hb2 : b < 16) : bits .or .i64 (a * 16) b = 16 * a + b := by
  rw [bits_join .i64 63 (by decide) wraps_i64 4 _ _ (by omega) (by omega) (by omega) (by omega) (by omega) (by omega)]; omega
theorem index_eq (b : UInt8) : Lib.indexByte (⟨#[48, 49, 50, 51, 52, 53, 54, 55, 56, 57, 97, 98, 99, 100, 101, 102]⟩ : ByteArray).data.toList ((b.toNat : Int)).toNat.toUInt8 = hx b := by
  rw [← index_hx b]; congr 1; simp
theorem index_any (b : UInt8) (w : World) :
    Calls Tryd.prog 66 #[.string ⟨#[48, 49, 50, 51, 52, 53, 54, 55, 56, 57, 97, 98, 99, 100, 101, 102]⟩, .int .u8 b.toNat] w fun e w' => e = .returned (.int .i64 (hx b)) ∧ w = w' := by
  refine (Tryd.IndexByte _ _ w).mono fun e w' h => ⟨?_, h.2⟩
  rw [h.1, index_eq]

set_option maxHeartbeats 1000000 in
set_option maxRecDepth 100000 in
theorem implUnhex_any (s : ByteArray) (hs : s.size ≤ 70368744177664) (w : World) :
    Calls Tryd.prog 26 #[.string s] w fun e w' => e = .returned (.tuple #[.string (unhS s.data.toList), .bool (unhB s.data.toList)]) ∧ Below w.heap.size w w' := by
  by_cases hodd : s.size % 2 = 1
  · have Hn := Lib.hid (unh_odd s.data.toList (by simpa using hodd))
    have ht : ((s.size : Int) % 2 == 0) = false := by rw [beq_eq_false_iff_ne]; omega
    have ht2 : (((s.size : Int) % 2) != 0) = true := by rw [bne_iff_ne]; omega
    clear hodd
    go_enter Tryd.func26, Tryd.ntmps26
    go_wp2
    go_ret2
    exact ⟨by rw [unhS_none Hn.out, unhB_none Hn.out]; rfl, Below.refl _ _⟩
  · have ht : ((s.size : Int) % 2 == 0) = true := by rw [beq_iff_eq]; omega
    have ht2 : (((s.size : Int) % 2) != 0) = false := by rw [bne_eq_false_iff_eq]; omega
    have hev : s.size % 2 = 0 := by omega
    have Hev := Lib.hid hev
    clear hodd hev
    go_enter Tryd.func26, Tryd.ntmps26
    go_wp2_with fail
    refine (Tryd.Builder_Grow w.heap.size w.heap.size _ _ (by omega) (Nat.le_refl _) (fresh_block _ w) (by simp) (by omega)).mono ?_
    rintro e w0 ⟨rfl, hbd0, hb0⟩
    have hb00 := ((Below.refl w.heap.size w).alloc (Nat.le_refl _) (.cells #[.pointer none, .slice none 0 0] 76)).trans hb0
    go_wp2
    go_loopw [5] (fun i wr => ∃ (k : Nat) (l : List UInt8), k ≤ s.size ∧ i = .int .i64 k ∧ k % 2 = 0 ∧ l.length ≤ k ∧ (unh (s.data.toList.drop k)).map (l ++ ·) = unh s.data.toList ∧ Lib.IsBuilder 76 5 w.heap.size w.heap.size (Lib.byteCells l) wr ∧ Below w.heap.size w wr) (fun i _ => s.size - (intOf i).toNat)
    case atStart => exact ⟨0, [], by omega, rfl, rfl, Nat.le_refl _, by simp, .inr hbd0, hb00⟩
    case round =>
      obtain ⟨k, l, hk, rfl, hk2, hll, hu, hbd, hb⟩ := hrel
      have hbs := hb.size
      have Hu := Lib.hid hu
      have Hk2 := Lib.hid hk2
      have hk1 : k < s.size → k + 1 < s.size := by have := Hev.out; omega
      clear hu hk2
      by_cases hlt : k < s.size
      · have hlt1 := hk1 hlt
        clear hk1
        have hb8 : s[k].toNat < 256 := s[k].toNat_lt
        have hb9 : s[k + 1].toNat < 256 := s[k + 1].toNat_lt
        have hA := hx_bd s[k]
        have hB := hx_bd s[k + 1]
        by_cases h1 : hx s[k] < 0 ∨ hx s[k + 1] < 0
        · have Hn := Lib.hid (unh_bad s k l hlt1 h1 Hu.out)
          rcases (show hx s[k] < 0 ∨ (¬ hx s[k] < 0 ∧ hx s[k + 1] < 0) by omega) with h2 | ⟨h2, h3⟩
          all_goals
            clear h1
            go_wp2_with fail
            refine (index_any _ _).mono ?_
            rintro e w' ⟨rfl, rfl⟩
            go_wp2_with fail
            refine (index_any _ _).mono ?_
            rintro e w' ⟨rfl, rfl⟩
            go_wp2
            go_ret2
            exact ⟨by rw [unhS_none Hn.out, unhB_none Hn.out]; rfl, hb⟩
        · have h2 : 0 ≤ hx s[k] := by omega
          have h3 : 0 ≤ hx s[k + 1] := by omega
          have Hst := Lib.hid (unh_step s k l hlt1 h2 h3 Hu.out)
          have Hc := Lib.hid (snoc_cell l (16 * hx s[k] + hx s[k + 1]) _ (show 16 * hx s[k] + hx s[k + 1] = ((UInt8.ofNat (16 * hx s[k] + hx s[k + 1]).toNat).toNat : Int) by rw [← u8_ofNat _ (by omega)]; omega))
          have ho := or4 (hx s[k]) (hx s[k + 1]) h2 hA.2 h3 hB.2
          have hl1 : (Lib.byteCells l).length + 1 ≤ 140737488355328 := by rw [Lib.byteCells_length]; omega
          clear h1
          go_wp2_with fail
          refine (index_any _ _).mono ?_
          rintro e w' ⟨rfl, rfl⟩
          go_wp2_with fail
          refine (index_any _ _).mono ?_
          rintro e w' ⟨rfl, rfl⟩
          go_wp2_with fail
          refine (Tryd.Builder_WriteByte _ _ _ _ _ hbd hl1 hbs).mono ?_
          rintro e w1 ⟨rfl, hbd1, hb1⟩
          rw [Hc.out] at hbd1
          clear ho
          go_wp2
          go_roundw
          case rel => exact ⟨k + 2, _, by omega, by go_num, by have := Hk2.out; omega, by simp; omega, Hst.out, .inr hbd1, hb.trans hb1⟩
          case measure => simp [intOf]; omega
      · have Hl := Lib.hid (show unh s.data.toList = some l by
          have hu := Hu.out
          rw [List.drop_of_length_le (by simp; omega)] at hu
          simpa [unh] using hu.symm)
        have hge : ¬ k < s.size := hlt
        clear hk1
        go_wp2_with fail
        refine (Tryd.Builder_String _ _ _ _ hbd hbs).mono ?_
        rintro e w1 ⟨rfl, hb1⟩
        go_wp2
        go_ret2
        exact ⟨by rw [unhS_some Hl.out, unhB_some Hl.out]; rfl, hb.trans hb1⟩
end Go.Proofs.YtilbaooancgodaaDoor.Num
