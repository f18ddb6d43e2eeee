
/-
  What Var returns, for the program and for its model, whatever the world.
-/
import Derived.Test.YtilbaooancgodaaDoorNum
import Derived.Test.YtilbaooancgodaaDoorShelfB
import Derived.Test.YtilbaooancgodaaDoorBytes
namespace Go.Proofs.YtilbaooancgodaaDoor.Num
open Go.RowKit Bytes

/-- the varint of n, of at most f + 1 bytes. -/
def vr : Nat → Nat → List UInt8
  | 0, n => [UInt8.ofNat n]
  | f + 1, n => if n < 128 then [UInt8.ofNat n] else UInt8.ofNat (n % 128 + 128) :: vr f (n / 128)
def varL (n : Nat) : List UInt8 := vr 6 n
theorem vr_small {f n : Nat} (h : n < 128) : vr f n = [UInt8.ofNat n] := by
  cases f with
  | zero => rfl
  | succ f => simp [vr, h]
theorem vr_big {f n : Nat} (h : ¬ n < 128) : vr (f + 1) n = UInt8.ofNat (n % 128 + 128) :: vr f (n / 128) := by simp [vr, h]
theorem vr_len (f n : Nat) : (vr f n).length ≤ f + 1 := by
  induction f generalizing n with
  | zero => simp [vr]
  | succ f ih => by_cases h : n < 128 <;> simp [vr, h]; exact ih _

theorem specVar_no (n : Int) (h : n < 0 ∨ 562949953421311 < n) (w : World) :
    Calls Tryd.prog 67 #[.int .i64 n] w fun e w' => e = .returned (.string ⟨#[]⟩) ∧ w = w' := by
  go_enter Tryd.func67, Tryd.ntmps67
  go_wp2_with (go_at_call 50; refine (l1In_no _ _ _ (by omega) _).mono ?_; rintro e w' ⟨rfl, rfl⟩)
  go_ret
  exact ⟨rfl, rfl⟩
set_option maxRecDepth 100000 in
theorem specVar_any (n : Nat) (hn : n ≤ 562949953421311) (w : World) :
    Calls Tryd.prog 67 #[.int .i64 n] w fun e w' => e = .returned (.string ⟨(varL n).toArray⟩) ∧ Below w.heap.size w w' := by
  go_enter Tryd.func67, Tryd.ntmps67
  go_wp2_with (go_at_call 50; refine (l1In_yes _ _ _ (by omega) (by omega) _).mono ?_; rintro e w' ⟨rfl, rfl⟩)
  go_loopw [0, 3] (fun x o wr => ∃ (q f : Nat) (l : List UInt8), x = .int .i64 q ∧ q < 128 ^ (f + 1) ∧ l.length + f = 6 ∧ l ++ vr f q = varL n ∧ OwnB w.heap.size o l wr ∧ Below w.heap.size w wr) (fun x _ _ => (intOf x).toNat)
  case atStart => exact ⟨n, 6, [], rfl, by omega, rfl, rfl, OwnB.made _ _ (Nat.le_refl _), (Below.refl _ _).alloc (Nat.le_refl _) _⟩
  case round =>
    obtain ⟨q, f, l, rfl, hq, hlf, hl, hown, hb⟩ := hrel
    have Hl := Lib.hid hl
    have Hlf := Lib.hid hlf
    have hlen : l.length ≤ 6 := by omega
    have hq2 : q < 562949953421312 := Nat.lt_of_lt_of_le hq (Nat.le_trans (Nat.pow_le_pow_right (by decide) (show f + 1 ≤ 7 by omega)) (by decide))
    have Hq := Lib.hid hq
    have hbs := hb.size
    clear hl hlf hq
    by_cases hlt : q < 128
    · have Hc := Lib.hid (u8_ofNat q (by omega))
      go_wp2_with (at_builtin; refine app rfl _ _ rfl w.heap.size u3 l wr _ (UInt8.ofNat q) rfl rfl hown Hc.out hbs (by omega) ?_; intro v' w1 hown1 hb1; have hcv := hown1.str)
      go_ret
      exact ⟨by rw [← Hl.out, vr_small hlt]; rfl, hb.trans hb1⟩
    · have Hc := Lib.hid (show 128 + (q : Int) % 128 = ((UInt8.ofNat (q % 128 + 128)).toNat : Int) by rw [← u8_ofNat _ (by omega)]; omega)
      go_wp2_with (at_builtin; refine app rfl _ _ rfl w.heap.size u3 l wr _ (UInt8.ofNat (q % 128 + 128)) rfl rfl hown Hc.out hbs (by omega) ?_; intro v' w1 hown1 hb1)
      go_roundw
      case rel =>
        have h0 : f ≠ 0 := by rintro rfl; have := Hq.out; omega
        obtain ⟨f', rfl⟩ := Nat.exists_eq_succ_of_ne_zero h0
        refine ⟨q / 128, f', l ++ [UInt8.ofNat (q % 128 + 128)], rfl, ?_, ?_, ?_, hown1, hb.trans hb1⟩
        · have := Hq.out; rw [Nat.pow_succ] at this; omega
        · have := Hlf.out; simp; omega
        · rw [← Hl.out, vr_big hlt, List.append_assoc]; rfl
      case measure => simp [intOf]; omega

theorem implVar_no (n : Int) (h : n < 0 ∨ 562949953421311 < n) (w : World) :
    Calls Tryd.prog 20 #[.int .i64 n] w fun e w' => e = .returned (.string ⟨#[]⟩) ∧ w = w' := by
  by_cases h0 : n < 0
  · go_enter Tryd.func20, Tryd.ntmps20
    go_wp2
    go_ret
    exact ⟨rfl, rfl⟩
  · have h1 : 562949953421311 < n := by omega
    go_enter Tryd.func20, Tryd.ntmps20
    go_wp2
    go_ret
    exact ⟨rfl, rfl⟩
set_option maxRecDepth 100000 in
theorem implVar_any (n : Nat) (hn : n ≤ 562949953421311) (w : World) :
    Calls Tryd.prog 20 #[.int .i64 n] w fun e w' => e = .returned (.string ⟨(varL n).toArray⟩) ∧ Below w.heap.size w w' := by
  have hn' : ¬ 562949953421311 < (n : Int) := by omega
  go_enter Tryd.func20, Tryd.ntmps20
  go_wp2
  go_loopw [0] (fun x wr => ∃ (q f : Nat) (l : List UInt8), x = .int .i64 q ∧ q < 128 ^ (f + 1) ∧ l.length + f = 6 ∧ l ++ vr f q = varL n ∧ Lib.IsBuilder 76 5 w.heap.size w.heap.size (Lib.byteCells l) wr ∧ Below w.heap.size w wr) (fun x _ => (intOf x).toNat)
  case atStart => exact ⟨n, 6, [], rfl, by omega, rfl, rfl, Lib.fresh_isBuilder _ _ _, (Below.refl _ _).alloc (Nat.le_refl _) _⟩
  case round =>
    obtain ⟨q, f, l, rfl, hq, hlf, hl, hbd, hb⟩ := hrel
    have Hl := Lib.hid hl
    have Hlf := Lib.hid hlf
    have hlen : l.length ≤ 6 := by omega
    have hq2 : q < 562949953421312 := Nat.lt_of_lt_of_le hq (Nat.le_trans (Nat.pow_le_pow_right (by decide) (show f + 1 ≤ 7 by omega)) (by decide))
    have Hq := Lib.hid hq
    have hbs := hb.size
    clear hl hlf hq
    by_cases hlt : q < 128
    · have Hc := Lib.hid (show Lib.byteCells l ++ [Value.int .u8 (q : Int)] = Lib.byteCells (l ++ [UInt8.ofNat q]) by
        rw [Lib.byteCells_append]; exact congrArg (fun v => Lib.byteCells l ++ [Value.int .u8 v]) (u8_ofNat _ (by omega)))
      go_wp2_with fail
      refine (Tryd.Builder_WriteByte _ _ _ _ _ hbd (by rw [Lib.byteCells_length]; omega) hbs).mono ?_
      rintro e w1 ⟨rfl, hbd1, hb1⟩
      rw [Hc.out] at hbd1
      have hbs1 := Nat.le_trans hbs hb1.size
      go_wp2_with fail
      refine (Tryd.Builder_String _ _ _ _ (.inr hbd1) hbs1).mono ?_
      rintro e w2 ⟨rfl, hb2⟩
      go_wp2
      go_ret
      exact ⟨by rw [← Hl.out, vr_small hlt]; rfl, (hb.trans hb1).trans hb2⟩
    · have Hc := Lib.hid (show Lib.byteCells l ++ [Value.int .u8 ((q : Int) % 128 + 128)] = Lib.byteCells (l ++ [UInt8.ofNat (q % 128 + 128)]) by
        rw [Lib.byteCells_append]; exact congrArg (fun v => Lib.byteCells l ++ [Value.int .u8 v]) (u8_ofNat (q % 128 + 128) (by omega)))
      go_wp2_with fail
      refine (Tryd.Builder_WriteByte _ _ _ _ _ hbd (by rw [Lib.byteCells_length]; omega) hbs).mono ?_
      rintro e w1 ⟨rfl, hbd1, hb1⟩
      rw [Hc.out] at hbd1
      go_wp2
      go_roundw
      case rel =>
        have h0 : f ≠ 0 := by rintro rfl; have := Hq.out; omega
        obtain ⟨f', rfl⟩ := Nat.exists_eq_succ_of_ne_zero h0
        refine ⟨q / 128, f', l ++ [UInt8.ofNat (q % 128 + 128)], rfl, ?_, ?_, ?_, .inr hbd1, hb.trans hb1⟩
        · have := Hq.out; rw [Nat.pow_succ] at this; omega
        · have := Hlf.out; simp; omega
        · rw [← Hl.out, vr_big hlt, List.append_assoc]; rfl
      case measure => simp [intOf]; omega
end Go.Proofs.YtilbaooancgodaaDoor.Num
