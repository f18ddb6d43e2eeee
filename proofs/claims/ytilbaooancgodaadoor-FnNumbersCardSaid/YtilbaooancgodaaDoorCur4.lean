
/-
  A text with one byte dropped, added or turned, or cut off: chapter 1's draws.
-/
import Derived.Test.YtilbaooancgodaaDoorCur3
import Derived.Deep.RegionWith
namespace Go.Proofs.YtilbaooancgodaaDoor.Cur
open Go.RowKit Bytes

/-- the byte that another one is turned into. -/
def turnB (b x : Int) : Int := bits .xor .i64 b (1 + x) % 256
/-- the text, spoilt. -/
def spoilD (len : Nat) (z : List Int) (t : ByteArray) (s : St) : ByteArray × St :=
  if t.size = 0 then (⟨(textD len z 3 s).1.toArray⟩, (textD len z 3 s).2)
  else
    let k := belowD len z t.size s
    let m := belowD len z 4 k.2
    let i := k.1.toNat
    if m.1 = 0 then (t.extract 0 i ++ t.extract (i + 1) t.size, m.2)
    else if m.1 = 1 then (t.extract 0 i ++ ⟨#[UInt8.ofNat (byteD len z m.2).1.toNat]⟩ ++ t.extract i t.size, (byteD len z m.2).2)
    else if m.1 = 2 then (t.extract 0 i, m.2)
    else (t.extract 0 i ++ ⟨#[UInt8.ofNat (turnB (t.data.toList.getD i 0).toNat (belowD len z 255 m.2).1).toNat]⟩ ++ t.extract (i + 1) t.size, (belowD len z 255 m.2).2)
theorem getD_of (s : ByteArray) (k : Nat) (h : k < s.size) : s.data.toList.getD k 0 = s[k] := by
  simp [List.getD, h]; rfl
set_option maxHeartbeats 2000000 in
set_option maxRecDepth 100000 in
theorem spoil_any (c : Nat) (a : Option Addr) (len cap : Nat) (z : List Int) (s : St) (t : ByteArray) (ht : t.size ≤ 100000) (w : World) (h : At c a len cap z s w) :
    Calls Tryd.prog 47 #[.pointer (some ⟨c, 0, none⟩), .string t] w fun e w' => e = .returned (.string (spoilD len z t s).1) ∧ At c a len cap z (spoilD len z t s).2 w' ∧ Only c w w' := by
  by_cases h0 : t.size = 0
  · have t0 : ((t.size : Int) == 0) = true := by rw [beq_iff_eq]; omega
    have He := Lib.hid (show spoilD len z t s = (⟨(textD len z 3 s).1.toArray⟩, (textD len z 3 s).2) from if_pos h0)
    clear h0
    go_enter Tryd.func47, Tryd.ntmps47
    go_wp2_with fail
    refine (text_any c a len cap z s 3 (by omega) (by omega) _ h).mono ?_
    rintro e w1 ⟨rfl, hA1, hO1⟩
    go_wp2
    go_ret
    exact ⟨by rw [He.out]; rfl, by rw [He.out]; exact hA1, hO1⟩
  · have t0 : ((t.size : Int) == 0) = false := by rw [beq_eq_false_iff_ne]; omega
    have hk := belowD_bd len z t.size s (by omega)
    obtain ⟨s1, hs1⟩ : ∃ s1, s1 = (belowD len z t.size s).2 := ⟨_, rfl⟩
    obtain ⟨k, hk1⟩ : ∃ k : Nat, (k : Int) = (belowD len z t.size s).1 := ⟨_, Int.toNat_of_nonneg hk.1⟩
    have hm := belowD_bd len z 4 s1 (by omega)
    obtain ⟨s2, hs2⟩ : ∃ x, x = (belowD len z 4 s1).2 := ⟨_, rfl⟩
    obtain ⟨m, hm1⟩ : ∃ x, x = (belowD len z 4 s1).1 := ⟨_, rfl⟩
    rw [← hk1] at hk
    rw [← hm1] at hm
    have He := Lib.hid (show spoilD len z t s = if m = 0 then (t.extract 0 k ++ t.extract (k + 1) t.size, s2)
      else if m = 1 then (t.extract 0 k ++ ⟨#[UInt8.ofNat (byteD len z s2).1.toNat]⟩ ++ t.extract k t.size, (byteD len z s2).2)
      else if m = 2 then (t.extract 0 k, s2)
      else (t.extract 0 k ++ ⟨#[UInt8.ofNat (turnB (t.data.toList.getD k 0).toNat (belowD len z 255 s2).1).toNat]⟩ ++ t.extract (k + 1) t.size, (belowD len z 255 s2).2) by
        unfold spoilD; rw [if_neg h0]; simp only [← hs1, ← hk1, ← hs2, ← hm1, Int.toNat_natCast])
    have X1 := Lib.hid hs1; have X2 := Lib.hid hk1; have X3 := Lib.hid hs2; have X4 := Lib.hid hm1
    have hkt : k < t.size := by omega
    have hb8 : t[k].toNat < 256 := t[k].toNat_lt
    clear hs1 hk1 hs2 hm1 h0
    have g1 : IntKind.i64.wrap ((k : Int) + 1) = (k : Int) + 1 := IntWalk.i64_in _ (by omega)
    have g2 : (0 : Int) ≤ (k : Int) + 1 := by omega
    have g3 : ((k : Int) + 1).toNat = k + 1 := by omega
    have g4 : (k : Int) + 1 ≤ t.size := by omega
    by_cases m0 : m = 0
    · subst m0
      have He2 := Lib.hid (He.out.trans (if_pos rfl))
      go_enter Tryd.func47, Tryd.ntmps47
      go_wp2_with fail
      refine (below_any c a len cap z s t.size (by omega) (by omega) _ h).mono ?_
      rintro e w1 ⟨rfl, hA1, hO1⟩
      rw [← X2.out]
      rw [← X1.out] at hA1
      go_wp2_with fail
      refine (below_any c a len cap z s1 4 (by omega) (by omega) _ hA1).mono ?_
      rintro e w2 ⟨rfl, hA2, hO2⟩
      rw [← X4.out]
      rw [← X3.out] at hA2
      go_wp2_with fail
      go_quiet (fail)
      go_wp2
      go_ret
      exact ⟨by rw [He2.out]; rfl, by rw [He2.out]; exact hA2.drewN _, (hO1.trans hO2).drewN _⟩
    · have m0' : (m == 0) = false := by rw [beq_eq_false_iff_ne]; exact m0
      by_cases m1 : m = 1
      · subst m1
        have He2 := Lib.hid (He.out.trans ((if_neg (by omega)).trans (if_pos rfl)))
        have hx := byteD_bd len z s2
        obtain ⟨x, hx1⟩ : ∃ x, x = (byteD len z s2).1 := ⟨_, rfl⟩
        rw [← hx1] at hx
        have X5 := Lib.hid hx1
        have hcv := str_one
        clear hx1 m0 m0'
        go_enter Tryd.func47, Tryd.ntmps47
        go_wp2_with fail
        refine (below_any c a len cap z s t.size (by omega) (by omega) _ h).mono ?_
        rintro e w1 ⟨rfl, hA1, hO1⟩
        rw [← X2.out]
        rw [← X1.out] at hA1
        go_wp2_with fail
        refine (below_any c a len cap z s1 4 (by omega) (by omega) _ hA1).mono ?_
        rintro e w2 ⟨rfl, hA2, hO2⟩
        rw [← X4.out]
        rw [← X3.out] at hA2
        go_wp2_with fail
        go_region_with (go_at_call 87; refine (byte_any c a len cap z s2 _ ?_).mono ?_; exact hA2.drew; rintro e w3 ⟨rfl, hA3, hO3⟩; rw [← X5.out])
        all_goals
          go_wp2
          go_ret
          refine ⟨by rw [He2.out, ← X5.out]; rfl, by rw [He2.out]; exact hA3.below ((Below.refl _ _).alloc (Nat.le_refl _) _), ((hO1.trans hO2).drew.trans hO3).alloc _⟩
      · have m1' : (m == 1) = false := by rw [beq_eq_false_iff_ne]; exact m1
        by_cases m2 : m = 2
        · subst m2
          have He2 := Lib.hid (He.out.trans ((if_neg (by omega)).trans ((if_neg (by omega)).trans (if_pos rfl))))
          clear m0 m0' m1 m1'
          go_enter Tryd.func47, Tryd.ntmps47
          go_wp2_with fail
          refine (below_any c a len cap z s t.size (by omega) (by omega) _ h).mono ?_
          rintro e w1 ⟨rfl, hA1, hO1⟩
          rw [← X2.out]
          rw [← X1.out] at hA1
          go_wp2_with fail
          refine (below_any c a len cap z s1 4 (by omega) (by omega) _ hA1).mono ?_
          rintro e w2 ⟨rfl, hA2, hO2⟩
          rw [← X4.out]
          rw [← X3.out] at hA2
          go_wp2
          go_ret
          exact ⟨by rw [He2.out]; rfl, by rw [He2.out]; exact hA2, hO1.trans hO2⟩
        · have m2' : (m == 2) = false := by rw [beq_eq_false_iff_ne]; exact m2
          have He2 := Lib.hid (He.out.trans ((if_neg m0).trans ((if_neg m1).trans (if_neg m2))))
          have hx := belowD_bd len z 255 s2 (by omega)
          obtain ⟨x, hx1⟩ : ∃ x, x = (belowD len z 255 s2).1 := ⟨_, rfl⟩
          rw [← hx1] at hx
          have X5 := Lib.hid hx1
          have Hg := Lib.hid (getD_of t k hkt)
          have g5 : IntKind.i64.wrap (t[k].toNat : Int) = (t[k].toNat : Int) := IntWalk.i64_in _ (by omega)
          have g6 : IntKind.i64.wrap (1 + x) = 1 + x := IntWalk.i64_in _ (by omega)
          have hcv := str_one
          clear hx1 m0 m1 m2
          go_enter Tryd.func47, Tryd.ntmps47
          go_wp2_with fail
          refine (below_any c a len cap z s t.size (by omega) (by omega) _ h).mono ?_
          rintro e w1 ⟨rfl, hA1, hO1⟩
          rw [← X2.out]
          rw [← X1.out] at hA1
          go_wp2_with fail
          refine (below_any c a len cap z s1 4 (by omega) (by omega) _ hA1).mono ?_
          rintro e w2 ⟨rfl, hA2, hO2⟩
          rw [← X4.out]
          rw [← X3.out] at hA2
          go_wp2_with fail
          go_region_with (go_at_call 46; refine (below_any c a len cap z s2 255 (by omega) (by omega) _ ?_).mono ?_; exact hA2.drew; rintro e w3 ⟨rfl, hA3, hO3⟩; rw [← X5.out])
          all_goals
            go_wp2
            go_ret
            refine ⟨?_, by rw [He2.out]; exact hA3.below ((Below.refl _ _).alloc (Nat.le_refl _) _), ((hO1.trans hO2).drew.trans hO3).alloc _⟩
            rw [He2.out, ← X5.out, Hg.out]; rfl
end Go.Proofs.YtilbaooancgodaaDoor.Cur
