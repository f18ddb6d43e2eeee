
/-
  Chapter 1's draws: a number, a text, a varint with something behind it.
-/
import Derived.Test.YtilbaooancgodaaDoorCur4
import Derived.Test.YtilbaooancgodaaDoorVar
namespace Go.Proofs.YtilbaooancgodaaDoor.Cur
open Go.RowKit Bytes Num

/-- the bytes of Var. -/
def varT (n : Int) : List UInt8 := if 0 ≤ n ∧ n ≤ 562949953421311 then varL n.toNat else []
theorem varT_yes {n : Nat} (h : n ≤ 562949953421311) : varT n = varL n := by unfold varT; rw [if_pos ⟨by omega, by omega⟩]; simp
theorem varT_no {n : Int} (h : n < 0 ∨ 562949953421311 < n) : varT n = [] := by unfold varT; rw [if_neg (by omega)]
theorem varT_length (n : Int) : (varT n).length ≤ 7 := by
  unfold varT; split
  · exact vr_len 6 _
  · simp
theorem specVar_all (n : Int) (w : World) :
    Calls Tryd.prog 67 #[.int .i64 n] w fun e w' => e = .returned (.string ⟨(varT n).toArray⟩) ∧ Below w.heap.size w w' := by
  by_cases h : n < 0 ∨ 562949953421311 < n
  · rw [varT_no h]
    exact (specVar_no n h w).mono fun e w' ⟨h1, h2⟩ => ⟨h1, h2 ▸ Below.refl _ _⟩
  · obtain ⟨m, rfl⟩ := Int.eq_ofNat_of_zero_le (show 0 ≤ n by omega)
    rw [varT_yes (by omega)]
    exact specVar_any m (by omega) w

def drawVar (len : Nat) (z : List Int) : Int := (numD len z (newS z len)).1
def drawHex (len : Nat) (z : List Int) : List UInt8 := (textD len z 40 (newS z len)).1
def drawReadVar (len : Nat) (z : List Int) : ByteArray :=
  let n := numD len z (newS z len)
  let x := textD len z 4 n.2
  let t : ByteArray := ⟨(varT n.1 ++ x.1).toArray⟩
  let o := onceD len z 4 x.2
  if o.1 then (spoilD len z t o.2).1 else t

theorem drawVar_any (a : Option Addr) (len cap : Nat) (z : List Int) (w : World) (h : CodeIn a len z w) :
    Calls Tryd.prog 18 #[.slice a len cap] w fun e w' => e = .returned (.int .i64 (drawVar len z)) ∧ Below w.heap.size w w' := by
  go_enter Tryd.func18, Tryd.ntmps18
  go_wp2_with fail
  refine (new_any a len cap z _ h).mono ?_
  rintro e w1 ⟨c, rfl, hc, hA, hb⟩
  go_wp2_with fail
  refine (num_any c a len cap z _ _ hA).mono ?_
  rintro e w2 ⟨rfl, _, hO⟩
  go_wp2
  go_ret
  exact ⟨rfl, hO.below hb hc⟩
theorem drawHex_any (a : Option Addr) (len cap : Nat) (z : List Int) (w : World) (h : CodeIn a len z w) :
    Calls Tryd.prog 19 #[.slice a len cap] w fun e w' => e = .returned (.string ⟨(drawHex len z).toArray⟩) ∧ Below w.heap.size w w' := by
  go_enter Tryd.func19, Tryd.ntmps19
  go_wp2_with fail
  refine (new_any a len cap z _ h).mono ?_
  rintro e w1 ⟨c, rfl, hc, hA, hb⟩
  go_wp2_with fail
  refine (text_any c a len cap z _ 40 (by omega) (by omega) _ hA).mono ?_
  rintro e w2 ⟨rfl, _, hO⟩
  go_wp2
  go_ret
  exact ⟨rfl, hO.below hb hc⟩
theorem drawReadVar_any (a : Option Addr) (len cap : Nat) (z : List Int) (w : World) (h : CodeIn a len z w) :
    Calls Tryd.prog 28 #[.slice a len cap] w fun e w' => e = .returned (.string (drawReadVar len z)) ∧ Below w.heap.size w w' := by
  obtain ⟨s0, hs0⟩ : ∃ s, s = newS z len := ⟨_, rfl⟩
  obtain ⟨n, hn⟩ : ∃ n, n = (numD len z s0).1 := ⟨_, rfl⟩
  obtain ⟨s1, hs1⟩ : ∃ s, s = (numD len z s0).2 := ⟨_, rfl⟩
  obtain ⟨x, hx⟩ : ∃ x, x = (textD len z 4 s1).1 := ⟨_, rfl⟩
  obtain ⟨s2, hs2⟩ : ∃ s, s = (textD len z 4 s1).2 := ⟨_, rfl⟩
  obtain ⟨o, ho⟩ : ∃ o, o = (onceD len z 4 s2).1 := ⟨_, rfl⟩
  obtain ⟨s3, hs3⟩ : ∃ s, s = (onceD len z 4 s2).2 := ⟨_, rfl⟩
  have hxl := textD_length len z 4 s1 (by omega)
  rw [← hx] at hxl
  have hvl := varT_length n
  have He := Lib.hid (show drawReadVar len z = if o then (spoilD len z ⟨(varT n ++ x).toArray⟩ s3).1 else ⟨(varT n ++ x).toArray⟩ by
    unfold drawReadVar; simp only [← hs0, ← hn, ← hs1, ← hx, ← hs2, ← ho, ← hs3])
  have X0 := Lib.hid hs0; have X1 := Lib.hid hn; have X2 := Lib.hid hs1; have X3 := Lib.hid hx; have X4 := Lib.hid hs2; have X5 := Lib.hid ho; have X6 := Lib.hid hs3
  clear hs0 hn hs1 hx hs2 ho hs3
  have hadd : ∀ w : World, (Op.stringOp .add (⟨(varT n).toArray⟩ : ByteArray) ⟨x.toArray⟩).run Tryd.prog w = .ok (.string ⟨(varT n ++ x).toArray⟩) w := fun w => run_string_add_lists w _ _ (by omega) (by omega)
  go_enter Tryd.func28, Tryd.ntmps28
  go_wp2_with fail
  refine (new_any a len cap z _ h).mono ?_
  rintro e w1 ⟨c, rfl, hc, hA, hb⟩
  rw [← X0.out] at hA
  go_wp2_with fail
  refine (num_any c a len cap z _ _ hA).mono ?_
  rintro e w2 ⟨rfl, hA2, hO2⟩
  rw [← X1.out]
  rw [← X2.out] at hA2
  go_wp2_with fail
  refine (specVar_all n _).mono ?_
  rintro e w3 ⟨rfl, hb3⟩
  have hA3 := hA2.below hb3
  go_wp2_with fail
  refine (text_any c a len cap z _ 4 (by omega) (by omega) _ hA3).mono ?_
  rintro e w4 ⟨rfl, hA4, hO4⟩
  rw [← X3.out]
  rw [← X4.out] at hA4
  go_wp2_with fail
  refine (once_any c a len cap z _ 4 (by omega) (by omega) _ hA4).mono ?_
  rintro e w5 ⟨rfl, hA5, hO5⟩
  rw [← X5.out]
  rw [← X6.out] at hA5
  have hO := ((hO2.transB (hb3.mono hO2.size)).trans hO4).trans hO5
  cases o
  · go_wp2
    go_ret
    exact ⟨by rw [He.out]; rfl, hO.below hb hc⟩
  · go_wp2_with fail
    refine (spoil_any c a len cap z _ _ ?_ _ hA5).mono ?_
    · simp [ByteArray.size]; omega
    · rintro e w6 ⟨rfl, hA6, hO6⟩
      go_wp2
      go_ret
      exact ⟨by rw [He.out]; rfl, (hO.trans hO6).below hb hc⟩
end Go.Proofs.YtilbaooancgodaaDoor.Cur
