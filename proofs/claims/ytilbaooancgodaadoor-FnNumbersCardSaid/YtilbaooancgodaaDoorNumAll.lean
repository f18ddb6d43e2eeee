
/-
  Chapter 1's functions at any argument, as the laws on numbers call them.
-/
import Derived.Test.YtilbaooancgodaaDoorDraw1
import Derived.Test.YtilbaooancgodaaDoorFixed
import Derived.Test.YtilbaooancgodaaDoorReadVar
import Derived.Test.YtilbaooancgodaaDoorUnhex
import Derived.Test.YtilbaooancgodaaDoorReadDec
namespace Go.Proofs.YtilbaooancgodaaDoor.Cur
open Go.RowKit Bytes Num

theorem implVar_all (n : Int) (w : World) :
    Calls Tryd.prog 20 #[.int .i64 n] w fun e w' => e = .returned (.string ⟨(varT n).toArray⟩) ∧ Below w.heap.size w w' := by
  by_cases h : n < 0 ∨ 562949953421311 < n
  · rw [varT_no h]
    exact (implVar_no n h w).mono fun e w' ⟨h1, h2⟩ => ⟨h1, h2 ▸ Below.refl _ _⟩
  · obtain ⟨m, rfl⟩ := Int.eq_ofNat_of_zero_le (show 0 ≤ n by omega)
    rw [varT_yes (by omega)]
    exact implVar_any m (by omega) w

/-- the bytes of Fixed at seven. -/
def fixT (n : Int) : List UInt8 := if 0 ≤ n then fixedL n.toNat 7 else []
theorem implFixed_all (n : Int) (w : World) :
    Calls Tryd.prog 22 #[.int .i64 n, .int .i64 7] w fun e w' => e = .returned (.string ⟨(fixT n).toArray⟩) ∧ Below w.heap.size w w' := by
  by_cases h : n < 0
  · rw [show fixT n = [] from if_neg (by omega)]
    exact (implFixed_no n 7 (by omega) w).mono fun e w' ⟨h1, h2⟩ => ⟨h1, h2 ▸ Below.refl _ _⟩
  · obtain ⟨m, rfl⟩ := Int.eq_ofNat_of_zero_le (show 0 ≤ n by omega)
    rw [show fixT (m : Int) = fixedL m 7 by unfold fixT; rw [if_pos (by omega)]; simp]
    exact implFixed_any m 7 (by omega) (by omega) w
theorem fixT_yes {n : Nat} (h : n < 72057594037927936) : fixT n = fx n 7 := by
  unfold fixT; rw [if_pos (by omega)]
  exact fixedL_fits (by simp; omega)
theorem fixT_no {n : Int} (h : n < 0 ∨ 72057594037927936 ≤ n) : fixT n = [] := by
  unfold fixT
  by_cases h0 : 0 ≤ n
  · rw [if_pos h0]; exact fixedL_not (by simp; omega)
  · rw [if_neg h0]
theorem be_cons (x : UInt8) (l : List UInt8) : be (x :: l) = x.toNat * 256 ^ l.length + be l := by
  obtain ⟨r, rfl⟩ : ∃ r, l = List.reverse r := ⟨l.reverse, by simp⟩
  induction r with
  | nil => simp [be]
  | cons b r ih =>
    rw [List.reverse_cons, ← List.cons_append, be_snoc, ih, be_snoc, List.length_append, List.length_singleton, Nat.pow_succ, Nat.add_mul, Nat.mul_assoc, Nat.add_assoc]
theorem be_fx (n m : Nat) : be (fx n m) = n % 256 ^ m := by
  induction m with
  | zero => simp [fx, be, Nat.mod_one]
  | succ m ih =>
    rw [fx, be_cons, ih, fx_length, Nat.pow_succ, Nat.mod_mul]
    have : (UInt8.ofNat (n / 256 ^ m % 256)).toNat = n / 256 ^ m % 256 := by simp
    rw [this, Nat.mul_comm, Nat.add_comm]
theorem implRead7 (s : ByteArray) (hs : s.size ≤ maxLen) (w : World) :
    Calls Tryd.prog 23 #[.string s, .int .i64 7] w fun e w' => ∃ y b, e = .returned (.tuple #[.int .i64 y, .bool b]) ∧ (7 ≤ s.size → y = be (s.data.toList.take 7) ∧ b = true) ∧ w = w' := by
  by_cases h : 7 ≤ s.size
  · exact (implRead_yes s 7 hs (by omega) (by omega) (by omega) w).mono fun e w' ⟨h1, h2⟩ => ⟨_, _, h1, fun _ => ⟨rfl, rfl⟩, h2⟩
  · exact (implRead_no s 7 (by omega) w).mono fun e w' ⟨h1, h2⟩ => ⟨_, _, h1, fun h' => absurd h' h, h2⟩
theorem rd_itoa_yes {n d : Int} {b : Bool} (h : RD (Lib.itoa n) d b) (h9 : In9 n) : d = n ∧ b = true := RD.unique h (.inl ⟨rfl, h9, rfl⟩)
theorem rd_itoa_no {n d : Int} {b : Bool} (h : RD (Lib.itoa n) d b) (h9 : ¬ In9 n) : d = 0 ∧ b = false :=
  RD.unique h (.inr ⟨rfl, rfl, fun _ hm e => h9 (itoa_inj e ▸ hm)⟩)
theorem unhS_hexL (l : List UInt8) : unhS (hexL l) = ⟨l.toArray⟩ := unhS_some (unh_hexL l)
theorem unhB_hexL (l : List UInt8) : unhB (hexL l) = true := unhB_some (unh_hexL l)
theorem varL_ne (n : Nat) : varL n ≠ [] := by
  unfold varL vr; split <;> simp

theorem extract_size_le (t : ByteArray) (i j : Nat) : (t.extract i j).size ≤ t.size := by simp [ByteArray.size_extract]; omega
theorem spoilD_size (len : Nat) (z : List Int) (t : ByteArray) (s : St) (ht : t.size ≤ 20) : (spoilD len z t s).1.size ≤ 100 := by
  unfold spoilD
  simp only
  have h3 := textD_length len z 3 s (by omega)
  split
  · show (textD len z 3 s).1.toArray.size ≤ 100
    simp; omega
  · have e := extract_size_le t
    have e1 := e 0 (belowD len z t.size s).1.toNat
    have e2 := e ((belowD len z t.size s).1.toNat + 1) t.size
    have e3 := e (belowD len z t.size s).1.toNat t.size
    split
    · simp only [ByteArray.size_append]; omega
    · split
      · simp only [ByteArray.size_append]; show _ + 1 + _ ≤ 100; omega
      · split
        · simp only; omega
        · simp only [ByteArray.size_append]; show _ + 1 + _ ≤ 100; omega
theorem drawReadVar_size (len : Nat) (z : List Int) : (drawReadVar len z).size ≤ 100 := by
  unfold drawReadVar
  simp only
  have h1 := varT_length (numD len z (newS z len)).1
  have h2 := textD_length len z 4 (numD len z (newS z len)).2 (by omega)
  have h3 : (⟨(varT (numD len z (newS z len)).1 ++ (textD len z 4 (numD len z (newS z len)).2).1).toArray⟩ : ByteArray).size ≤ 20 := by
    simp [ByteArray.size]; omega
  split
  · exact spoilD_size len z _ _ h3
  · omega

/-- what is told of a slice of integers that comes in: nil, or a row. -/
def IsRow (k : IntKind) (w : World) (a : Option Addr) (len cap : Nat) (zs : List Int) : Prop :=
  (a = none ∧ len = 0 ∧ cap = 0 ∧ zs = []) ∨
  ∃ x, a = some x ∧ len ≤ cap ∧ cap ≤ maxLen ∧ zs.length = cap ∧ (∀ i, i < zs.length → w.cell? (x.add i) = some (.int k (zs.getD i 0))) ∧ ∀ n ∈ zs, (Lit.int k n).wf = true
theorem codeIn_of {w : World} {a : Option Addr} {len cap : Nat} {zs : List Int} (h : IsRow .u8 w a len cap zs) (hl : len ≤ 1048576) : CodeIn a len zs w := by
  rcases h with ⟨rfl, rfl, rfl, rfl⟩ | ⟨x, rfl, h1, h2, h3, h4, h5⟩
  · exact ⟨fun i hi => by omega, fun i => by simp [List.getD], by omega⟩
  · refine ⟨fun i hi => ?_, fun i => ?_, hl⟩
    · have hc := h4 i (by omega)
      obtain ⟨b, o, spot⟩ := x
      have hs : spot = none := by
        have h0 := h4 0 (by omega)
        simpa [Addr.add] using World.cell?_spot h0
      subst hs
      have e : (⟨b, o, none⟩ : Addr).add i = ⟨b, o + i, none⟩ := by unfold Addr.add; split <;> simp_all
      rw [e] at hc
      exact ⟨b, o, rfl, World.block_lt_of_cell? _ _ hc, hc⟩
    · by_cases hi : i < zs.length
      · have hm : zs.getD i 0 ∈ zs := by simp [List.getD, hi]
        have := h5 _ hm
        simp only [Lit.wf, Bool.and_eq_true, decide_eq_true_eq] at this
        rw [show IntKind.u8.min = 0 from rfl, show IntKind.u8.max = 255 from rfl] at this
        omega
      · have : zs.getD i 0 = 0 := by simp [List.getD, List.getElem?_eq_none (show zs.length ≤ i by omega)]
        rw [this]; omega
theorem big_yes (a : Option Addr) (len cap : Nat) (h : 1048576 < len) (w : World) :
    Calls Tryd.prog 8 #[.slice a len cap] w fun e w' => e = .returned (.bool true) ∧ w = w' := by
  go_enter Tryd.func8, Tryd.ntmps8
  go_wp2
  go_ret
  exact ⟨by simp; omega, rfl⟩
theorem big_no (a : Option Addr) (len cap : Nat) (h : ¬ 1048576 < len) (w : World) :
    Calls Tryd.prog 8 #[.slice a len cap] w fun e w' => e = .returned (.bool false) ∧ w = w' := by
  go_enter Tryd.func8, Tryd.ntmps8
  go_wp2
  go_ret
  exact ⟨by simp; omega, rfl⟩
theorem errs_below {w w' : World} (h : Errs w) (htab : Pow w) (hb : Below w.heap.size w w') : Errs w' := by
  obtain ⟨⟨t1, p1, h1⟩, ⟨t2, p2, h2⟩⟩ := h
  have hlt := htab.lt
  exact ⟨⟨t1, p1, var?_below hb (g := 1) (by kernel_rfl) (by omega) h1⟩, ⟨t2, p2, var?_below hb (g := 2) (by kernel_rfl) (by omega) h2⟩⟩
end Go.Proofs.YtilbaooancgodaaDoor.Cur
