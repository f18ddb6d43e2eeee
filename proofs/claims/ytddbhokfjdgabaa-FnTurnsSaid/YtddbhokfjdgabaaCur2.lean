
/-
  More of the drawing cursor: a new one, a draw that is zero, a number picked out of a list.
-/
import Derived.Test.YtddbhokfjdgabaaCur
import Derived.Test.YtddbhokfjdgabaaBytes
namespace Go.Proofs.Ytddbhokfjdgabaa.Cur
open Go.RowKit Bytes

theorem Only.transB {c : Nat} {w w1 w2 : World} (h : Only c w w1) (k : Below w.heap.size w1 w2) : Only c w w2 :=
  ⟨k.os.trans h.os, k.tape.trans h.tape, k.output.trans h.output, Nat.le_trans h.size k.size, fun j hj hc => (k.block j hj).trans (h.block j hj hc)⟩
theorem Only.belowB {c B : Nat} {w w' : World} (h : Only c w w') (hc : B ≤ c) (hB : B ≤ w.heap.size) : Below B w w' :=
  ⟨h.os, h.tape, h.output, h.size, fun k hk => h.block k (by omega) (by omega)⟩
theorem At.belowB {c : Nat} {a : Option Addr} {len cap : Nat} {z : List Int} {s : St} {w w' : World} {B : Nat} (h : At c a len cap z s w) (hb : Below B w w') (hc : c < B) (hab : ∀ x, a = some x → 0 < len → x.block < B) : At c a len cap z s w' :=
  ⟨by have := hb.block c hc; have h1 := h.blk; unfold Blk at h1 ⊢; rw [this]; exact h1,
   ⟨fun i hi => by
      obtain ⟨b, o, e, h1, h2, h3⟩ := h.code.cells i hi
      have hbB : b < B := hab _ e (by omega)
      exact ⟨b, o, e, h1, Nat.lt_of_lt_of_le h2 hb.size, by rw [hb.cell (p := ⟨b, o + i, none⟩) hbB]; exact h3⟩, h.code.bound, h.code.len⟩, h.le⟩
theorem At.drewN {c : Nat} {a : Option Addr} {len cap : Nat} {z : List Int} {s : St} {w : World} (h : At c a len cap z s w) (n : Nat) : At c a len cap z s (w.drewN n) := ⟨h.blk, ⟨h.code.cells, h.code.bound, h.code.len⟩, h.le⟩
theorem At.drew {c : Nat} {a : Option Addr} {len cap : Nat} {z : List Int} {s : St} {w : World} (h : At c a len cap z s w) : At c a len cap z s w.drew := ⟨h.blk, ⟨h.code.cells, h.code.bound, h.code.len⟩, h.le⟩
theorem At.reach {c : Nat} {a : Option Addr} {len cap : Nat} {z : List Int} {s : St} {w : World} (h : At c a len cap z s w) : ∀ x, a = some x → 0 < len → x.block < w.heap.size := by
  intro x hx hl
  obtain ⟨b, o, e, h1, h2, h3⟩ := h.code.cells 0 hl
  rw [hx] at e; cases e; exact h2
theorem ownB_only {B c : Nat} {v : Value} {l : List UInt8} {w w' : World} (h : OwnB B v l w) (k : Only c w w') (hc : c < B) : OwnB B v l w' := by
  obtain ⟨h1, h2⟩ := h
  refine ⟨h1, ?_⟩
  rcases h2 with h2 | ⟨g, cp, cur, rfl, hb, hg, rest⟩
  · exact .inl h2
  · have hlt := (Array.getElem?_eq_some_iff.1 hg).1
    exact .inr ⟨g, cp, cur, rfl, hb, by rw [k.block g hlt (by omega)]; exact hg, rest⟩

/-- is a draw below n zero. -/
def onceD (len : Nat) (z : List Int) (n : Int) (s : St) : Bool × St := ((belowD len z n s).1 == 0, (belowD len z n s).2)
theorem once_any (c : Nat) (a : Option Addr) (len cap : Nat) (z : List Int) (s : St) (n : Int) (hn : 0 < n) (hn2 : n ≤ 9223372036854775807) (w : World) (h : At c a len cap z s w) :
    Calls Try.prog 33 #[.pointer (some ⟨c, 0, none⟩), .int .i64 n] w fun e w' => e = .returned (.bool (onceD len z n s).1) ∧ At c a len cap z (onceD len z n s).2 w' ∧ Only c w w' := by
  go_enter Try.func33, Try.ntmps33
  go_wp2_with fail
  refine (below_any c a len cap z s n hn hn2 _ h).mono ?_
  rintro e w1 ⟨rfl, hA1, hO1⟩
  go_wp2
  go_ret
  exact ⟨rfl, hA1, hO1⟩

/-- the code's bytes, mixed. -/
def newF (z : List Int) (len : Nat) : Nat → Int
  | 0 => 10101 + len
  | k + 1 => (newF z len k * 131 + z.getD k 0 + 7) % 1073741824
theorem newF_bd (z : List Int) (len : Nat) (hl : len ≤ 1048576) (k : Nat) : 0 ≤ newF z len k ∧ newF z len k < 1073741824 := by
  cases k with
  | zero => simp only [newF]; omega
  | succ k => exact ⟨Int.emod_nonneg _ (by omega), Int.emod_lt_of_pos _ (by omega)⟩
def newS (z : List Int) (len : Nat) : St := (0, newF z len (min len 4000))
theorem and30 (x : Int) (h0 : 0 ≤ x) (h1 : x < 9223372036854775808) : bits .and .i64 x 1073741823 = x % 1073741824 :=
  bits_mask .i64 63 (by decide) (fun n h0 h1 => by rw [IntKind.wrap_i64]; omega) 30 (by decide) x h0 h1

/-- what is told of a code that comes in: nil, or a row of bytes. -/
def CodeIn (a : Option Addr) (len : Nat) (z : List Int) (w : World) : Prop :=
  (∀ i, i < len → ∃ b o, a = some ⟨b, o, none⟩ ∧ b < w.heap.size ∧ w.cell? ⟨b, o + i, none⟩ = some (.int .u8 (z.getD i 0))) ∧ (∀ i, 0 ≤ z.getD i 0 ∧ z.getD i 0 < 256) ∧ len ≤ 1048576
theorem CodeIn.below {a : Option Addr} {len : Nat} {z : List Int} {w w' : World} (h : CodeIn a len z w) (hb : Below w.heap.size w w') : CodeIn a len z w' :=
  ⟨fun i hi => by
    obtain ⟨b, o, e, h1, h2⟩ := h.1 i hi
    exact ⟨b, o, e, Nat.lt_of_lt_of_le h1 hb.size, by rw [hb.cell (p := ⟨b, o + i, none⟩) h1]; exact h2⟩, h.2⟩

/-- what a new cursor is. -/
def NewPost (a : Option Addr) (len cap : Nat) (z : List Int) (w : World) (e : Ending) (w' : World) : Prop :=
  ∃ c, e = .returned (.pointer (some ⟨c, 0, none⟩)) ∧ w.heap.size ≤ c ∧ At c a len cap z (newS z len) w' ∧ Below w.heap.size w w'
theorem newPost (a : Option Addr) (len cap : Nat) (z : List Int) (w : World) (h : CodeIn a len z w) {y : Int} (hy : y = newF z len (min len 4000)) :
    NewPost a len cap z w (.returned (.pointer (some ⟨w.heap.size, 0, none⟩))) (w.alloc (.cells #[.slice a len cap, .int .i64 0, .int .i64 y] 91)) := by
  subst hy
  have hb : Below w.heap.size w (w.alloc (.cells #[.slice a len cap, .int .i64 0, .int .i64 (newF z len (min len 4000))] 91)) := (Below.refl _ _).alloc (Nat.le_refl _) _
  refine ⟨_, rfl, Nat.le_refl _, ⟨heap_alloc_new w _, ⟨fun i hi => ?_, h.2.1, h.2.2⟩, Nat.zero_le _⟩, hb⟩
  obtain ⟨b, o, e, h1, h2⟩ := h.1 i hi
  exact ⟨b, o, e, by omega, Nat.lt_of_lt_of_le h1 hb.size, by rw [hb.cell (p := ⟨b, o + i, none⟩) h1]; exact h2⟩

set_option maxRecDepth 100000 in
theorem new_any (a : Option Addr) (len cap : Nat) (z : List Int) (w : World) (h : CodeIn a len z w) :
    Calls Try.prog 31 #[.slice a len cap] w fun e w' => NewPost a len cap z w e w' := by
  have Hin := Lib.hid h
  obtain ⟨hc, hz, hl⟩ := h
  obtain ⟨m, hm, hml, hmm, hme⟩ : ∃ m : Nat, m ≤ 4000 ∧ m ≤ len ∧ (m = 4000 ∨ m = len) ∧ min len 4000 = m := ⟨min len 4000, by omega, by omega, by omega, rfl⟩
  have Hme := Lib.hid hme
  have Hc := Lib.hid hc
  have Hz := Lib.hid hz
  clear hme hc hz
  go_enter Try.func31, Try.ntmps31
  go_wp2
  go_loop [3, 4] (fun h i => ∃ k : Nat, k ≤ m ∧ i = .int .i64 k ∧ h = .int .i64 (newF z len k)) (fun _ i => m - (intOf i).toNat)
  case atStart => exact ⟨0, by omega, rfl, rfl⟩
  case round =>
    obtain ⟨k, hk, rfl, rfl⟩ := hrel
    have hb := newF_bd z len hl k
    by_cases hlt : k < m
    · have hkl : k < len := by omega
      have hk4 : k < 4000 := by omega
      obtain ⟨b, o, rfl, hbw, hv⟩ := Hc.out k hkl
      have hzk := Hz.out k
      have Hn := Lib.hid (show newF z len (k + 1) = (newF z len k * 131 + z.getD k 0 + 7) % 1073741824 from rfl)
      have ha := and30 (newF z len k * 131 + z.getD k 0 + 7) (by omega) (by omega)
      generalize z.getD k 0 = x at hv hzk Hn ha
      generalize newF z len k = y at hb Hn ha ⊢
      go_wp2
      go_round
      case rel => exact ⟨k + 1, by omega, by go_num, by rw [Hn.out]⟩
      case measure => simp [intOf]; omega
    · have hkm : k = m := by omega
      have Hk := Lib.hid (show newF z len k = newF z len (min len 4000) by rw [Hme.out, hkm])
      have h1 : ¬ (k < len ∧ k < 4000) := by omega
      clear hkm
      go_wp2
      all_goals go_ret
      all_goals exact newPost a len cap z w Hin.out Hk.out

/-- a list's cells. -/
def Ints (b : Nat) (zs : List Int) (w : World) : Prop := w.heap[b]? = some (.cells (zs.map (Value.int .i64)).toArray 3 (0, 0))
theorem Ints.cell {b : Nat} {zs : List Int} {w : World} (h : Ints b zs w) {i : Nat} (hi : i < zs.length) : w.cell? ⟨b, i, none⟩ = some (.int .i64 (zs.getD i 0)) := by
  unfold Ints at h
  rw [cell_of_row w b i _ 3 (0, 0) h]
  simp [List.getD, hi]
set_option maxRecDepth 100000 in
theorem pickInt_any (c : Nat) (a : Option Addr) (len cap : Nat) (z : List Int) (s : St) (b : Nat) (zs : List Int) (n : Nat) (hn : zs.length = n) (h0 : 0 < n) (h1 : n ≤ 1000) (hbc : b ≠ c) (w : World) (hz : Ints b zs w) (h : At c a len cap z s w) :
    Calls Try.prog 55 #[.pointer (some ⟨c, 0, none⟩), .slice (some ⟨b, 0, none⟩) n n] w fun e w' => e = .returned (.int .i64 (zs.getD (belowD len z n s).1.toNat 0)) ∧ At c a len cap z (belowD len z n s).2 w' ∧ Only c w w' := by
  have Hn := Lib.hid hn
  clear hn
  have hbd := belowD_bd len z n s (by omega)
  have hblt : b < w.heap.size := (Array.getElem?_eq_some_iff.1 hz).1
  go_enter Try.func55, Try.ntmps55
  go_wp2_with fail
  refine (below_any c a len cap z s n (by omega) (by omega) _ h).mono ?_
  rintro e w1 ⟨rfl, hA1, hO1⟩
  obtain ⟨k, hk⟩ := Int.eq_ofNat_of_zero_le hbd.1
  rw [hk] at hbd ⊢
  have hkn : k < n := by omega
  have hcell : w1.cell? ⟨b, k, none⟩ = some (.int .i64 (zs.getD k 0)) := by rw [hO1.cell hblt hbc]; exact hz.cell (by rw [Hn.out]; exact hkn)
  have Hk := Lib.hid hk
  clear hk hz
  generalize hy : zs.getD k 0 = y at hcell
  have Hy := Lib.hid hy
  clear hy
  go_wp2
  go_ret
  exact ⟨by rw [Hk.out, Int.toNat_natCast, Hy.out]; rfl, hA1, hO1⟩
end Go.Proofs.Ytddbhokfjdgabaa.Cur
