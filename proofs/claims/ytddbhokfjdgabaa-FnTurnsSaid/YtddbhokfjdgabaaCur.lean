
/-
  The cursor from which the laws' inputs are drawn: what its functions return, as plain functions of the code's bytes and of the cursor's two numbers.
-/
import Derived.Test.YtddbhokfjdgabaaProg
import Derived.WalkKit
import Derived.WalkSpells
import Derived.WalkLawsBesides
import Derived.Lib.Hide
import Derived.Deep.QuietTactic
import Derived.BigQuiet
namespace Go.Proofs.Ytddbhokfjdgabaa.Cur
open Go.RowKit

/-- of the blocks that w has, block c alone may be another one in w'. -/
structure Only (c : Nat) (w w' : World) : Prop where
  os : w'.os = w.os
  tape : w'.tape = w.tape
  output : w'.output = w.output
  size : w.heap.size ≤ w'.heap.size
  block : ∀ k, k < w.heap.size → k ≠ c → w'.heap[k]? = w.heap[k]?
theorem Only.refl (c : Nat) (w : World) : Only c w w := ⟨rfl, rfl, rfl, Nat.le_refl _, fun _ _ _ => rfl⟩
theorem Only.trans {c : Nat} {w w1 w2 : World} (h : Only c w w1) (k : Only c w1 w2) : Only c w w2 :=
  ⟨k.os.trans h.os, k.tape.trans h.tape, k.output.trans h.output, Nat.le_trans h.size k.size, fun j hj hc => (k.block j (Nat.lt_of_lt_of_le hj h.size) hc).trans (h.block j hj hc)⟩
theorem Only.of_below {c : Nat} {w w' : World} (h : Below w.heap.size w w') : Only c w w' := ⟨h.os, h.tape, h.output, h.size, fun k hk _ => h.block k hk⟩
theorem Only.drew {c : Nat} {w w' : World} (h : Only c w w') : Only c w w'.drew := ⟨h.os, h.tape, h.output, h.size, h.block⟩
theorem Only.drewN {c : Nat} {w w' : World} (h : Only c w w') (n : Nat) : Only c w (w'.drewN n) := ⟨h.os, h.tape, h.output, h.size, h.block⟩
theorem Only.setCell {c : Nat} {w w' : World} (h : Only c w w') (o : Nat) (v : Value) : Only c w (w'.setCell ⟨c, o, none⟩ v) := by
  have k := (Below.refl c w').setCell (p := ⟨c, o, none⟩) (Nat.le_refl c) v
  refine ⟨k.os.trans h.os, k.tape.trans h.tape, k.output.trans h.output, Nat.le_trans h.size k.size, fun j hj hc => ?_⟩
  rw [Below.heap_setCell w' ⟨c, o, none⟩ v j hc]; exact h.block j hj hc
theorem Only.alloc {c : Nat} {w w' : World} (h : Only c w w') (o : Obj) : Only c w (w'.alloc o) :=
  h.trans (.of_below ((Below.refl _ _).alloc (Nat.le_refl _) o))
/-- a cursor that is a new block. -/
theorem Only.below {c : Nat} {w w1 w2 : World} (hb : Below w.heap.size w w1) (hc : w.heap.size ≤ c) (h : Only c w1 w2) : Below w.heap.size w w2 :=
  ⟨h.os.trans hb.os, h.tape.trans hb.tape, h.output.trans hb.output, Nat.le_trans hb.size h.size, fun k hk => (h.block k (Nat.lt_of_lt_of_le hk hb.size) (by omega)).trans (hb.block k hk)⟩
theorem Only.cell {c : Nat} {w w' : World} (h : Only c w w') {b o : Nat} (hb : b < w.heap.size) (hc : b ≠ c) : w'.cell? ⟨b, o, none⟩ = w.cell? ⟨b, o, none⟩ := World.cell?_of_block (a := ⟨b, o, none⟩) (h.block b hb hc)

/-- the code: a slice of bytes that reads z. -/
structure Code (c : Nat) (a : Option Addr) (len : Nat) (z : List Int) (w : World) : Prop where
  cells : ∀ i, i < len → ∃ b o, a = some ⟨b, o, none⟩ ∧ b ≠ c ∧ b < w.heap.size ∧ w.cell? ⟨b, o + i, none⟩ = some (.int .u8 (z.getD i 0))
  bound : ∀ i, 0 ≤ z.getD i 0 ∧ z.getD i 0 < 256
  len : len ≤ 1048576
theorem Code.only {c : Nat} {a : Option Addr} {len : Nat} {z : List Int} {w w' : World} (h : Code c a len z w) (k : Only c w w') : Code c a len z w' :=
  ⟨fun i hi => by
    obtain ⟨b, o, e, hc, hb, hv⟩ := h.cells i hi
    exact ⟨b, o, e, hc, Nat.lt_of_lt_of_le hb k.size, by rw [k.cell hb hc]; exact hv⟩, h.bound, h.len⟩
/-- the cursor's block. -/
def Blk (c : Nat) (a : Option Addr) (len cap : Nat) (i : Nat) (h : Int) (w : World) : Prop :=
  w.heap[c]? = some (.cells #[.slice a len cap, .int .i64 i, .int .i64 h] 91 (0, 0))
theorem Blk.cells {c : Nat} {a : Option Addr} {len cap i : Nat} {h : Int} {w : World} (hb : Blk c a len cap i h w) :
    w.cell? ⟨c, 0, none⟩ = some (.slice a len cap) ∧ w.cell? ⟨c, 1, none⟩ = some (.int .i64 i) ∧ w.cell? ⟨c, 2, none⟩ = some (.int .i64 h) ∧ w.frozen? ⟨c, 1, none⟩ = false ∧ w.frozen? ⟨c, 2, none⟩ = false := by
  unfold Blk at hb
  refine ⟨?_, ?_, ?_, ?_, ?_⟩ <;> simp [World.cell?, World.frozen?, hb]
theorem Blk.lt {c : Nat} {a : Option Addr} {len cap i : Nat} {h : Int} {w : World} (hb : Blk c a len cap i h w) : c < w.heap.size := (Array.getElem?_eq_some_iff.1 hb).1

theorem Blk.setI {c : Nat} {a : Option Addr} {len cap i : Nat} {h : Int} {w : World} (hb : Blk c a len cap i h w) (j : Nat) : Blk c a len cap j h (w.setCell ⟨c, 1, none⟩ (.int .i64 j)) := by
  unfold Blk at *; simp [World.setCell, Array.getElem?_modify, hb]
theorem Blk.setH {c : Nat} {a : Option Addr} {len cap i : Nat} {h : Int} {w : World} (hb : Blk c a len cap i h w) (g : Int) : Blk c a len cap i g (w.setCell ⟨c, 2, none⟩ (.int .i64 g)) := by
  unfold Blk at *; simp [World.setCell, Array.getElem?_modify, hb]

/-- the cursor's next number, and the byte that it gives. -/
def nextH (h : Int) : Int := wrap64 (wrap64 (h * 6364136223846793005) + 1442695040888963407)
def rawX (h : Int) : Int := bits .and .i64 (bits .xor .i64 (nextH h / 8589934592) (nextH h / 35184372088832)) 255
def mixX (h : Int) (b : Int) : Int := bits .and .i64 (rawX h + b) 255
theorem and255 (x : Int) : 0 ≤ bits .and .i64 x 255 ∧ bits .and .i64 x 255 < 256 := by
  have h : ∀ y : BitVec 64, IntKind.i64.wrap ((y &&& BitVec.ofInt 64 255).toNat : Int) = ((y.toNat &&& 255 : Nat) : Int) := by
    intro y
    have hy : y.toNat &&& 255 ≤ 255 := Nat.and_le_right
    rw [BitVec.toNat_and, show (BitVec.ofInt 64 255).toNat = 255 from rfl, IntKind.wrap_i64]; omega
  have hy : (BitVec.ofInt 64 x).toNat &&& 255 ≤ 255 := Nat.and_le_right
  have e : bits .and .i64 x 255 = (((BitVec.ofInt 64 x).toNat &&& 255 : Nat) : Int) := h _
  rw [e]; omega
/-- a draw: what it gives, where the cursor stands then. -/
abbrev St := Nat × Int
def byteD (len : Nat) (z : List Int) (s : St) : Int × St :=
  if s.1 < len then (mixX s.2 (z.getD s.1 0), (s.1 + 1, nextH s.2)) else (rawX s.2, (s.1, nextH s.2))
theorem byteD_bd (len : Nat) (z : List Int) (s : St) : 0 ≤ (byteD len z s).1 ∧ (byteD len z s).1 < 256 := by
  unfold byteD; split <;> exact and255 _

set_option maxRecDepth 100000 in
theorem byte_no (c : Nat) (a : Option Addr) (len cap : Nat) (i : Nat) (h : Int) (hi : len ≤ i) (w : World) (hb : Blk c a len cap i h w) :
    Calls Try.prog 72 #[.pointer (some ⟨c, 0, none⟩)] w fun e w' => e = .returned (.int .i64 (rawX h)) ∧ Blk c a len cap i (nextH h) w' ∧ Only c w w' := by
  obtain ⟨c0, c1, c2, f1, f2⟩ := hb.cells
  have hge : ¬ i < len := by omega
  go_enter Try.func72, Try.ntmps72
  go_wp2_with fail
  go_quiet (fail)
  go_wp2_with fail
  go_quiet (fail)
  go_wp2_with fail
  go_ret
  exact ⟨rfl, hb.setH _, (((Only.refl c w).setCell 2 _).drewN _).drewN _⟩
set_option maxRecDepth 100000 in
theorem byte_yes (c : Nat) (b o : Nat) (len cap : Nat) (i : Nat) (h x : Int) (hi : i < len) (hm : len ≤ 1048576) (hx0 : 0 ≤ x) (hx1 : x < 256) (w : World) (hb : Blk c (some ⟨b, o, none⟩) len cap i h w) (hc : b ≠ c) (hcell : w.cell? ⟨b, o + i, none⟩ = some (.int .u8 x)) :
    Calls Try.prog 72 #[.pointer (some ⟨c, 0, none⟩)] w fun e w' => e = .returned (.int .i64 (mixX h x)) ∧ Blk c (some ⟨b, o, none⟩) len cap (i + 1) (nextH h) w' ∧ Only c w w' := by
  obtain ⟨c0, c1, c2, f1, f2⟩ := hb.cells
  have hr := and255 (bits .xor .i64 (nextH h / 8589934592) (nextH h / 35184372088832))
  unfold nextH at hr
  go_enter Try.func72, Try.ntmps72
  go_wp2_with fail
  go_quiet (fail)
  go_wp2_with fail
  go_quiet (fail)
  go_wp2_with fail
  go_quiet (fail)
  go_wp2_with fail
  go_ret
  exact ⟨rfl, (hb.setH _).setI _, (((Only.refl c w).setCell 2 _).drewN _).setCell 1 _⟩

/-- a cursor over the code z, standing at s. -/
structure At (c : Nat) (a : Option Addr) (len cap : Nat) (z : List Int) (s : St) (w : World) : Prop where
  blk : Blk c a len cap s.1 s.2 w
  code : Code c a len z w
  le : s.1 ≤ len
theorem At.lt {c : Nat} {a : Option Addr} {len cap : Nat} {z : List Int} {s : St} {w : World} (h : At c a len cap z s w) : c < w.heap.size := h.blk.lt
/-- what happens elsewhere leaves the cursor as it stands. -/
theorem At.below {c : Nat} {a : Option Addr} {len cap : Nat} {z : List Int} {s : St} {w w' : World} (h : At c a len cap z s w) (hb : Below w.heap.size w w') : At c a len cap z s w' :=
  ⟨by have := hb.block c h.lt; have h1 := h.blk; unfold Blk at h1 ⊢; rw [this]; exact h1, h.code.only (.of_below hb), h.le⟩
theorem byte_any (c : Nat) (a : Option Addr) (len cap : Nat) (z : List Int) (s : St) (w : World) (h : At c a len cap z s w) :
    Calls Try.prog 72 #[.pointer (some ⟨c, 0, none⟩)] w fun e w' => e = .returned (.int .i64 (byteD len z s).1) ∧ At c a len cap z (byteD len z s).2 w' ∧ Only c w w' := by
  have hl := h.code.len
  by_cases hi : s.1 < len
  · obtain ⟨b, o, rfl, hc, hb, hv⟩ := h.code.cells s.1 hi
    have hz := h.code.bound s.1
    refine (byte_yes c b o len cap s.1 s.2 (z.getD s.1 0) hi hl hz.1 hz.2 w h.blk hc hv).mono fun e w' ⟨h1, h2, h3⟩ => ?_
    rw [show byteD len z s = (mixX s.2 (z.getD s.1 0), (s.1 + 1, nextH s.2)) from if_pos hi]
    exact ⟨h1, ⟨h2, h.code.only h3, hi⟩, h3⟩
  · have hle := h.le
    refine (byte_no c a len cap s.1 s.2 (by omega) w h.blk).mono fun e w' ⟨h1, h2, h3⟩ => ?_
    rw [show byteD len z s = (rawX s.2, (s.1, nextH s.2)) from if_neg hi]
    exact ⟨h1, ⟨h2, h.code.only h3, h.le⟩, h3⟩

/-- 0..n-1; 0 where n is not above 0. -/
def belowD (len : Nat) (z : List Int) (n : Int) (s : St) : Int × St :=
  if n ≤ 0 then (0, s)
  else if n ≤ 256 then ((byteD len z s).1 % n, (byteD len z s).2)
  else
    let s1 := (byteD len z s).2
    let s2 := (byteD len z s1).2
    let s3 := (byteD len z s2).2
    (((byteD len z s).1 * 16777216 + (byteD len z s1).1 * 65536 + (byteD len z s2).1 * 256 + (byteD len z s3).1) % n, (byteD len z s3).2)
theorem belowD_bd (len : Nat) (z : List Int) (n : Int) (s : St) (hn : 0 < n) : 0 ≤ (belowD len z n s).1 ∧ (belowD len z n s).1 < n := by
  unfold belowD
  rw [if_neg (by omega)]
  split
  · exact ⟨Int.emod_nonneg _ (by omega), Int.emod_lt_of_pos _ hn⟩
  · exact ⟨Int.emod_nonneg _ (by omega), Int.emod_lt_of_pos _ hn⟩
set_option maxRecDepth 100000 in
theorem below_any (c : Nat) (a : Option Addr) (len cap : Nat) (z : List Int) (s : St) (n : Int) (hn : 0 < n) (hn2 : n ≤ 9223372036854775807) (w : World) (h : At c a len cap z s w) :
    Calls Try.prog 54 #[.pointer (some ⟨c, 0, none⟩), .int .i64 n] w fun e w' => e = .returned (.int .i64 (belowD len z n s).1) ∧ At c a len cap z (belowD len z n s).2 w' ∧ Only c w w' := by
  have hnz : ¬ n = 0 := by omega
  by_cases h256 : n ≤ 256
  · have He := Lib.hid (show belowD len z n s = ((byteD len z s).1 % n, (byteD len z s).2) by unfold belowD; rw [if_neg (by omega), if_pos h256])
    have hx := byteD_bd len z s
    go_enter Try.func54, Try.ntmps54
    go_wp2_with fail
    refine (byte_any c a len cap z s _ h).mono ?_
    rintro e w1 ⟨rfl, hA1, hO1⟩
    generalize hx' : (byteD len z s).1 = x at hx ⊢
    have Hx := Lib.hid hx'
    clear hx'
    go_wp2
    go_ret
    exact ⟨by rw [He.out]; show _ = Ending.returned (.int .i64 ((byteD len z s).1 % n)); rw [Hx.out]; rfl, by rw [He.out]; exact hA1, hO1⟩
  · have hn3 : ¬ n ≤ 0 := by omega
    obtain ⟨s1, hs1⟩ : ∃ s1, s1 = (byteD len z s).2 := ⟨_, rfl⟩
    obtain ⟨s2, hs2⟩ : ∃ s2, s2 = (byteD len z s1).2 := ⟨_, rfl⟩
    obtain ⟨s3, hs3⟩ : ∃ s3, s3 = (byteD len z s2).2 := ⟨_, rfl⟩
    obtain ⟨x0, hx0⟩ : ∃ x, x = (byteD len z s).1 := ⟨_, rfl⟩
    obtain ⟨x1, hx1⟩ : ∃ x, x = (byteD len z s1).1 := ⟨_, rfl⟩
    obtain ⟨x2, hx2⟩ : ∃ x, x = (byteD len z s2).1 := ⟨_, rfl⟩
    obtain ⟨x3, hx3⟩ : ∃ x, x = (byteD len z s3).1 := ⟨_, rfl⟩
    have b0 := byteD_bd len z s
    have b1 := byteD_bd len z s1
    have b2 := byteD_bd len z s2
    have b3 := byteD_bd len z s3
    rw [← hx0] at b0; rw [← hx1] at b1; rw [← hx2] at b2; rw [← hx3] at b3
    have He := Lib.hid (show belowD len z n s = ((x0 * 16777216 + x1 * 65536 + x2 * 256 + x3) % n, (byteD len z s3).2) by
      unfold belowD; rw [if_neg hn3, if_neg h256]; simp only [← hs1, ← hs2, ← hs3, ← hx0, ← hx1, ← hx2, ← hx3])
    have H1 := Lib.hid hs1; have H2 := Lib.hid hs2; have H3 := Lib.hid hs3
    have K0 := Lib.hid hx0; have K1 := Lib.hid hx1; have K2 := Lib.hid hx2; have K3 := Lib.hid hx3
    clear hs1 hs2 hs3 hx0 hx1 hx2 hx3
    go_enter Try.func54, Try.ntmps54
    go_wp2_with fail
    refine (byte_any c a len cap z s _ h).mono ?_
    rintro e w1 ⟨rfl, hA1, hO1⟩
    rw [← K0.out]
    rw [← H1.out] at hA1
    go_wp2_with fail
    refine (byte_any c a len cap z s1 _ hA1).mono ?_
    rintro e w2 ⟨rfl, hA2, hO2⟩
    rw [← K1.out]
    rw [← H2.out] at hA2
    go_wp2_with fail
    refine (byte_any c a len cap z s2 _ hA2).mono ?_
    rintro e w3 ⟨rfl, hA3, hO3⟩
    rw [← K2.out]
    rw [← H3.out] at hA3
    go_wp2_with fail
    refine (byte_any c a len cap z s3 _ hA3).mono ?_
    rintro e w4 ⟨rfl, hA4, hO4⟩
    rw [← K3.out]
    go_wp2
    go_ret
    exact ⟨by rw [He.out]; rfl, by rw [He.out]; exact hA4, ((hO1.trans hO2).trans hO3).trans hO4⟩
end Go.Proofs.Ytddbhokfjdgabaa.Cur
