/-
  Several texts in one: Cur, Bytes, Cur2, CurE, CurD, Fill, Fresh.
-/
import Derived.Test.YtijilhaoknpeeaaProg
import Derived.WalkKit
import Derived.WalkSpells
import Derived.WalkLawsBesides
import Derived.Lib.Hide
import Derived.Deep.QuietTactic
import Derived.BigQuiet
import Derived.Lib.UnsafeStr
import Derived.Test.YtijilhaoknpeeaaReq
import Derived.Still
import Derived.Deep.Quiet
import Derived.Below
import Derived.StillTail
import Derived.Lib.QuietBelow
namespace Go.Proofs.Ytijilhaoknpeeaa.Cur
open Go.RowKit

/-- of the blocks that w has, block c alone may be another one in w'. -/
structure Only (c : Nat) (w w' : World) : Prop where
  os : w'.os = w.os
  tape : w'.tape = w.tape
  output : w'.output = w.output
  size : w.heap.size ≤ w'.heap.size
  block : ∀ k, k < w.heap.size → k ≠ c → w'.heap[k]? = w.heap[k]?
theorem Only.refl (c : Nat) (w : World) : Only c w w := ⟨rfl, rfl, rfl, Nat.le_refl _, fun _ _ _ => rfl⟩
theorem Only.trans {c : Nat} {w w1 w2 : World} (h : Only c w w1) (k : Only c w1 w2) : Only c w w2 :=
  ⟨k.os.trans h.os, k.tape.trans h.tape, k.output.trans h.output, Nat.le_trans h.size k.size, fun j hj hc => (k.block j (Nat.lt_of_lt_of_le hj h.size) hc).trans (h.block j hj hc)⟩
theorem Only.of_below {c : Nat} {w w' : World} (h : Below w.heap.size w w') : Only c w w' := ⟨h.os, h.tape, h.output, h.size, fun k hk _ => h.block k hk⟩
theorem Only.drew {c : Nat} {w w' : World} (h : Only c w w') : Only c w w'.drew := ⟨h.os, h.tape, h.output, h.size, h.block⟩
theorem Only.drewN {c : Nat} {w w' : World} (h : Only c w w') (n : Nat) : Only c w (w'.drewN n) := ⟨h.os, h.tape, h.output, h.size, h.block⟩
theorem Only.setCell {c : Nat} {w w' : World} (h : Only c w w') (o : Nat) (v : Value) : Only c w (w'.setCell ⟨c, o, none⟩ v) := by
  have k := (Below.refl c w').setCell (p := ⟨c, o, none⟩) (Nat.le_refl c) v
  refine ⟨k.os.trans h.os, k.tape.trans h.tape, k.output.trans h.output, Nat.le_trans h.size k.size, fun j hj hc => ?_⟩
  rw [Below.heap_setCell w' ⟨c, o, none⟩ v j hc]; exact h.block j hj hc
theorem Only.alloc {c : Nat} {w w' : World} (h : Only c w w') (o : Obj) : Only c w (w'.alloc o) :=
  h.trans (.of_below ((Below.refl _ _).alloc (Nat.le_refl _) o))
/-- a cursor that is a new block. -/
theorem Only.below {c : Nat} {w w1 w2 : World} (hb : Below w.heap.size w w1) (hc : w.heap.size ≤ c) (h : Only c w1 w2) : Below w.heap.size w w2 :=
  ⟨h.os.trans hb.os, h.tape.trans hb.tape, h.output.trans hb.output, Nat.le_trans hb.size h.size, fun k hk => (h.block k (Nat.lt_of_lt_of_le hk hb.size) (by omega)).trans (hb.block k hk)⟩
theorem Only.cell {c : Nat} {w w' : World} (h : Only c w w') {b o : Nat} (hb : b < w.heap.size) (hc : b ≠ c) : w'.cell? ⟨b, o, none⟩ = w.cell? ⟨b, o, none⟩ := World.cell?_of_block (a := ⟨b, o, none⟩) (h.block b hb hc)

/-- the code: a slice of bytes that reads z. -/
structure Code (c : Nat) (a : Option Addr) (len : Nat) (z : List Int) (w : World) : Prop where
  cells : ∀ i, i < len → ∃ b o, a = some ⟨b, o, none⟩ ∧ b ≠ c ∧ b < w.heap.size ∧ w.cell? ⟨b, o + i, none⟩ = some (.int .u8 (z.getD i 0))
  bound : ∀ i, 0 ≤ z.getD i 0 ∧ z.getD i 0 < 256
  len : len ≤ 1048576
theorem Code.only {c : Nat} {a : Option Addr} {len : Nat} {z : List Int} {w w' : World} (h : Code c a len z w) (k : Only c w w') : Code c a len z w' :=
  ⟨fun i hi => by
    obtain ⟨b, o, e, hc, hb, hv⟩ := h.cells i hi
    exact ⟨b, o, e, hc, Nat.lt_of_lt_of_le hb k.size, by rw [k.cell hb hc]; exact hv⟩, h.bound, h.len⟩
/-- the cursor's block. -/
def Blk (c : Nat) (a : Option Addr) (len cap : Nat) (i : Nat) (h : Int) (w : World) : Prop :=
  w.heap[c]? = some (.cells #[.slice a len cap, .int .i64 i, .int .i64 h] 108 (0, 0))
theorem Blk.cells {c : Nat} {a : Option Addr} {len cap i : Nat} {h : Int} {w : World} (hb : Blk c a len cap i h w) :
    w.cell? ⟨c, 0, none⟩ = some (.slice a len cap) ∧ w.cell? ⟨c, 1, none⟩ = some (.int .i64 i) ∧ w.cell? ⟨c, 2, none⟩ = some (.int .i64 h) ∧ w.frozen? ⟨c, 1, none⟩ = false ∧ w.frozen? ⟨c, 2, none⟩ = false := by
  unfold Blk at hb
  refine ⟨?_, ?_, ?_, ?_, ?_⟩ <;> simp [World.cell?, World.frozen?, hb]
theorem Blk.lt {c : Nat} {a : Option Addr} {len cap i : Nat} {h : Int} {w : World} (hb : Blk c a len cap i h w) : c < w.heap.size := (Array.getElem?_eq_some_iff.1 hb).1

theorem Blk.setI {c : Nat} {a : Option Addr} {len cap i : Nat} {h : Int} {w : World} (hb : Blk c a len cap i h w) (j : Nat) : Blk c a len cap j h (w.setCell ⟨c, 1, none⟩ (.int .i64 j)) := by
  unfold Blk at *; simp [World.setCell, Array.getElem?_modify, hb]
theorem Blk.setH {c : Nat} {a : Option Addr} {len cap i : Nat} {h : Int} {w : World} (hb : Blk c a len cap i h w) (g : Int) : Blk c a len cap i g (w.setCell ⟨c, 2, none⟩ (.int .i64 g)) := by
  unfold Blk at *; simp [World.setCell, Array.getElem?_modify, hb]

/-- the cursor's next number, and the byte that it gives. -/
def nextH (h : Int) : Int := wrap64 (wrap64 (h * 6364136223846793005) + 1442695040888963407)
def rawX (h : Int) : Int := bits .and .i64 (bits .xor .i64 (nextH h / 8589934592) (nextH h / 35184372088832)) 255
def mixX (h : Int) (b : Int) : Int := bits .and .i64 (rawX h + b) 255
theorem and255 (x : Int) : 0 ≤ bits .and .i64 x 255 ∧ bits .and .i64 x 255 < 256 := by
  have h : ∀ y : BitVec 64, IntKind.i64.wrap ((y &&& BitVec.ofInt 64 255).toNat : Int) = ((y.toNat &&& 255 : Nat) : Int) := by
    intro y
    have hy : y.toNat &&& 255 ≤ 255 := Nat.and_le_right
    rw [BitVec.toNat_and, show (BitVec.ofInt 64 255).toNat = 255 from rfl, IntKind.wrap_i64]; omega
  have hy : (BitVec.ofInt 64 x).toNat &&& 255 ≤ 255 := Nat.and_le_right
  have e : bits .and .i64 x 255 = (((BitVec.ofInt 64 x).toNat &&& 255 : Nat) : Int) := h _
  rw [e]; omega
/-- a draw: what it gives, where the cursor stands then. -/
abbrev St := Nat × Int
def byteD (len : Nat) (z : List Int) (s : St) : Int × St :=
  if s.1 < len then (mixX s.2 (z.getD s.1 0), (s.1 + 1, nextH s.2)) else (rawX s.2, (s.1, nextH s.2))
theorem byteD_bd (len : Nat) (z : List Int) (s : St) : 0 ≤ (byteD len z s).1 ∧ (byteD len z s).1 < 256 := by
  unfold byteD; split <;> exact and255 _

set_option maxRecDepth 100000 in
theorem byte_no (c : Nat) (a : Option Addr) (len cap : Nat) (i : Nat) (h : Int) (hi : len ≤ i) (w : World) (hb : Blk c a len cap i h w) :
    Calls Try.prog 120 #[.pointer (some ⟨c, 0, none⟩)] w fun e w' => e = .returned (.int .i64 (rawX h)) ∧ Blk c a len cap i (nextH h) w' ∧ Only c w w' := by
  obtain ⟨c0, c1, c2, f1, f2⟩ := hb.cells
  have hge : ¬ i < len := by omega
  go_enter Try.func120, Try.ntmps120
  go_wp2_with fail
  go_quiet (fail)
  go_wp2_with fail
  go_quiet (fail)
  go_wp2_with fail
  go_ret
  exact ⟨rfl, hb.setH _, (((Only.refl c w).setCell 2 _).drewN _).drewN _⟩
set_option maxRecDepth 100000 in
theorem byte_yes (c : Nat) (b o : Nat) (len cap : Nat) (i : Nat) (h x : Int) (hi : i < len) (hm : len ≤ 1048576) (hx0 : 0 ≤ x) (hx1 : x < 256) (w : World) (hb : Blk c (some ⟨b, o, none⟩) len cap i h w) (hc : b ≠ c) (hcell : w.cell? ⟨b, o + i, none⟩ = some (.int .u8 x)) :
    Calls Try.prog 120 #[.pointer (some ⟨c, 0, none⟩)] w fun e w' => e = .returned (.int .i64 (mixX h x)) ∧ Blk c (some ⟨b, o, none⟩) len cap (i + 1) (nextH h) w' ∧ Only c w w' := by
  obtain ⟨c0, c1, c2, f1, f2⟩ := hb.cells
  have hr := and255 (bits .xor .i64 (nextH h / 8589934592) (nextH h / 35184372088832))
  unfold nextH at hr
  go_enter Try.func120, Try.ntmps120
  go_wp2_with fail
  go_quiet (fail)
  go_wp2_with fail
  go_quiet (fail)
  go_wp2_with fail
  go_quiet (fail)
  go_wp2_with fail
  go_ret
  exact ⟨rfl, (hb.setH _).setI _, (((Only.refl c w).setCell 2 _).drewN _).setCell 1 _⟩

/-- a cursor over the code z, standing at s. -/
structure At (c : Nat) (a : Option Addr) (len cap : Nat) (z : List Int) (s : St) (w : World) : Prop where
  blk : Blk c a len cap s.1 s.2 w
  code : Code c a len z w
  le : s.1 ≤ len
theorem At.lt {c : Nat} {a : Option Addr} {len cap : Nat} {z : List Int} {s : St} {w : World} (h : At c a len cap z s w) : c < w.heap.size := h.blk.lt
/-- what happens elsewhere leaves the cursor as it stands. -/
theorem At.below {c : Nat} {a : Option Addr} {len cap : Nat} {z : List Int} {s : St} {w w' : World} (h : At c a len cap z s w) (hb : Below w.heap.size w w') : At c a len cap z s w' :=
  ⟨by have := hb.block c h.lt; have h1 := h.blk; unfold Blk at h1 ⊢; rw [this]; exact h1, h.code.only (.of_below hb), h.le⟩
theorem byte_any (c : Nat) (a : Option Addr) (len cap : Nat) (z : List Int) (s : St) (w : World) (h : At c a len cap z s w) :
    Calls Try.prog 120 #[.pointer (some ⟨c, 0, none⟩)] w fun e w' => e = .returned (.int .i64 (byteD len z s).1) ∧ At c a len cap z (byteD len z s).2 w' ∧ Only c w w' := by
  have hl := h.code.len
  by_cases hi : s.1 < len
  · obtain ⟨b, o, rfl, hc, hb, hv⟩ := h.code.cells s.1 hi
    have hz := h.code.bound s.1
    refine (byte_yes c b o len cap s.1 s.2 (z.getD s.1 0) hi hl hz.1 hz.2 w h.blk hc hv).mono fun e w' ⟨h1, h2, h3⟩ => ?_
    rw [show byteD len z s = (mixX s.2 (z.getD s.1 0), (s.1 + 1, nextH s.2)) from if_pos hi]
    exact ⟨h1, ⟨h2, h.code.only h3, hi⟩, h3⟩
  · have hle := h.le
    refine (byte_no c a len cap s.1 s.2 (by omega) w h.blk).mono fun e w' ⟨h1, h2, h3⟩ => ?_
    rw [show byteD len z s = (rawX s.2, (s.1, nextH s.2)) from if_neg hi]
    exact ⟨h1, ⟨h2, h.code.only h3, h.le⟩, h3⟩

/-- 0..n-1; 0 where n is not above 0. -/
def belowD (len : Nat) (z : List Int) (n : Int) (s : St) : Int × St :=
  if n ≤ 0 then (0, s)
  else if n ≤ 256 then ((byteD len z s).1 % n, (byteD len z s).2)
  else
    let s1 := (byteD len z s).2
    let s2 := (byteD len z s1).2
    let s3 := (byteD len z s2).2
    (((byteD len z s).1 * 16777216 + (byteD len z s1).1 * 65536 + (byteD len z s2).1 * 256 + (byteD len z s3).1) % n, (byteD len z s3).2)
theorem belowD_bd (len : Nat) (z : List Int) (n : Int) (s : St) (hn : 0 < n) : 0 ≤ (belowD len z n s).1 ∧ (belowD len z n s).1 < n := by
  unfold belowD
  rw [if_neg (by omega)]
  split
  · exact ⟨Int.emod_nonneg _ (by omega), Int.emod_lt_of_pos _ hn⟩
  · exact ⟨Int.emod_nonneg _ (by omega), Int.emod_lt_of_pos _ hn⟩
set_option maxRecDepth 100000 in
theorem below_any (c : Nat) (a : Option Addr) (len cap : Nat) (z : List Int) (s : St) (n : Int) (hn : 0 < n) (hn2 : n ≤ 9223372036854775807) (w : World) (h : At c a len cap z s w) :
    Calls Try.prog 95 #[.pointer (some ⟨c, 0, none⟩), .int .i64 n] w fun e w' => e = .returned (.int .i64 (belowD len z n s).1) ∧ At c a len cap z (belowD len z n s).2 w' ∧ Only c w w' := by
  have hnz : ¬ n = 0 := by omega
  by_cases h256 : n ≤ 256
  · have He := Lib.hid (show belowD len z n s = ((byteD len z s).1 % n, (byteD len z s).2) by unfold belowD; rw [if_neg (by omega), if_pos h256])
    have hx := byteD_bd len z s
    go_enter Try.func95, Try.ntmps95
    go_wp2_with fail
    refine (byte_any c a len cap z s _ h).mono ?_
    rintro e w1 ⟨rfl, hA1, hO1⟩
    generalize hx' : (byteD len z s).1 = x at hx ⊢
    have Hx := Lib.hid hx'
    clear hx'
    go_wp2
    go_ret
    exact ⟨by rw [He.out]; show _ = Ending.returned (.int .i64 ((byteD len z s).1 % n)); rw [Hx.out]; rfl, by rw [He.out]; exact hA1, hO1⟩
  · have hn3 : ¬ n ≤ 0 := by omega
    obtain ⟨s1, hs1⟩ : ∃ s1, s1 = (byteD len z s).2 := ⟨_, rfl⟩
    obtain ⟨s2, hs2⟩ : ∃ s2, s2 = (byteD len z s1).2 := ⟨_, rfl⟩
    obtain ⟨s3, hs3⟩ : ∃ s3, s3 = (byteD len z s2).2 := ⟨_, rfl⟩
    obtain ⟨x0, hx0⟩ : ∃ x, x = (byteD len z s).1 := ⟨_, rfl⟩
    obtain ⟨x1, hx1⟩ : ∃ x, x = (byteD len z s1).1 := ⟨_, rfl⟩
    obtain ⟨x2, hx2⟩ : ∃ x, x = (byteD len z s2).1 := ⟨_, rfl⟩
    obtain ⟨x3, hx3⟩ : ∃ x, x = (byteD len z s3).1 := ⟨_, rfl⟩
    have b0 := byteD_bd len z s
    have b1 := byteD_bd len z s1
    have b2 := byteD_bd len z s2
    have b3 := byteD_bd len z s3
    rw [← hx0] at b0; rw [← hx1] at b1; rw [← hx2] at b2; rw [← hx3] at b3
    have He := Lib.hid (show belowD len z n s = ((x0 * 16777216 + x1 * 65536 + x2 * 256 + x3) % n, (byteD len z s3).2) by
      unfold belowD; rw [if_neg hn3, if_neg h256]; simp only [← hs1, ← hs2, ← hs3, ← hx0, ← hx1, ← hx2, ← hx3])
    have H1 := Lib.hid hs1; have H2 := Lib.hid hs2; have H3 := Lib.hid hs3
    have K0 := Lib.hid hx0; have K1 := Lib.hid hx1; have K2 := Lib.hid hx2; have K3 := Lib.hid hx3
    clear hs1 hs2 hs3 hx0 hx1 hx2 hx3
    go_enter Try.func95, Try.ntmps95
    go_wp2_with fail
    refine (byte_any c a len cap z s _ h).mono ?_
    rintro e w1 ⟨rfl, hA1, hO1⟩
    rw [← K0.out]
    rw [← H1.out] at hA1
    go_wp2_with fail
    refine (byte_any c a len cap z s1 _ hA1).mono ?_
    rintro e w2 ⟨rfl, hA2, hO2⟩
    rw [← K1.out]
    rw [← H2.out] at hA2
    go_wp2_with fail
    refine (byte_any c a len cap z s2 _ hA2).mono ?_
    rintro e w3 ⟨rfl, hA3, hO3⟩
    rw [← K2.out]
    rw [← H3.out] at hA3
    go_wp2_with fail
    refine (byte_any c a len cap z s3 _ hA3).mono ?_
    rintro e w4 ⟨rfl, hA4, hO4⟩
    rw [← K3.out]
    go_wp2
    go_ret
    exact ⟨by rw [He.out]; rfl, by rw [He.out]; exact hA4, ((hO1.trans hO2).trans hO3).trans hO4⟩
end Go.Proofs.Ytijilhaoknpeeaa.Cur

namespace Go.Proofs.Ytijilhaoknpeeaa.Bytes
open Go.RowKit

/-- v is a slice of bytes in a block of the call's own (from B on), holding l. -/
def OwnB (B : Nat) (v : Value) (l : List UInt8) (w : World) : Prop := w.ownsRow B 5 1 v l.length (Lib.byteCells l)

theorem u8_ofNat (x : Nat) (h : x < 256) : (x : Int) = ((UInt8.ofNat x).toNat : Int) := by
  simp [Nat.mod_eq_of_lt h]
theorem info_u8 : (Try.prog.info? 5).map (fun i => (i.zero, i.size, i.bytes)) = some (some (.int .u8 0), 1, 1) := by kernel_rfl

theorem OwnB.made (B : Nat) (w : World) (hB : B ≤ w.heap.size) : OwnB B (.slice (some ⟨w.heap.size, 0, none⟩) 0 0) [] (w.alloc (.cells #[] 5)) :=
  World.ownsRow_made w #[] 0 hB (Nat.zero_le _) rfl

theorem OwnB.one (B : Nat) (w : World) (hB : B ≤ w.heap.size) (c : Int) (b : UInt8) (hc : c = b.toNat) : OwnB B (.slice (some ⟨w.heap.size, 0, none⟩) 1 1) [b] (w.alloc (.cells #[.int .u8 c] 5)) := by
  subst hc
  exact ⟨rfl, .inr ⟨w.heap.size, 1, _, rfl, hB, heap_alloc_new w _, Nat.le_refl _, by decide, rfl, rfl⟩⟩

/-- append(out, c): the row grows by this byte; nothing below B changes. -/
theorem app {ops : Array Oper} {rest : List Oper} {o : Oper} {a : Act} {Q : Exit → Act → World → Prop} (hgd : o.guard = none) (s x : Operand)
    (ho : o.op = .call { callee := .builtin .append, args := #[s, x], argTypes := #[22, 22] })
    (B : Nat) (v : Value) (l : List UInt8) (w : World) (c : Int) (b : UInt8) (hs : a.eval s = v) (hx : a.eval x = .slice (some ⟨w.heap.size, 0, none⟩) 1 1)
    (hown : OwnB B v l w) (hc : c = b.toNat) (hB : B ≤ w.heap.size) (hl : l.length + 1 ≤ 140737488355328)
    (h : ∀ v' w', OwnB B v' (l ++ [b]) w' → Below B w w' → wpList Try.prog ops Q rest (a.put o.dst v') w') :
    wpList Try.prog ops Q (o :: rest) a (w.alloc (.cells #[.int .u8 c] 5)) := by
  obtain ⟨i, hi, hz, hsz, hby⟩ := info_parts info_u8
  subst hc
  refine wpList_append_own _ hgd s x 22 ho B 5 i (.int .u8 0) 1 1 Try.underlying22 hi hz hsz hby rfl (by decide) v l.length (Lib.byteCells l) hs (hown.alloc _) ⟨w.heap.size, 0, none⟩ 1 1 [.int .u8 b.toNat] hx rfl ?_ ?_ ?_ (by omega) (by simp; omega) ?_
  · exact cell_one_new w _ _
  · intro u hu; simp at hu; subst hu; rfl
  · unfold maxLen; omega
  · intro v' w' hown' hgr _
    refine h v' w' ?_ ?_
    · unfold OwnB; rw [Lib.byteCells_append, List.length_append]; exact hown'
    · exact (((Below.refl B w).alloc hB _)).grown hgr (by simp; omega) (fun k hk => (hown.lt k hk).1)

/-- append(out, c1, c2). -/
theorem wp_app2 {o : Oper} {a : Act} {K : Act → World → Prop} {Q : Exit → Act → World → Prop} (s x : Operand)
    (ho : o.op = .call { callee := .builtin .append, args := #[s, x], argTypes := #[22, 22] })
    (B : Nat) (v : Value) (l : List UInt8) (w : World) (c1 c2 : Int) (b1 b2 : UInt8) (hs : a.eval s = v) (hx : a.eval x = .slice (some ⟨w.heap.size, 0, none⟩) 2 2)
    (hown : OwnB B v l w) (hc1 : c1 = b1.toNat) (hc2 : c2 = b2.toNat) (hB : B ≤ w.heap.size) (hl : l.length + 2 ≤ 140737488355328)
    (h : ∀ v' w', OwnB B v' (l ++ [b1, b2]) w' → Below B w w' → K (a.put o.dst v') w') :
    o.wp Try.prog a (w.alloc (.cells #[.int .u8 c1, .int .u8 c2] 5)) K Q := by
  obtain ⟨i, hi, hz, hsz, hby⟩ := info_parts info_u8
  subst hc1; subst hc2
  refine wp_append_own _ s x 22 ho B 5 i (.int .u8 0) 1 1 Try.underlying22 hi hz hsz hby rfl (by decide) v l.length (Lib.byteCells l) hs (hown.alloc _) ⟨w.heap.size, 0, none⟩ 2 2 [.int .u8 b1.toNat, .int .u8 b2.toNat] hx rfl ?_ ?_ ?_ (by omega) (by simp; omega) ?_
  · intro j u hj
    have hadd : (⟨w.heap.size, 0, none⟩ : Addr).add j = ⟨w.heap.size, j, none⟩ := by unfold Addr.add; split <;> simp_all
    rw [hadd, cell_of_row _ w.heap.size j _ 5 (0, 0) (heap_alloc_new w _)]
    rw [← hj]; simp
  · intro u hu; simp at hu; rcases hu with rfl | rfl <;> rfl
  · unfold maxLen; omega
  · intro v' w' hown' hgr _
    refine h v' w' ?_ ?_
    · unfold OwnB; rw [Lib.byteCells_append, List.length_append]; exact hown'
    · exact (((Below.refl B w).alloc hB _)).grown hgr (by simp; omega) (fun k hk => (hown.lt k hk).1)

/-- an operation's step inside a region that draws its order. -/
theorem step_of {ops : Array Oper} {o : Oper} {a : Act} {w : World} {K : Act → World → Prop} {Q : Exit → Act → World → Prop} {E : Prop} (hg : o.guard = none) (h : o.wp Try.prog a w K Q) :
    if Region.wanted o (yielded ops a.tmps) = true then Oper.wp Try.prog o a w K Q else E := by
  rw [if_pos (by simp [Region.wanted, hg])]; exact h

/-- string(out). -/
theorem OwnB.str {B : Nat} {v : Value} {l : List UInt8} {w : World} (h : OwnB B v l w) :
    (convert 22 9 v).run Try.prog w = .ok (.string ⟨l.toArray⟩) w := by
  rcases h.2 with ⟨rfl, h0⟩ | ⟨g, cap, cur, rfl, hb, hg, hn, hm, hs, ht⟩
  · obtain rfl : l = [] := List.length_eq_zero_iff.1 h0
    exact run_convert_bytes_nil _ _ _ Try.underlying22 Try.underlying5 0 0 _ Try.underlying9
  · rw [run_convert_bytes_arg _ _ _ Try.underlying22 Try.underlying5 g 0 l.length cap (l.map fun b => (b.toNat : Int)) (by simp) (fun i hi => ?_) _ Try.underlying9]
    · congr 1
      simp [strOfNums, Function.comp_def]
    · have := h.cells (g := g) rfl i (.int .u8 (l[i].toNat)) (by simp [Lib.byteCells, hi])
      simp only [Nat.zero_add]
      have hadd : (⟨g, 0, none⟩ : Addr).add i = ⟨g, i, none⟩ := by unfold Addr.add; split <;> simp_all
      rw [hadd] at this
      rw [this]
      simp [List.getD, hi]

theorem str_one (c : Int) (w : World) : (convert 22 9 (.slice (some ⟨w.heap.size, 0, none⟩) 1 1)).run Try.prog (w.alloc (.cells #[.int .u8 c] 5)) = .ok (.string ⟨[UInt8.ofNat c.toNat].toArray⟩) (w.alloc (.cells #[.int .u8 c] 5)) := by
  rw [run_convert_bytes_arg _ _ _ Try.underlying22 Try.underlying5 w.heap.size 0 1 1 [c] rfl (fun i hi => ?_) _ Try.underlying9]
  · rfl
  · obtain rfl : i = 0 := by omega
    simp
theorem str_cons (x : UInt8) (l : List UInt8) : Value.string ((⟨#[x]⟩ : ByteArray) ++ ⟨l.toArray⟩) = .string ⟨(x :: l).toArray⟩ := by
  rw [show (⟨#[x]⟩ : ByteArray) = ⟨[x].toArray⟩ from rfl, ByteArray.mk_append_mk]; rfl
end Go.Proofs.Ytijilhaoknpeeaa.Bytes

namespace Go.Proofs.Ytijilhaoknpeeaa.Cur
open Go.RowKit Bytes

theorem Only.transB {c : Nat} {w w1 w2 : World} (h : Only c w w1) (k : Below w.heap.size w1 w2) : Only c w w2 :=
  ⟨k.os.trans h.os, k.tape.trans h.tape, k.output.trans h.output, Nat.le_trans h.size k.size, fun j hj hc => (k.block j hj).trans (h.block j hj hc)⟩
theorem Only.belowB {c B : Nat} {w w' : World} (h : Only c w w') (hc : B ≤ c) (hB : B ≤ w.heap.size) : Below B w w' :=
  ⟨h.os, h.tape, h.output, h.size, fun k hk => h.block k (by omega) (by omega)⟩
theorem At.belowB {c : Nat} {a : Option Addr} {len cap : Nat} {z : List Int} {s : St} {w w' : World} {B : Nat} (h : At c a len cap z s w) (hb : Below B w w') (hc : c < B) (hab : ∀ x, a = some x → 0 < len → x.block < B) : At c a len cap z s w' :=
  ⟨by have := hb.block c hc; have h1 := h.blk; unfold Blk at h1 ⊢; rw [this]; exact h1,
   ⟨fun i hi => by
      obtain ⟨b, o, e, h1, h2, h3⟩ := h.code.cells i hi
      have hbB : b < B := hab _ e (by omega)
      exact ⟨b, o, e, h1, Nat.lt_of_lt_of_le h2 hb.size, by rw [hb.cell (p := ⟨b, o + i, none⟩) hbB]; exact h3⟩, h.code.bound, h.code.len⟩, h.le⟩
theorem At.drewN {c : Nat} {a : Option Addr} {len cap : Nat} {z : List Int} {s : St} {w : World} (h : At c a len cap z s w) (n : Nat) : At c a len cap z s (w.drewN n) := ⟨h.blk, ⟨h.code.cells, h.code.bound, h.code.len⟩, h.le⟩
theorem At.drew {c : Nat} {a : Option Addr} {len cap : Nat} {z : List Int} {s : St} {w : World} (h : At c a len cap z s w) : At c a len cap z s w.drew := ⟨h.blk, ⟨h.code.cells, h.code.bound, h.code.len⟩, h.le⟩
theorem At.reach {c : Nat} {a : Option Addr} {len cap : Nat} {z : List Int} {s : St} {w : World} (h : At c a len cap z s w) : ∀ x, a = some x → 0 < len → x.block < w.heap.size := by
  intro x hx hl
  obtain ⟨b, o, e, h1, h2, h3⟩ := h.code.cells 0 hl
  rw [hx] at e; cases e; exact h2
theorem ownB_only {B c : Nat} {v : Value} {l : List UInt8} {w w' : World} (h : OwnB B v l w) (k : Only c w w') (hc : c < B) : OwnB B v l w' := by
  obtain ⟨h1, h2⟩ := h
  refine ⟨h1, ?_⟩
  rcases h2 with h2 | ⟨g, cp, cur, rfl, hb, hg, rest⟩
  · exact .inl h2
  · have hlt := (Array.getElem?_eq_some_iff.1 hg).1
    exact .inr ⟨g, cp, cur, rfl, hb, by rw [k.block g hlt (by omega)]; exact hg, rest⟩

/-- is a draw below n zero. -/
def onceD (len : Nat) (z : List Int) (n : Int) (s : St) : Bool × St := ((belowD len z n s).1 == 0, (belowD len z n s).2)
theorem once_any (c : Nat) (a : Option Addr) (len cap : Nat) (z : List Int) (s : St) (n : Int) (hn : 0 < n) (hn2 : n ≤ 9223372036854775807) (w : World) (h : At c a len cap z s w) :
    Calls Try.prog 123 #[.pointer (some ⟨c, 0, none⟩), .int .i64 n] w fun e w' => e = .returned (.bool (onceD len z n s).1) ∧ At c a len cap z (onceD len z n s).2 w' ∧ Only c w w' := by
  go_enter Try.func123, Try.ntmps123
  go_wp2_with fail
  refine (below_any c a len cap z s n hn hn2 _ h).mono ?_
  rintro e w1 ⟨rfl, hA1, hO1⟩
  go_wp2
  go_ret
  exact ⟨rfl, hA1, hO1⟩

/-- the code's bytes, mixed. -/
def newF (z : List Int) (len : Nat) : Nat → Int
  | 0 => 10101 + len
  | k + 1 => (newF z len k * 131 + z.getD k 0 + 7) % 1073741824
theorem newF_bd (z : List Int) (len : Nat) (hl : len ≤ 1048576) (k : Nat) : 0 ≤ newF z len k ∧ newF z len k < 1073741824 := by
  cases k with
  | zero => simp only [newF]; omega
  | succ k => exact ⟨Int.emod_nonneg _ (by omega), Int.emod_lt_of_pos _ (by omega)⟩
def newS (z : List Int) (len : Nat) : St := (0, newF z len (min len 4000))
theorem and30 (x : Int) (h0 : 0 ≤ x) (h1 : x < 9223372036854775808) : bits .and .i64 x 1073741823 = x % 1073741824 :=
  bits_mask .i64 63 (by decide) (fun n h0 h1 => by rw [IntKind.wrap_i64]; omega) 30 (by decide) x h0 h1

/-- what is told of a code that comes in: nil, or a row of bytes. -/
def CodeIn (a : Option Addr) (len : Nat) (z : List Int) (w : World) : Prop :=
  (∀ i, i < len → ∃ b o, a = some ⟨b, o, none⟩ ∧ b < w.heap.size ∧ w.cell? ⟨b, o + i, none⟩ = some (.int .u8 (z.getD i 0))) ∧ (∀ i, 0 ≤ z.getD i 0 ∧ z.getD i 0 < 256) ∧ len ≤ 1048576
theorem CodeIn.below {a : Option Addr} {len : Nat} {z : List Int} {w w' : World} (h : CodeIn a len z w) (hb : Below w.heap.size w w') : CodeIn a len z w' :=
  ⟨fun i hi => by
    obtain ⟨b, o, e, h1, h2⟩ := h.1 i hi
    exact ⟨b, o, e, Nat.lt_of_lt_of_le h1 hb.size, by rw [hb.cell (p := ⟨b, o + i, none⟩) h1]; exact h2⟩, h.2⟩

/-- what a new cursor is. -/
def NewPost (a : Option Addr) (len cap : Nat) (z : List Int) (w : World) (e : Ending) (w' : World) : Prop :=
  ∃ c, e = .returned (.pointer (some ⟨c, 0, none⟩)) ∧ w.heap.size ≤ c ∧ At c a len cap z (newS z len) w' ∧ Below w.heap.size w w'
theorem newPost (a : Option Addr) (len cap : Nat) (z : List Int) (w : World) (h : CodeIn a len z w) {y : Int} (hy : y = newF z len (min len 4000)) :
    NewPost a len cap z w (.returned (.pointer (some ⟨w.heap.size, 0, none⟩))) (w.alloc (.cells #[.slice a len cap, .int .i64 0, .int .i64 y] 108)) := by
  subst hy
  have hb : Below w.heap.size w (w.alloc (.cells #[.slice a len cap, .int .i64 0, .int .i64 (newF z len (min len 4000))] 108)) := (Below.refl _ _).alloc (Nat.le_refl _) _
  refine ⟨_, rfl, Nat.le_refl _, ⟨heap_alloc_new w _, ⟨fun i hi => ?_, h.2.1, h.2.2⟩, Nat.zero_le _⟩, hb⟩
  obtain ⟨b, o, e, h1, h2⟩ := h.1 i hi
  exact ⟨b, o, e, by omega, Nat.lt_of_lt_of_le h1 hb.size, by rw [hb.cell (p := ⟨b, o + i, none⟩) h1]; exact h2⟩

set_option maxRecDepth 100000 in
theorem new_any (a : Option Addr) (len cap : Nat) (z : List Int) (w : World) (h : CodeIn a len z w) :
    Calls Try.prog 56 #[.slice a len cap] w fun e w' => NewPost a len cap z w e w' := by
  have Hin := Lib.hid h
  obtain ⟨hc, hz, hl⟩ := h
  obtain ⟨m, hm, hml, hmm, hme⟩ : ∃ m : Nat, m ≤ 4000 ∧ m ≤ len ∧ (m = 4000 ∨ m = len) ∧ min len 4000 = m := ⟨min len 4000, by omega, by omega, by omega, rfl⟩
  have Hme := Lib.hid hme
  have Hc := Lib.hid hc
  have Hz := Lib.hid hz
  clear hme hc hz
  go_enter Try.func56, Try.ntmps56
  go_wp2
  go_loop [3, 4] (fun h i => ∃ k : Nat, k ≤ m ∧ i = .int .i64 k ∧ h = .int .i64 (newF z len k)) (fun _ i => m - (intOf i).toNat)
  case atStart => exact ⟨0, by omega, rfl, rfl⟩
  case round =>
    obtain ⟨k, hk, rfl, rfl⟩ := hrel
    have hb := newF_bd z len hl k
    by_cases hlt : k < m
    · have hkl : k < len := by omega
      have hk4 : k < 4000 := by omega
      obtain ⟨b, o, rfl, hbw, hv⟩ := Hc.out k hkl
      have hzk := Hz.out k
      have Hn := Lib.hid (show newF z len (k + 1) = (newF z len k * 131 + z.getD k 0 + 7) % 1073741824 from rfl)
      have ha := and30 (newF z len k * 131 + z.getD k 0 + 7) (by omega) (by omega)
      generalize z.getD k 0 = x at hv hzk Hn ha
      generalize newF z len k = y at hb Hn ha ⊢
      go_wp2
      go_round
      case rel => exact ⟨k + 1, by omega, by go_num, by rw [Hn.out]⟩
      case measure => simp [intOf]; omega
    · have hkm : k = m := by omega
      have Hk := Lib.hid (show newF z len k = newF z len (min len 4000) by rw [Hme.out, hkm])
      have h1 : ¬ (k < len ∧ k < 4000) := by omega
      clear hkm
      go_wp2
      all_goals go_ret
      all_goals exact newPost a len cap z w Hin.out Hk.out

/-- a list's cells. -/
def Ints (b : Nat) (zs : List Int) (w : World) : Prop := w.heap[b]? = some (.cells (zs.map (Value.int .i64)).toArray 3 (0, 0))
theorem Ints.cell {b : Nat} {zs : List Int} {w : World} (h : Ints b zs w) {i : Nat} (hi : i < zs.length) : w.cell? ⟨b, i, none⟩ = some (.int .i64 (zs.getD i 0)) := by
  unfold Ints at h
  rw [cell_of_row w b i _ 3 (0, 0) h]
  simp [List.getD, hi]
set_option maxRecDepth 100000 in
theorem pickInt_any (c : Nat) (a : Option Addr) (len cap : Nat) (z : List Int) (s : St) (b : Nat) (zs : List Int) (n : Nat) (hn : zs.length = n) (h0 : 0 < n) (h1 : n ≤ 1000) (hbc : b ≠ c) (w : World) (hz : Ints b zs w) (h : At c a len cap z s w) :
    Calls Try.prog 96 #[.pointer (some ⟨c, 0, none⟩), .slice (some ⟨b, 0, none⟩) n n] w fun e w' => e = .returned (.int .i64 (zs.getD (belowD len z n s).1.toNat 0)) ∧ At c a len cap z (belowD len z n s).2 w' ∧ Only c w w' := by
  have Hn := Lib.hid hn
  clear hn
  have hbd := belowD_bd len z n s (by omega)
  have hblt : b < w.heap.size := (Array.getElem?_eq_some_iff.1 hz).1
  go_enter Try.func96, Try.ntmps96
  go_wp2_with fail
  refine (below_any c a len cap z s n (by omega) (by omega) _ h).mono ?_
  rintro e w1 ⟨rfl, hA1, hO1⟩
  obtain ⟨k, hk⟩ := Int.eq_ofNat_of_zero_le hbd.1
  rw [hk] at hbd ⊢
  have hkn : k < n := by omega
  have hcell : w1.cell? ⟨b, k, none⟩ = some (.int .i64 (zs.getD k 0)) := by rw [hO1.cell hblt hbc]; exact hz.cell (by rw [Hn.out]; exact hkn)
  have Hk := Lib.hid hk
  clear hk hz
  generalize hy : zs.getD k 0 = y at hcell
  have Hy := Lib.hid hy
  clear hy
  go_wp2
  go_ret
  exact ⟨by rw [Hk.out, Int.toNat_natCast, Hy.out]; rfl, hA1, hO1⟩
end Go.Proofs.Ytijilhaoknpeeaa.Cur

namespace Go.Proofs.Ytijilhaoknpeeaa.Cur
open Go.RowKit Bytes

/-- block c is a cursor. -/
def Cu (c : Nat) (w : World) : Prop := ∃ (a : Option Addr) (len cap : Nat) (z : List Int) (s : St), At c a len cap z s w
theorem Cu.lt {c : Nat} {w : World} (h : Cu c w) : c < w.heap.size := by obtain ⟨a, len, cap, z, s, h⟩ := h; exact h.lt
theorem Cu.below {c : Nat} {w w' : World} (h : Cu c w) (hb : Below w.heap.size w w') : Cu c w' := by
  obtain ⟨a, len, cap, z, s, h⟩ := h; exact ⟨a, len, cap, z, s, h.below hb⟩
theorem Cu.drew {c : Nat} {w : World} (h : Cu c w) : Cu c w.drew := by obtain ⟨a, len, cap, z, s, h⟩ := h; exact ⟨a, len, cap, z, s, h.drew⟩
theorem Cu.drewN {c : Nat} {w : World} (h : Cu c w) (n : Nat) : Cu c (w.drewN n) := by obtain ⟨a, len, cap, z, s, h⟩ := h; exact ⟨a, len, cap, z, s, h.drewN n⟩
theorem Cu.alloc {c : Nat} {w : World} (h : Cu c w) (o : Obj) : Cu c (w.alloc o) := h.below ((Below.refl _ _).alloc (Nat.le_refl _) o)

def Drew (P : Int → Prop) (c : Nat) (w : World) (e : Ending) (w' : World) : Prop := ∃ x : Int, P x ∧ e = .returned (.int .i64 x) ∧ Cu c w' ∧ Only c w w'
theorem newE (a : Option Addr) (len cap : Nat) (z : List Int) (w : World) (h : CodeIn a len z w) :
    Calls Try.prog 56 #[.slice a len cap] w fun e w' => ∃ c, e = .returned (.pointer (some ⟨c, 0, none⟩)) ∧ w.heap.size ≤ c ∧ Cu c w' ∧ Below w.heap.size w w' :=
  (new_any a len cap z w h).mono fun _ _ ⟨c, h1, h2, h3, h4⟩ => ⟨c, h1, h2, ⟨a, len, cap, z, _, h3⟩, h4⟩
theorem belowE (c : Nat) (n : Int) (hn : 0 < n) (hn2 : n ≤ 9223372036854775807) (w : World) (h : Cu c w) :
    Calls Try.prog 95 #[.pointer (some ⟨c, 0, none⟩), .int .i64 n] w (Drew (fun x => 0 ≤ x ∧ x < n) c w) := by
  obtain ⟨a, len, cap, z, s, h⟩ := h
  exact (below_any c a len cap z s n hn hn2 w h).mono fun _ _ ⟨h1, h2, h3⟩ => ⟨_, belowD_bd len z n s hn, h1, ⟨a, len, cap, z, _, h2⟩, h3⟩
theorem byteE (c : Nat) (w : World) (h : Cu c w) :
    Calls Try.prog 120 #[.pointer (some ⟨c, 0, none⟩)] w (Drew (fun x => 0 ≤ x ∧ x < 256) c w) := by
  obtain ⟨a, len, cap, z, s, h⟩ := h
  exact (byte_any c a len cap z s w h).mono fun _ _ ⟨h1, h2, h3⟩ => ⟨_, byteD_bd len z s, h1, ⟨a, len, cap, z, _, h2⟩, h3⟩
theorem onceE (c : Nat) (n : Int) (hn : 0 < n) (hn2 : n ≤ 9223372036854775807) (w : World) (h : Cu c w) :
    Calls Try.prog 123 #[.pointer (some ⟨c, 0, none⟩), .int .i64 n] w fun e w' => ∃ x : Bool, e = .returned (.bool x) ∧ Cu c w' ∧ Only c w w' := by
  obtain ⟨a, len, cap, z, s, h⟩ := h
  exact (once_any c a len cap z s n hn hn2 w h).mono fun _ _ ⟨h1, h2, h3⟩ => ⟨_, h1, ⟨a, len, cap, z, _, h2⟩, h3⟩
theorem pickE (c b : Nat) (zs : List Int) (n : Nat) (hn : zs.length = n) (h0 : 0 < n) (h1 : n ≤ 1000) (hbc : b ≠ c) (w : World) (hz : Ints b zs w) (h : Cu c w) :
    Calls Try.prog 96 #[.pointer (some ⟨c, 0, none⟩), .slice (some ⟨b, 0, none⟩) n n] w (Drew (fun x => x ∈ zs) c w) := by
  obtain ⟨a, len, cap, z, s, h⟩ := h
  refine (pickInt_any c a len cap z s b zs n hn h0 h1 hbc w hz h).mono fun _ _ ⟨h1, h2, h3⟩ => ⟨_, ?_, h1, ⟨a, len, cap, z, _, h2⟩, h3⟩
  have hb := belowD_bd len z n s (by omega)
  have : (belowD len z n s).1.toNat < zs.length := by omega
  simp [List.getD, this]
theorem smallE (c : Nat) (w : World) (h : Cu c w) :
    Calls Try.prog 103 #[.pointer (some ⟨c, 0, none⟩)] w (Drew (fun x => -1 ≤ x ∧ x ≤ 4) c w) := by
  go_enter Try.func103, Try.ntmps103
  go_wp2_with fail
  refine (belowE c 6 (by omega) (by omega) _ h).mono ?_
  rintro e w1 ⟨x, ⟨hx0, hx1⟩, rfl, hC, hO⟩
  go_wp2
  go_ret
  exact ⟨x - 1, ⟨by omega, by omega⟩, rfl, hC, hO⟩
/-- the literal's block. -/
theorem Ints.new (w : World) (zs : List Int) (xs : Array Value) (h : xs = (zs.map (Value.int .i64)).toArray) : Ints w.heap.size zs (w.alloc (.cells xs 3)) := by
  subst h; exact heap_alloc_new w _
/-- the code that a law takes. -/
theorem codeInE {w : World} {a : Option Addr} {len cap : Nat} {zs : List Int} (h : (a = none ∧ len = 0 ∧ cap = 0 ∧ zs = []) ∨ ∃ x, a = some x ∧ len ≤ cap ∧ cap ≤ maxLen ∧ zs.length = cap ∧ (∀ i, i < zs.length → w.cell? (x.add i) = some (.int .u8 (zs.getD i 0))) ∧ ∀ n ∈ zs, (Lit.int .u8 n).wf = true) (hl : len ≤ 1048576) : CodeIn a len zs w := by
  rcases h with ⟨rfl, rfl, rfl, rfl⟩ | ⟨x, rfl, h1, h2, h3, h4, h5⟩
  · exact ⟨fun i hi => by omega, fun i => by simp [List.getD], by omega⟩
  · refine ⟨fun i hi => ?_, fun i => ?_, hl⟩
    · have hc := h4 i (by omega)
      obtain ⟨b, o, spot⟩ := x
      have hs : spot = none := by
        have h0 := h4 0 (by omega)
        simpa [Addr.add] using World.cell?_spot h0
      subst hs
      have e : (⟨b, o, none⟩ : Addr).add i = ⟨b, o + i, none⟩ := by unfold Addr.add; split <;> simp_all
      rw [e] at hc
      exact ⟨b, o, rfl, World.block_lt_of_cell? _ _ hc, hc⟩
    · by_cases hi : i < zs.length
      · have hm : zs.getD i 0 ∈ zs := by simp [List.getD, hi]
        have := h5 _ hm
        simp only [Lit.wf, Bool.and_eq_true, decide_eq_true_eq] at this
        rw [show IntKind.u8.min = 0 from rfl, show IntKind.u8.max = 255 from rfl] at this
        omega
      · have : zs.getD i 0 = 0 := by simp [List.getD, List.getElem?_eq_none (show zs.length ≤ i by omega)]
        rw [this]; omega
theorem bigE_yes (a : Option Addr) (len cap : Nat) (h : 1048576 < len) (w : World) :
    Calls Try.prog 14 #[.slice a len cap] w fun e w' => e = .returned (.bool true) ∧ w = w' := by
  go_enter Try.func14, Try.ntmps14
  go_wp2
  go_ret
  exact ⟨by simp; omega, rfl⟩
theorem bigE_no (a : Option Addr) (len cap : Nat) (h : ¬ 1048576 < len) (w : World) :
    Calls Try.prog 14 #[.slice a len cap] w fun e w' => e = .returned (.bool false) ∧ w = w' := by
  go_enter Try.func14, Try.ntmps14
  go_wp2
  go_ret
  exact ⟨by simp; omega, rfl⟩
end Go.Proofs.Ytijilhaoknpeeaa.Cur

namespace Go.Proofs.Ytijilhaoknpeeaa.Cur
open Go.RowKit Bytes

/-- block c is a cursor; it and the code that it reads lie below D. -/
def CuD (D c : Nat) (w : World) : Prop := c < D ∧ D ≤ w.heap.size ∧ ∃ (a : Option Addr) (len cap : Nat) (z : List Int) (s : St), At c a len cap z s w ∧ ∀ x, a = some x → 0 < len → x.block < D
theorem CuD.lt {D c : Nat} {w : World} (h : CuD D c w) : c < D := h.1
theorem CuD.le {D c : Nat} {w : World} (h : CuD D c w) : D ≤ w.heap.size := h.2.1
theorem CuD.cu {D c : Nat} {w : World} (h : CuD D c w) : Cu c w := by obtain ⟨_, _, a, len, cap, z, s, h, _⟩ := h; exact ⟨a, len, cap, z, s, h⟩
theorem Cu.toD {c : Nat} {w : World} (h : Cu c w) : CuD w.heap.size c w := by
  have hl := h.lt
  obtain ⟨a, len, cap, z, s, h⟩ := h; exact ⟨hl, Nat.le_refl _, a, len, cap, z, s, h, h.reach⟩
theorem CuD.belowB {D B c : Nat} {w w' : World} (h : CuD D c w) (hb : Below B w w') (hB : D ≤ B) : CuD D c w' := by
  obtain ⟨hc, hl, a, len, cap, z, s, h, hr⟩ := h
  exact ⟨hc, Nat.le_trans hl hb.size, a, len, cap, z, s, h.belowB (hb.mono hB) hc hr, hr⟩
theorem CuD.below {D c : Nat} {w w' : World} (h : CuD D c w) (hb : Below w.heap.size w w') : CuD D c w' := h.belowB hb h.le
theorem CuD.alloc {D c : Nat} {w : World} (h : CuD D c w) (o : Obj) : CuD D c (w.alloc o) := h.below ((Below.refl _ _).alloc (Nat.le_refl _) o)
theorem CuD.drewN {D c : Nat} {w : World} (h : CuD D c w) (n : Nat) : CuD D c (w.drewN n) := by
  obtain ⟨hc, hl, a, len, cap, z, s, h, hr⟩ := h
  exact ⟨hc, hl, a, len, cap, z, s, h.drewN n, hr⟩
theorem CuD.drew {D c : Nat} {w : World} (h : CuD D c w) : CuD D c w.drew := h.drewN 1
theorem CuD.mono {D E c : Nat} {w : World} (h : CuD D c w) (hE : D ≤ E) (hw : E ≤ w.heap.size) : CuD E c w := by
  obtain ⟨hc, hl, a, len, cap, z, s, h, hr⟩ := h
  exact ⟨Nat.lt_of_lt_of_le hc hE, hw, a, len, cap, z, s, h, fun x e hl => Nat.lt_of_lt_of_le (hr x e hl) hE⟩

def DrewD (P : Int → Prop) (D c : Nat) (w : World) (e : Ending) (w' : World) : Prop := ∃ x : Int, P x ∧ e = .returned (.int .i64 x) ∧ CuD D c w' ∧ Only c w w'
/-- a truth value drawn. -/
def DrewB (D c : Nat) (w : World) (e : Ending) (w' : World) : Prop := ∃ x : Bool, e = .returned (.bool x) ∧ CuD D c w' ∧ Only c w w'
theorem newC (a : Option Addr) (len cap : Nat) (z : List Int) (w : World) (h : CodeIn a len z w) :
    Calls Try.prog 56 #[.slice a len cap] w fun e w' => ∃ c, e = .returned (.pointer (some ⟨c, 0, none⟩)) ∧ w.heap.size ≤ c ∧ CuD w'.heap.size c w' ∧ Below w.heap.size w w' :=
  (newE a len cap z w h).mono fun _ _ ⟨c, h1, h2, h3, h4⟩ => ⟨c, h1, h2, h3.toD, h4⟩
theorem belowC (D c : Nat) (n : Int) (hn : 0 < n) (hn2 : n ≤ 9223372036854775807) (w : World) (h : CuD D c w) :
    Calls Try.prog 95 #[.pointer (some ⟨c, 0, none⟩), .int .i64 n] w (DrewD (fun x => 0 ≤ x ∧ x < n) D c w) := by
  obtain ⟨hc, hl, a, len, cap, z, s, h, hr⟩ := h
  exact (below_any c a len cap z s n hn hn2 w h).mono fun _ _ ⟨h1, h2, h3⟩ => ⟨_, belowD_bd len z n s hn, h1, ⟨hc, Nat.le_trans hl h3.size, a, len, cap, z, _, h2, hr⟩, h3⟩
theorem byteC (D c : Nat) (w : World) (h : CuD D c w) :
    Calls Try.prog 120 #[.pointer (some ⟨c, 0, none⟩)] w (DrewD (fun x => 0 ≤ x ∧ x < 256) D c w) := by
  obtain ⟨hc, hl, a, len, cap, z, s, h, hr⟩ := h
  exact (byte_any c a len cap z s w h).mono fun _ _ ⟨h1, h2, h3⟩ => ⟨_, byteD_bd len z s, h1, ⟨hc, Nat.le_trans hl h3.size, a, len, cap, z, _, h2, hr⟩, h3⟩
theorem onceC (D c : Nat) (n : Int) (hn : 0 < n) (hn2 : n ≤ 9223372036854775807) (w : World) (h : CuD D c w) :
    Calls Try.prog 123 #[.pointer (some ⟨c, 0, none⟩), .int .i64 n] w (DrewB D c w) := by
  obtain ⟨hc, hl, a, len, cap, z, s, h, hr⟩ := h
  exact (once_any c a len cap z s n hn hn2 w h).mono fun _ _ ⟨h1, h2, h3⟩ => ⟨_, h1, ⟨hc, Nat.le_trans hl h3.size, a, len, cap, z, _, h2, hr⟩, h3⟩
theorem pickC (D c b : Nat) (zs : List Int) (n : Nat) (hn : zs.length = n) (h0 : 0 < n) (h1 : n ≤ 1000) (hbc : b ≠ c) (w : World) (hz : Ints b zs w) (h : CuD D c w) :
    Calls Try.prog 96 #[.pointer (some ⟨c, 0, none⟩), .slice (some ⟨b, 0, none⟩) n n] w (DrewD (fun x => x ∈ zs) D c w) := by
  obtain ⟨hc, hl, a, len, cap, z, s, h, hr⟩ := h
  refine (pickInt_any c a len cap z s b zs n hn h0 h1 hbc w hz h).mono fun _ _ ⟨h1, h2, h3⟩ => ⟨_, ?_, h1, ⟨hc, Nat.le_trans hl h3.size, a, len, cap, z, _, h2, hr⟩, h3⟩
  have hb := belowD_bd len z n s (by omega)
  have : (belowD len z n s).1.toNat < zs.length := by omega
  simp [List.getD, this]
/-- a draw, then something from the draw's own blocks on. -/
theorem Only.transD {c : Nat} {w w1 w2 : World} (h : Only c w w1) (k : Below w.heap.size w1 w2) : Only c w w2 := h.transB k
/-- the draw of a number out of a literal list. -/
theorem pickLit (D c : Nat) (zs : List Int) (n : Nat) (hn : zs.length = n) (h0 : 0 < n) (h1 : n ≤ 1000) (w : World) (h : CuD D c w) (xs : Array Value) (hx : xs = (zs.map (Value.int .i64)).toArray) :
    Calls Try.prog 96 #[.pointer (some ⟨c, 0, none⟩), .slice (some ⟨w.heap.size, 0, none⟩) n n] (w.alloc (.cells xs 3)) (DrewD (fun x => x ∈ zs) D c w) := by
  have hcw : w.heap.size ≠ c := by have := h.lt; have := h.le; omega
  refine (pickC D c w.heap.size zs n hn h0 h1 hcw _ (Ints.new w zs xs hx) (h.alloc _)).mono fun _ _ ⟨x, p1, p2, p3, p4⟩ => ⟨x, p1, p2, p3, ((Only.refl c w).alloc _).trans p4⟩
end Go.Proofs.Ytijilhaoknpeeaa.Cur

namespace Go.Proofs.Ytijilhaoknpeeaa.Num
open Go.RowKit Rows3

/-- a struct's six cells, stored. -/
def fill (w : World) (b : Nat) (d0 d1 d2 d3 d4 d5 : Value) : World := (((((w.setCell ⟨b, 0, none⟩ d0).setCell ⟨b, 1, none⟩ d1).setCell ⟨b, 2, none⟩ d2).setCell ⟨b, 3, none⟩ d3).setCell ⟨b, 4, none⟩ d4).setCell ⟨b, 5, none⟩ d5
theorem blk_set {T : TypeId} {b : Nat} {c0 c1 c2 c3 c4 c5 : Value} {w : World} (h : Blk T b c0 c1 c2 c3 c4 c5 w) (i : Nat) (u : Value) : (w.setCell ⟨b, i, none⟩ u).heap[b]? = some (.cells (#[c0, c1, c2, c3, c4, c5].set! i u) T) := by
  unfold Blk at h
  simp [World.setCell, Array.getElem?_modify, h]
theorem blk_fill {T : TypeId} {b : Nat} {c0 c1 c2 c3 c4 c5 : Value} {w : World} (h : Blk T b c0 c1 c2 c3 c4 c5 w) (d0 d1 d2 d3 d4 d5 : Value) : Blk T b d0 d1 d2 d3 d4 d5 (fill w b d0 d1 d2 d3 d4 d5) :=
  blk_set (c0 := d0) (c1 := d1) (c2 := d2) (c3 := d3) (c4 := d4) (c5 := c5) (blk_set (c0 := d0) (c1 := d1) (c2 := d2) (c3 := d3) (c4 := c4) (c5 := c5) (blk_set (c0 := d0) (c1 := d1) (c2 := d2) (c3 := c3) (c4 := c4) (c5 := c5) (blk_set (c0 := d0) (c1 := d1) (c2 := c2) (c3 := c3) (c4 := c4) (c5 := c5) (blk_set (c0 := d0) (c1 := c1) (c2 := c2) (c3 := c3) (c4 := c4) (c5 := c5) (blk_set h 0 d0) 1 d1) 2 d2) 3 d3) 4 d4) 5 d5
theorem below_fill {B : Nat} {a w : World} {b : Nat} (h : Below B a w) (hb : B ≤ b) (d0 d1 d2 d3 d4 d5 : Value) : Below B a (fill w b d0 d1 d2 d3 d4 d5) :=
  (((((h.setCell hb d0).setCell hb d1).setCell hb d2).setCell hb d3).setCell hb d4).setCell hb d5
theorem own_ne {T : TypeId} {B h : Nat} {v : Value} {l : List Int} {w : World} {c0 c1 c2 c3 c4 c5 : Value} (hT : T ≠ 3) (ho : OwnI B v l w) (hb : Blk T h c0 c1 c2 c3 c4 c5 w) : v.ownBlock ≠ some h := by
  rcases ho.2 with ⟨rfl, _⟩ | ⟨g, cap, cur, rfl, _, hg, _⟩
  · intro e; cases e
  · intro e
    obtain rfl : g = h := by injection e
    unfold Blk at hb
    rw [hg] at hb
    injection hb with h1
    injection h1 with _ h2
    exact hT h2.symm
theorem blk_same {T : TypeId} {h : Nat} {c0 c1 c2 c3 c4 c5 : Value} {w w' : World} (hb : Blk T h c0 c1 c2 c3 c4 c5 w) (hs : w'.heap[h]? = w.heap[h]?) : Blk T h c0 c1 c2 c3 c4 c5 w' := by unfold Blk at hb ⊢; rw [hs]; exact hb
theorem own_set_ne {B : Nat} {v : Value} {l : List Int} {w : World} (h : OwnI B v l w) {a : Addr} (ha : v.ownBlock ≠ some a.block) (u : Value) : OwnI B v l (w.setCell a u) := by
  obtain ⟨h1, h2⟩ := h
  refine ⟨h1, ?_⟩
  rcases h2 with h2 | ⟨g, cp, cur, rfl, hb, hg, rest⟩
  · exact .inl h2
  · exact .inr ⟨g, cp, cur, rfl, hb, by rw [Below.heap_setCell w a u g (fun e => ha (by rw [← e]; rfl))]; exact hg, rest⟩
theorem fill_low {B : Nat} {v : Value} {l : List Int} {w : World} {b : Nat} (h : OwnI B v l w) (hb : b < B) (d0 d1 d2 d3 d4 d5 : Value) : OwnI B v l (fill w b d0 d1 d2 d3 d4 d5) :=
  setBelow (setBelow (setBelow (setBelow (setBelow (setBelow h hb d0) hb d1) hb d2) hb d3) hb d4) hb d5
end Go.Proofs.Ytijilhaoknpeeaa.Num

namespace Go.Proofs.Ytijilhaoknpeeaa.Fresh
open Go Go.RowKit

variable {P : Program} {ops : Array Oper} {md : Region.Mode} {C : World → Prop} {R : Nat → World → World → Prop} {p : Nat} {I : World → Prop}

/-- what is known of a value that an operation leaves: of itself; in the world. -/
structure Fr where
  sh : Value → Prop
  ph : Value → World → Prop

/-- an operation that enters no function. -/
def noEnter (o : Oper) : Bool := match o.op with
  | .call c => match c.callee with | .builtin .len => true | _ => false
  | .move _ | .assign _ | .pick _ _ _ | .load _ _ | .binOp _ _ _ _ _ | .unOp _ _ _ | .convert _ _ _ | .fieldAddr _ _ _ | .field _ _ _ | .indexAddr _ _ _ | .index _ _ _ | .extract _ _ | .slice _ _ _ _ _ | .build _ _ => true
  | _ => false
/-- an operation that enters no function, carried out in the world w, yields v, and the world is as it was. -/
def plainUpon (w : World) (v : Value) : Result Next → Prop
  | .ok (.value u) w' => w' = w ∧ u = v
  | .ok .skip w' => w' = w ∧ v = undef
  | _ => False
def freshUpon (P : Program) (S : Value → World → Prop) : Result Next → Prop
  | .ok (.value u) w' => S u w'
  | .ok .skip w' => S undef w'
  | .ok (.enter f args) w' => Calls P f args w' (fun e w'' => ∃ v, e = .returned v ∧ S v w'')
  | _ => False
def After (C : World → Prop) (R : World → World → Prop) (fr : Fr) (w : World) (v : Value) (w' : World) : Prop := fr.sh v ∧ fr.ph v w' ∧ R w w' ∧ C w'

/-- the operations that i waits for, and those that they wait for. -/
def reach (md : Region.Mode) (ops : Array Oper) : Nat → Nat → List Nat
  | 0, _ => []
  | n + 1, i => match ops[i]? with
    | none => []
    | some o => (o.after.toList.filter (Region.binds md)).flatMap fun e => e.on :: reach md ops n e.on
def dep (md : Region.Mode) (ops : Array Oper) (i k : Nat) : Bool := decide (k < i) && (reach md ops ops.size i).contains k

def upd (F : Nat → World → Prop) (i : Nat) (p : World → Prop) : Nat → World → Prop := fun k w => if k = i then p w else F k w
theorem upd_comm {F : Nat → World → Prop} {i k : Nat} {p q : World → Prop} (h : i ≠ k) : upd (upd F i p) k q = upd (upd F k q) i p := by
  funext j w; unfold upd
  by_cases h1 : j = k
  · subst h1; simp [Ne.symm h]
  · by_cases h2 : j = i
    · subst h2; simp [h]
    · simp [h1, h2]

/-- the walk in the text's order. -/
def wpF (P : Program) (md : Region.Mode) (ops : Array Oper) (C : World → Prop) (R : Nat → World → World → Prop) (Φ : Nat → Option Fr) (p : Nat) (I : World → Prop) (Q : Act → World → Prop) : List (Nat × Oper) → Act → (Nat → World → Prop) → Prop
  | [], a, F => ∀ w, C w → (∀ k, F k w) → Q a w
  | (i, o) :: rest, a, F =>
    if Region.wanted o (yielded ops a.tmps) then
      match Φ i with
      | none => noEnter o = true ∧ o.quiet P a C (fun a' => wpF P md ops C R Φ p I Q rest a' F)
      | some fr => (∀ w, C w → (i = p → I w) → (∀ k, dep md ops i k = true → F k w) → freshUpon P (After C (R i) fr w) ((execOp a.eval o).run P w)) ∧ (∃ v, fr.sh v) ∧
          ∀ v, fr.sh v → wpF P md ops C R Φ p I Q rest (a.put o.dst v) (upd F i (fr.ph v))
    else wpF P md ops C R Φ p I Q rest (a.put o.dst undef) F

theorem andThen_no {α : Type} (r : Result α) (g : α → Value) (f : FuncId) (args : Array Value) (w' : World) : (r.andThen fun a w'' => .ok (Next.value (g a)) w'') ≠ .ok (Next.enter f args) w' := by
  cases r <;> simp [Result.andThen]
theorem no_enter_run {o : Oper} (h : noEnter o = true) (ρ : Operand → Value) (w : World) (f : FuncId) (args : Array Value) (w' : World) : (execOp ρ o).run P w ≠ .ok (.enter f args) w' := by
  unfold noEnter at h
  unfold execOp
  intro he
  split at h
  · rename_i c hc
    split at h
    · rename_i hb
      rw [hc] at he
      simp only [resolve, hb, Sem.run_bind, Sem.run_pure, Result.andThen_ok, invoke, builtin] at he
      exact andThen_no _ _ _ _ _ he
    · cases h
  all_goals first
    | (rename_i hc; rw [hc] at he; simp only [Sem.run_bind, Sem.run_pure] at he; first | exact andThen_no _ _ _ _ _ he | cases he)
    | cases h
/-- what a plain operation yields is one thing. -/
theorem quietAt_one {o : Oper} {a : Act} {w : World} {v v' : Value} (hn : noEnter o = true) (h : o.quietAt P a C w v) (h' : o.quietAt P a C w v') : v = v' := by
  unfold Oper.quietAt at h h'
  have hne := no_enter_run (P := P) hn a.eval w
  generalize (execOp a.eval o).run P w = r at h h' hne
  cases r with
  | ok n w' =>
    cases n <;> simp only [Oper.quietUpon] at h h'
    case value u => rw [← h.2, ← h'.2]
    case skip => rw [h.2, h'.2]
    case enter f args => exact absurd rfl (hne f args w')
  | halt x w' => simp only [Oper.quietUpon] at h

/-- two operations of which neither waits for the other have nothing to do with each other. -/
def apartB (md : Region.Mode) (ops : Array Oper) : Bool := (List.range ops.size).all fun k => (List.range ops.size).all fun j => decide (j ≤ k) || match ops[k]?, ops[j]? with
  | some ok, some oj => (oj.after.any fun e => Region.binds md e && decide (e.on = k)) || ok.apart ops oj
  | _, _ => true
/-- each waits for earlier ones alone. -/
def downB (ops : Array Oper) : Bool := (List.range ops.size).all fun i => match ops[i]? with
  | some o => o.after.all fun e => decide (e.on < i)
  | none => true
theorem apart_at {k j : Nat} {ok oj : Oper} (h : apartB md ops = true) (hkj : k < j) (hk : ops[k]? = some ok) (hj : ops[j]? = some oj) (hw : ∀ e ∈ oj.after, Region.binds md e = true → e.on ≠ k) : ok.apart ops oj = true := by
  have hks := (Array.getElem?_eq_some_iff.1 hk).1
  have hjs := (Array.getElem?_eq_some_iff.1 hj).1
  have h1 := List.all_eq_true.1 (List.all_eq_true.1 h k (List.mem_range.2 hks)) j (List.mem_range.2 hjs)
  rw [hk, hj] at h1
  simp only [Bool.or_eq_true, decide_eq_true_eq] at h1
  rcases h1 with h1 | h1 | h1
  · omega
  · rw [Array.any_eq_true'] at h1
    obtain ⟨e, he, h2⟩ := h1
    simp only [Bool.and_eq_true, decide_eq_true_eq] at h2
    exact absurd h2.2 (hw e he h2.1)
  · exact h1
theorem down_at {i : Nat} {o : Oper} (h : downB ops = true) (ho : ops[i]? = some o) : ∀ e ∈ o.after, e.on < i := by
  intro e he
  have hi := (Array.getElem?_eq_some_iff.1 ho).1
  have h1 := List.all_eq_true.1 h i (List.mem_range.2 hi)
  rw [ho] at h1
  exact of_decide_eq_true (Array.all_eq_true'.1 h1 e he)
def Closed (md : Region.Mode) (ops : Array Oper) (listed : Array Bool) : Prop := ∀ j oj, ops[j]? = some oj → listed.getD j false = true → ∀ e ∈ oj.after, Region.binds md e = true → listed.getD e.on false = true
theorem reach_listed {listed : Array Bool} (hc : Closed md ops listed) : ∀ (n i : Nat), (∀ o, ops[i]? = some o → ∀ e ∈ o.after, Region.binds md e = true → listed.getD e.on false = true) → ∀ k ∈ reach md ops n i, listed.getD k false = true := by
  intro n
  induction n with
  | zero => intro i _ k hk; simp [reach] at hk
  | succ n ih =>
    intro i hi k hk
    unfold reach at hk
    cases ho : ops[i]? with
    | none => rw [ho] at hk; simp at hk
    | some o =>
      rw [ho] at hk
      simp only [List.mem_flatMap, List.mem_filter, List.mem_cons] at hk
      obtain ⟨e, ⟨he, hb⟩, hk⟩ := hk
      have h1 := hi o ho e (Array.mem_toList_iff.1 he) hb
      rcases hk with rfl | hk
      · exact h1
      · exact ih e.on (fun oj hj => hc e.on oj hj h1) k hk

theorem dep_lt {i k : Nat} (h : dep md ops i k = true) : k < i := by
  unfold dep at h; rw [Bool.and_eq_true, decide_eq_true_iff] at h; exact h.1
def Took (P : Program) (md : Region.Mode) (ops : Array Oper) (C : World → Prop) (R : Nat → World → World → Prop) (Φ : Nat → Option Fr) (p : Nat) (I : World → Prop) (Q : Act → World → Prop) (i : Nat) (o : Oper) (l : List (Nat × Oper)) (a : Act) (F : Nat → World → Prop) (w : World) : Prop :=
  (Region.wanted o (yielded ops a.tmps) = true ∧ Φ i = none ∧ ∃ v, noEnter o = true ∧ o.quietAt P a C w v ∧ wpF P md ops C R Φ p I Q l (a.put o.dst v) F) ∨
  (Region.wanted o (yielded ops a.tmps) = true ∧ ∃ fr, Φ i = some fr ∧ freshUpon P (After C (R i) fr w) ((execOp a.eval o).run P w) ∧ ∀ v, fr.sh v → wpF P md ops C R Φ p I Q l (a.put o.dst v) (upd F i (fr.ph v))) ∨
  (Region.wanted o (yielded ops a.tmps) = false ∧ wpF P md ops C R Φ p I Q l (a.put o.dst undef) F)

/-- One operation, taken ahead of those before it that it does not wait for. -/
theorem wpF_take {Φ : Nat → Option Fr} {Q : Act → World → Prop} (hsel : ∀ (j : Nat) (o : Oper) cs b, ops[j]? = some o → o.op ≠ .select cs b) {i : Nat} {o : Oper} (hi : ops[i]? = some o) (l2 : List (Nat × Oper)) :
    ∀ (l1 : List (Nat × Oper)) (a : Act) (F : Nat → World → Prop), (∀ x ∈ l1, ops[x.1]? = some x.2 ∧ x.2.apart ops o = true ∧ x.1 < i ∧ dep md ops i x.1 = false) →
      wpF P md ops C R Φ p I Q (l1 ++ (i, o) :: l2) a F → ∀ w, C w → (i = p → I w) → (∀ k, dep md ops i k = true → F k w) → Took P md ops C R Φ p I Q i o (l1 ++ l2) a F w := by
  intro l1
  induction l1 with
  | nil =>
    intro a F _ h w hC hI hF
    simp only [List.nil_append] at h ⊢
    unfold wpF at h
    by_cases hw : Region.wanted o (yielded ops a.tmps) = true
    · rw [if_pos hw] at h
      cases hΦ : Φ i with
      | none =>
        rw [hΦ] at h
        obtain ⟨hn, v, hq, hK⟩ := h
        exact .inl ⟨hw, hΦ, v, hn, hq w hC, hK⟩
      | some fr =>
        rw [hΦ] at h
        obtain ⟨hcl, _, hK⟩ := h
        exact .inr (.inl ⟨hw, fr, hΦ, hcl w hC hI hF, hK⟩)
    · rw [if_neg hw] at h
      exact .inr (.inr ⟨by simpa using hw, h⟩)
  | cons pk l1 ih =>
    obtain ⟨k, ok⟩ := pk
    intro a F hl h w hC hI hF
    obtain ⟨hk, hap, hlt, hdep⟩ := hl (k, ok) (List.mem_cons_self ..)
    obtain ⟨h1, h2, h3⟩ := Oper.apart_spec hap
    have hsk := fun cs b => hsel k ok cs b hk
    have hso := fun cs b => hsel i o cs b hi
    have hl' := fun x hx => hl x (List.mem_cons_of_mem _ hx)
    have hwo : ∀ u, Region.wanted o (yielded ops (a.put ok.dst u).tmps) = Region.wanted o (yielded ops a.tmps) := fun u => wanted_put o a ok.dst u h1
    have hwk : ∀ u, Region.wanted ok (yielded ops (a.put o.dst u).tmps) = Region.wanted ok (yielded ops a.tmps) := fun u => wanted_put ok a o.dst u h3
    have heo : ∀ u, execOp (a.put ok.dst u).eval o = execOp a.eval o := fun u => execOp_put o hso a ok.dst u h1
    have hek : ∀ u, execOp (a.put o.dst u).eval ok = execOp a.eval ok := fun u => execOp_put ok hsk a o.dst u h3
    have hpc : ∀ v u, (a.put ok.dst v).put o.dst u = (a.put o.dst u).put ok.dst v := fun v u => Act.put_comm a v u h2
    have hqo : ∀ {u v}, o.quietAt P (a.put ok.dst u) C w v → o.quietAt P a C w v := fun {u v} hq => by
      unfold Oper.quietAt at hq ⊢; rw [heo u] at hq; exact hq
    simp only [List.cons_append] at h ⊢
    unfold wpF at h
    by_cases hw : Region.wanted ok (yielded ops a.tmps) = true
    · rw [if_pos hw] at h
      cases hΦ : Φ k with
      | none =>
        rw [hΦ] at h
        obtain ⟨hn, vk, hq, hK⟩ := h
        have hT := ih (a.put ok.dst vk) F hl' hK w hC hI hF
        have hB : ∀ u F', wpF P md ops C R Φ p I Q (l1 ++ l2) ((a.put ok.dst vk).put o.dst u) F' → wpF P md ops C R Φ p I Q ((k, ok) :: (l1 ++ l2)) (a.put o.dst u) F' := by
          intro u F' hh
          unfold wpF
          rw [hwk u, if_pos hw, hΦ]
          refine ⟨hn, vk, fun w' hc => ?_, by rw [← hpc]; exact hh⟩
          have := hq w' hc
          unfold Oper.quietAt at this ⊢
          rw [hek u]; exact this
        rcases hT with ⟨hwo', hn', v, ho, hqv, hr⟩ | ⟨hwo', fr, hfr, hcl, hr⟩ | ⟨hwo', hr⟩
        · exact .inl ⟨by rw [← hwo vk]; exact hwo', hn', v, ho, hqo hqv, hB v F hr⟩
        · exact .inr (.inl ⟨by rw [← hwo vk]; exact hwo', fr, hfr, by rw [← heo vk]; exact hcl, fun v hv => hB v _ (hr v hv)⟩)
        · exact .inr (.inr ⟨by rw [← hwo vk]; exact hwo', hB undef F hr⟩)
      | some fk =>
        rw [hΦ] at h
        obtain ⟨hcl, ⟨v0, hv0⟩, hK⟩ := h
        have hT : ∀ vk, fk.sh vk → Took P md ops C R Φ p I Q i o (l1 ++ l2) (a.put ok.dst vk) (upd F k (fk.ph vk)) w := fun vk hvk =>
          ih (a.put ok.dst vk) (upd F k (fk.ph vk)) hl' (hK vk hvk) w hC hI (fun k' hd => by
            have hne : k' ≠ k := by rintro rfl; rw [hdep] at hd; cases hd
            unfold upd; rw [if_neg hne]; exact hF k' hd)
        have hB : ∀ u F', (∀ k', dep md ops k k' = true → ∀ w', F' k' w' → F k' w') → (∀ vk, fk.sh vk → wpF P md ops C R Φ p I Q (l1 ++ l2) ((a.put ok.dst vk).put o.dst u) (upd F' k (fk.ph vk))) → wpF P md ops C R Φ p I Q ((k, ok) :: (l1 ++ l2)) (a.put o.dst u) F' := by
          intro u F' hFF hh
          unfold wpF
          rw [hwk u, if_pos hw, hΦ]
          refine ⟨fun w' hc hi' hf => ?_, ⟨v0, hv0⟩, fun vk hvk => by rw [← hpc]; exact hh vk hvk⟩
          rw [hek u]; exact hcl w' hc hi' (fun k' hd => hFF k' hd w' (hf k' hd))
        rcases hT v0 hv0 with ⟨hwo', hn', v, ho, hqv, hr⟩ | ⟨hwo', fr, hfr, hcl', hr⟩ | ⟨hwo', hr⟩
        · refine .inl ⟨by rw [← hwo v0]; exact hwo', hn', v, ho, hqo hqv, hB v F (fun _ _ _ h => h) (fun vk hvk => ?_)⟩
          rcases hT vk hvk with ⟨_, _, v', _, hqv', hr'⟩ | ⟨_, fr, hfr, _⟩ | ⟨hwf, _⟩
          · rw [quietAt_one ho (hqo hqv) (hqo hqv')]; exact hr'
          · rw [hn'] at hfr; cases hfr
          · rw [hwo] at hwf hwo'; rw [hwf] at hwo'; cases hwo'
        · refine .inr (.inl ⟨by rw [← hwo v0]; exact hwo', fr, hfr, by rw [← heo v0]; exact hcl', fun v hv => hB v _ (fun k' hd w' hf => ?_) (fun vk hvk => ?_)⟩)
          · have := dep_lt hd
            unfold upd at hf; rwa [if_neg (by omega)] at hf
          · rcases hT vk hvk with ⟨_, hn', _⟩ | ⟨_, fr', hfr', _, hr'⟩ | ⟨hwf, _⟩
            · rw [hn'] at hfr; cases hfr
            · rw [hfr] at hfr'; cases hfr'
              rw [upd_comm (by omega : i ≠ k)]; exact hr' v hv
            · rw [hwo] at hwf hwo'; rw [hwf] at hwo'; cases hwo'
        · refine .inr (.inr ⟨by rw [← hwo v0]; exact hwo', hB undef F (fun _ _ _ h => h) (fun vk hvk => ?_)⟩)
          rcases hT vk hvk with ⟨hwf, _⟩ | ⟨hwf, _⟩ | ⟨_, hr'⟩
          · rw [hwo] at hwf hwo'; rw [hwf] at hwo'; cases hwo'
          · rw [hwo] at hwf hwo'; rw [hwf] at hwo'; cases hwo'
          · exact hr'
    · rw [if_neg hw] at h
      have hT := ih (a.put ok.dst undef) F hl' h w hC hI hF
      have hB : ∀ u F', wpF P md ops C R Φ p I Q (l1 ++ l2) ((a.put ok.dst undef).put o.dst u) F' → wpF P md ops C R Φ p I Q ((k, ok) :: (l1 ++ l2)) (a.put o.dst u) F' := by
        intro u F' hh
        unfold wpF
        rw [hwk u, if_neg hw, ← hpc]; exact hh
      rcases hT with ⟨hwo', hn', v, ho, hqv, hr⟩ | ⟨hwo', fr, hfr, hcl, hr⟩ | ⟨hwo', hr⟩
      · exact .inl ⟨by rw [← hwo undef]; exact hwo', hn', v, ho, hqo hqv, hB v F hr⟩
      · exact .inr (.inl ⟨by rw [← hwo undef]; exact hwo', fr, hfr, by rw [← heo undef]; exact hcl, fun v hv => hB v _ (hr v hv)⟩)
      · exact .inr (.inr ⟨by rw [← hwo undef]; exact hwo', hB undef F hr⟩)

theorem wp_of_fresh {S : Value → World → Prop} {o : Oper} {a : Act} {w : World} {K : Act → World → Prop} {Q : Exit → Act → World → Prop} (h : freshUpon P S ((execOp a.eval o).run P w)) (hK : ∀ v w', S v w' → K (a.put o.dst v) w') : o.wp P a w K Q := by
  unfold Oper.wp
  generalize (execOp a.eval o).run P w = r at *
  cases r with
  | ok n w' =>
    cases n <;> simp only [freshUpon] at h <;> simp only [Oper.upon]
    case value u => exact hK _ _ h
    case skip => exact hK _ _ h
    case enter f args => exact h.mono fun e w'' ⟨v, he, hs⟩ => by subst he; exact hK _ _ hs
  | halt x w' => simp only [freshUpon] at h
theorem wp_of_quietAt {o : Oper} {a : Act} {w : World} {v : Value} {K : Act → World → Prop} {Q : Exit → Act → World → Prop} (hn : noEnter o = true) (h : o.quietAt P a C w v) (hK : K (a.put o.dst v) w) : o.wp P a w K Q := by
  have hne := no_enter_run (P := P) hn a.eval w
  unfold Oper.quietAt at h
  unfold Oper.wp
  generalize (execOp a.eval o).run P w = r at *
  cases r with
  | ok n w' =>
    cases n <;> simp only [Oper.quietUpon] at h <;> simp only [Oper.upon]
    case value u => obtain ⟨rfl, rfl⟩ := h; exact hK
    case skip => obtain ⟨rfl, rfl⟩ := h; exact hK
    case enter f args => exact absurd rfl (hne f args w')
  | halt x w' => simp only [Oper.quietUpon] at h
theorem getD_unset {listed : Array Bool} {i j : Nat} (h : (listed.setIfInBounds i true).getD j true = false) : listed.getD j true = false := by
  by_cases hj : i = j
  · subst hj
    rcases Nat.lt_or_ge i listed.size with h' | h'
    · simp [h'] at h
    · simp at h
  · rwa [getD_set_ne true hj] at h
theorem not_both {listed : Array Bool} {i : Nat} (h1 : listed.getD i true = false) (h2 : listed.getD i false = true) : False := by
  rcases Nat.lt_or_ge i listed.size with h' | h'
  · simp [h'] at h1 h2; rw [h1] at h2; cases h2
  · simp [Array.getElem?_eq_none h'] at h2
theorem wpAny_of_wpF {Φ : Nat → Option Fr} {Q : Act → World → Prop} {Q' : Exit → Act → World → Prop} (hsel : ∀ (j : Nat) (o : Oper) cs b, ops[j]? = some o → o.op ≠ .select cs b) (hap : apartB md ops = true) (hdn : downB ops = true)
    (hst : ∀ i k fr, Φ k = some fr → i ≠ k → dep md ops k i = false → ∀ v w w', R i w w' → fr.ph v w → fr.ph v w') (hsI : ∀ i w w', i ≠ p → R i w w' → I w → I w') (hQ : ∀ a w, Q a w → Q' .normal a w) :
    ∀ (fuel : Nat) (listed : Array Bool) (l : List (Nat × Oper)) (a : Act) (F : Nat → World → Prop) (w : World), listed.size = ops.size → Closed md ops listed → l.Pairwise (fun p q => p.1 < q.1) →
      (∀ j o, (j, o) ∈ l ↔ ops[j]? = some o ∧ listed.getD j true = false) → C w → (listed.getD p true = false → I w) → (∀ k, F k w) → (∀ k, (∀ w, F k w) ∨ (listed.getD k false = true ∧ ∃ fr v, Φ k = some fr ∧ F k = fr.ph v)) → l.length ≤ fuel → wpF P md ops C R Φ p I Q l a F → wpAny P md ops Q' fuel listed a w := by
  intro fuel
  have hempty : ∀ (listed : Array Bool) (l : List (Nat × Oper)), l.Pairwise (fun p q => p.1 < q.1) → (∀ j o, (j, o) ∈ l ↔ ops[j]? = some o ∧ listed.getD j true = false) → listed.size = ops.size → Region.ready md ops listed = [] → l = [] := by
    intro listed l hp hm hs hr
    cases l with
    | nil => rfl
    | cons p l =>
      obtain ⟨j, o⟩ := p
      obtain ⟨ho, hu⟩ := (hm j o).1 (List.mem_cons_self ..)
      have hj : j < ops.size := (Array.getElem?_eq_some_iff.1 ho).1
      have : j ∈ Region.ready md ops listed := mem_ready.2 ⟨hu, o, ho, fun e he _ => by
        have hlt := down_at hdn ho e he
        cases hl : listed.getD e.on false with
        | true => rfl
        | false =>
          exfalso
          have h1 : listed.getD e.on true = false := by
            have h3 : e.on < listed.size := by omega
            simp [h3] at hl ⊢; exact hl
          have h2 := (hm e.on ops[e.on]).2 ⟨by simp [show e.on < ops.size by omega], h1⟩
          rcases List.mem_cons.1 h2 with h2 | h2
          · cases h2; omega
          · have := (List.pairwise_cons.1 hp).1 _ h2
            simp only at this; omega⟩
      rw [hr] at this; cases this
  induction fuel with
  | zero =>
    intro listed l a F w hs hc hp hm hC hI hF hR hlen h
    obtain rfl : l = [] := List.eq_nil_of_length_eq_zero (by omega)
    refine ⟨?_, hQ _ _ (h w hC hF)⟩
    rw [List.eq_nil_iff_forall_not_mem]
    intro i hi
    obtain ⟨hu, o, ho, _⟩ := mem_ready.1 hi
    have := (hm i o).2 ⟨ho, hu⟩
    cases this
  | succ fuel ih =>
    intro listed l a F w hs hc hp hm hC hI hF hR hlen h
    refine ⟨fun hr => ?_, fun i hir => ?_⟩
    · obtain rfl := hempty listed l hp hm hs hr
      exact hQ _ _ (h w hC hF)
    · obtain ⟨hu, o, ho, haft⟩ := mem_ready.1 hir
      obtain ⟨l1, l2, rfl⟩ := List.append_of_mem ((hm i o).2 ⟨ho, hu⟩)
      have hi : i < ops.size := (Array.getElem?_eq_some_iff.1 ho).1
      have hl1 : ∀ p ∈ l1, p.1 < i := fun p hpm => (List.pairwise_append.1 hp).2.2 p hpm (i, o) (List.mem_cons_self ..)
      have hl2 : ∀ p ∈ l2, i < p.1 := fun p hpm => (List.pairwise_cons.1 (List.pairwise_append.1 hp).2.1).1 p hpm
      have hT := wpF_take hsel ho l2 l1 a F (fun p hpm => by
        obtain ⟨h1, h2⟩ := (hm p.1 p.2).1 (List.mem_append_left _ hpm)
        refine ⟨h1, apart_at hap (hl1 p hpm) h1 ho (fun e he hb heq => ?_), hl1 p hpm, ?_⟩
        · have := haft e he hb
          rw [heq] at this
          exact not_both h2 this
        · cases hd : dep md ops i p.1 with
          | false => rfl
          | true =>
            exfalso
            unfold dep at hd
            rw [Bool.and_eq_true] at hd
            have hk : p.1 ∈ reach md ops ops.size i := by simpa using hd.2
            exact not_both h2 (reach_listed hc _ i (fun o' ho' e he hb => by rw [ho] at ho'; cases ho'; exact haft e he hb) _ hk)) h w hC (fun e => hI (by rw [← e]; exact hu)) (fun k _ => hF k)
      have hs' : (listed.setIfInBounds i true).size = ops.size := by simp [hs]
      have hc' : Closed md ops (listed.setIfInBounds i true) := by
        intro j oj hj hlj e he hb
        by_cases hji : i = j
        · subst hji
          rw [ho] at hj; cases hj
          exact getD_set_true (haft e he hb)
        · rw [getD_set_ne false hji] at hlj
          exact getD_set_true (hc j oj hj hlj e he hb)
      have hp' : (l1 ++ l2).Pairwise (fun p q => p.1 < q.1) := by
        have h1 := List.pairwise_append.1 hp
        exact List.pairwise_append.2 ⟨h1.1, (List.pairwise_cons.1 h1.2.1).2, fun x hx y hy => h1.2.2 x hx y (List.mem_cons_of_mem _ hy)⟩
      have hm' : ∀ j o', (j, o') ∈ l1 ++ l2 ↔ ops[j]? = some o' ∧ (listed.setIfInBounds i true).getD j true = false := by
        intro j o'
        constructor
        · intro hj
          have hne : i ≠ j := by
            rcases List.mem_append.1 hj with hj | hj
            · have := hl1 _ hj; simp only at this; omega
            · have := hl2 _ hj; simp only at this; omega
          rw [getD_set_ne true hne]
          refine (hm j o').1 ?_
          rcases List.mem_append.1 hj with hj | hj
          · exact List.mem_append_left _ hj
          · exact List.mem_append_right _ (List.mem_cons_of_mem _ hj)
        · rintro ⟨h1, h2⟩
          have hne : i ≠ j := by
            rintro rfl
            simp [hs, hi] at h2
          rw [getD_set_ne true hne] at h2
          have := (hm j o').2 ⟨h1, h2⟩
          rcases List.mem_append.1 this with h3 | h3
          · exact List.mem_append_left _ h3
          · rcases List.mem_cons.1 h3 with h3 | h3
            · cases h3; exact absurd rfl hne
            · exact List.mem_append_right _ h3
      have hlen' : (l1 ++ l2).length ≤ fuel := by simp at hlen ⊢; omega
      unfold wpOp
      rw [ho]
      rcases hT with ⟨hw, hn, v, hno, hq, hr⟩ | ⟨hw, fr, hfr, hcl, hr⟩ | ⟨hw, hr⟩
      · simp only [hw, if_true]
        exact .inl (wp_of_quietAt hno hq (ih _ _ _ F w hs' hc' hp' hm' hC (fun hpu => hI (getD_unset hpu)) hF (fun k => (hR k).imp id fun ⟨hkl, h⟩ => ⟨getD_set_true hkl, h⟩) hlen' hr))
      · simp only [hw, if_true]
        refine .inl (wp_of_fresh hcl (fun v w' hv => ?_))
        obtain ⟨h1, h2, h3, h4⟩ := hv
        refine ih _ _ _ (upd F i (fr.ph v)) w' hs' hc' hp' hm' h4 (fun hpu => ?_) (fun k => ?_) (fun k => ?_) hlen' (hr v h1)
        · have hip : i ≠ p := by
            rintro rfl
            simp [hs, hi] at hpu
          exact hsI i w w' hip h3 (hI (getD_unset hpu))
        · unfold upd; split
          · exact h2
          · rename_i hki
            rcases hR k with hk | ⟨hkl, fk, vk, hfk, hFk⟩
            · exact hk w'
            · have hd : dep md ops k i = false := by
                cases hd : dep md ops k i with
                | false => rfl
                | true =>
                  exfalso
                  unfold dep at hd
                  rw [Bool.and_eq_true] at hd
                  have hk : i ∈ reach md ops ops.size k := by simpa using hd.2
                  exact not_both hu (reach_listed hc _ k (fun o' ho' e he hb => hc k o' ho' hkl e he hb) _ hk)
              rw [hFk]
              exact hst i k fk hfk (fun e => hki e.symm) hd vk w w' h3 (by rw [← hFk]; exact hF k)
        · unfold upd
          by_cases hki : k = i
          · subst hki
            exact .inr ⟨by simp [hs, hi], fr, v, hfr, by funext w1; simp⟩
          · simp only [hki, if_false]
            rcases hR k with hk | ⟨hkl, fk, vk, hfk, hFk⟩
            · exact .inl hk
            · exact .inr ⟨getD_set_true hkl, fk, vk, hfk, hFk⟩
      · simp only [hw]
        exact ih _ _ _ F w hs' hc' hp' hm' hC (fun hpu => hI (getD_unset hpu)) hF (fun k => (hR k).imp id fun ⟨hkl, h⟩ => ⟨getD_set_true hkl, h⟩) hlen' hr
/-- the operations with their numbers. -/
def numbered (n : Nat) : List Oper → List (Nat × Oper)
  | [] => []
  | o :: l => (n, o) :: numbered (n + 1) l
theorem mem_numbered {l : List Oper} : ∀ {n j : Nat} {o : Oper}, (j, o) ∈ numbered n l ↔ n ≤ j ∧ l[j - n]? = some o := by
  induction l with
  | nil => intro n j o; simp [numbered]
  | cons x l ih =>
    intro n j o
    unfold numbered
    rw [List.mem_cons, ih]
    by_cases h : j = n
    · subst h
      rw [Nat.sub_self, List.getElem?_cons_zero]
      constructor
      · rintro (h | ⟨h, _⟩)
        · cases h; exact ⟨Nat.le_refl _, rfl⟩
        · omega
      · rintro ⟨_, h⟩; cases h; exact .inl rfl
    · constructor
      · rintro (h1 | ⟨h1, h2⟩)
        · cases h1; exact absurd rfl h
        · refine ⟨by omega, ?_⟩
          rw [show j - n = (j - (n + 1)) + 1 by omega, List.getElem?_cons_succ]; exact h2
      · rintro ⟨h1, h2⟩
        right
        rw [show j - n = (j - (n + 1)) + 1 by omega, List.getElem?_cons_succ] at h2
        exact ⟨by omega, h2⟩
theorem numbered_pairwise (l : List Oper) : ∀ n, (numbered n l).Pairwise (fun p q => p.1 < q.1) := by
  induction l with
  | nil => intro n; exact List.Pairwise.nil
  | cons x l ih =>
    intro n
    unfold numbered
    refine List.pairwise_cons.2 ⟨fun p hp => ?_, ih (n + 1)⟩
    obtain ⟨j, o⟩ := p
    have := (mem_numbered.1 hp).1
    simp only; omega
theorem numbered_length (l : List Oper) : ∀ n, (numbered n l).length = l.length := by
  induction l with
  | nil => intro n; rfl
  | cons x l ih => intro n; simp [numbered, ih]

/-- ONE WALK OF THE TEXT'S ORDER SERVES EVERY ORDER. C: what holds of the world throughout; R: how an operation may turn it; Φ: what the operations leave of which not all is known. -/
theorem wp_region_fresh {id : Nat} {Q : Exit → Act → World → Prop} {a : Act} {w : World} {l : List Oper} (C : World → Prop) (R : Nat → World → World → Prop) (Φ : Nat → Option Fr) (p : Nat) (I : World → Prop) (hm : P.follows .mixedOrders = true) (hsel : Region.noSelect l.toArray = true) (hap : apartB .any l.toArray = true) (hdn : downB l.toArray = true)
    (hst : ∀ i k fr, Φ k = some fr → i ≠ k → dep .any l.toArray k i = false → ∀ v w w', R i w w' → fr.ph v w → fr.ph v w') (hsI : ∀ i w w', i ≠ p → R i w w' → I w → I w') (hC : C w.drew) (hI : I w.drew)
    (h : wpF P .any l.toArray C R Φ p I (fun a' w' => Q .normal a' w') (numbered 0 l) a (fun _ _ => True)) : (Code.region id l.toArray true).wp P Q a w := by
  refine wp_region_any hm (wpAny_of_wpF (C := C) (R := R) (Φ := Φ) (p := p) (I := I) (Q := fun a' w' => Q .normal a' w') (Region.noSelect_spec hsel) hap hdn hst hsI (fun _ _ h => h) _ _ (numbered 0 l) a (fun _ _ => True) _ (by simp) ?_ (numbered_pairwise l 0) ?_ hC (fun _ => hI) (fun _ => trivial) (fun _ => .inl fun _ => trivial) (by rw [numbered_length]; simp) h)
  · intro j oj _ hl
    rw [getD_replicate_false] at hl; cases hl
  · intro j o
    rw [mem_numbered, Nat.sub_zero]
    have h1 : l.toArray[j]? = l[j]? := by simp
    rw [h1]
    constructor
    · rintro ⟨_, h⟩
      refine ⟨h, ?_⟩
      have := (List.getElem?_eq_some_iff.1 h).1
      simp [this]
    · rintro ⟨h, _⟩
      exact ⟨Nat.zero_le _, h⟩

section
variable {Φ : Nat → Option Fr} {Q : Act → World → Prop} {i : Nat} {o : Oper} {l : List Oper} {a : Act} {F : Nat → World → Prop}
theorem step_plain (hw : Region.wanted o (yielded ops a.tmps) = true) (hΦ : Φ i = none) (hn : noEnter o = true)
    (h : ∀ K : Act → Prop, (∀ a', wpF P md ops C R Φ p I Q (numbered (i + 1) l) a' F → K a') → o.quiet P a C K) : wpF P md ops C R Φ p I Q (numbered i (o :: l)) a F := by
  unfold numbered wpF
  rw [if_pos hw, hΦ]
  exact ⟨hn, h _ fun _ h => h⟩
theorem step_skip (hw : Region.wanted o (yielded ops a.tmps) = false) (h : wpF P md ops C R Φ p I Q (numbered (i + 1) l) (a.put o.dst undef) F) : wpF P md ops C R Φ p I Q (numbered i (o :: l)) a F := by
  unfold numbered wpF
  rw [if_neg (by rw [hw]; simp)]; exact h
theorem step_fresh (fr : Fr) (hw : Region.wanted o (yielded ops a.tmps) = true) (hΦ : Φ i = some fr)
    (hcl : ∀ w, C w → (∀ k, dep md ops i k = true → F k w) → freshUpon P (After C (R i) fr w) ((execOp a.eval o).run P w)) (hex : ∃ v, fr.sh v)
    (h : ∀ v, fr.sh v → wpF P md ops C R Φ p I Q (numbered (i + 1) l) (a.put o.dst v) (upd F i (fr.ph v))) : wpF P md ops C R Φ p I Q (numbered i (o :: l)) a F := by
  unfold numbered wpF
  rw [if_pos hw, hΦ]
  exact ⟨fun w hC _ => hcl w hC, hex, h⟩
theorem step_once (fr : Fr) (hip : i = p) (hw : Region.wanted o (yielded ops a.tmps) = true) (hΦ : Φ i = some fr)
    (hcl : ∀ w, C w → I w → (∀ k, dep md ops i k = true → F k w) → freshUpon P (After C (R i) fr w) ((execOp a.eval o).run P w)) (hex : ∃ v, fr.sh v)
    (h : ∀ v, fr.sh v → wpF P md ops C R Φ p I Q (numbered (i + 1) l) (a.put o.dst v) (upd F i (fr.ph v))) : wpF P md ops C R Φ p I Q (numbered i (o :: l)) a F := by
  unfold numbered wpF
  rw [if_pos hw, hΦ]
  exact ⟨fun w hC hI => hcl w hC (hI hip), hex, h⟩
theorem step_end (h : ∀ w, C w → (∀ k, F k w) → Q a w) : wpF P md ops C R Φ p I Q (numbered i []) a F := h
end
/-- what is known behind a call whose world is one of the class. -/
def Cls (w : World) (w' : World) : Prop := ∃ p : Regrown, w' = Sort.grow (redrawn w p.d) p.os
theorem cls_of {w w' : World} (h : Below w.heap.size w w') : Cls w w' := regrown_of_below h
theorem below_of {w w' : World} (h : Cls w w') : Below w.heap.size w w' := by obtain ⟨p, rfl⟩ := h; exact below_regrown _ _ _
theorem enter_of {S : Value → World → Prop} {f : FuncId} {args : Array Value} {w : World} (h : Calls P f args w (fun e w'' => ∃ v, e = .returned v ∧ S v w'')) : freshUpon P S (.ok (.enter f args) w) := h
theorem value_of {S : Value → World → Prop} {v : Value} {w : World} (h : S v w) : freshUpon P S (.ok (.value v) w) := h
theorem fact_of {F : Nat → World → Prop} {i : Nat} {p : World → Prop} {w : World} (h : upd F i p i w) : p w := by unfold upd at h; rwa [if_pos rfl] at h
theorem fact_on {F : Nat → World → Prop} {i k : Nat} {p : World → Prop} {w : World} (h : upd F i p k w) (hne : k ≠ i) : F k w := by unfold upd at h; rwa [if_neg hne] at h
/-- a call that answers a Bool. -/
def frB (b : Bool) : Fr := ⟨fun v => v = .bool b, fun _ _ => True⟩
theorem frB_stable {b : Bool} {R : World → World → Prop} : ∀ v w w', R w w' → (frB b).ph v w → (frB b).ph v w' := fun _ _ _ _ h => h
/-- a call whose answer is known. -/
def frV (x : Value) : Fr := ⟨fun v => v = x, fun _ _ => True⟩
theorem frV_stable {x : Value} {R : World → World → Prop} : ∀ v w w', R w w' → (frV x).ph v w → (frV x).ph v w' := fun _ _ _ _ h => h
theorem frV_of {x : Value} {C : World → Prop} {R : World → World → Prop} {w w' : World} (hR : R w w') (hC : C w') : After C R (frV x) w x w' := ⟨rfl, trivial, hR, hC⟩
theorem call_frV {x : Value} {f : FuncId} {args : Array Value} {w0 w : World} (hC : ∃ p : Regrown, w = Sort.grow (redrawn w0 p.d) p.os) (h : Calls P f args w fun e w' => e = .returned x ∧ Below w.heap.size w w') :
    freshUpon P (After (fun w' => ∃ p : Regrown, w' = Sort.grow (redrawn w0 p.d) p.os) (fun w' w'' => Below w'.heap.size w' w'') (frV x) w) (.ok (.enter f args) w) :=
  h.mono fun _ _ ⟨he, hb⟩ => ⟨x, he, frV_of hb (cls_of ((below_of hC).trans (hb.mono (below_of hC).size)))⟩

/-- the last operation waits for all others. -/
def lastB (md : Region.Mode) (ops : Array Oper) (n : Nat) : Bool := (List.range n).all fun i => (reach md ops ops.size n).contains i
theorem wpAny_tail {Φ : Nat → Option Fr} {Q : Act → World → Prop} {Q' : Exit → Act → World → Prop} {n : Nat} {ol : Oper} (hn : ops.size = n + 1) (hol : ops[n]? = some ol) (hlast : lastB md ops n = true) (hgl : ol.guard = none) (hsel : ∀ (j : Nat) (o : Oper) cs b, ops[j]? = some o → o.op ≠ .select cs b) (hap : apartB md ops = true) (hdn : downB ops = true)
    (hst : ∀ i k fr, Φ k = some fr → i ≠ k → dep md ops k i = false → ∀ v w w', R i w w' → fr.ph v w → fr.ph v w') (hsI : ∀ i w w', i ≠ p → R i w w' → I w → I w') (hQ : ∀ a w, Q a w → ol.wp P a w (fun a' w' => Q' .normal a' w') Q') :
    ∀ (fuel : Nat) (listed : Array Bool) (l : List (Nat × Oper)) (a : Act) (F : Nat → World → Prop) (w : World), listed.size = ops.size → listed.getD n true = false → Closed md ops listed → l.Pairwise (fun p q => p.1 < q.1) →
      (∀ j o, (j, o) ∈ l ↔ j < n ∧ ops[j]? = some o ∧ listed.getD j true = false) → C w → (listed.getD p true = false → I w) → (∀ k, F k w) → (∀ k, (∀ w, F k w) ∨ (listed.getD k false = true ∧ ∃ fr v, Φ k = some fr ∧ F k = fr.ph v)) → l.length + 1 ≤ fuel → wpF P md ops C R Φ p I Q l a F → wpAny P md ops Q' fuel listed a w := by
  intro fuel
  have hreadyhead : ∀ (listed : Array Bool) (x : Nat × Oper) (l : List (Nat × Oper)), (x :: l).Pairwise (fun p q => p.1 < q.1) → (∀ j o, (j, o) ∈ x :: l ↔ j < n ∧ ops[j]? = some o ∧ listed.getD j true = false) → listed.size = ops.size → x.1 ∈ Region.ready md ops listed := by
    intro listed x l hp hm hs
    obtain ⟨j, o⟩ := x
    obtain ⟨hjn, ho, hu⟩ := (hm j o).1 (List.mem_cons_self ..)
    exact mem_ready.2 ⟨hu, o, ho, fun e he _ => by
      have hlt := down_at hdn ho e he
      cases hl : listed.getD e.on false with
      | true => rfl
      | false =>
        exfalso
        have h1 : listed.getD e.on true = false := by
          have h3 : e.on < listed.size := by omega
          simp [h3] at hl ⊢; exact hl
        have h2 := (hm e.on ops[e.on]).2 ⟨by omega, by simp [show e.on < ops.size by omega], h1⟩
        rcases List.mem_cons.1 h2 with h2 | h2
        · cases h2; omega
        · have := (List.pairwise_cons.1 hp).1 _ h2
          simp only at this; omega⟩
  have hlastready : ∀ (listed : Array Bool), Closed md ops listed → n ∈ Region.ready md ops listed → ∀ j, j < n → listed.getD j false = true := by
    intro listed hc hr j hj
    obtain ⟨_, o, ho, haft⟩ := mem_ready.1 hr
    have h1 := List.all_eq_true.1 hlast j (List.mem_range.2 hj)
    exact reach_listed hc _ n (fun o' ho' e he hb => by rw [ho] at ho'; cases ho'; exact haft e he hb) j (by simpa using h1)
  induction fuel with
  | zero => intro listed l a F w _ _ _ _ _ _ _ _ hlen; omega
  | succ fuel ih =>
    intro listed l a F w hs hu0 hc hp hm hC hI hF hR hlen h
    refine ⟨fun hr => ?_, fun i hir => ?_⟩
    · exfalso
      cases l with
      | cons p l =>
        have := hreadyhead listed p l hp hm hs
        rw [hr] at this; cases this
      | nil =>
        have : n ∈ Region.ready md ops listed := mem_ready.2 ⟨hu0, ol, hol, fun e he _ => by
          have hlt := down_at hdn hol e he
          cases hl : listed.getD e.on false with
          | true => rfl
          | false =>
            exfalso
            have h1 : listed.getD e.on true = false := by
              have h3 : e.on < listed.size := by omega
              simp [h3] at hl ⊢; exact hl
            have h2 := (hm e.on ops[e.on]).2 ⟨hlt, by simp [show e.on < ops.size by omega], h1⟩
            cases h2⟩
        rw [hr] at this; cases this
    · obtain ⟨hu, o, ho, haft⟩ := mem_ready.1 hir
      have hi : i < ops.size := (Array.getElem?_eq_some_iff.1 ho).1
      by_cases hin : i = n
      · subst hin
        rw [hol] at ho; cases ho
        have hall := hlastready listed hc hir
        obtain rfl : l = [] := by
          cases l with
          | nil => rfl
          | cons p l =>
            obtain ⟨j, oj⟩ := p
            obtain ⟨h1, _, h3⟩ := (hm j oj).1 (List.mem_cons_self ..)
            exact absurd (hall j h1) (fun h => not_both h3 h)
        unfold wpOp
        rw [hol]
        simp only [Region.wanted, hgl, if_true]
        refine .inl (Oper.wp_mono (fun a' w' hq => ?_) (hQ _ _ (h w hC hF)))
        have hno : Region.ready md ops (listed.setIfInBounds i true) = [] := by
          rw [List.eq_nil_iff_forall_not_mem]
          intro j hj
          obtain ⟨hju, oj, hoj, _⟩ := mem_ready.1 hj
          have hjs : j < ops.size := (Array.getElem?_eq_some_iff.1 hoj).1
          by_cases hji : i = j
          · subst hji; simp [hs, hi] at hju
          · rw [getD_set_ne true hji] at hju
            exact not_both hju (hall j (by omega))
        cases fuel with
        | zero => exact ⟨hno, hq⟩
        | succ f => exact ⟨fun _ => hq, fun j hj => by rw [hno] at hj; cases hj⟩
      · have hin' : i < n := by omega
        obtain ⟨l1, l2, rfl⟩ := List.append_of_mem ((hm i o).2 ⟨hin', ho, hu⟩)
        have hl1 : ∀ p ∈ l1, p.1 < i := fun p hpm => (List.pairwise_append.1 hp).2.2 p hpm (i, o) (List.mem_cons_self ..)
        have hl2 : ∀ p ∈ l2, i < p.1 := fun p hpm => (List.pairwise_cons.1 (List.pairwise_append.1 hp).2.1).1 p hpm
        have hT := wpF_take hsel ho l2 l1 a F (fun p hpm => by
          obtain ⟨_, h1, h2⟩ := (hm p.1 p.2).1 (List.mem_append_left _ hpm)
          refine ⟨h1, apart_at hap (hl1 p hpm) h1 ho (fun e he hb heq => ?_), hl1 p hpm, ?_⟩
          · have := haft e he hb
            rw [heq] at this
            exact not_both h2 this
          · cases hd : dep md ops i p.1 with
            | false => rfl
            | true =>
              exfalso
              unfold dep at hd
              rw [Bool.and_eq_true] at hd
              have hk : p.1 ∈ reach md ops ops.size i := by simpa using hd.2
              exact not_both h2 (reach_listed hc _ i (fun o' ho' e he hb => by rw [ho] at ho'; cases ho'; exact haft e he hb) _ hk)) h w hC (fun e => hI (by rw [← e]; exact hu)) (fun k _ => hF k)
        have hs' : (listed.setIfInBounds i true).size = ops.size := by simp [hs]
        have hu0' : (listed.setIfInBounds i true).getD n true = false := by rw [getD_set_ne true hin]; exact hu0
        have hc' : Closed md ops (listed.setIfInBounds i true) := by
          intro j oj hj hlj e he hb
          by_cases hji : i = j
          · subst hji
            rw [ho] at hj; cases hj
            exact getD_set_true (haft e he hb)
          · rw [getD_set_ne false hji] at hlj
            exact getD_set_true (hc j oj hj hlj e he hb)
        have hp' : (l1 ++ l2).Pairwise (fun p q => p.1 < q.1) := by
          have h1 := List.pairwise_append.1 hp
          exact List.pairwise_append.2 ⟨h1.1, (List.pairwise_cons.1 h1.2.1).2, fun x hx y hy => h1.2.2 x hx y (List.mem_cons_of_mem _ hy)⟩
        have hm' : ∀ j o', (j, o') ∈ l1 ++ l2 ↔ j < n ∧ ops[j]? = some o' ∧ (listed.setIfInBounds i true).getD j true = false := by
          intro j o'
          constructor
          · intro hj
            have hne : i ≠ j := by
              rcases List.mem_append.1 hj with hj | hj
              · have := hl1 _ hj; simp only at this; omega
              · have := hl2 _ hj; simp only at this; omega
            rw [getD_set_ne true hne]
            refine (hm j o').1 ?_
            rcases List.mem_append.1 hj with hj | hj
            · exact List.mem_append_left _ hj
            · exact List.mem_append_right _ (List.mem_cons_of_mem _ hj)
          · rintro ⟨h0, h1, h2⟩
            have hne : i ≠ j := by
              rintro rfl
              simp [hs, hi] at h2
            rw [getD_set_ne true hne] at h2
            have := (hm j o').2 ⟨h0, h1, h2⟩
            rcases List.mem_append.1 this with h3 | h3
            · exact List.mem_append_left _ h3
            · rcases List.mem_cons.1 h3 with h3 | h3
              · cases h3; exact absurd rfl hne
              · exact List.mem_append_right _ h3
        have hlen' : (l1 ++ l2).length + 1 ≤ fuel := by simp at hlen ⊢; omega
        unfold wpOp
        rw [ho]
        rcases hT with ⟨hw, hn, v, hno, hq, hr⟩ | ⟨hw, fr, hfr, hcl, hr⟩ | ⟨hw, hr⟩
        · simp only [hw, if_true]
          exact .inl (wp_of_quietAt hno hq (ih _ _ _ F w hs' hu0' hc' hp' hm' hC (fun hpu => hI (getD_unset hpu)) hF (fun k => (hR k).imp id fun ⟨hkl, h⟩ => ⟨getD_set_true hkl, h⟩) hlen' hr))
        · simp only [hw, if_true]
          refine .inl (wp_of_fresh hcl (fun v w' hv => ?_))
          obtain ⟨h1, h2, h3, h4⟩ := hv
          refine ih _ _ _ (upd F i (fr.ph v)) w' hs' hu0' hc' hp' hm' h4 (fun hpu => ?_) (fun k => ?_) (fun k => ?_) hlen' (hr v h1)
          · have hip : i ≠ p := by
              rintro rfl
              simp [hs, hi] at hpu
            exact hsI i w w' hip h3 (hI (getD_unset hpu))
          · unfold upd; split
            · exact h2
            · rename_i hki
              rcases hR k with hk | ⟨hkl, fk, vk, hfk, hFk⟩
              · exact hk w'
              · have hd : dep md ops k i = false := by
                  cases hd : dep md ops k i with
                  | false => rfl
                  | true =>
                    exfalso
                    unfold dep at hd
                    rw [Bool.and_eq_true] at hd
                    have hk : i ∈ reach md ops ops.size k := by simpa using hd.2
                    exact not_both hu (reach_listed hc _ k (fun o' ho' e he hb => hc k o' ho' hkl e he hb) _ hk)
                rw [hFk]
                exact hst i k fk hfk (fun e => hki e.symm) hd vk w w' h3 (by rw [← hFk]; exact hF k)
          · unfold upd
            by_cases hki : k = i
            · subst hki
              exact .inr ⟨by simp [hs, hi], fr, v, hfr, by funext w1; simp⟩
            · simp only [hki, if_false]
              rcases hR k with hk | ⟨hkl, fk, vk, hfk, hFk⟩
              · exact .inl hk
              · exact .inr ⟨getD_set_true hkl, fk, vk, hfk, hFk⟩
        · simp only [hw]
          exact ih _ _ _ F w hs' hu0' hc' hp' hm' hC (fun hpu => hI (getD_unset hpu)) hF (fun k => (hR k).imp id fun ⟨hkl, h⟩ => ⟨getD_set_true hkl, h⟩) hlen' hr
/-- The same where the last operation, which waits for all others, may turn whatever it likes. -/
theorem wp_region_fresh_tail {id : Nat} {Q : Exit → Act → World → Prop} {a : Act} {w : World} {l : List Oper} {ol : Oper} (C : World → Prop) (R : Nat → World → World → Prop) (Φ : Nat → Option Fr) (p : Nat) (I : World → Prop) (hm : P.follows .mixedOrders = true) (hsel : Region.noSelect (l ++ [ol]).toArray = true) (hap : apartB .any (l ++ [ol]).toArray = true) (hdn : downB (l ++ [ol]).toArray = true)
    (hlast : lastB .any (l ++ [ol]).toArray l.length = true) (hgl : ol.guard = none)
    (hst : ∀ i k fr, Φ k = some fr → i ≠ k → dep .any (l ++ [ol]).toArray k i = false → ∀ v w w', R i w w' → fr.ph v w → fr.ph v w') (hsI : ∀ i w w', i ≠ p → R i w w' → I w → I w') (hC : C w.drew) (hI : I w.drew)
    (h : wpF P .any (l ++ [ol]).toArray C R Φ p I (fun a' w' => ol.wp P a' w' (fun a'' w'' => Q .normal a'' w'') Q) (numbered 0 l) a (fun _ _ => True)) : (Code.region id (l ++ [ol]).toArray true).wp P Q a w := by
  refine wp_region_any hm (wpAny_tail (C := C) (R := R) (Φ := Φ) (p := p) (I := I) (Q := fun a' w' => ol.wp P a' w' (fun a'' w'' => Q .normal a'' w'') Q) (n := l.length) (ol := ol) (by simp) (by simp) hlast hgl (Region.noSelect_spec hsel) hap hdn hst hsI (fun _ _ h => h) _ _ (numbered 0 l) a (fun _ _ => True) _ (by simp) (by simp) ?_ (numbered_pairwise l 0) ?_ hC (fun _ => hI) (fun _ => trivial) (fun _ => .inl fun _ => trivial) (by rw [numbered_length]; simp) h)
  · intro j oj _ hl
    rw [getD_replicate_false] at hl; cases hl
  · intro j o
    rw [mem_numbered, Nat.sub_zero]
    constructor
    · rintro ⟨_, h⟩
      have hj := (List.getElem?_eq_some_iff.1 h).1
      refine ⟨hj, ?_, ?_⟩
      · rw [List.getElem?_toArray, List.getElem?_append_left hj]; exact h
      · simp [show j < l.length + 1 by omega]
    · rintro ⟨hj, h, _⟩
      rw [List.getElem?_toArray, List.getElem?_append_left hj] at h
      exact ⟨Nat.zero_le _, h⟩
theorem wp_region_fresh_last {id : Nat} {Q : Exit → Act → World → Prop} {a : Act} {w : World} {L : List Oper} (C : World → Prop) (R : Nat → World → World → Prop) (Φ : Nat → Option Fr) (p : Nat) (I : World → Prop) (hne : L ≠ []) (hm : P.follows .mixedOrders = true) (hsel : Region.noSelect L.toArray = true) (hap : apartB .any L.toArray = true) (hdn : downB L.toArray = true)
    (hlast : lastB .any L.toArray (L.length - 1) = true) (hgl : (L.getLast hne).guard = none)
    (hst : ∀ i k fr, Φ k = some fr → i ≠ k → dep .any L.toArray k i = false → ∀ v w w', R i w w' → fr.ph v w → fr.ph v w') (hsI : ∀ i w w', i ≠ p → R i w w' → I w → I w') (hC : C w.drew) (hI : I w.drew)
    (h : wpF P .any L.toArray C R Φ p I (fun a' w' => (L.getLast hne).wp P a' w' (fun a'' w'' => Q .normal a'' w'') Q) (numbered 0 L.dropLast) a (fun _ _ => True)) : (Code.region id L.toArray true).wp P Q a w := by
  have e := List.dropLast_concat_getLast hne
  have hl : L.dropLast.length = L.length - 1 := List.length_dropLast
  have := wp_region_fresh_tail (P := P) (id := id) (Q := Q) (a := a) (w := w) (l := L.dropLast) (ol := L.getLast hne) C R Φ p I hm (by rw [e]; exact hsel) (by rw [e]; exact hap) (by rw [e]; exact hdn) (by rw [e, hl]; exact hlast) hgl (by rw [e]; exact hst) hsI hC hI (by rw [e]; exact h)
  rwa [e] at this
/-- a pointer to a block of its own, from B on. -/
def frP (B : Nat) (T : TypeId) (cs : Array Value) : Fr := ⟨fun v => ∃ b, v = .pointer (some ⟨b, 0, none⟩), fun v w => ∃ b, v = .pointer (some ⟨b, 0, none⟩) ∧ B ≤ b ∧ w.heap[b]? = some (.cells cs T)⟩
theorem frP_stable {B : Nat} {T : TypeId} {cs : Array Value} : ∀ v w w', Below w.heap.size w w' → (frP B T cs).ph v w → (frP B T cs).ph v w' := by
  rintro v w w' hb ⟨b, rfl, hB, h⟩
  exact ⟨b, rfl, hB, by rw [hb.block b (Array.getElem?_eq_some_iff.1 h).1]; exact h⟩
/-- a class of worlds, as simp likes it. -/
structure In (D : World → Prop) where
  w : World
  h : D w
def inC (D : World → Prop) : World → Prop := fun w => D w
theorem in_of {D : World → Prop} {w : World} (h : D w) : ∃ x : In D, w = x.w := ⟨⟨w, h⟩, rfl⟩
theorem of_in {D : World → Prop} {w : World} (h : ∃ x : In D, w = x.w) : D w := by obtain ⟨x, rfl⟩ := h; exact x.h
/-- The two region theorems without what holds till one operation alone. -/
theorem wp_fresh {id : Nat} {Q : Exit → Act → World → Prop} {a : Act} {w : World} {l : List Oper} (C : World → Prop) (R : Nat → World → World → Prop) (Φ : Nat → Option Fr) (hm : P.follows .mixedOrders = true) (hsel : Region.noSelect l.toArray = true) (hap : apartB .any l.toArray = true) (hdn : downB l.toArray = true)
    (hst : ∀ i k fr, Φ k = some fr → i ≠ k → dep .any l.toArray k i = false → ∀ v w w', R i w w' → fr.ph v w → fr.ph v w') (hC : C w.drew)
    (h : wpF P .any l.toArray C R Φ 0 (fun _ => True) (fun a' w' => Q .normal a' w') (numbered 0 l) a (fun _ _ => True)) : (Code.region id l.toArray true).wp P Q a w :=
  wp_region_fresh C R Φ 0 (fun _ => True) hm hsel hap hdn hst (fun _ _ _ _ _ _ => trivial) hC trivial h
theorem wp_fresh_last {id : Nat} {Q : Exit → Act → World → Prop} {a : Act} {w : World} {L : List Oper} (C : World → Prop) (R : Nat → World → World → Prop) (Φ : Nat → Option Fr) (hne : L ≠ []) (hm : P.follows .mixedOrders = true) (hsel : Region.noSelect L.toArray = true) (hap : apartB .any L.toArray = true) (hdn : downB L.toArray = true)
    (hlast : lastB .any L.toArray (L.length - 1) = true) (hgl : (L.getLast hne).guard = none)
    (hst : ∀ i k fr, Φ k = some fr → i ≠ k → dep .any L.toArray k i = false → ∀ v w w', R i w w' → fr.ph v w → fr.ph v w') (hC : C w.drew)
    (h : wpF P .any L.toArray C R Φ 0 (fun _ => True) (fun a' w' => (L.getLast hne).wp P a' w' (fun a'' w'' => Q .normal a'' w'') Q) (numbered 0 L.dropLast) a (fun _ _ => True)) : (Code.region id L.toArray true).wp P Q a w :=
  wp_region_fresh_last C R Φ 0 (fun _ => True) hne hm hsel hap hdn hlast hgl hst (fun _ _ _ _ _ _ => trivial) hC trivial h
end Go.Proofs.Ytijilhaoknpeeaa.Fresh
