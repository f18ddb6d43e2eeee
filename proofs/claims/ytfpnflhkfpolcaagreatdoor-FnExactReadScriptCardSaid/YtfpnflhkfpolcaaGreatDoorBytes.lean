
/-
  A row of bytes that a call has made for itself: a byte appended to it; the string that it becomes.
-/
import Derived.Test.YtfpnflhkfpolcaaGreatDoorProg
import Derived.WalkKit
import Derived.WalkSpells
import Derived.WalkLawsBesides
import Derived.Lib.Hide
import Derived.Lib.UnsafeStr
namespace Go.Proofs.YtfpnflhkfpolcaaGreatDoor.Bytes
open Go.RowKit

/-- v is a slice of bytes in a block of the call's own (from B on), holding l. -/
def OwnB (B : Nat) (v : Value) (l : List UInt8) (w : World) : Prop := w.ownsRow B 5 1 v l.length (Lib.byteCells l)

theorem u8_ofNat (x : Nat) (h : x < 256) : (x : Int) = ((UInt8.ofNat x).toNat : Int) := by
  simp [Nat.mod_eq_of_lt h]
theorem info_u8 : (Tryz.prog.info? 5).map (fun i => (i.zero, i.size, i.bytes)) = some (some (.int .u8 0), 1, 1) := by kernel_rfl

theorem OwnB.made (B : Nat) (w : World) (hB : B ≤ w.heap.size) : OwnB B (.slice (some ⟨w.heap.size, 0, none⟩) 0 0) [] (w.alloc (.cells #[] 5)) :=
  World.ownsRow_made w #[] 0 hB (Nat.zero_le _) rfl

theorem OwnB.one (B : Nat) (w : World) (hB : B ≤ w.heap.size) (c : Int) (b : UInt8) (hc : c = b.toNat) : OwnB B (.slice (some ⟨w.heap.size, 0, none⟩) 1 1) [b] (w.alloc (.cells #[.int .u8 c] 5)) := by
  subst hc
  exact ⟨rfl, .inr ⟨w.heap.size, 1, _, rfl, hB, heap_alloc_new w _, Nat.le_refl _, by decide, rfl, rfl⟩⟩

/-- append(out, c): the row grows by this byte; nothing below B changes. -/
theorem app {ops : Array Oper} {rest : List Oper} {o : Oper} {a : Act} {Q : Exit → Act → World → Prop} (hgd : o.guard = none) (s x : Operand)
    (ho : o.op = .call { callee := .builtin .append, args := #[s, x], argTypes := #[64, 64] })
    (B : Nat) (v : Value) (l : List UInt8) (w : World) (c : Int) (b : UInt8) (hs : a.eval s = v) (hx : a.eval x = .slice (some ⟨w.heap.size, 0, none⟩) 1 1)
    (hown : OwnB B v l w) (hc : c = b.toNat) (hB : B ≤ w.heap.size) (hl : l.length + 1 ≤ 140737488355328)
    (h : ∀ v' w', OwnB B v' (l ++ [b]) w' → Below B w w' → wpList Tryz.prog ops Q rest (a.put o.dst v') w') :
    wpList Tryz.prog ops Q (o :: rest) a (w.alloc (.cells #[.int .u8 c] 5)) := by
  obtain ⟨i, hi, hz, hsz, hby⟩ := info_parts info_u8
  subst hc
  refine wpList_append_own _ hgd s x 64 ho B 5 i (.int .u8 0) 1 1 Tryz.underlying64 hi hz hsz hby rfl (by decide) v l.length (Lib.byteCells l) hs (hown.alloc _) ⟨w.heap.size, 0, none⟩ 1 1 [.int .u8 b.toNat] hx rfl ?_ ?_ ?_ (by omega) (by simp; omega) ?_
  · exact cell_one_new w _ _
  · intro u hu; simp at hu; subst hu; rfl
  · unfold maxLen; omega
  · intro v' w' hown' hgr _
    refine h v' w' ?_ ?_
    · unfold OwnB; rw [Lib.byteCells_append, List.length_append]; exact hown'
    · exact (((Below.refl B w).alloc hB _)).grown hgr (by simp; omega) (fun k hk => (hown.lt k hk).1)

/-- append(out, c1, c2). -/
theorem wp_app2 {o : Oper} {a : Act} {K : Act → World → Prop} {Q : Exit → Act → World → Prop} (s x : Operand)
    (ho : o.op = .call { callee := .builtin .append, args := #[s, x], argTypes := #[64, 64] })
    (B : Nat) (v : Value) (l : List UInt8) (w : World) (c1 c2 : Int) (b1 b2 : UInt8) (hs : a.eval s = v) (hx : a.eval x = .slice (some ⟨w.heap.size, 0, none⟩) 2 2)
    (hown : OwnB B v l w) (hc1 : c1 = b1.toNat) (hc2 : c2 = b2.toNat) (hB : B ≤ w.heap.size) (hl : l.length + 2 ≤ 140737488355328)
    (h : ∀ v' w', OwnB B v' (l ++ [b1, b2]) w' → Below B w w' → K (a.put o.dst v') w') :
    o.wp Tryz.prog a (w.alloc (.cells #[.int .u8 c1, .int .u8 c2] 5)) K Q := by
  obtain ⟨i, hi, hz, hsz, hby⟩ := info_parts info_u8
  subst hc1; subst hc2
  refine wp_append_own _ s x 64 ho B 5 i (.int .u8 0) 1 1 Tryz.underlying64 hi hz hsz hby rfl (by decide) v l.length (Lib.byteCells l) hs (hown.alloc _) ⟨w.heap.size, 0, none⟩ 2 2 [.int .u8 b1.toNat, .int .u8 b2.toNat] hx rfl ?_ ?_ ?_ (by omega) (by simp; omega) ?_
  · intro j u hj
    have hadd : (⟨w.heap.size, 0, none⟩ : Addr).add j = ⟨w.heap.size, j, none⟩ := by unfold Addr.add; split <;> simp_all
    rw [hadd, cell_of_row _ w.heap.size j _ 5 (0, 0) (heap_alloc_new w _)]
    rw [← hj]; simp
  · intro u hu; simp at hu; rcases hu with rfl | rfl <;> rfl
  · unfold maxLen; omega
  · intro v' w' hown' hgr _
    refine h v' w' ?_ ?_
    · unfold OwnB; rw [Lib.byteCells_append, List.length_append]; exact hown'
    · exact (((Below.refl B w).alloc hB _)).grown hgr (by simp; omega) (fun k hk => (hown.lt k hk).1)

/-- an operation's step inside a region that draws its order. -/
theorem step_of {ops : Array Oper} {o : Oper} {a : Act} {w : World} {K : Act → World → Prop} {Q : Exit → Act → World → Prop} {E : Prop} (hg : o.guard = none) (h : o.wp Tryz.prog a w K Q) :
    if Region.wanted o (yielded ops a.tmps) = true then Oper.wp Tryz.prog o a w K Q else E := by
  rw [if_pos (by simp [Region.wanted, hg])]; exact h

/-- string(out). -/
theorem OwnB.str {B : Nat} {v : Value} {l : List UInt8} {w : World} (h : OwnB B v l w) :
    (convert 64 9 v).run Tryz.prog w = .ok (.string ⟨l.toArray⟩) w := by
  rcases h.2 with ⟨rfl, h0⟩ | ⟨g, cap, cur, rfl, hb, hg, hn, hm, hs, ht⟩
  · obtain rfl : l = [] := List.length_eq_zero_iff.1 h0
    exact run_convert_bytes_nil _ _ _ Tryz.underlying64 Tryz.underlying5 0 0 _ Tryz.underlying9
  · rw [run_convert_bytes_arg _ _ _ Tryz.underlying64 Tryz.underlying5 g 0 l.length cap (l.map fun b => (b.toNat : Int)) (by simp) (fun i hi => ?_) _ Tryz.underlying9]
    · congr 1
      simp [strOfNums, Function.comp_def]
    · have := h.cells (g := g) rfl i (.int .u8 (l[i].toNat)) (by simp [Lib.byteCells, hi])
      simp only [Nat.zero_add]
      have hadd : (⟨g, 0, none⟩ : Addr).add i = ⟨g, i, none⟩ := by unfold Addr.add; split <;> simp_all
      rw [hadd] at this
      rw [this]
      simp [List.getD, hi]

theorem str_one (c : Int) (w : World) : (convert 64 9 (.slice (some ⟨w.heap.size, 0, none⟩) 1 1)).run Tryz.prog (w.alloc (.cells #[.int .u8 c] 5)) = .ok (.string ⟨[UInt8.ofNat c.toNat].toArray⟩) (w.alloc (.cells #[.int .u8 c] 5)) := by
  rw [run_convert_bytes_arg _ _ _ Tryz.underlying64 Tryz.underlying5 w.heap.size 0 1 1 [c] rfl (fun i hi => ?_) _ Tryz.underlying9]
  · rfl
  · obtain rfl : i = 0 := by omega
    simp
theorem str_cons (x : UInt8) (l : List UInt8) : Value.string ((⟨#[x]⟩ : ByteArray) ++ ⟨l.toArray⟩) = .string ⟨(x :: l).toArray⟩ := by
  rw [show (⟨#[x]⟩ : ByteArray) = ⟨[x].toArray⟩ from rfl, ByteArray.mk_append_mk]; rfl
end Go.Proofs.YtfpnflhkfpolcaaGreatDoor.Bytes
