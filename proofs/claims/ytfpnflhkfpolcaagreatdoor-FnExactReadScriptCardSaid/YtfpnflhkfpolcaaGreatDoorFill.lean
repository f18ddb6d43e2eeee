
/-
  A struct's cells stored one by one; rows of the call's own beside it.
-/
import Derived.Test.YtfpnflhkfpolcaaGreatDoorReq
namespace Go.Proofs.YtfpnflhkfpolcaaGreatDoor.Num
open Go.RowKit Rows3

/-- a struct's six cells, stored. -/
def fill (w : World) (b : Nat) (d0 d1 d2 d3 d4 d5 : Value) : World := (((((w.setCell ⟨b, 0, none⟩ d0).setCell ⟨b, 1, none⟩ d1).setCell ⟨b, 2, none⟩ d2).setCell ⟨b, 3, none⟩ d3).setCell ⟨b, 4, none⟩ d4).setCell ⟨b, 5, none⟩ d5
theorem blk_set {T : TypeId} {b : Nat} {c0 c1 c2 c3 c4 c5 : Value} {w : World} (h : Blk T b c0 c1 c2 c3 c4 c5 w) (i : Nat) (u : Value) : (w.setCell ⟨b, i, none⟩ u).heap[b]? = some (.cells (#[c0, c1, c2, c3, c4, c5].set! i u) T) := by
  unfold Blk at h
  simp [World.setCell, Array.getElem?_modify, h]
theorem blk_fill {T : TypeId} {b : Nat} {c0 c1 c2 c3 c4 c5 : Value} {w : World} (h : Blk T b c0 c1 c2 c3 c4 c5 w) (d0 d1 d2 d3 d4 d5 : Value) : Blk T b d0 d1 d2 d3 d4 d5 (fill w b d0 d1 d2 d3 d4 d5) :=
  blk_set (c0 := d0) (c1 := d1) (c2 := d2) (c3 := d3) (c4 := d4) (c5 := c5) (blk_set (c0 := d0) (c1 := d1) (c2 := d2) (c3 := d3) (c4 := c4) (c5 := c5) (blk_set (c0 := d0) (c1 := d1) (c2 := d2) (c3 := c3) (c4 := c4) (c5 := c5) (blk_set (c0 := d0) (c1 := d1) (c2 := c2) (c3 := c3) (c4 := c4) (c5 := c5) (blk_set (c0 := d0) (c1 := c1) (c2 := c2) (c3 := c3) (c4 := c4) (c5 := c5) (blk_set h 0 d0) 1 d1) 2 d2) 3 d3) 4 d4) 5 d5
theorem below_fill {B : Nat} {a w : World} {b : Nat} (h : Below B a w) (hb : B ≤ b) (d0 d1 d2 d3 d4 d5 : Value) : Below B a (fill w b d0 d1 d2 d3 d4 d5) :=
  (((((h.setCell hb d0).setCell hb d1).setCell hb d2).setCell hb d3).setCell hb d4).setCell hb d5
theorem own_ne {T : TypeId} {B h : Nat} {v : Value} {l : List Int} {w : World} {c0 c1 c2 c3 c4 c5 : Value} (hT : T ≠ 3) (ho : OwnI B v l w) (hb : Blk T h c0 c1 c2 c3 c4 c5 w) : v.ownBlock ≠ some h := by
  rcases ho.2 with ⟨rfl, _⟩ | ⟨g, cap, cur, rfl, _, hg, _⟩
  · intro e; cases e
  · intro e
    obtain rfl : g = h := by injection e
    unfold Blk at hb
    rw [hg] at hb
    injection hb with h1
    injection h1 with _ h2
    exact hT h2.symm
theorem blk_same {T : TypeId} {h : Nat} {c0 c1 c2 c3 c4 c5 : Value} {w w' : World} (hb : Blk T h c0 c1 c2 c3 c4 c5 w) (hs : w'.heap[h]? = w.heap[h]?) : Blk T h c0 c1 c2 c3 c4 c5 w' := by unfold Blk at hb ⊢; rw [hs]; exact hb
theorem own_set_ne {B : Nat} {v : Value} {l : List Int} {w : World} (h : OwnI B v l w) {a : Addr} (ha : v.ownBlock ≠ some a.block) (u : Value) : OwnI B v l (w.setCell a u) := by
  obtain ⟨h1, h2⟩ := h
  refine ⟨h1, ?_⟩
  rcases h2 with h2 | ⟨g, cp, cur, rfl, hb, hg, rest⟩
  · exact .inl h2
  · exact .inr ⟨g, cp, cur, rfl, hb, by rw [Below.heap_setCell w a u g (fun e => ha (by rw [← e]; rfl))]; exact hg, rest⟩
theorem fill_low {B : Nat} {v : Value} {l : List Int} {w : World} {b : Nat} (h : OwnI B v l w) (hb : b < B) (d0 d1 d2 d3 d4 d5 : Value) : OwnI B v l (fill w b d0 d1 d2 d3 d4 d5) :=
  setBelow (setBelow (setBelow (setBelow (setBelow (setBelow h hb d0) hb d1) hb d2) hb d3) hb d4) hb d5
end Go.Proofs.YtfpnflhkfpolcaaGreatDoor.Num
