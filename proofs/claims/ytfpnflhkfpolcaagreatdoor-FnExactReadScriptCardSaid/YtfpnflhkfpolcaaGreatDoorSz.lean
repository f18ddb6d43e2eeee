
/-
  What the laws' size tests return, whatever is left.
-/
import Derived.Test.YtfpnflhkfpolcaaGreatDoorReq
namespace Go.Proofs.YtfpnflhkfpolcaaGreatDoor.Num
open Go.RowKit Rows3

/-- what szReq leaves of L. -/
def szL (L : Int) (n : Nat) : Int := if (n : Int) ≤ L then L - (n : Int) else -1
theorem szL_yes {L : Int} {n : Nat} (h : (n : Int) ≤ L) : szL L n = L - (n : Int) := if_pos h
theorem szL_no {L : Int} {n : Nat} (h : L < (n : Int)) : szL L n = -1 := if_neg (by omega)
theorem Blk.drew {T : TypeId} {b : Nat} {c0 c1 c2 c3 c4 c5 : Value} {w : World} (h : Blk T b c0 c1 c2 c3 c4 c5 w) : Blk T b c0 c1 c2 c3 c4 c5 w.drew := h
theorem rdI_drew {v : Value} {l : List Int} {w : World} (h : RdI v l w) : RdI v l w.drew := h
end Go.Proofs.YtfpnflhkfpolcaaGreatDoor.Num
