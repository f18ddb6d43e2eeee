
/-
  A number read in a memory: GetNum, for the program and for its model; a copy of a row.
-/
import Derived.Test.YtfpnflhkfpolcaaGreatDoorLane
import Derived.Test.YtfpnflhkfpolcaaGreatDoorEq
import Derived.Outline
import Derived.Deep.RegionWith
namespace Go.Proofs.YtfpnflhkfpolcaaGreatDoor.Num
open Go.RowKit Rows3

theorem take_set {l : List Int} {k : Nat} (h : k < l.length) (n : Nat) (hn : l.length = n) : (l.take k ++ List.replicate (n - k) 0).set k (l.getD k 0) = l.take (k + 1) ++ List.replicate (n - (k + 1)) 0 := by
  have e1 : (l.take k).length = k := by simp; omega
  rw [List.set_append_right (s := l.take k) (t := List.replicate (n - k) 0) k _ (by omega), e1, Nat.sub_self]
  rw [List.take_succ_eq_append_getElem h, List.append_assoc, getD_lt h]
  obtain ⟨d, hd⟩ : ∃ d, n - k = d + 1 := ⟨n - k - 1, by omega⟩
  rw [hd, show n - (k + 1) = d by omega, List.replicate_succ]
  rfl
end Go.Proofs.YtfpnflhkfpolcaaGreatDoor.Num
