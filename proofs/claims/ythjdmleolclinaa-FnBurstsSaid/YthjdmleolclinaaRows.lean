/-
  No cell of these rows narrows 'for every input' (looked for: loops, veiled, ifaces, maps, wideKeys, modest, calm, conditions, laid).
  DERIVED. THE GIVEN ROWS OF THIS SEAT. 5 by the template 'for every input the law returns true; each argument reads behind the call as it read before'; 0 by the template 'total and deterministic' (their statements: YthjdmleolclinaaTotals.lean).
  GIVEN WITH THE SEED: the statements are not yours to turn. If you find one false, say at which input.
  Laid BY PROGRAM, IN A SANDBOX (cutbox-rows.mjs): the forced cells as the released guide's own fill.sh prints them over the translation c8ea5351218a3fe0… (all of the seat's roots in one cut). By AI agents, Wed Nov 11 2026. No macro, syntax, notation, axiom, sorry.
-/
import Derived.Test.YthjdmleolclinaaChecked
import GoSem.Claim
import GoSem.ClaimJoined
import GoSem.ClaimMapViews
import Derived.JoinedTies
import Derived.KernelRfl
namespace Go.Proofs.Ythjdmleolclinaa
/- THE CELL 'sum', in the pinned program and in every row, IS THE sha256 OF THE DUMP (.gsa) THAT YthjdmleolclinaaProg.lean LOADS. Nothing in Lean hashes anything: it is a label: what it is worth is what the hold of that sum in a sandbox is worth. -/
noncomputable def Try.pinned : Pinned := { name := "ythjdmleolclinaa", sum := "c8ea5351218a3fe05416ccc87900cd3299e5d80880fd08150c2049370bfb2df4", checked := Try.checked }
namespace Rows
def none {H : Type} : Left H := { results := [], args := [] }

/-- 'laws.FnBursts': WHATEVER THE INPUT: true; the input reads as it did. -/
def fnBurstsSpec : ChangeSpec := { name := "fnBursts", fn := fun _ => fun
  | [d] => { results := [.lit (.bool true)], args := [d] }
  | _ => none }
def fnBurstsRow : OpenClaim := { program := "ythjdmleolclinaa", sum := "c8ea5351218a3fe05416ccc87900cd3299e5d80880fd08150c2049370bfb2df4", func := "loop.example/g01623/laws.FnBursts", spec := "fnBursts", apart := false }
def FnBurstsSaid : Prop := fnBurstsRow.holds Try.pinned (OpenSpec.ofChange fnBurstsSpec)

/-- ITS FALSE NEIGHBOUR: 'it returns false'. Refute it at one input. -/
def fnBurstsWrong : ChangeSpec := { name := "fnBursts", fn := fun _ => fun
  | [d] => { results := [.lit (.bool false)], args := [d] }
  | _ => none }
def FnBurstsWrongFalsely : Prop := fnBurstsRow.holds Try.pinned (OpenSpec.ofChange fnBurstsWrong)

/-- 'laws.FnExactBeatsOf': WHATEVER THE INPUT: true; the input reads as it did. -/
def fnExactBeatsOfSpec : ChangeSpec := { name := "fnExactBeatsOf", fn := fun _ => fun
  | [d] => { results := [.lit (.bool true)], args := [d] }
  | _ => none }
def fnExactBeatsOfRow : OpenClaim := { program := "ythjdmleolclinaa", sum := "c8ea5351218a3fe05416ccc87900cd3299e5d80880fd08150c2049370bfb2df4", func := "loop.example/g01623/laws.FnExactBeatsOf", spec := "fnExactBeatsOf", apart := false }
def FnExactBeatsOfSaid : Prop := fnExactBeatsOfRow.holds Try.pinned (OpenSpec.ofChange fnExactBeatsOfSpec)

/-- ITS FALSE NEIGHBOUR: 'it returns false'. Refute it at one input. -/
def fnExactBeatsOfWrong : ChangeSpec := { name := "fnExactBeatsOf", fn := fun _ => fun
  | [d] => { results := [.lit (.bool false)], args := [d] }
  | _ => none }
def FnExactBeatsOfWrongFalsely : Prop := fnExactBeatsOfRow.holds Try.pinned (OpenSpec.ofChange fnExactBeatsOfWrong)

/-- 'laws.FnExactNextAddr': WHATEVER THE INPUT: true; the input reads as it did. -/
def fnExactNextAddrSpec : ChangeSpec := { name := "fnExactNextAddr", fn := fun _ => fun
  | [d1, d2, d3] => { results := [.lit (.bool true)], args := [d1, d2, d3] }
  | _ => none }
def fnExactNextAddrRow : OpenClaim := { program := "ythjdmleolclinaa", sum := "c8ea5351218a3fe05416ccc87900cd3299e5d80880fd08150c2049370bfb2df4", func := "loop.example/g01623/laws.FnExactNextAddr", spec := "fnExactNextAddr", apart := false }
def FnExactNextAddrSaid : Prop := fnExactNextAddrRow.holds Try.pinned (OpenSpec.ofChange fnExactNextAddrSpec)

/-- ITS FALSE NEIGHBOUR: 'it returns false'. Refute it at one input. -/
def fnExactNextAddrWrong : ChangeSpec := { name := "fnExactNextAddr", fn := fun _ => fun
  | [d1, d2, d3] => { results := [.lit (.bool false)], args := [d1, d2, d3] }
  | _ => none }
def FnExactNextAddrWrongFalsely : Prop := fnExactNextAddrRow.holds Try.pinned (OpenSpec.ofChange fnExactNextAddrWrong)

/-- 'laws.FnExactBurstAddrs': WHATEVER THE INPUT: true; the input reads as it did. -/
def fnExactBurstAddrsSpec : ChangeSpec := { name := "fnExactBurstAddrs", fn := fun _ => fun
  | [d1, d2, d3] => { results := [.lit (.bool true)], args := [d1, d2, d3] }
  | _ => none }
def fnExactBurstAddrsRow : OpenClaim := { program := "ythjdmleolclinaa", sum := "c8ea5351218a3fe05416ccc87900cd3299e5d80880fd08150c2049370bfb2df4", func := "loop.example/g01623/laws.FnExactBurstAddrs", spec := "fnExactBurstAddrs", apart := false }
def FnExactBurstAddrsSaid : Prop := fnExactBurstAddrsRow.holds Try.pinned (OpenSpec.ofChange fnExactBurstAddrsSpec)

/-- ITS FALSE NEIGHBOUR: 'it returns false'. Refute it at one input. -/
def fnExactBurstAddrsWrong : ChangeSpec := { name := "fnExactBurstAddrs", fn := fun _ => fun
  | [d1, d2, d3] => { results := [.lit (.bool false)], args := [d1, d2, d3] }
  | _ => none }
def FnExactBurstAddrsWrongFalsely : Prop := fnExactBurstAddrsRow.holds Try.pinned (OpenSpec.ofChange fnExactBurstAddrsWrong)

/-- 'laws.FnExactBurstOk': WHATEVER THE INPUT: true; the input reads as it did. -/
def fnExactBurstOkSpec : ChangeSpec := { name := "fnExactBurstOk", fn := fun _ => fun
  | [d1, d2, d3] => { results := [.lit (.bool true)], args := [d1, d2, d3] }
  | _ => none }
def fnExactBurstOkRow : OpenClaim := { program := "ythjdmleolclinaa", sum := "c8ea5351218a3fe05416ccc87900cd3299e5d80880fd08150c2049370bfb2df4", func := "loop.example/g01623/laws.FnExactBurstOk", spec := "fnExactBurstOk", apart := false }
def FnExactBurstOkSaid : Prop := fnExactBurstOkRow.holds Try.pinned (OpenSpec.ofChange fnExactBurstOkSpec)

/-- ITS FALSE NEIGHBOUR: 'it returns false'. Refute it at one input. -/
def fnExactBurstOkWrong : ChangeSpec := { name := "fnExactBurstOk", fn := fun _ => fun
  | [d1, d2, d3] => { results := [.lit (.bool false)], args := [d1, d2, d3] }
  | _ => none }
def FnExactBurstOkWrongFalsely : Prop := fnExactBurstOkRow.holds Try.pinned (OpenSpec.ofChange fnExactBurstOkWrong)

/- THE SECOND FORM. 'bulk': how many values and letters a reading holds, each counted each time it is reached (what is shared counts as often as it is met; a slice's spare places count too). A statement '..UptoSaid' is the law's where the arguments, and the package variables that the reading takes, are together of bulk at most 1048576: NARROWER than '..Said'. Prove '..Said' where nothing that the law and all that it calls make is longer than what came in: it says more and counts as full. Else prove '..UptoSaid'. A law counts once. -/
mutual
def uptoBulk {H : Type} : DataW H → Nat
  | .lit (.string bytes) => bytes.length + 1
  | .lit _ => 1
  | .nil => 1
  | .ptr d => uptoBulk d + 1
  | .slice elems spare => uptoBulkAll elems + uptoBulkAll spare + 1
  | .agg parts => uptoBulkAll parts + 1
  | .iface _ d => uptoBulk d + 1
  | .map entries => uptoBulkEntries entries + 1
  | .held _ => 1
def uptoBulkAll {H : Type} : List (DataW H) → Nat
  | [] => 0
  | d :: r => uptoBulk d + uptoBulkAll r
def uptoBulkEntries {H : Type} : List (Lit × DataW H) → Nat
  | [] => 0
  | x :: r => uptoBulkEntry x + uptoBulkEntries r
def uptoBulkEntry {H : Type} : Lit × DataW H → Nat
  | (.string bytes, d) => bytes.length + uptoBulk d + 1
  | (_, d) => uptoBulk d + 1
 end
def uptoSmall : (H : Type) → List (DataW H) → Bool := fun _ ds => decide (uptoBulkAll ds ≤ 1048576)
def OpenSpec.upto (s : _root_.Go.ChangeSpec) : _root_.Go.OpenSpec := { _root_.Go.OpenSpec.ofChange s with cond := some uptoSmall }

/-- 'laws.FnBursts', WHERE WHAT IT READS IS OF BULK AT MOST 1048576: true; the input reads as it did. -/
def fnBurstsUptoRow : OpenClaim := { program := "ythjdmleolclinaa", sum := "c8ea5351218a3fe05416ccc87900cd3299e5d80880fd08150c2049370bfb2df4", func := "loop.example/g01623/laws.FnBursts", spec := "fnBursts", apart := false, narrowed := true }
def FnBurstsUptoSaid : Prop := fnBurstsUptoRow.holds Try.pinned (OpenSpec.upto fnBurstsSpec)

/-- 'laws.FnExactBeatsOf', WHERE WHAT IT READS IS OF BULK AT MOST 1048576: true; the input reads as it did. -/
def fnExactBeatsOfUptoRow : OpenClaim := { program := "ythjdmleolclinaa", sum := "c8ea5351218a3fe05416ccc87900cd3299e5d80880fd08150c2049370bfb2df4", func := "loop.example/g01623/laws.FnExactBeatsOf", spec := "fnExactBeatsOf", apart := false, narrowed := true }
def FnExactBeatsOfUptoSaid : Prop := fnExactBeatsOfUptoRow.holds Try.pinned (OpenSpec.upto fnExactBeatsOfSpec)

/-- 'laws.FnExactNextAddr', WHERE WHAT IT READS IS OF BULK AT MOST 1048576: true; the input reads as it did. -/
def fnExactNextAddrUptoRow : OpenClaim := { program := "ythjdmleolclinaa", sum := "c8ea5351218a3fe05416ccc87900cd3299e5d80880fd08150c2049370bfb2df4", func := "loop.example/g01623/laws.FnExactNextAddr", spec := "fnExactNextAddr", apart := false, narrowed := true }
def FnExactNextAddrUptoSaid : Prop := fnExactNextAddrUptoRow.holds Try.pinned (OpenSpec.upto fnExactNextAddrSpec)

/-- 'laws.FnExactBurstAddrs', WHERE WHAT IT READS IS OF BULK AT MOST 1048576: true; the input reads as it did. -/
def fnExactBurstAddrsUptoRow : OpenClaim := { program := "ythjdmleolclinaa", sum := "c8ea5351218a3fe05416ccc87900cd3299e5d80880fd08150c2049370bfb2df4", func := "loop.example/g01623/laws.FnExactBurstAddrs", spec := "fnExactBurstAddrs", apart := false, narrowed := true }
def FnExactBurstAddrsUptoSaid : Prop := fnExactBurstAddrsUptoRow.holds Try.pinned (OpenSpec.upto fnExactBurstAddrsSpec)

/-- 'laws.FnExactBurstOk', WHERE WHAT IT READS IS OF BULK AT MOST 1048576: true; the input reads as it did. -/
def fnExactBurstOkUptoRow : OpenClaim := { program := "ythjdmleolclinaa", sum := "c8ea5351218a3fe05416ccc87900cd3299e5d80880fd08150c2049370bfb2df4", func := "loop.example/g01623/laws.FnExactBurstOk", spec := "fnExactBurstOk", apart := false, narrowed := true }
def FnExactBurstOkUptoSaid : Prop := fnExactBurstOkUptoRow.holds Try.pinned (OpenSpec.upto fnExactBurstOkSpec)

end Rows
end Go.Proofs.Ythjdmleolclinaa
