/-
  No cell of these rows narrows 'for every input' (looked for: loops, veiled, ifaces, maps, wideKeys, modest, calm, conditions, laid).
  DERIVED. THE GIVEN ROWS OF THIS SEAT. 2 by the template 'for every input the law returns true; each argument reads behind the call as it read before'; 0 by the template 'total and deterministic' (their statements: YtdhaelaoackfkaaTotals.lean).
  GIVEN WITH THE SEED: the statements are not yours to turn. If you find one false, say at which input.
  Laid BY PROGRAM, IN A SANDBOX (cutbox-rows.mjs): the forced cells as the released guide's own fill.sh prints them over the translation 480848d14c864877… (all of the seat's roots in one cut). By AI agents, Wed Nov 11 2026. No macro, syntax, notation, axiom, sorry.
-/
import Derived.Test.YtdhaelaoackfkaaChecked
import GoSem.Claim
import GoSem.ClaimJoined
import GoSem.ClaimMapViews
import Derived.JoinedTies
import Derived.KernelRfl
namespace Go.Proofs.Ytdhaelaoackfkaa
/- THE CELL 'sum', in the pinned program and in every row, IS THE sha256 OF THE DUMP (.gsa) THAT YtdhaelaoackfkaaProg.lean LOADS. Nothing in Lean hashes anything: it is a label: what it is worth is what the hold of that sum in a sandbox is worth. -/
noncomputable def Try.pinned : Pinned := { name := "ytdhaelaoackfkaa", sum := "480848d14c864877cb684a00961fe8fb6761b16626d29d49f6e3ffbb14006494", checked := Try.checked }
namespace Rows
def none {H : Type} : Left H := { results := [], args := [] }

/-- 'laws.FnExactBusNew': WHATEVER THE INPUT: true; the input reads as it did. -/
def fnExactBusNewSpec : ChangeSpec := { name := "fnExactBusNew", fn := fun _ => fun
  | [d] => { results := [.lit (.bool true)], args := [d] }
  | _ => none }
def fnExactBusNewRow : OpenClaim := { program := "ytdhaelaoackfkaa", sum := "480848d14c864877cb684a00961fe8fb6761b16626d29d49f6e3ffbb14006494", func := "loop.example/g01623/laws.FnExactBusNew", spec := "fnExactBusNew", apart := false }
def FnExactBusNewSaid : Prop := fnExactBusNewRow.holds Try.pinned (OpenSpec.ofChange fnExactBusNewSpec)

/-- ITS FALSE NEIGHBOUR: 'it returns false'. Refute it at one input. -/
def fnExactBusNewWrong : ChangeSpec := { name := "fnExactBusNew", fn := fun _ => fun
  | [d] => { results := [.lit (.bool false)], args := [d] }
  | _ => none }
def FnExactBusNewWrongFalsely : Prop := fnExactBusNewRow.holds Try.pinned (OpenSpec.ofChange fnExactBusNewWrong)

/-- 'laws.FnExactSameBus': WHATEVER THE INPUT: true; the input reads as it did. -/
def fnExactSameBusSpec : ChangeSpec := { name := "fnExactSameBus", fn := fun _ => fun
  | [d1, d2] => { results := [.lit (.bool true)], args := [d1, d2] }
  | _ => none }
def fnExactSameBusRow : OpenClaim := { program := "ytdhaelaoackfkaa", sum := "480848d14c864877cb684a00961fe8fb6761b16626d29d49f6e3ffbb14006494", func := "loop.example/g01623/laws.FnExactSameBus", spec := "fnExactSameBus", unfollowed := true, recurses := true, apart := false }
def FnExactSameBusSaid : Prop := fnExactSameBusRow.holds Try.pinned (OpenSpec.ofChange fnExactSameBusSpec)

/-- ITS FALSE NEIGHBOUR: 'it returns false'. Refute it at one input. -/
def fnExactSameBusWrong : ChangeSpec := { name := "fnExactSameBus", fn := fun _ => fun
  | [d1, d2] => { results := [.lit (.bool false)], args := [d1, d2] }
  | _ => none }
def FnExactSameBusWrongFalsely : Prop := fnExactSameBusRow.holds Try.pinned (OpenSpec.ofChange fnExactSameBusWrong)

/- THE SECOND FORM. 'bulk': how many values and letters a reading holds, each counted each time it is reached (what is shared counts as often as it is met; a slice's spare places count too). A statement '..UptoSaid' is the law's where the arguments, and the package variables that the reading takes, are together of bulk at most 1048576: NARROWER than '..Said'. Prove '..Said' where nothing that the law and all that it calls make is longer than what came in: it says more and counts as full. Else prove '..UptoSaid'. A law counts once. -/
mutual
def uptoBulk {H : Type} : DataW H → Nat
  | .lit (.string bytes) => bytes.length + 1
  | .lit _ => 1
  | .nil => 1
  | .ptr d => uptoBulk d + 1
  | .slice elems spare => uptoBulkAll elems + uptoBulkAll spare + 1
  | .agg parts => uptoBulkAll parts + 1
  | .iface _ d => uptoBulk d + 1
  | .map entries => uptoBulkEntries entries + 1
  | .held _ => 1
def uptoBulkAll {H : Type} : List (DataW H) → Nat
  | [] => 0
  | d :: r => uptoBulk d + uptoBulkAll r
def uptoBulkEntries {H : Type} : List (Lit × DataW H) → Nat
  | [] => 0
  | x :: r => uptoBulkEntry x + uptoBulkEntries r
def uptoBulkEntry {H : Type} : Lit × DataW H → Nat
  | (.string bytes, d) => bytes.length + uptoBulk d + 1
  | (_, d) => uptoBulk d + 1
 end
def uptoSmall : (H : Type) → List (DataW H) → Bool := fun _ ds => decide (uptoBulkAll ds ≤ 1048576)
def OpenSpec.upto (s : _root_.Go.ChangeSpec) : _root_.Go.OpenSpec := { _root_.Go.OpenSpec.ofChange s with cond := some uptoSmall }

/-- 'laws.FnExactBusNew', WHERE WHAT IT READS IS OF BULK AT MOST 1048576: true; the input reads as it did. -/
def fnExactBusNewUptoRow : OpenClaim := { program := "ytdhaelaoackfkaa", sum := "480848d14c864877cb684a00961fe8fb6761b16626d29d49f6e3ffbb14006494", func := "loop.example/g01623/laws.FnExactBusNew", spec := "fnExactBusNew", apart := false, narrowed := true }
def FnExactBusNewUptoSaid : Prop := fnExactBusNewUptoRow.holds Try.pinned (OpenSpec.upto fnExactBusNewSpec)

/-- 'laws.FnExactSameBus', WHERE WHAT IT READS IS OF BULK AT MOST 1048576: true; the input reads as it did. -/
def fnExactSameBusUptoRow : OpenClaim := { program := "ytdhaelaoackfkaa", sum := "480848d14c864877cb684a00961fe8fb6761b16626d29d49f6e3ffbb14006494", func := "loop.example/g01623/laws.FnExactSameBus", spec := "fnExactSameBus", unfollowed := true, recurses := true, apart := false, narrowed := true }
def FnExactSameBusUptoSaid : Prop := fnExactSameBusUptoRow.holds Try.pinned (OpenSpec.upto fnExactSameBusSpec)

end Rows
end Go.Proofs.Ytdhaelaoackfkaa
