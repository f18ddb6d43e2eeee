/-
  No cell of these rows narrows 'for every input' (looked for: loops, veiled, ifaces, maps, wideKeys, modest, calm, conditions, laid).
  DERIVED. THE GIVEN ROWS OF THIS SEAT. 7 by the template 'for every input the law returns true; each argument reads behind the call as it read before'; 0 by the template 'total and deterministic' (their statements: YtklcelcmbepbpaaTotals.lean).
  GIVEN WITH THE SEED: the statements are not yours to turn. If you find one false, say at which input.
  Laid BY PROGRAM, IN A SANDBOX (cutbox-rows.mjs): the forced cells as the released guide's own fill.sh prints them over the translation f491ca981d5cf994… (all of the seat's roots in one cut). By AI agents, Wed Nov 11 2026. No macro, syntax, notation, axiom, sorry.
-/
import Derived.Test.YtklcelcmbepbpaaChecked
import GoSem.Claim
import GoSem.ClaimJoined
import GoSem.ClaimMapViews
import Derived.JoinedTies
import Derived.KernelRfl
namespace Go.Proofs.Ytklcelcmbepbpaa
/- THE CELL 'sum', in the pinned program and in every row, IS THE sha256 OF THE DUMP (.gsa) THAT YtklcelcmbepbpaaProg.lean LOADS. Nothing in Lean hashes anything: it is a label: what it is worth is what the hold of that sum in a sandbox is worth. -/
noncomputable def Try.pinned : Pinned := { name := "ytklcelcmbepbpaa", sum := "f491ca981d5cf9948a8cf8f777632f54188f509b98b781e8da8f0751509f960c", checked := Try.checked }
namespace Rows
def none {H : Type} : Left H := { results := [], args := [] }

/-- 'laws.FnBuckets': WHATEVER THE INPUT: true; the input reads as it did. -/
def fnBucketsSpec : ChangeSpec := { name := "fnBuckets", fn := fun _ => fun
  | [d] => { results := [.lit (.bool true)], args := [d] }
  | _ => none }
def fnBucketsRow : OpenClaim := { program := "ytklcelcmbepbpaa", sum := "f491ca981d5cf9948a8cf8f777632f54188f509b98b781e8da8f0751509f960c", func := "loop.example/g01623/laws.FnBuckets", spec := "fnBuckets", apart := false }
def FnBucketsSaid : Prop := fnBucketsRow.holds Try.pinned (OpenSpec.ofChange fnBucketsSpec)

/-- ITS FALSE NEIGHBOUR: 'it returns false'. Refute it at one input. -/
def fnBucketsWrong : ChangeSpec := { name := "fnBuckets", fn := fun _ => fun
  | [d] => { results := [.lit (.bool false)], args := [d] }
  | _ => none }
def FnBucketsWrongFalsely : Prop := fnBucketsRow.holds Try.pinned (OpenSpec.ofChange fnBucketsWrong)

/-- 'laws.FnExactBucketOk': WHATEVER THE INPUT: true; the input reads as it did. -/
def fnExactBucketOkSpec : ChangeSpec := { name := "fnExactBucketOk", fn := fun _ => fun
  | [d1, d2] => { results := [.lit (.bool true)], args := [d1, d2] }
  | _ => none }
def fnExactBucketOkRow : OpenClaim := { program := "ytklcelcmbepbpaa", sum := "f491ca981d5cf9948a8cf8f777632f54188f509b98b781e8da8f0751509f960c", func := "loop.example/g01623/laws.FnExactBucketOk", spec := "fnExactBucketOk", apart := false }
def FnExactBucketOkSaid : Prop := fnExactBucketOkRow.holds Try.pinned (OpenSpec.ofChange fnExactBucketOkSpec)

/-- ITS FALSE NEIGHBOUR: 'it returns false'. Refute it at one input. -/
def fnExactBucketOkWrong : ChangeSpec := { name := "fnExactBucketOk", fn := fun _ => fun
  | [d1, d2] => { results := [.lit (.bool false)], args := [d1, d2] }
  | _ => none }
def FnExactBucketOkWrongFalsely : Prop := fnExactBucketOkRow.holds Try.pinned (OpenSpec.ofChange fnExactBucketOkWrong)

/-- 'laws.FnExactBucketNew': WHATEVER THE INPUT: true; the input reads as it did. -/
def fnExactBucketNewSpec : ChangeSpec := { name := "fnExactBucketNew", fn := fun _ => fun
  | [d] => { results := [.lit (.bool true)], args := [d] }
  | _ => none }
def fnExactBucketNewRow : OpenClaim := { program := "ytklcelcmbepbpaa", sum := "f491ca981d5cf9948a8cf8f777632f54188f509b98b781e8da8f0751509f960c", func := "loop.example/g01623/laws.FnExactBucketNew", spec := "fnExactBucketNew", apart := false }
def FnExactBucketNewSaid : Prop := fnExactBucketNewRow.holds Try.pinned (OpenSpec.ofChange fnExactBucketNewSpec)

/-- ITS FALSE NEIGHBOUR: 'it returns false'. Refute it at one input. -/
def fnExactBucketNewWrong : ChangeSpec := { name := "fnExactBucketNew", fn := fun _ => fun
  | [d] => { results := [.lit (.bool false)], args := [d] }
  | _ => none }
def FnExactBucketNewWrongFalsely : Prop := fnExactBucketNewRow.holds Try.pinned (OpenSpec.ofChange fnExactBucketNewWrong)

/-- 'laws.FnExactBucketTick': WHATEVER THE INPUT: true; the input reads as it did. -/
def fnExactBucketTickSpec : ChangeSpec := { name := "fnExactBucketTick", fn := fun _ => fun
  | [d1, d2] => { results := [.lit (.bool true)], args := [d1, d2] }
  | _ => none }
def fnExactBucketTickRow : OpenClaim := { program := "ytklcelcmbepbpaa", sum := "f491ca981d5cf9948a8cf8f777632f54188f509b98b781e8da8f0751509f960c", func := "loop.example/g01623/laws.FnExactBucketTick", spec := "fnExactBucketTick", apart := false }
def FnExactBucketTickSaid : Prop := fnExactBucketTickRow.holds Try.pinned (OpenSpec.ofChange fnExactBucketTickSpec)

/-- ITS FALSE NEIGHBOUR: 'it returns false'. Refute it at one input. -/
def fnExactBucketTickWrong : ChangeSpec := { name := "fnExactBucketTick", fn := fun _ => fun
  | [d1, d2] => { results := [.lit (.bool false)], args := [d1, d2] }
  | _ => none }
def FnExactBucketTickWrongFalsely : Prop := fnExactBucketTickRow.holds Try.pinned (OpenSpec.ofChange fnExactBucketTickWrong)

/-- 'laws.FnExactBucketTake': WHATEVER THE INPUT: true; the input reads as it did. -/
def fnExactBucketTakeSpec : ChangeSpec := { name := "fnExactBucketTake", fn := fun _ => fun
  | [d1, d2] => { results := [.lit (.bool true)], args := [d1, d2] }
  | _ => none }
def fnExactBucketTakeRow : OpenClaim := { program := "ytklcelcmbepbpaa", sum := "f491ca981d5cf9948a8cf8f777632f54188f509b98b781e8da8f0751509f960c", func := "loop.example/g01623/laws.FnExactBucketTake", spec := "fnExactBucketTake", apart := false }
def FnExactBucketTakeSaid : Prop := fnExactBucketTakeRow.holds Try.pinned (OpenSpec.ofChange fnExactBucketTakeSpec)

/-- ITS FALSE NEIGHBOUR: 'it returns false'. Refute it at one input. -/
def fnExactBucketTakeWrong : ChangeSpec := { name := "fnExactBucketTake", fn := fun _ => fun
  | [d1, d2] => { results := [.lit (.bool false)], args := [d1, d2] }
  | _ => none }
def FnExactBucketTakeWrongFalsely : Prop := fnExactBucketTakeRow.holds Try.pinned (OpenSpec.ofChange fnExactBucketTakeWrong)

/-- 'laws.FnExactBucketBack': WHATEVER THE INPUT: true; the input reads as it did. -/
def fnExactBucketBackSpec : ChangeSpec := { name := "fnExactBucketBack", fn := fun _ => fun
  | [d1, d2] => { results := [.lit (.bool true)], args := [d1, d2] }
  | _ => none }
def fnExactBucketBackRow : OpenClaim := { program := "ytklcelcmbepbpaa", sum := "f491ca981d5cf9948a8cf8f777632f54188f509b98b781e8da8f0751509f960c", func := "loop.example/g01623/laws.FnExactBucketBack", spec := "fnExactBucketBack", apart := false }
def FnExactBucketBackSaid : Prop := fnExactBucketBackRow.holds Try.pinned (OpenSpec.ofChange fnExactBucketBackSpec)

/-- ITS FALSE NEIGHBOUR: 'it returns false'. Refute it at one input. -/
def fnExactBucketBackWrong : ChangeSpec := { name := "fnExactBucketBack", fn := fun _ => fun
  | [d1, d2] => { results := [.lit (.bool false)], args := [d1, d2] }
  | _ => none }
def FnExactBucketBackWrongFalsely : Prop := fnExactBucketBackRow.holds Try.pinned (OpenSpec.ofChange fnExactBucketBackWrong)

/-- 'laws.FnExactTokensMost': WHATEVER THE INPUT: true; the input reads as it did. -/
def fnExactTokensMostSpec : ChangeSpec := { name := "fnExactTokensMost", fn := fun _ => fun
  | [d1, d2] => { results := [.lit (.bool true)], args := [d1, d2] }
  | _ => none }
def fnExactTokensMostRow : OpenClaim := { program := "ytklcelcmbepbpaa", sum := "f491ca981d5cf9948a8cf8f777632f54188f509b98b781e8da8f0751509f960c", func := "loop.example/g01623/laws.FnExactTokensMost", spec := "fnExactTokensMost", apart := false }
def FnExactTokensMostSaid : Prop := fnExactTokensMostRow.holds Try.pinned (OpenSpec.ofChange fnExactTokensMostSpec)

/-- ITS FALSE NEIGHBOUR: 'it returns false'. Refute it at one input. -/
def fnExactTokensMostWrong : ChangeSpec := { name := "fnExactTokensMost", fn := fun _ => fun
  | [d1, d2] => { results := [.lit (.bool false)], args := [d1, d2] }
  | _ => none }
def FnExactTokensMostWrongFalsely : Prop := fnExactTokensMostRow.holds Try.pinned (OpenSpec.ofChange fnExactTokensMostWrong)

/- THE SECOND FORM. 'bulk': how many values and letters a reading holds, each counted each time it is reached (what is shared counts as often as it is met; a slice's spare places count too). A statement '..UptoSaid' is the law's where the arguments, and the package variables that the reading takes, are together of bulk at most 1048576: NARROWER than '..Said'. Prove '..Said' where nothing that the law and all that it calls make is longer than what came in: it says more and counts as full. Else prove '..UptoSaid'. A law counts once. -/
mutual
def uptoBulk {H : Type} : DataW H → Nat
  | .lit (.string bytes) => bytes.length + 1
  | .lit _ => 1
  | .nil => 1
  | .ptr d => uptoBulk d + 1
  | .slice elems spare => uptoBulkAll elems + uptoBulkAll spare + 1
  | .agg parts => uptoBulkAll parts + 1
  | .iface _ d => uptoBulk d + 1
  | .map entries => uptoBulkEntries entries + 1
  | .held _ => 1
def uptoBulkAll {H : Type} : List (DataW H) → Nat
  | [] => 0
  | d :: r => uptoBulk d + uptoBulkAll r
def uptoBulkEntries {H : Type} : List (Lit × DataW H) → Nat
  | [] => 0
  | x :: r => uptoBulkEntry x + uptoBulkEntries r
def uptoBulkEntry {H : Type} : Lit × DataW H → Nat
  | (.string bytes, d) => bytes.length + uptoBulk d + 1
  | (_, d) => uptoBulk d + 1
 end
def uptoSmall : (H : Type) → List (DataW H) → Bool := fun _ ds => decide (uptoBulkAll ds ≤ 1048576)
def OpenSpec.upto (s : _root_.Go.ChangeSpec) : _root_.Go.OpenSpec := { _root_.Go.OpenSpec.ofChange s with cond := some uptoSmall }

/-- 'laws.FnBuckets', WHERE WHAT IT READS IS OF BULK AT MOST 1048576: true; the input reads as it did. -/
def fnBucketsUptoRow : OpenClaim := { program := "ytklcelcmbepbpaa", sum := "f491ca981d5cf9948a8cf8f777632f54188f509b98b781e8da8f0751509f960c", func := "loop.example/g01623/laws.FnBuckets", spec := "fnBuckets", apart := false, narrowed := true }
def FnBucketsUptoSaid : Prop := fnBucketsUptoRow.holds Try.pinned (OpenSpec.upto fnBucketsSpec)

/-- 'laws.FnExactBucketOk', WHERE WHAT IT READS IS OF BULK AT MOST 1048576: true; the input reads as it did. -/
def fnExactBucketOkUptoRow : OpenClaim := { program := "ytklcelcmbepbpaa", sum := "f491ca981d5cf9948a8cf8f777632f54188f509b98b781e8da8f0751509f960c", func := "loop.example/g01623/laws.FnExactBucketOk", spec := "fnExactBucketOk", apart := false, narrowed := true }
def FnExactBucketOkUptoSaid : Prop := fnExactBucketOkUptoRow.holds Try.pinned (OpenSpec.upto fnExactBucketOkSpec)

/-- 'laws.FnExactBucketNew', WHERE WHAT IT READS IS OF BULK AT MOST 1048576: true; the input reads as it did. -/
def fnExactBucketNewUptoRow : OpenClaim := { program := "ytklcelcmbepbpaa", sum := "f491ca981d5cf9948a8cf8f777632f54188f509b98b781e8da8f0751509f960c", func := "loop.example/g01623/laws.FnExactBucketNew", spec := "fnExactBucketNew", apart := false, narrowed := true }
def FnExactBucketNewUptoSaid : Prop := fnExactBucketNewUptoRow.holds Try.pinned (OpenSpec.upto fnExactBucketNewSpec)

/-- 'laws.FnExactBucketTick', WHERE WHAT IT READS IS OF BULK AT MOST 1048576: true; the input reads as it did. -/
def fnExactBucketTickUptoRow : OpenClaim := { program := "ytklcelcmbepbpaa", sum := "f491ca981d5cf9948a8cf8f777632f54188f509b98b781e8da8f0751509f960c", func := "loop.example/g01623/laws.FnExactBucketTick", spec := "fnExactBucketTick", apart := false, narrowed := true }
def FnExactBucketTickUptoSaid : Prop := fnExactBucketTickUptoRow.holds Try.pinned (OpenSpec.upto fnExactBucketTickSpec)

/-- 'laws.FnExactBucketTake', WHERE WHAT IT READS IS OF BULK AT MOST 1048576: true; the input reads as it did. -/
def fnExactBucketTakeUptoRow : OpenClaim := { program := "ytklcelcmbepbpaa", sum := "f491ca981d5cf9948a8cf8f777632f54188f509b98b781e8da8f0751509f960c", func := "loop.example/g01623/laws.FnExactBucketTake", spec := "fnExactBucketTake", apart := false, narrowed := true }
def FnExactBucketTakeUptoSaid : Prop := fnExactBucketTakeUptoRow.holds Try.pinned (OpenSpec.upto fnExactBucketTakeSpec)

/-- 'laws.FnExactBucketBack', WHERE WHAT IT READS IS OF BULK AT MOST 1048576: true; the input reads as it did. -/
def fnExactBucketBackUptoRow : OpenClaim := { program := "ytklcelcmbepbpaa", sum := "f491ca981d5cf9948a8cf8f777632f54188f509b98b781e8da8f0751509f960c", func := "loop.example/g01623/laws.FnExactBucketBack", spec := "fnExactBucketBack", apart := false, narrowed := true }
def FnExactBucketBackUptoSaid : Prop := fnExactBucketBackUptoRow.holds Try.pinned (OpenSpec.upto fnExactBucketBackSpec)

/-- 'laws.FnExactTokensMost', WHERE WHAT IT READS IS OF BULK AT MOST 1048576: true; the input reads as it did. -/
def fnExactTokensMostUptoRow : OpenClaim := { program := "ytklcelcmbepbpaa", sum := "f491ca981d5cf9948a8cf8f777632f54188f509b98b781e8da8f0751509f960c", func := "loop.example/g01623/laws.FnExactTokensMost", spec := "fnExactTokensMost", apart := false, narrowed := true }
def FnExactTokensMostUptoSaid : Prop := fnExactTokensMostUptoRow.holds Try.pinned (OpenSpec.upto fnExactTokensMostSpec)

end Rows
end Go.Proofs.Ytklcelcmbepbpaa
