/-
  No cell of these rows narrows 'for every input' (looked for: loops, veiled, ifaces, maps, wideKeys, modest, calm, conditions, laid).
  DERIVED. THE GIVEN ROWS OF THIS SEAT. 6 by the template 'for every input the law returns true; each argument reads behind the call as it read before'; 0 by the template 'total and deterministic' (their statements: YtddbhokfjdgabaaTotals.lean).
  GIVEN WITH THE SEED: the statements are not yours to turn. If you find one false, say at which input.
  Laid BY PROGRAM, IN A SANDBOX (cutbox-rows.mjs): the forced cells as the released guide's own fill.sh prints them over the translation aeadee7924c7c305… (all of the seat's roots in one cut). By AI agents, Wed Nov 11 2026. No macro, syntax, notation, axiom, sorry.
-/
import Derived.Test.YtddbhokfjdgabaaChecked
import GoSem.Claim
import GoSem.ClaimJoined
import GoSem.ClaimMapViews
import Derived.JoinedTies
import Derived.KernelRfl
namespace Go.Proofs.Ytddbhokfjdgabaa
/- THE CELL 'sum', in the pinned program and in every row, IS THE sha256 OF THE DUMP (.gsa) THAT YtddbhokfjdgabaaProg.lean LOADS. Nothing in Lean hashes anything: it is a label: what it is worth is what the hold of that sum in a sandbox is worth. -/
noncomputable def Try.pinned : Pinned := { name := "ytddbhokfjdgabaa", sum := "aeadee7924c7c3052abf2abcd1c5cb0bb26d5ff4369f48658c98936113eb77e5", checked := Try.checked }
namespace Rows
def none {H : Type} : Left H := { results := [], args := [] }

/-- 'laws.FnTurns': WHATEVER THE INPUT: true; the input reads as it did. -/
def fnTurnsSpec : ChangeSpec := { name := "fnTurns", fn := fun _ => fun
  | [d] => { results := [.lit (.bool true)], args := [d] }
  | _ => none }
def fnTurnsRow : OpenClaim := { program := "ytddbhokfjdgabaa", sum := "aeadee7924c7c3052abf2abcd1c5cb0bb26d5ff4369f48658c98936113eb77e5", func := "loop.example/g01623/laws.FnTurns", spec := "fnTurns", apart := false }
def FnTurnsSaid : Prop := fnTurnsRow.holds Try.pinned (OpenSpec.ofChange fnTurnsSpec)

/-- ITS FALSE NEIGHBOUR: 'it returns false'. Refute it at one input. -/
def fnTurnsWrong : ChangeSpec := { name := "fnTurns", fn := fun _ => fun
  | [d] => { results := [.lit (.bool false)], args := [d] }
  | _ => none }
def FnTurnsWrongFalsely : Prop := fnTurnsRow.holds Try.pinned (OpenSpec.ofChange fnTurnsWrong)

/-- 'laws.FnExactWrrOk': WHATEVER THE INPUT: true; the input reads as it did. -/
def fnExactWrrOkSpec : ChangeSpec := { name := "fnExactWrrOk", fn := fun _ => fun
  | [d1, d2] => { results := [.lit (.bool true)], args := [d1, d2] }
  | _ => none }
def fnExactWrrOkRow : OpenClaim := { program := "ytddbhokfjdgabaa", sum := "aeadee7924c7c3052abf2abcd1c5cb0bb26d5ff4369f48658c98936113eb77e5", func := "loop.example/g01623/laws.FnExactWrrOk", spec := "fnExactWrrOk", apart := false }
def FnExactWrrOkSaid : Prop := fnExactWrrOkRow.holds Try.pinned (OpenSpec.ofChange fnExactWrrOkSpec)

/-- ITS FALSE NEIGHBOUR: 'it returns false'. Refute it at one input. -/
def fnExactWrrOkWrong : ChangeSpec := { name := "fnExactWrrOk", fn := fun _ => fun
  | [d1, d2] => { results := [.lit (.bool false)], args := [d1, d2] }
  | _ => none }
def FnExactWrrOkWrongFalsely : Prop := fnExactWrrOkRow.holds Try.pinned (OpenSpec.ofChange fnExactWrrOkWrong)

/-- 'laws.FnExactWrrPick': WHATEVER THE INPUT: true; the input reads as it did. -/
def fnExactWrrPickSpec : ChangeSpec := { name := "fnExactWrrPick", fn := fun _ => fun
  | [d1, d2, d3] => { results := [.lit (.bool true)], args := [d1, d2, d3] }
  | _ => none }
def fnExactWrrPickRow : OpenClaim := { program := "ytddbhokfjdgabaa", sum := "aeadee7924c7c3052abf2abcd1c5cb0bb26d5ff4369f48658c98936113eb77e5", func := "loop.example/g01623/laws.FnExactWrrPick", spec := "fnExactWrrPick", apart := false }
def FnExactWrrPickSaid : Prop := fnExactWrrPickRow.holds Try.pinned (OpenSpec.ofChange fnExactWrrPickSpec)

/-- ITS FALSE NEIGHBOUR: 'it returns false'. Refute it at one input. -/
def fnExactWrrPickWrong : ChangeSpec := { name := "fnExactWrrPick", fn := fun _ => fun
  | [d1, d2, d3] => { results := [.lit (.bool false)], args := [d1, d2, d3] }
  | _ => none }
def FnExactWrrPickWrongFalsely : Prop := fnExactWrrPickRow.holds Try.pinned (OpenSpec.ofChange fnExactWrrPickWrong)

/-- 'laws.FnExactWrrBack': WHATEVER THE INPUT: true; the input reads as it did. -/
def fnExactWrrBackSpec : ChangeSpec := { name := "fnExactWrrBack", fn := fun _ => fun
  | [d1, d2, d3] => { results := [.lit (.bool true)], args := [d1, d2, d3] }
  | _ => none }
def fnExactWrrBackRow : OpenClaim := { program := "ytddbhokfjdgabaa", sum := "aeadee7924c7c3052abf2abcd1c5cb0bb26d5ff4369f48658c98936113eb77e5", func := "loop.example/g01623/laws.FnExactWrrBack", spec := "fnExactWrrBack", apart := false }
def FnExactWrrBackSaid : Prop := fnExactWrrBackRow.holds Try.pinned (OpenSpec.ofChange fnExactWrrBackSpec)

/-- ITS FALSE NEIGHBOUR: 'it returns false'. Refute it at one input. -/
def fnExactWrrBackWrong : ChangeSpec := { name := "fnExactWrrBack", fn := fun _ => fun
  | [d1, d2, d3] => { results := [.lit (.bool false)], args := [d1, d2, d3] }
  | _ => none }
def FnExactWrrBackWrongFalsely : Prop := fnExactWrrBackRow.holds Try.pinned (OpenSpec.ofChange fnExactWrrBackWrong)

/-- 'laws.FnExactTurnOf': WHATEVER THE INPUT: true; the input reads as it did. -/
def fnExactTurnOfSpec : ChangeSpec := { name := "fnExactTurnOf", fn := fun _ => fun
  | [d1, d2] => { results := [.lit (.bool true)], args := [d1, d2] }
  | _ => none }
def fnExactTurnOfRow : OpenClaim := { program := "ytddbhokfjdgabaa", sum := "aeadee7924c7c3052abf2abcd1c5cb0bb26d5ff4369f48658c98936113eb77e5", func := "loop.example/g01623/laws.FnExactTurnOf", spec := "fnExactTurnOf", apart := false }
def FnExactTurnOfSaid : Prop := fnExactTurnOfRow.holds Try.pinned (OpenSpec.ofChange fnExactTurnOfSpec)

/-- ITS FALSE NEIGHBOUR: 'it returns false'. Refute it at one input. -/
def fnExactTurnOfWrong : ChangeSpec := { name := "fnExactTurnOf", fn := fun _ => fun
  | [d1, d2] => { results := [.lit (.bool false)], args := [d1, d2] }
  | _ => none }
def FnExactTurnOfWrongFalsely : Prop := fnExactTurnOfRow.holds Try.pinned (OpenSpec.ofChange fnExactTurnOfWrong)

/-- 'laws.FnExactScriptOk': WHATEVER THE INPUT: true; the input reads as it did. -/
def fnExactScriptOkSpec : ChangeSpec := { name := "fnExactScriptOk", fn := fun _ => fun
  | [d1, d2] => { results := [.lit (.bool true)], args := [d1, d2] }
  | _ => none }
def fnExactScriptOkRow : OpenClaim := { program := "ytddbhokfjdgabaa", sum := "aeadee7924c7c3052abf2abcd1c5cb0bb26d5ff4369f48658c98936113eb77e5", func := "loop.example/g01623/laws.FnExactScriptOk", spec := "fnExactScriptOk", apart := false }
def FnExactScriptOkSaid : Prop := fnExactScriptOkRow.holds Try.pinned (OpenSpec.ofChange fnExactScriptOkSpec)

/-- ITS FALSE NEIGHBOUR: 'it returns false'. Refute it at one input. -/
def fnExactScriptOkWrong : ChangeSpec := { name := "fnExactScriptOk", fn := fun _ => fun
  | [d1, d2] => { results := [.lit (.bool false)], args := [d1, d2] }
  | _ => none }
def FnExactScriptOkWrongFalsely : Prop := fnExactScriptOkRow.holds Try.pinned (OpenSpec.ofChange fnExactScriptOkWrong)

/- THE SECOND FORM. 'bulk': how many values and letters a reading holds, each counted each time it is reached (what is shared counts as often as it is met; a slice's spare places count too). A statement '..UptoSaid' is the law's where the arguments, and the package variables that the reading takes, are together of bulk at most 1048576: NARROWER than '..Said'. Prove '..Said' where nothing that the law and all that it calls make is longer than what came in: it says more and counts as full. Else prove '..UptoSaid'. A law counts once. -/
mutual
def uptoBulk {H : Type} : DataW H → Nat
  | .lit (.string bytes) => bytes.length + 1
  | .lit _ => 1
  | .nil => 1
  | .ptr d => uptoBulk d + 1
  | .slice elems spare => uptoBulkAll elems + uptoBulkAll spare + 1
  | .agg parts => uptoBulkAll parts + 1
  | .iface _ d => uptoBulk d + 1
  | .map entries => uptoBulkEntries entries + 1
  | .held _ => 1
def uptoBulkAll {H : Type} : List (DataW H) → Nat
  | [] => 0
  | d :: r => uptoBulk d + uptoBulkAll r
def uptoBulkEntries {H : Type} : List (Lit × DataW H) → Nat
  | [] => 0
  | x :: r => uptoBulkEntry x + uptoBulkEntries r
def uptoBulkEntry {H : Type} : Lit × DataW H → Nat
  | (.string bytes, d) => bytes.length + uptoBulk d + 1
  | (_, d) => uptoBulk d + 1
 end
def uptoSmall : (H : Type) → List (DataW H) → Bool := fun _ ds => decide (uptoBulkAll ds ≤ 1048576)
def OpenSpec.upto (s : _root_.Go.ChangeSpec) : _root_.Go.OpenSpec := { _root_.Go.OpenSpec.ofChange s with cond := some uptoSmall }

/-- 'laws.FnTurns', WHERE WHAT IT READS IS OF BULK AT MOST 1048576: true; the input reads as it did. -/
def fnTurnsUptoRow : OpenClaim := { program := "ytddbhokfjdgabaa", sum := "aeadee7924c7c3052abf2abcd1c5cb0bb26d5ff4369f48658c98936113eb77e5", func := "loop.example/g01623/laws.FnTurns", spec := "fnTurns", apart := false, narrowed := true }
def FnTurnsUptoSaid : Prop := fnTurnsUptoRow.holds Try.pinned (OpenSpec.upto fnTurnsSpec)

/-- 'laws.FnExactWrrOk', WHERE WHAT IT READS IS OF BULK AT MOST 1048576: true; the input reads as it did. -/
def fnExactWrrOkUptoRow : OpenClaim := { program := "ytddbhokfjdgabaa", sum := "aeadee7924c7c3052abf2abcd1c5cb0bb26d5ff4369f48658c98936113eb77e5", func := "loop.example/g01623/laws.FnExactWrrOk", spec := "fnExactWrrOk", apart := false, narrowed := true }
def FnExactWrrOkUptoSaid : Prop := fnExactWrrOkUptoRow.holds Try.pinned (OpenSpec.upto fnExactWrrOkSpec)

/-- 'laws.FnExactWrrPick', WHERE WHAT IT READS IS OF BULK AT MOST 1048576: true; the input reads as it did. -/
def fnExactWrrPickUptoRow : OpenClaim := { program := "ytddbhokfjdgabaa", sum := "aeadee7924c7c3052abf2abcd1c5cb0bb26d5ff4369f48658c98936113eb77e5", func := "loop.example/g01623/laws.FnExactWrrPick", spec := "fnExactWrrPick", apart := false, narrowed := true }
def FnExactWrrPickUptoSaid : Prop := fnExactWrrPickUptoRow.holds Try.pinned (OpenSpec.upto fnExactWrrPickSpec)

/-- 'laws.FnExactWrrBack', WHERE WHAT IT READS IS OF BULK AT MOST 1048576: true; the input reads as it did. -/
def fnExactWrrBackUptoRow : OpenClaim := { program := "ytddbhokfjdgabaa", sum := "aeadee7924c7c3052abf2abcd1c5cb0bb26d5ff4369f48658c98936113eb77e5", func := "loop.example/g01623/laws.FnExactWrrBack", spec := "fnExactWrrBack", apart := false, narrowed := true }
def FnExactWrrBackUptoSaid : Prop := fnExactWrrBackUptoRow.holds Try.pinned (OpenSpec.upto fnExactWrrBackSpec)

/-- 'laws.FnExactTurnOf', WHERE WHAT IT READS IS OF BULK AT MOST 1048576: true; the input reads as it did. -/
def fnExactTurnOfUptoRow : OpenClaim := { program := "ytddbhokfjdgabaa", sum := "aeadee7924c7c3052abf2abcd1c5cb0bb26d5ff4369f48658c98936113eb77e5", func := "loop.example/g01623/laws.FnExactTurnOf", spec := "fnExactTurnOf", apart := false, narrowed := true }
def FnExactTurnOfUptoSaid : Prop := fnExactTurnOfUptoRow.holds Try.pinned (OpenSpec.upto fnExactTurnOfSpec)

/-- 'laws.FnExactScriptOk', WHERE WHAT IT READS IS OF BULK AT MOST 1048576: true; the input reads as it did. -/
def fnExactScriptOkUptoRow : OpenClaim := { program := "ytddbhokfjdgabaa", sum := "aeadee7924c7c3052abf2abcd1c5cb0bb26d5ff4369f48658c98936113eb77e5", func := "loop.example/g01623/laws.FnExactScriptOk", spec := "fnExactScriptOk", apart := false, narrowed := true }
def FnExactScriptOkUptoSaid : Prop := fnExactScriptOkUptoRow.holds Try.pinned (OpenSpec.upto fnExactScriptOkSpec)

end Rows
end Go.Proofs.Ytddbhokfjdgabaa
