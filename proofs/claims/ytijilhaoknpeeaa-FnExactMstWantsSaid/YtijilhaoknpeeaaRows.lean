/-
  No cell of these rows narrows 'for every input' (looked for: loops, veiled, ifaces, maps, wideKeys, modest, calm, conditions, laid).
  DERIVED. THE GIVEN ROWS OF THIS SEAT. 11 by the template 'for every input the law returns true; each argument reads behind the call as it read before'; 0 by the template 'total and deterministic' (their statements: YtijilhaoknpeeaaTotals.lean).
  GIVEN WITH THE SEED: the statements are not yours to turn. If you find one false, say at which input.
  Laid BY PROGRAM, IN A SANDBOX (cutbox-rows.mjs): the forced cells as the released guide's own fill.sh prints them over the translation f9e066417224f328… (all of the seat's roots in one cut). By AI agents, Wed Nov 11 2026. No macro, syntax, notation, axiom, sorry.
-/
import Derived.Test.YtijilhaoknpeeaaChecked
import GoSem.Claim
import GoSem.ClaimJoined
import GoSem.ClaimMapViews
import Derived.JoinedTies
import Derived.KernelRfl
namespace Go.Proofs.Ytijilhaoknpeeaa
/- THE CELL 'sum', in the pinned program and in every row, IS THE sha256 OF THE DUMP (.gsa) THAT YtijilhaoknpeeaaProg.lean LOADS. Nothing in Lean hashes anything: it is a label: what it is worth is what the hold of that sum in a sandbox is worth. -/
noncomputable def Try.pinned : Pinned := { name := "ytijilhaoknpeeaa", sum := "f9e066417224f328612f65c0c6c979475da50973b250ef2b2b5b77f75fa16d9c", checked := Try.checked }
namespace Rows
def none {H : Type} : Left H := { results := [], args := [] }

/-- 'laws.FnMasters': WHATEVER THE INPUT: true; the input reads as it did. -/
def fnMastersSpec : ChangeSpec := { name := "fnMasters", fn := fun _ => fun
  | [d] => { results := [.lit (.bool true)], args := [d] }
  | _ => none }
def fnMastersRow : OpenClaim := { program := "ytijilhaoknpeeaa", sum := "f9e066417224f328612f65c0c6c979475da50973b250ef2b2b5b77f75fa16d9c", func := "loop.example/g01623/laws.FnMasters", spec := "fnMasters", unfollowed := true, recurses := true, apart := false }
def FnMastersSaid : Prop := fnMastersRow.holds Try.pinned (OpenSpec.ofChange fnMastersSpec)

/-- ITS FALSE NEIGHBOUR: 'it returns false'. Refute it at one input. -/
def fnMastersWrong : ChangeSpec := { name := "fnMasters", fn := fun _ => fun
  | [d] => { results := [.lit (.bool false)], args := [d] }
  | _ => none }
def FnMastersWrongFalsely : Prop := fnMastersRow.holds Try.pinned (OpenSpec.ofChange fnMastersWrong)

/-- 'laws.FnPosts': WHATEVER THE INPUT: true; the input reads as it did. -/
def fnPostsSpec : ChangeSpec := { name := "fnPosts", fn := fun _ => fun
  | [d] => { results := [.lit (.bool true)], args := [d] }
  | _ => none }
def fnPostsRow : OpenClaim := { program := "ytijilhaoknpeeaa", sum := "f9e066417224f328612f65c0c6c979475da50973b250ef2b2b5b77f75fa16d9c", func := "loop.example/g01623/laws.FnPosts", spec := "fnPosts", unfollowed := true, recurses := true, apart := false }
def FnPostsSaid : Prop := fnPostsRow.holds Try.pinned (OpenSpec.ofChange fnPostsSpec)

/-- ITS FALSE NEIGHBOUR: 'it returns false'. Refute it at one input. -/
def fnPostsWrong : ChangeSpec := { name := "fnPosts", fn := fun _ => fun
  | [d] => { results := [.lit (.bool false)], args := [d] }
  | _ => none }
def FnPostsWrongFalsely : Prop := fnPostsRow.holds Try.pinned (OpenSpec.ofChange fnPostsWrong)

/-- 'laws.FnExactPostsAt': WHATEVER THE INPUT: true; the input reads as it did. -/
def fnExactPostsAtSpec : ChangeSpec := { name := "fnExactPostsAt", fn := fun _ => fun
  | [d1, d2] => { results := [.lit (.bool true)], args := [d1, d2] }
  | _ => none }
def fnExactPostsAtRow : OpenClaim := { program := "ytijilhaoknpeeaa", sum := "f9e066417224f328612f65c0c6c979475da50973b250ef2b2b5b77f75fa16d9c", func := "loop.example/g01623/laws.FnExactPostsAt", spec := "fnExactPostsAt", apart := false }
def FnExactPostsAtSaid : Prop := fnExactPostsAtRow.holds Try.pinned (OpenSpec.ofChange fnExactPostsAtSpec)

/-- ITS FALSE NEIGHBOUR: 'it returns false'. Refute it at one input. -/
def fnExactPostsAtWrong : ChangeSpec := { name := "fnExactPostsAt", fn := fun _ => fun
  | [d1, d2] => { results := [.lit (.bool false)], args := [d1, d2] }
  | _ => none }
def FnExactPostsAtWrongFalsely : Prop := fnExactPostsAtRow.holds Try.pinned (OpenSpec.ofChange fnExactPostsAtWrong)

/-- 'laws.FnExactMstOk': WHATEVER THE INPUT: true; the input reads as it did. -/
def fnExactMstOkSpec : ChangeSpec := { name := "fnExactMstOk", fn := fun _ => fun
  | [d1, d2] => { results := [.lit (.bool true)], args := [d1, d2] }
  | _ => none }
def fnExactMstOkRow : OpenClaim := { program := "ytijilhaoknpeeaa", sum := "f9e066417224f328612f65c0c6c979475da50973b250ef2b2b5b77f75fa16d9c", func := "loop.example/g01623/laws.FnExactMstOk", spec := "fnExactMstOk", unfollowed := true, recurses := true, apart := false }
def FnExactMstOkSaid : Prop := fnExactMstOkRow.holds Try.pinned (OpenSpec.ofChange fnExactMstOkSpec)

/-- ITS FALSE NEIGHBOUR: 'it returns false'. Refute it at one input. -/
def fnExactMstOkWrong : ChangeSpec := { name := "fnExactMstOk", fn := fun _ => fun
  | [d1, d2] => { results := [.lit (.bool false)], args := [d1, d2] }
  | _ => none }
def FnExactMstOkWrongFalsely : Prop := fnExactMstOkRow.holds Try.pinned (OpenSpec.ofChange fnExactMstOkWrong)

/-- 'laws.FnExactMstPost': WHATEVER THE INPUT: true; the input reads as it did. -/
def fnExactMstPostSpec : ChangeSpec := { name := "fnExactMstPost", fn := fun _ => fun
  | [d1, d2] => { results := [.lit (.bool true)], args := [d1, d2] }
  | _ => none }
def fnExactMstPostRow : OpenClaim := { program := "ytijilhaoknpeeaa", sum := "f9e066417224f328612f65c0c6c979475da50973b250ef2b2b5b77f75fa16d9c", func := "loop.example/g01623/laws.FnExactMstPost", spec := "fnExactMstPost", unfollowed := true, recurses := true, apart := false }
def FnExactMstPostSaid : Prop := fnExactMstPostRow.holds Try.pinned (OpenSpec.ofChange fnExactMstPostSpec)

/-- ITS FALSE NEIGHBOUR: 'it returns false'. Refute it at one input. -/
def fnExactMstPostWrong : ChangeSpec := { name := "fnExactMstPost", fn := fun _ => fun
  | [d1, d2] => { results := [.lit (.bool false)], args := [d1, d2] }
  | _ => none }
def FnExactMstPostWrongFalsely : Prop := fnExactMstPostRow.holds Try.pinned (OpenSpec.ofChange fnExactMstPostWrong)

/-- 'laws.FnExactMstWants': WHATEVER THE INPUT: true; the input reads as it did. -/
def fnExactMstWantsSpec : ChangeSpec := { name := "fnExactMstWants", fn := fun _ => fun
  | [d] => { results := [.lit (.bool true)], args := [d] }
  | _ => none }
def fnExactMstWantsRow : OpenClaim := { program := "ytijilhaoknpeeaa", sum := "f9e066417224f328612f65c0c6c979475da50973b250ef2b2b5b77f75fa16d9c", func := "loop.example/g01623/laws.FnExactMstWants", spec := "fnExactMstWants", unfollowed := true, recurses := true, apart := false }
def FnExactMstWantsSaid : Prop := fnExactMstWantsRow.holds Try.pinned (OpenSpec.ofChange fnExactMstWantsSpec)

/-- ITS FALSE NEIGHBOUR: 'it returns false'. Refute it at one input. -/
def fnExactMstWantsWrong : ChangeSpec := { name := "fnExactMstWants", fn := fun _ => fun
  | [d] => { results := [.lit (.bool false)], args := [d] }
  | _ => none }
def FnExactMstWantsWrongFalsely : Prop := fnExactMstWantsRow.holds Try.pinned (OpenSpec.ofChange fnExactMstWantsWrong)

/-- 'laws.FnExactMstAddr': WHATEVER THE INPUT: true; the input reads as it did. -/
def fnExactMstAddrSpec : ChangeSpec := { name := "fnExactMstAddr", fn := fun _ => fun
  | [d1, d2] => { results := [.lit (.bool true)], args := [d1, d2] }
  | _ => none }
def fnExactMstAddrRow : OpenClaim := { program := "ytijilhaoknpeeaa", sum := "f9e066417224f328612f65c0c6c979475da50973b250ef2b2b5b77f75fa16d9c", func := "loop.example/g01623/laws.FnExactMstAddr", spec := "fnExactMstAddr", unfollowed := true, recurses := true, apart := false }
def FnExactMstAddrSaid : Prop := fnExactMstAddrRow.holds Try.pinned (OpenSpec.ofChange fnExactMstAddrSpec)

/-- ITS FALSE NEIGHBOUR: 'it returns false'. Refute it at one input. -/
def fnExactMstAddrWrong : ChangeSpec := { name := "fnExactMstAddr", fn := fun _ => fun
  | [d1, d2] => { results := [.lit (.bool false)], args := [d1, d2] }
  | _ => none }
def FnExactMstAddrWrongFalsely : Prop := fnExactMstAddrRow.holds Try.pinned (OpenSpec.ofChange fnExactMstAddrWrong)

/-- 'laws.FnExactMstIssue': WHATEVER THE INPUT: true; the input reads as it did. -/
def fnExactMstIssueSpec : ChangeSpec := { name := "fnExactMstIssue", fn := fun _ => fun
  | [d] => { results := [.lit (.bool true)], args := [d] }
  | _ => none }
def fnExactMstIssueRow : OpenClaim := { program := "ytijilhaoknpeeaa", sum := "f9e066417224f328612f65c0c6c979475da50973b250ef2b2b5b77f75fa16d9c", func := "loop.example/g01623/laws.FnExactMstIssue", spec := "fnExactMstIssue", unfollowed := true, recurses := true, apart := false }
def FnExactMstIssueSaid : Prop := fnExactMstIssueRow.holds Try.pinned (OpenSpec.ofChange fnExactMstIssueSpec)

/-- ITS FALSE NEIGHBOUR: 'it returns false'. Refute it at one input. -/
def fnExactMstIssueWrong : ChangeSpec := { name := "fnExactMstIssue", fn := fun _ => fun
  | [d] => { results := [.lit (.bool false)], args := [d] }
  | _ => none }
def FnExactMstIssueWrongFalsely : Prop := fnExactMstIssueRow.holds Try.pinned (OpenSpec.ofChange fnExactMstIssueWrong)

/-- 'laws.FnExactMstBack': WHATEVER THE INPUT: true; the input reads as it did. -/
def fnExactMstBackSpec : ChangeSpec := { name := "fnExactMstBack", fn := fun _ => fun
  | [d] => { results := [.lit (.bool true)], args := [d] }
  | _ => none }
def fnExactMstBackRow : OpenClaim := { program := "ytijilhaoknpeeaa", sum := "f9e066417224f328612f65c0c6c979475da50973b250ef2b2b5b77f75fa16d9c", func := "loop.example/g01623/laws.FnExactMstBack", spec := "fnExactMstBack", unfollowed := true, recurses := true, apart := false }
def FnExactMstBackSaid : Prop := fnExactMstBackRow.holds Try.pinned (OpenSpec.ofChange fnExactMstBackSpec)

/-- ITS FALSE NEIGHBOUR: 'it returns false'. Refute it at one input. -/
def fnExactMstBackWrong : ChangeSpec := { name := "fnExactMstBack", fn := fun _ => fun
  | [d] => { results := [.lit (.bool false)], args := [d] }
  | _ => none }
def FnExactMstBackWrongFalsely : Prop := fnExactMstBackRow.holds Try.pinned (OpenSpec.ofChange fnExactMstBackWrong)

/-- 'laws.FnExactMstEnd': WHATEVER THE INPUT: true; the input reads as it did. -/
def fnExactMstEndSpec : ChangeSpec := { name := "fnExactMstEnd", fn := fun _ => fun
  | [d] => { results := [.lit (.bool true)], args := [d] }
  | _ => none }
def fnExactMstEndRow : OpenClaim := { program := "ytijilhaoknpeeaa", sum := "f9e066417224f328612f65c0c6c979475da50973b250ef2b2b5b77f75fa16d9c", func := "loop.example/g01623/laws.FnExactMstEnd", spec := "fnExactMstEnd", unfollowed := true, recurses := true, apart := false }
def FnExactMstEndSaid : Prop := fnExactMstEndRow.holds Try.pinned (OpenSpec.ofChange fnExactMstEndSpec)

/-- ITS FALSE NEIGHBOUR: 'it returns false'. Refute it at one input. -/
def fnExactMstEndWrong : ChangeSpec := { name := "fnExactMstEnd", fn := fun _ => fun
  | [d] => { results := [.lit (.bool false)], args := [d] }
  | _ => none }
def FnExactMstEndWrongFalsely : Prop := fnExactMstEndRow.holds Try.pinned (OpenSpec.ofChange fnExactMstEndWrong)

/-- 'laws.FnExactSameMst': WHATEVER THE INPUT: true; the input reads as it did. -/
def fnExactSameMstSpec : ChangeSpec := { name := "fnExactSameMst", fn := fun _ => fun
  | [d1, d2] => { results := [.lit (.bool true)], args := [d1, d2] }
  | _ => none }
def fnExactSameMstRow : OpenClaim := { program := "ytijilhaoknpeeaa", sum := "f9e066417224f328612f65c0c6c979475da50973b250ef2b2b5b77f75fa16d9c", func := "loop.example/g01623/laws.FnExactSameMst", spec := "fnExactSameMst", unfollowed := true, recurses := true, apart := false }
def FnExactSameMstSaid : Prop := fnExactSameMstRow.holds Try.pinned (OpenSpec.ofChange fnExactSameMstSpec)

/-- ITS FALSE NEIGHBOUR: 'it returns false'. Refute it at one input. -/
def fnExactSameMstWrong : ChangeSpec := { name := "fnExactSameMst", fn := fun _ => fun
  | [d1, d2] => { results := [.lit (.bool false)], args := [d1, d2] }
  | _ => none }
def FnExactSameMstWrongFalsely : Prop := fnExactSameMstRow.holds Try.pinned (OpenSpec.ofChange fnExactSameMstWrong)

/- THE SECOND FORM. 'bulk': how many values and letters a reading holds, each counted each time it is reached (what is shared counts as often as it is met; a slice's spare places count too). A statement '..UptoSaid' is the law's where the arguments, and the package variables that the reading takes, are together of bulk at most 1048576: NARROWER than '..Said'. Prove '..Said' where nothing that the law and all that it calls make is longer than what came in: it says more and counts as full. Else prove '..UptoSaid'. A law counts once. -/
mutual
def uptoBulk {H : Type} : DataW H → Nat
  | .lit (.string bytes) => bytes.length + 1
  | .lit _ => 1
  | .nil => 1
  | .ptr d => uptoBulk d + 1
  | .slice elems spare => uptoBulkAll elems + uptoBulkAll spare + 1
  | .agg parts => uptoBulkAll parts + 1
  | .iface _ d => uptoBulk d + 1
  | .map entries => uptoBulkEntries entries + 1
  | .held _ => 1
def uptoBulkAll {H : Type} : List (DataW H) → Nat
  | [] => 0
  | d :: r => uptoBulk d + uptoBulkAll r
def uptoBulkEntries {H : Type} : List (Lit × DataW H) → Nat
  | [] => 0
  | x :: r => uptoBulkEntry x + uptoBulkEntries r
def uptoBulkEntry {H : Type} : Lit × DataW H → Nat
  | (.string bytes, d) => bytes.length + uptoBulk d + 1
  | (_, d) => uptoBulk d + 1
 end
def uptoSmall : (H : Type) → List (DataW H) → Bool := fun _ ds => decide (uptoBulkAll ds ≤ 1048576)
def OpenSpec.upto (s : _root_.Go.ChangeSpec) : _root_.Go.OpenSpec := { _root_.Go.OpenSpec.ofChange s with cond := some uptoSmall }

/-- 'laws.FnMasters', WHERE WHAT IT READS IS OF BULK AT MOST 1048576: true; the input reads as it did. -/
def fnMastersUptoRow : OpenClaim := { program := "ytijilhaoknpeeaa", sum := "f9e066417224f328612f65c0c6c979475da50973b250ef2b2b5b77f75fa16d9c", func := "loop.example/g01623/laws.FnMasters", spec := "fnMasters", unfollowed := true, recurses := true, apart := false, narrowed := true }
def FnMastersUptoSaid : Prop := fnMastersUptoRow.holds Try.pinned (OpenSpec.upto fnMastersSpec)

/-- 'laws.FnPosts', WHERE WHAT IT READS IS OF BULK AT MOST 1048576: true; the input reads as it did. -/
def fnPostsUptoRow : OpenClaim := { program := "ytijilhaoknpeeaa", sum := "f9e066417224f328612f65c0c6c979475da50973b250ef2b2b5b77f75fa16d9c", func := "loop.example/g01623/laws.FnPosts", spec := "fnPosts", unfollowed := true, recurses := true, apart := false, narrowed := true }
def FnPostsUptoSaid : Prop := fnPostsUptoRow.holds Try.pinned (OpenSpec.upto fnPostsSpec)

/-- 'laws.FnExactPostsAt', WHERE WHAT IT READS IS OF BULK AT MOST 1048576: true; the input reads as it did. -/
def fnExactPostsAtUptoRow : OpenClaim := { program := "ytijilhaoknpeeaa", sum := "f9e066417224f328612f65c0c6c979475da50973b250ef2b2b5b77f75fa16d9c", func := "loop.example/g01623/laws.FnExactPostsAt", spec := "fnExactPostsAt", apart := false, narrowed := true }
def FnExactPostsAtUptoSaid : Prop := fnExactPostsAtUptoRow.holds Try.pinned (OpenSpec.upto fnExactPostsAtSpec)

/-- 'laws.FnExactMstOk', WHERE WHAT IT READS IS OF BULK AT MOST 1048576: true; the input reads as it did. -/
def fnExactMstOkUptoRow : OpenClaim := { program := "ytijilhaoknpeeaa", sum := "f9e066417224f328612f65c0c6c979475da50973b250ef2b2b5b77f75fa16d9c", func := "loop.example/g01623/laws.FnExactMstOk", spec := "fnExactMstOk", unfollowed := true, recurses := true, apart := false, narrowed := true }
def FnExactMstOkUptoSaid : Prop := fnExactMstOkUptoRow.holds Try.pinned (OpenSpec.upto fnExactMstOkSpec)

/-- 'laws.FnExactMstPost', WHERE WHAT IT READS IS OF BULK AT MOST 1048576: true; the input reads as it did. -/
def fnExactMstPostUptoRow : OpenClaim := { program := "ytijilhaoknpeeaa", sum := "f9e066417224f328612f65c0c6c979475da50973b250ef2b2b5b77f75fa16d9c", func := "loop.example/g01623/laws.FnExactMstPost", spec := "fnExactMstPost", unfollowed := true, recurses := true, apart := false, narrowed := true }
def FnExactMstPostUptoSaid : Prop := fnExactMstPostUptoRow.holds Try.pinned (OpenSpec.upto fnExactMstPostSpec)

/-- 'laws.FnExactMstWants', WHERE WHAT IT READS IS OF BULK AT MOST 1048576: true; the input reads as it did. -/
def fnExactMstWantsUptoRow : OpenClaim := { program := "ytijilhaoknpeeaa", sum := "f9e066417224f328612f65c0c6c979475da50973b250ef2b2b5b77f75fa16d9c", func := "loop.example/g01623/laws.FnExactMstWants", spec := "fnExactMstWants", unfollowed := true, recurses := true, apart := false, narrowed := true }
def FnExactMstWantsUptoSaid : Prop := fnExactMstWantsUptoRow.holds Try.pinned (OpenSpec.upto fnExactMstWantsSpec)

/-- 'laws.FnExactMstAddr', WHERE WHAT IT READS IS OF BULK AT MOST 1048576: true; the input reads as it did. -/
def fnExactMstAddrUptoRow : OpenClaim := { program := "ytijilhaoknpeeaa", sum := "f9e066417224f328612f65c0c6c979475da50973b250ef2b2b5b77f75fa16d9c", func := "loop.example/g01623/laws.FnExactMstAddr", spec := "fnExactMstAddr", unfollowed := true, recurses := true, apart := false, narrowed := true }
def FnExactMstAddrUptoSaid : Prop := fnExactMstAddrUptoRow.holds Try.pinned (OpenSpec.upto fnExactMstAddrSpec)

/-- 'laws.FnExactMstIssue', WHERE WHAT IT READS IS OF BULK AT MOST 1048576: true; the input reads as it did. -/
def fnExactMstIssueUptoRow : OpenClaim := { program := "ytijilhaoknpeeaa", sum := "f9e066417224f328612f65c0c6c979475da50973b250ef2b2b5b77f75fa16d9c", func := "loop.example/g01623/laws.FnExactMstIssue", spec := "fnExactMstIssue", unfollowed := true, recurses := true, apart := false, narrowed := true }
def FnExactMstIssueUptoSaid : Prop := fnExactMstIssueUptoRow.holds Try.pinned (OpenSpec.upto fnExactMstIssueSpec)

/-- 'laws.FnExactMstBack', WHERE WHAT IT READS IS OF BULK AT MOST 1048576: true; the input reads as it did. -/
def fnExactMstBackUptoRow : OpenClaim := { program := "ytijilhaoknpeeaa", sum := "f9e066417224f328612f65c0c6c979475da50973b250ef2b2b5b77f75fa16d9c", func := "loop.example/g01623/laws.FnExactMstBack", spec := "fnExactMstBack", unfollowed := true, recurses := true, apart := false, narrowed := true }
def FnExactMstBackUptoSaid : Prop := fnExactMstBackUptoRow.holds Try.pinned (OpenSpec.upto fnExactMstBackSpec)

/-- 'laws.FnExactMstEnd', WHERE WHAT IT READS IS OF BULK AT MOST 1048576: true; the input reads as it did. -/
def fnExactMstEndUptoRow : OpenClaim := { program := "ytijilhaoknpeeaa", sum := "f9e066417224f328612f65c0c6c979475da50973b250ef2b2b5b77f75fa16d9c", func := "loop.example/g01623/laws.FnExactMstEnd", spec := "fnExactMstEnd", unfollowed := true, recurses := true, apart := false, narrowed := true }
def FnExactMstEndUptoSaid : Prop := fnExactMstEndUptoRow.holds Try.pinned (OpenSpec.upto fnExactMstEndSpec)

/-- 'laws.FnExactSameMst', WHERE WHAT IT READS IS OF BULK AT MOST 1048576: true; the input reads as it did. -/
def fnExactSameMstUptoRow : OpenClaim := { program := "ytijilhaoknpeeaa", sum := "f9e066417224f328612f65c0c6c979475da50973b250ef2b2b5b77f75fa16d9c", func := "loop.example/g01623/laws.FnExactSameMst", spec := "fnExactSameMst", unfollowed := true, recurses := true, apart := false, narrowed := true }
def FnExactSameMstUptoSaid : Prop := fnExactSameMstUptoRow.holds Try.pinned (OpenSpec.upto fnExactSameMstSpec)

end Rows
end Go.Proofs.Ytijilhaoknpeeaa
