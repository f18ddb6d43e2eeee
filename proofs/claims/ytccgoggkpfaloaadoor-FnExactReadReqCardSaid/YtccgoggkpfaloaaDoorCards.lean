/-
  DERIVED. GIVEN WITH THE SEED: THE CARDS: each row of YtccgoggkpfaloaaDoorRows.lean that lists a variable, with what it lists TIED to the program's text (the seventh form; the later family's looks); each row that meets fmt, with fmt's text TOLD by the authors' own Lean function (tested against real Go, not proved from fmt's source: count such statements apart). THE CARD IS WHAT COUNTS. Prove the row's statement (the work); the ties are given (YtccgoggkpfaloaaDoorTie.lean); close each card by the builder's one call (the guide's Derived/Test/ToyasCard.lean, 'card_holds'). Laid BY PROGRAM, IN A SANDBOX (cutbox-door.mjs). By AI agents, Wed Nov 11 2026. No macro, syntax, notation, axiom, sorry.
-/
import Derived.Test.YtccgoggkpfaloaaDoorRows
import GoSem.ClaimSeven
namespace Go.Proofs.YtccgoggkpfaloaaDoor
namespace Rows

/-- THE TIED CARD OF 'laws.FnExactReqText'. -/
def fnExactReqTextCard : Claim7 := { stood := { row := fnExactReqTextRow, standIns := [], harness := (true, "4e2eee8e76206907dedb9ec3f1059fdb369b9ea94f4a1a4675000372a2d43993"), looks := true }, kinds := [], alts := [], laidByText := true, laidKinds := [.data, .data, .data], laidTests := true, laidLooks := .later }
def FnExactReqTextCardSaid : Prop := Claim7.holds Tryd.pinned (.plain (OpenSpec.ofChange fnExactReqTextSpec)) fnExactReqTextCard

/-- THE TIED CARD OF 'laws.FnExactReadReq'. -/
def fnExactReadReqCard : Claim7 := { stood := { row := fnExactReadReqRow, standIns := [], harness := (true, "4e2eee8e76206907dedb9ec3f1059fdb369b9ea94f4a1a4675000372a2d43993"), looks := true }, kinds := [], alts := [], laidByText := true, laidKinds := [.data, .data, .data, .data, .sentinel, .sentinel, .pinned], laidTests := true, laidLooks := .later }
def FnExactReadReqCardSaid : Prop := Claim7.holds Tryd.pinned (.plain (OpenSpec.ofChange fnExactReadReqSpec)) fnExactReadReqCard

/-- THE SECOND FORM's CARD OF 'laws.FnExactReqText'. -/
def fnExactReqTextUptoCard : Claim7 := { stood := { row := fnExactReqTextUptoRow, standIns := [], harness := (true, "4e2eee8e76206907dedb9ec3f1059fdb369b9ea94f4a1a4675000372a2d43993"), looks := true }, kinds := [], alts := [], laidByText := true, laidKinds := [.data, .data, .data], laidTests := true, laidLooks := .later }
def FnExactReqTextUptoCardSaid : Prop := Claim7.holds Tryd.pinned (.plain (OpenSpec.upto fnExactReqTextSpec)) fnExactReqTextUptoCard

/-- THE SECOND FORM's CARD OF 'laws.FnExactReadReq'. -/
def fnExactReadReqUptoCard : Claim7 := { stood := { row := fnExactReadReqUptoRow, standIns := [], harness := (true, "4e2eee8e76206907dedb9ec3f1059fdb369b9ea94f4a1a4675000372a2d43993"), looks := true }, kinds := [], alts := [], laidByText := true, laidKinds := [.data, .data, .data, .data, .sentinel, .sentinel, .pinned], laidTests := true, laidLooks := .later }
def FnExactReadReqUptoCardSaid : Prop := Claim7.holds Tryd.pinned (.plain (OpenSpec.upto fnExactReadReqSpec)) fnExactReadReqUptoCard
end Rows
end Go.Proofs.YtccgoggkpfaloaaDoor
