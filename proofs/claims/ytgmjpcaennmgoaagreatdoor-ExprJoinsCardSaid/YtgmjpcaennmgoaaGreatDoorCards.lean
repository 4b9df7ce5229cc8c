/-
  DERIVED. GIVEN WITH THE SEED: THE CARDS: each row of YtgmjpcaennmgoaaGreatDoorRows.lean that lists a variable, with what it lists TIED to the program's text (the seventh form; the later family's looks); each row that meets fmt, with fmt's text TOLD by the authors' own Lean function (tested against real Go, not proved from fmt's source: count such statements apart). THE CARD IS WHAT COUNTS. Prove the row's statement (the work); the ties are given (YtgmjpcaennmgoaaGreatDoorTie.lean); close each card by the builder's one call (the guide's Derived/Test/ToyasCard.lean, 'card_holds'). Laid BY PROGRAM, IN A SANDBOX (cutbox-door.mjs). By AI agents, Wed Nov 11 2026. No macro, syntax, notation, axiom, sorry.
-/
import Derived.Test.YtgmjpcaennmgoaaGreatDoorRows
import GoSem.ClaimSeven
namespace Go.Proofs.YtgmjpcaennmgoaaGreatDoor
namespace Rows

/-- THE TIED CARD OF 'witanlaw07.ExprReads'. -/
def exprReadsCard : Claim7 := { stood := { row := exprReadsRow, standIns := [], harness := (true, "ba2c83f106b0423ff0f19ed18040bb57f5c0f7c397e4b991b8d2dd62541ba19a"), looks := true }, kinds := [], alts := [], laidByText := true, laidKinds := [.data, .data, .data, .data, .sentinel, .sentinel, .pinned], laidTests := true, laidLooks := .later }
def ExprReadsCardSaid : Prop := Claim7.holds Tryz.pinned (.plain (OpenSpec.ofChange exprReadsSpec)) exprReadsCard

/-- THE TIED CARD OF 'witanlaw07.ExprBrackets'. -/
def exprBracketsCard : Claim7 := { stood := { row := exprBracketsRow, standIns := [], harness := (true, "ba2c83f106b0423ff0f19ed18040bb57f5c0f7c397e4b991b8d2dd62541ba19a"), looks := true }, kinds := [], alts := [], laidByText := true, laidKinds := [.data, .data, .data, .data, .sentinel, .sentinel, .pinned], laidTests := true, laidLooks := .later }
def ExprBracketsCardSaid : Prop := Claim7.holds Tryz.pinned (.plain (OpenSpec.ofChange exprBracketsSpec)) exprBracketsCard

/-- THE TIED CARD OF 'witanlaw07.ExprShapes'. -/
def exprShapesCard : Claim7 := { stood := { row := exprShapesRow, standIns := [], harness := (true, "ba2c83f106b0423ff0f19ed18040bb57f5c0f7c397e4b991b8d2dd62541ba19a"), looks := true }, kinds := [], alts := [], laidByText := true, laidKinds := [.data, .data, .data, .data, .sentinel, .sentinel, .pinned], laidTests := true, laidLooks := .later }
def ExprShapesCardSaid : Prop := Claim7.holds Tryz.pinned (.plain (OpenSpec.ofChange exprShapesSpec)) exprShapesCard

/-- THE TIED CARD OF 'witanlaw07.ExprJoins'. -/
def exprJoinsCard : Claim7 := { stood := { row := exprJoinsRow, standIns := [], harness := (true, "ba2c83f106b0423ff0f19ed18040bb57f5c0f7c397e4b991b8d2dd62541ba19a"), looks := true }, kinds := [], alts := [], laidByText := true, laidKinds := [.data, .data, .data, .data, .sentinel, .sentinel, .pinned], laidTests := true, laidLooks := .later }
def ExprJoinsCardSaid : Prop := Claim7.holds Tryz.pinned (.plain (OpenSpec.ofChange exprJoinsSpec)) exprJoinsCard

/-- THE SECOND FORM's CARD OF 'witanlaw07.ExprReads'. -/
def exprReadsUptoCard : Claim7 := { stood := { row := exprReadsUptoRow, standIns := [], harness := (true, "ba2c83f106b0423ff0f19ed18040bb57f5c0f7c397e4b991b8d2dd62541ba19a"), looks := true }, kinds := [], alts := [], laidByText := true, laidKinds := [.data, .data, .data, .data, .sentinel, .sentinel, .pinned], laidTests := true, laidLooks := .later }
def ExprReadsUptoCardSaid : Prop := Claim7.holds Tryz.pinned (.plain (OpenSpec.upto exprReadsSpec)) exprReadsUptoCard

/-- THE SECOND FORM's CARD OF 'witanlaw07.ExprBrackets'. -/
def exprBracketsUptoCard : Claim7 := { stood := { row := exprBracketsUptoRow, standIns := [], harness := (true, "ba2c83f106b0423ff0f19ed18040bb57f5c0f7c397e4b991b8d2dd62541ba19a"), looks := true }, kinds := [], alts := [], laidByText := true, laidKinds := [.data, .data, .data, .data, .sentinel, .sentinel, .pinned], laidTests := true, laidLooks := .later }
def ExprBracketsUptoCardSaid : Prop := Claim7.holds Tryz.pinned (.plain (OpenSpec.upto exprBracketsSpec)) exprBracketsUptoCard

/-- THE SECOND FORM's CARD OF 'witanlaw07.ExprShapes'. -/
def exprShapesUptoCard : Claim7 := { stood := { row := exprShapesUptoRow, standIns := [], harness := (true, "ba2c83f106b0423ff0f19ed18040bb57f5c0f7c397e4b991b8d2dd62541ba19a"), looks := true }, kinds := [], alts := [], laidByText := true, laidKinds := [.data, .data, .data, .data, .sentinel, .sentinel, .pinned], laidTests := true, laidLooks := .later }
def ExprShapesUptoCardSaid : Prop := Claim7.holds Tryz.pinned (.plain (OpenSpec.upto exprShapesSpec)) exprShapesUptoCard

/-- THE SECOND FORM's CARD OF 'witanlaw07.ExprJoins'. -/
def exprJoinsUptoCard : Claim7 := { stood := { row := exprJoinsUptoRow, standIns := [], harness := (true, "ba2c83f106b0423ff0f19ed18040bb57f5c0f7c397e4b991b8d2dd62541ba19a"), looks := true }, kinds := [], alts := [], laidByText := true, laidKinds := [.data, .data, .data, .data, .sentinel, .sentinel, .pinned], laidTests := true, laidLooks := .later }
def ExprJoinsUptoCardSaid : Prop := Claim7.holds Tryz.pinned (.plain (OpenSpec.upto exprJoinsSpec)) exprJoinsUptoCard
end Rows
end Go.Proofs.YtgmjpcaennmgoaaGreatDoor
