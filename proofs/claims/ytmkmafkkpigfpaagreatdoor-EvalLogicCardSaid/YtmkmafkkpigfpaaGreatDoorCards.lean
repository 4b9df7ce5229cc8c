/-
  DERIVED. GIVEN WITH THE SEED: THE CARDS: each row of YtmkmafkkpigfpaaGreatDoorRows.lean that lists a variable, with what it lists TIED to the program's text (the seventh form; the later family's looks); each row that meets fmt, with fmt's text TOLD by the authors' own Lean function (tested against real Go, not proved from fmt's source: count such statements apart). THE CARD IS WHAT COUNTS. Prove the row's statement (the work); the ties are given (YtmkmafkkpigfpaaGreatDoorTie.lean); close each card by the builder's one call (the guide's Derived/Test/ToyasCard.lean, 'card_holds'). Laid BY PROGRAM, IN A SANDBOX (cutbox-door.mjs). By AI agents, Wed Nov 11 2026. No macro, syntax, notation, axiom, sorry.
-/
import Derived.Test.YtmkmafkkpigfpaaGreatDoorRows
import GoSem.ClaimSeven
namespace Go.Proofs.YtmkmafkkpigfpaaGreatDoor
namespace Rows

/-- THE TIED CARD OF 'witanlaw10.EvalKinds'. -/
def evalKindsCard : Claim7 := { stood := { row := evalKindsRow, standIns := [], harness := (true, "30d51ae469624878a86cb9a6fa263127d66d2527cd3441b94c3b728c65a1ac25"), looks := false }, kinds := [], alts := [], laidByText := true, laidKinds := [.data, .pinned], laidTests := true, laidLooks := .later }
def EvalKindsCardSaid : Prop := Claim7.holds Tryz.pinned (.plain (OpenSpec.ofChange evalKindsSpec)) evalKindsCard

/-- THE TIED CARD OF 'witanlaw10.EvalLogic'. -/
def evalLogicCard : Claim7 := { stood := { row := evalLogicRow, standIns := [], harness := (true, "30d51ae469624878a86cb9a6fa263127d66d2527cd3441b94c3b728c65a1ac25"), looks := false }, kinds := [], alts := [], laidByText := true, laidKinds := [.data, .pinned], laidTests := true, laidLooks := .later }
def EvalLogicCardSaid : Prop := Claim7.holds Tryz.pinned (.plain (OpenSpec.ofChange evalLogicSpec)) evalLogicCard

/-- THE TIED CARD OF 'witanlaw10.EvalNames'. -/
def evalNamesCard : Claim7 := { stood := { row := evalNamesRow, standIns := [], harness := (true, "30d51ae469624878a86cb9a6fa263127d66d2527cd3441b94c3b728c65a1ac25"), looks := false }, kinds := [], alts := [], laidByText := true, laidKinds := [.data, .pinned], laidTests := true, laidLooks := .later }
def EvalNamesCardSaid : Prop := Claim7.holds Tryz.pinned (.plain (OpenSpec.ofChange evalNamesSpec)) evalNamesCard

/-- THE TIED CARD OF 'witanlaw10.EvalIfs'. -/
def evalIfsCard : Claim7 := { stood := { row := evalIfsRow, standIns := [], harness := (true, "30d51ae469624878a86cb9a6fa263127d66d2527cd3441b94c3b728c65a1ac25"), looks := false }, kinds := [], alts := [], laidByText := true, laidKinds := [.data, .pinned], laidTests := true, laidLooks := .later }
def EvalIfsCardSaid : Prop := Claim7.holds Tryz.pinned (.plain (OpenSpec.ofChange evalIfsSpec)) evalIfsCard

/-- THE SECOND FORM's CARD OF 'witanlaw10.EvalKinds'. -/
def evalKindsUptoCard : Claim7 := { stood := { row := evalKindsUptoRow, standIns := [], harness := (true, "30d51ae469624878a86cb9a6fa263127d66d2527cd3441b94c3b728c65a1ac25"), looks := false }, kinds := [], alts := [], laidByText := true, laidKinds := [.data, .pinned], laidTests := true, laidLooks := .later }
def EvalKindsUptoCardSaid : Prop := Claim7.holds Tryz.pinned (.plain (OpenSpec.upto evalKindsSpec)) evalKindsUptoCard

/-- THE SECOND FORM's CARD OF 'witanlaw10.EvalLogic'. -/
def evalLogicUptoCard : Claim7 := { stood := { row := evalLogicUptoRow, standIns := [], harness := (true, "30d51ae469624878a86cb9a6fa263127d66d2527cd3441b94c3b728c65a1ac25"), looks := false }, kinds := [], alts := [], laidByText := true, laidKinds := [.data, .pinned], laidTests := true, laidLooks := .later }
def EvalLogicUptoCardSaid : Prop := Claim7.holds Tryz.pinned (.plain (OpenSpec.upto evalLogicSpec)) evalLogicUptoCard

/-- THE SECOND FORM's CARD OF 'witanlaw10.EvalNames'. -/
def evalNamesUptoCard : Claim7 := { stood := { row := evalNamesUptoRow, standIns := [], harness := (true, "30d51ae469624878a86cb9a6fa263127d66d2527cd3441b94c3b728c65a1ac25"), looks := false }, kinds := [], alts := [], laidByText := true, laidKinds := [.data, .pinned], laidTests := true, laidLooks := .later }
def EvalNamesUptoCardSaid : Prop := Claim7.holds Tryz.pinned (.plain (OpenSpec.upto evalNamesSpec)) evalNamesUptoCard

/-- THE SECOND FORM's CARD OF 'witanlaw10.EvalIfs'. -/
def evalIfsUptoCard : Claim7 := { stood := { row := evalIfsUptoRow, standIns := [], harness := (true, "30d51ae469624878a86cb9a6fa263127d66d2527cd3441b94c3b728c65a1ac25"), looks := false }, kinds := [], alts := [], laidByText := true, laidKinds := [.data, .pinned], laidTests := true, laidLooks := .later }
def EvalIfsUptoCardSaid : Prop := Claim7.holds Tryz.pinned (.plain (OpenSpec.upto evalIfsSpec)) evalIfsUptoCard
end Rows
end Go.Proofs.YtmkmafkkpigfpaaGreatDoor
