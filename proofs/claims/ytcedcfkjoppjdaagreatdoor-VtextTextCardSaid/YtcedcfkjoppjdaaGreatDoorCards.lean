/-
  DERIVED. GIVEN WITH THE SEED: THE CARDS: each row of YtcedcfkjoppjdaaGreatDoorRows.lean that lists a variable, with what it lists TIED to the program's text (the seventh form; the later family's looks); each row that meets fmt, with fmt's text TOLD by the authors' own Lean function (tested against real Go, not proved from fmt's source: count such statements apart). THE CARD IS WHAT COUNTS. Prove the row's statement (the work); the ties are given (YtcedcfkjoppjdaaGreatDoorTie.lean); close each card by the builder's one call (the guide's Derived/Test/ToyasCard.lean, 'card_holds'). Laid BY PROGRAM, IN A SANDBOX (cutbox-door.mjs). By AI agents, Wed Nov 11 2026. No macro, syntax, notation, axiom, sorry.
-/
import Derived.Test.YtcedcfkjoppjdaaGreatDoorRows
import GoSem.ClaimSeven
namespace Go.Proofs.YtcedcfkjoppjdaaGreatDoor
namespace Rows

/-- THE TIED CARD OF 'witanlaw03.VtextText'. -/
def vtextTextCard : Claim7 := { stood := { row := vtextTextRow, standIns := [], harness := (true, "0a30aa1297c25367a9dec99133628c55c0a07e74e3111eb945e1292c8701341e"), looks := true }, kinds := [], alts := [], laidByText := true, laidKinds := [.data, .data, .data, .data, .sentinel, .sentinel, .pinned], laidTests := true, laidLooks := .later }
def VtextTextCardSaid : Prop := Claim7.holds Tryz.pinned (.plain (OpenSpec.ofChange vtextTextSpec)) vtextTextCard

/-- THE TIED CARD OF 'witanlaw03.VtextBytes'. -/
def vtextBytesCard : Claim7 := { stood := { row := vtextBytesRow, standIns := [], harness := (true, "0a30aa1297c25367a9dec99133628c55c0a07e74e3111eb945e1292c8701341e"), looks := true }, kinds := [], alts := [], laidByText := true, laidKinds := [.data, .data, .data, .data, .sentinel, .sentinel, .pinned], laidTests := true, laidLooks := .later }
def VtextBytesCardSaid : Prop := Claim7.holds Tryz.pinned (.plain (OpenSpec.ofChange vtextBytesSpec)) vtextBytesCard

/-- THE SECOND FORM's CARD OF 'witanlaw03.VtextText'. -/
def vtextTextUptoCard : Claim7 := { stood := { row := vtextTextUptoRow, standIns := [], harness := (true, "0a30aa1297c25367a9dec99133628c55c0a07e74e3111eb945e1292c8701341e"), looks := true }, kinds := [], alts := [], laidByText := true, laidKinds := [.data, .data, .data, .data, .sentinel, .sentinel, .pinned], laidTests := true, laidLooks := .later }
def VtextTextUptoCardSaid : Prop := Claim7.holds Tryz.pinned (.plain (OpenSpec.upto vtextTextSpec)) vtextTextUptoCard

/-- THE SECOND FORM's CARD OF 'witanlaw03.VtextBytes'. -/
def vtextBytesUptoCard : Claim7 := { stood := { row := vtextBytesUptoRow, standIns := [], harness := (true, "0a30aa1297c25367a9dec99133628c55c0a07e74e3111eb945e1292c8701341e"), looks := true }, kinds := [], alts := [], laidByText := true, laidKinds := [.data, .data, .data, .data, .sentinel, .sentinel, .pinned], laidTests := true, laidLooks := .later }
def VtextBytesUptoCardSaid : Prop := Claim7.holds Tryz.pinned (.plain (OpenSpec.upto vtextBytesSpec)) vtextBytesUptoCard
end Rows
end Go.Proofs.YtcedcfkjoppjdaaGreatDoor
