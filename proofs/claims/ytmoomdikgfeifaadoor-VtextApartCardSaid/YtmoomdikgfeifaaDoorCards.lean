/-
  DERIVED. GIVEN WITH THE SEED: THE CARDS: each row of YtmoomdikgfeifaaDoorRows.lean that lists a variable, with what it lists TIED to the program's text (the seventh form; the later family's looks); each row that meets fmt, with fmt's text TOLD by the authors' own Lean function (tested against real Go, not proved from fmt's source: count such statements apart). THE CARD IS WHAT COUNTS. Prove the row's statement (the work); the ties are given (YtmoomdikgfeifaaDoorTie.lean); close each card by the builder's one call (the guide's Derived/Test/ToyasCard.lean, 'card_holds'). Laid BY PROGRAM, IN A SANDBOX (cutbox-door.mjs). By AI agents, Wed Nov 11 2026. No macro, syntax, notation, axiom, sorry.
-/
import Derived.Test.YtmoomdikgfeifaaDoorRows
import GoSem.ClaimSeven
namespace Go.Proofs.YtmoomdikgfeifaaDoor
namespace Rows

/-- THE TIED CARD OF 'witanlaw03.VtextOnly'. -/
def vtextOnlyCard : Claim7 := { stood := { row := vtextOnlyRow, standIns := [], harness := (true, "4de7bfa1dac8eb2060bcff061ddd428e6be4f3ee26c3394922803b0650206c9a"), looks := true }, kinds := [], alts := [], laidByText := true, laidKinds := [.data, .data, .data, .data, .sentinel, .sentinel, .pinned], laidTests := true, laidLooks := .later }
def VtextOnlyCardSaid : Prop := Claim7.holds Tryd.pinned (.plain (OpenSpec.ofChange vtextOnlySpec)) vtextOnlyCard

/-- THE TIED CARD OF 'witanlaw03.VtextApart'. -/
def vtextApartCard : Claim7 := { stood := { row := vtextApartRow, standIns := [], harness := (true, "4de7bfa1dac8eb2060bcff061ddd428e6be4f3ee26c3394922803b0650206c9a"), looks := true }, kinds := [], alts := [], laidByText := true, laidKinds := [.data, .data, .data, .data, .sentinel, .sentinel, .pinned], laidTests := true, laidLooks := .later }
def VtextApartCardSaid : Prop := Claim7.holds Tryd.pinned (.plain (OpenSpec.ofChange vtextApartSpec)) vtextApartCard

/-- THE SECOND FORM's CARD OF 'witanlaw03.VtextOnly'. -/
def vtextOnlyUptoCard : Claim7 := { stood := { row := vtextOnlyUptoRow, standIns := [], harness := (true, "4de7bfa1dac8eb2060bcff061ddd428e6be4f3ee26c3394922803b0650206c9a"), looks := true }, kinds := [], alts := [], laidByText := true, laidKinds := [.data, .data, .data, .data, .sentinel, .sentinel, .pinned], laidTests := true, laidLooks := .later }
def VtextOnlyUptoCardSaid : Prop := Claim7.holds Tryd.pinned (.plain (OpenSpec.upto vtextOnlySpec)) vtextOnlyUptoCard

/-- THE SECOND FORM's CARD OF 'witanlaw03.VtextApart'. -/
def vtextApartUptoCard : Claim7 := { stood := { row := vtextApartUptoRow, standIns := [], harness := (true, "4de7bfa1dac8eb2060bcff061ddd428e6be4f3ee26c3394922803b0650206c9a"), looks := true }, kinds := [], alts := [], laidByText := true, laidKinds := [.data, .data, .data, .data, .sentinel, .sentinel, .pinned], laidTests := true, laidLooks := .later }
def VtextApartUptoCardSaid : Prop := Claim7.holds Tryd.pinned (.plain (OpenSpec.upto vtextApartSpec)) vtextApartUptoCard
end Rows
end Go.Proofs.YtmoomdikgfeifaaDoor
