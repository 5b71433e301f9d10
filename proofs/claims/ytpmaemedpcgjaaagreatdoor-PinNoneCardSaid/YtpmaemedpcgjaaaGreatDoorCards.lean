/-
  DERIVED. GIVEN WITH THE SEED: THE CARDS: each row of YtpmaemedpcgjaaaGreatDoorRows.lean that lists a variable, with what it lists TIED to the program's text (the seventh form; the later family's looks); each row that meets fmt, with fmt's text TOLD by the authors' own Lean function (tested against real Go, not proved from fmt's source: count such statements apart). THE CARD IS WHAT COUNTS. Prove the row's statement (the work); the ties are given (YtpmaemedpcgjaaaGreatDoorTie.lean); close each card by the builder's one call (the guide's Derived/Test/ToyasCard.lean, 'card_holds'). Laid BY PROGRAM, IN A SANDBOX (cutbox-door.mjs). By AI agents, Wed Nov 11 2026. No macro, syntax, notation, axiom, sorry.
-/
import Derived.Test.YtpmaemedpcgjaaaGreatDoorRows
import GoSem.ClaimSeven
namespace Go.Proofs.YtpmaemedpcgjaaaGreatDoor
namespace Rows

/-- THE TIED CARD OF 'mantraplaw22.PinApproves'. -/
def pinApprovesCard : Claim7 := { stood := { row := pinApprovesRow, standIns := [], harness := (true, "700d78e7388560083e08ed384f2fee21e734882d36e04387f2fda41f064e669b"), looks := true }, kinds := [], alts := [], laidByText := true, laidKinds := [.data, .data, .data, .data, .pinned], laidTests := true, laidLooks := .later }
def PinApprovesCardSaid : Prop := Claim7.holds Tryz.pinned (.plain (OpenSpec.ofChange pinApprovesSpec)) pinApprovesCard

/-- THE TIED CARD OF 'mantraplaw22.PinNone'. -/
def pinNoneCard : Claim7 := { stood := { row := pinNoneRow, standIns := [], harness := (true, "700d78e7388560083e08ed384f2fee21e734882d36e04387f2fda41f064e669b"), looks := true }, kinds := [], alts := [], laidByText := true, laidKinds := [.data, .data, .data, .data, .pinned], laidTests := true, laidLooks := .later }
def PinNoneCardSaid : Prop := Claim7.holds Tryz.pinned (.plain (OpenSpec.ofChange pinNoneSpec)) pinNoneCard

/-- THE SECOND FORM's CARD OF 'mantraplaw22.PinApproves'. -/
def pinApprovesUptoCard : Claim7 := { stood := { row := pinApprovesUptoRow, standIns := [], harness := (true, "700d78e7388560083e08ed384f2fee21e734882d36e04387f2fda41f064e669b"), looks := true }, kinds := [], alts := [], laidByText := true, laidKinds := [.data, .data, .data, .data, .pinned], laidTests := true, laidLooks := .later }
def PinApprovesUptoCardSaid : Prop := Claim7.holds Tryz.pinned (.plain (OpenSpec.upto pinApprovesSpec)) pinApprovesUptoCard

/-- THE SECOND FORM's CARD OF 'mantraplaw22.PinNone'. -/
def pinNoneUptoCard : Claim7 := { stood := { row := pinNoneUptoRow, standIns := [], harness := (true, "700d78e7388560083e08ed384f2fee21e734882d36e04387f2fda41f064e669b"), looks := true }, kinds := [], alts := [], laidByText := true, laidKinds := [.data, .data, .data, .data, .pinned], laidTests := true, laidLooks := .later }
def PinNoneUptoCardSaid : Prop := Claim7.holds Tryz.pinned (.plain (OpenSpec.upto pinNoneSpec)) pinNoneUptoCard
end Rows
end Go.Proofs.YtpmaemedpcgjaaaGreatDoor
