/-
  DERIVED. GIVEN WITH THE SEED: THE CARDS: each row of YtaojjkknmaldiaaDoorRows.lean that lists a variable, with what it lists TIED to the program's text (the seventh form; the later family's looks); each row that meets fmt, with fmt's text TOLD by the authors' own Lean function (tested against real Go, not proved from fmt's source: count such statements apart). THE CARD IS WHAT COUNTS. Prove the row's statement (the work); the ties are given (YtaojjkknmaldiaaDoorTie.lean); close each card by the builder's one call (the guide's Derived/Test/ToyasCard.lean, 'card_holds'). Laid BY PROGRAM, IN A SANDBOX (cutbox-door.mjs). By AI agents, Wed Nov 11 2026. No macro, syntax, notation, axiom, sorry.
-/
import Derived.Test.YtaojjkknmaldiaaDoorRows
import GoSem.ClaimSeven
namespace Go.Proofs.YtaojjkknmaldiaaDoor
namespace Rows

/-- THE TIED CARD OF 'mantraplaw03.NumberBack'. -/
def numberBackCard : Claim7 := { stood := { row := numberBackRow, standIns := [], harness := (true, "4b3fdc2a27e1707c938890aad9c442cb999492b6207ec638b8a7918e03454a8b"), looks := false }, kinds := [], alts := [], laidByText := true, laidKinds := [.data, .data, .data], laidTests := true, laidLooks := .later }
def NumberBackCardSaid : Prop := Claim7.holds Tryd.pinned (.plain (OpenSpec.ofChange numberBackSpec)) numberBackCard

/-- THE TIED CARD OF 'mantraplaw04.FourWrites'. -/
def fourWritesCard : Claim7 := { stood := { row := fourWritesRow, standIns := [], harness := (true, "4b3fdc2a27e1707c938890aad9c442cb999492b6207ec638b8a7918e03454a8b"), looks := false }, kinds := [], alts := [], laidByText := true, laidKinds := [.data, .data, .data], laidTests := true, laidLooks := .later }
def FourWritesCardSaid : Prop := Claim7.holds Tryd.pinned (.plain (OpenSpec.ofChange fourWritesSpec)) fourWritesCard

/-- THE TIED CARD OF 'mantraplaw04.FourShort'. -/
def fourShortCard : Claim7 := { stood := { row := fourShortRow, standIns := [], harness := (true, "4b3fdc2a27e1707c938890aad9c442cb999492b6207ec638b8a7918e03454a8b"), looks := false }, kinds := [], alts := [], laidByText := true, laidKinds := [.data, .data, .data], laidTests := true, laidLooks := .later }
def FourShortCardSaid : Prop := Claim7.holds Tryd.pinned (.plain (OpenSpec.ofChange fourShortSpec)) fourShortCard

/-- THE TIED CARD OF 'mantraplaw04.FourStrict'. -/
def fourStrictCard : Claim7 := { stood := { row := fourStrictRow, standIns := [], harness := (true, "4b3fdc2a27e1707c938890aad9c442cb999492b6207ec638b8a7918e03454a8b"), looks := false }, kinds := [], alts := [], laidByText := true, laidKinds := [.data, .data, .data], laidTests := true, laidLooks := .later }
def FourStrictCardSaid : Prop := Claim7.holds Tryd.pinned (.plain (OpenSpec.ofChange fourStrictSpec)) fourStrictCard

/-- THE SECOND FORM's CARD OF 'mantraplaw03.NumberBack'. -/
def numberBackUptoCard : Claim7 := { stood := { row := numberBackUptoRow, standIns := [], harness := (true, "4b3fdc2a27e1707c938890aad9c442cb999492b6207ec638b8a7918e03454a8b"), looks := false }, kinds := [], alts := [], laidByText := true, laidKinds := [.data, .data, .data], laidTests := true, laidLooks := .later }
def NumberBackUptoCardSaid : Prop := Claim7.holds Tryd.pinned (.plain (OpenSpec.upto numberBackSpec)) numberBackUptoCard

/-- THE SECOND FORM's CARD OF 'mantraplaw04.FourWrites'. -/
def fourWritesUptoCard : Claim7 := { stood := { row := fourWritesUptoRow, standIns := [], harness := (true, "4b3fdc2a27e1707c938890aad9c442cb999492b6207ec638b8a7918e03454a8b"), looks := false }, kinds := [], alts := [], laidByText := true, laidKinds := [.data, .data, .data], laidTests := true, laidLooks := .later }
def FourWritesUptoCardSaid : Prop := Claim7.holds Tryd.pinned (.plain (OpenSpec.upto fourWritesSpec)) fourWritesUptoCard

/-- THE SECOND FORM's CARD OF 'mantraplaw04.FourShort'. -/
def fourShortUptoCard : Claim7 := { stood := { row := fourShortUptoRow, standIns := [], harness := (true, "4b3fdc2a27e1707c938890aad9c442cb999492b6207ec638b8a7918e03454a8b"), looks := false }, kinds := [], alts := [], laidByText := true, laidKinds := [.data, .data, .data], laidTests := true, laidLooks := .later }
def FourShortUptoCardSaid : Prop := Claim7.holds Tryd.pinned (.plain (OpenSpec.upto fourShortSpec)) fourShortUptoCard

/-- THE SECOND FORM's CARD OF 'mantraplaw04.FourStrict'. -/
def fourStrictUptoCard : Claim7 := { stood := { row := fourStrictUptoRow, standIns := [], harness := (true, "4b3fdc2a27e1707c938890aad9c442cb999492b6207ec638b8a7918e03454a8b"), looks := false }, kinds := [], alts := [], laidByText := true, laidKinds := [.data, .data, .data], laidTests := true, laidLooks := .later }
def FourStrictUptoCardSaid : Prop := Claim7.holds Tryd.pinned (.plain (OpenSpec.upto fourStrictSpec)) fourStrictUptoCard
end Rows
end Go.Proofs.YtaojjkknmaldiaaDoor
