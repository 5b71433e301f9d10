/-
  DERIVED. GIVEN WITH THE SEED: THE CARDS: each row of YtegmcmgndllmaaaGreatDoorRows.lean that lists a variable, with what it lists TIED to the program's text (the seventh form; the later family's looks); each row that meets fmt, with fmt's text TOLD by the authors' own Lean function (tested against real Go, not proved from fmt's source: count such statements apart). THE CARD IS WHAT COUNTS. Prove the row's statement (the work); the ties are given (YtegmcmgndllmaaaGreatDoorTie.lean); close each card by the builder's one call (the guide's Derived/Test/ToyasCard.lean, 'card_holds'). Laid BY PROGRAM, IN A SANDBOX (cutbox-door.mjs). By AI agents, Wed Nov 11 2026. No macro, syntax, notation, axiom, sorry.
-/
import Derived.Test.YtegmcmgndllmaaaGreatDoorRows
import GoSem.ClaimSeven
namespace Go.Proofs.YtegmcmgndllmaaaGreatDoor
namespace Rows

/-- THE TIED CARD OF 'mantraplaw18.AuthorityAgrees'. -/
def authorityAgreesCard : Claim7 := { stood := { row := authorityAgreesRow, standIns := [], harness := (true, "51d4c445311bb1b90dded86acbb0dd56609d91b8454b8cb020273a94b6bb22b3"), looks := true }, kinds := [], alts := [], laidByText := true, laidKinds := [.data, .data, .data, .data, .pinned], laidTests := true, laidLooks := .later }
def AuthorityAgreesCardSaid : Prop := Claim7.holds Tryz.pinned (.plain (OpenSpec.ofChange authorityAgreesSpec)) authorityAgreesCard

/-- THE TIED CARD OF 'mantraplaw19.AgreeChecks'. -/
def agreeChecksCard : Claim7 := { stood := { row := agreeChecksRow, standIns := [], harness := (true, "51d4c445311bb1b90dded86acbb0dd56609d91b8454b8cb020273a94b6bb22b3"), looks := true }, kinds := [], alts := [], laidByText := true, laidKinds := [.data, .data, .data, .data, .pinned], laidTests := true, laidLooks := .later }
def AgreeChecksCardSaid : Prop := Claim7.holds Tryz.pinned (.plain (OpenSpec.ofChange agreeChecksSpec)) agreeChecksCard

/-- THE TIED CARD OF 'mantraplaw19.AgreeFollows'. -/
def agreeFollowsCard : Claim7 := { stood := { row := agreeFollowsRow, standIns := [], harness := (true, "51d4c445311bb1b90dded86acbb0dd56609d91b8454b8cb020273a94b6bb22b3"), looks := true }, kinds := [], alts := [], laidByText := true, laidKinds := [.data, .data, .data, .data, .pinned], laidTests := true, laidLooks := .later }
def AgreeFollowsCardSaid : Prop := Claim7.holds Tryz.pinned (.plain (OpenSpec.ofChange agreeFollowsSpec)) agreeFollowsCard

/-- THE TIED CARD OF 'mantraplaw19.AgreeSure'. -/
def agreeSureCard : Claim7 := { stood := { row := agreeSureRow, standIns := [], harness := (true, "51d4c445311bb1b90dded86acbb0dd56609d91b8454b8cb020273a94b6bb22b3"), looks := true }, kinds := [], alts := [], laidByText := true, laidKinds := [.data, .data, .data, .data, .pinned], laidTests := true, laidLooks := .later }
def AgreeSureCardSaid : Prop := Claim7.holds Tryz.pinned (.plain (OpenSpec.ofChange agreeSureSpec)) agreeSureCard

/-- THE TIED CARD OF 'mantraplaw19.AgreeNever'. -/
def agreeNeverCard : Claim7 := { stood := { row := agreeNeverRow, standIns := [], harness := (true, "51d4c445311bb1b90dded86acbb0dd56609d91b8454b8cb020273a94b6bb22b3"), looks := true }, kinds := [], alts := [], laidByText := true, laidKinds := [.data, .data, .data, .data, .pinned], laidTests := true, laidLooks := .later }
def AgreeNeverCardSaid : Prop := Claim7.holds Tryz.pinned (.plain (OpenSpec.ofChange agreeNeverSpec)) agreeNeverCard

/-- THE SECOND FORM's CARD OF 'mantraplaw18.AuthorityAgrees'. -/
def authorityAgreesUptoCard : Claim7 := { stood := { row := authorityAgreesUptoRow, standIns := [], harness := (true, "51d4c445311bb1b90dded86acbb0dd56609d91b8454b8cb020273a94b6bb22b3"), looks := true }, kinds := [], alts := [], laidByText := true, laidKinds := [.data, .data, .data, .data, .pinned], laidTests := true, laidLooks := .later }
def AuthorityAgreesUptoCardSaid : Prop := Claim7.holds Tryz.pinned (.plain (OpenSpec.upto authorityAgreesSpec)) authorityAgreesUptoCard

/-- THE SECOND FORM's CARD OF 'mantraplaw19.AgreeChecks'. -/
def agreeChecksUptoCard : Claim7 := { stood := { row := agreeChecksUptoRow, standIns := [], harness := (true, "51d4c445311bb1b90dded86acbb0dd56609d91b8454b8cb020273a94b6bb22b3"), looks := true }, kinds := [], alts := [], laidByText := true, laidKinds := [.data, .data, .data, .data, .pinned], laidTests := true, laidLooks := .later }
def AgreeChecksUptoCardSaid : Prop := Claim7.holds Tryz.pinned (.plain (OpenSpec.upto agreeChecksSpec)) agreeChecksUptoCard

/-- THE SECOND FORM's CARD OF 'mantraplaw19.AgreeFollows'. -/
def agreeFollowsUptoCard : Claim7 := { stood := { row := agreeFollowsUptoRow, standIns := [], harness := (true, "51d4c445311bb1b90dded86acbb0dd56609d91b8454b8cb020273a94b6bb22b3"), looks := true }, kinds := [], alts := [], laidByText := true, laidKinds := [.data, .data, .data, .data, .pinned], laidTests := true, laidLooks := .later }
def AgreeFollowsUptoCardSaid : Prop := Claim7.holds Tryz.pinned (.plain (OpenSpec.upto agreeFollowsSpec)) agreeFollowsUptoCard

/-- THE SECOND FORM's CARD OF 'mantraplaw19.AgreeSure'. -/
def agreeSureUptoCard : Claim7 := { stood := { row := agreeSureUptoRow, standIns := [], harness := (true, "51d4c445311bb1b90dded86acbb0dd56609d91b8454b8cb020273a94b6bb22b3"), looks := true }, kinds := [], alts := [], laidByText := true, laidKinds := [.data, .data, .data, .data, .pinned], laidTests := true, laidLooks := .later }
def AgreeSureUptoCardSaid : Prop := Claim7.holds Tryz.pinned (.plain (OpenSpec.upto agreeSureSpec)) agreeSureUptoCard

/-- THE SECOND FORM's CARD OF 'mantraplaw19.AgreeNever'. -/
def agreeNeverUptoCard : Claim7 := { stood := { row := agreeNeverUptoRow, standIns := [], harness := (true, "51d4c445311bb1b90dded86acbb0dd56609d91b8454b8cb020273a94b6bb22b3"), looks := true }, kinds := [], alts := [], laidByText := true, laidKinds := [.data, .data, .data, .data, .pinned], laidTests := true, laidLooks := .later }
def AgreeNeverUptoCardSaid : Prop := Claim7.holds Tryz.pinned (.plain (OpenSpec.upto agreeNeverSpec)) agreeNeverUptoCard
end Rows
end Go.Proofs.YtegmcmgndllmaaaGreatDoor
