/-
  DERIVED. GIVEN WITH THE SEED: THE CARDS: each row of YtphapecoimlngaaGreatDoorRows.lean that lists a variable, with what it lists TIED to the program's text (the seventh form; the later family's looks); each row that meets fmt, with fmt's text TOLD by the authors' own Lean function (tested against real Go, not proved from fmt's source: count such statements apart). THE CARD IS WHAT COUNTS. Prove the row's statement (the work); the ties are given (YtphapecoimlngaaGreatDoorTie.lean); close each card by the builder's one call (the guide's Derived/Test/ToyasCard.lean, 'card_holds'). Laid BY PROGRAM, IN A SANDBOX (cutbox-door.mjs). By AI agents, Wed Nov 11 2026. No macro, syntax, notation, axiom, sorry.
-/
import Derived.Test.YtphapecoimlngaaGreatDoorRows
import GoSem.ClaimSeven
namespace Go.Proofs.YtphapecoimlngaaGreatDoor
namespace Rows

/-- THE TIED CARD OF 'mantraplaw11.DomainReads'. -/
def domainReadsCard : Claim7 := { stood := { row := domainReadsRow, standIns := [], harness := (true, "8ca443f98eacc752c31fc6e858abaf3a80a6f8cb14c6742ed182a6ffb2c30296"), looks := true }, kinds := [], alts := [], laidByText := true, laidKinds := [.data, .data, .data, .data, .pinned], laidTests := true, laidLooks := .later }
def DomainReadsCardSaid : Prop := Claim7.holds Tryz.pinned (.plain (OpenSpec.ofChange domainReadsSpec)) domainReadsCard

/-- THE TIED CARD OF 'mantraplaw11.DomainBack'. -/
def domainBackCard : Claim7 := { stood := { row := domainBackRow, standIns := [], harness := (true, "8ca443f98eacc752c31fc6e858abaf3a80a6f8cb14c6742ed182a6ffb2c30296"), looks := true }, kinds := [], alts := [], laidByText := true, laidKinds := [.data, .data, .data, .data, .pinned], laidTests := true, laidLooks := .later }
def DomainBackCardSaid : Prop := Claim7.holds Tryz.pinned (.plain (OpenSpec.ofChange domainBackSpec)) domainBackCard

/-- THE TIED CARD OF 'mantraplaw11.DomainJoins'. -/
def domainJoinsCard : Claim7 := { stood := { row := domainJoinsRow, standIns := [], harness := (true, "8ca443f98eacc752c31fc6e858abaf3a80a6f8cb14c6742ed182a6ffb2c30296"), looks := true }, kinds := [], alts := [], laidByText := true, laidKinds := [.data, .data, .data, .data, .pinned], laidTests := true, laidLooks := .later }
def DomainJoinsCardSaid : Prop := Claim7.holds Tryz.pinned (.plain (OpenSpec.ofChange domainJoinsSpec)) domainJoinsCard

/-- THE TIED CARD OF 'mantraplaw12.HostReads'. -/
def hostReadsCard : Claim7 := { stood := { row := hostReadsRow, standIns := [], harness := (true, "8ca443f98eacc752c31fc6e858abaf3a80a6f8cb14c6742ed182a6ffb2c30296"), looks := true }, kinds := [], alts := [], laidByText := true, laidKinds := [.data, .data, .data, .data, .pinned], laidTests := true, laidLooks := .later }
def HostReadsCardSaid : Prop := Claim7.holds Tryz.pinned (.plain (OpenSpec.ofChange hostReadsSpec)) hostReadsCard

/-- THE TIED CARD OF 'mantraplaw12.HostTells'. -/
def hostTellsCard : Claim7 := { stood := { row := hostTellsRow, standIns := [], harness := (true, "8ca443f98eacc752c31fc6e858abaf3a80a6f8cb14c6742ed182a6ffb2c30296"), looks := true }, kinds := [], alts := [], laidByText := true, laidKinds := [.data, .data, .data, .data, .pinned], laidTests := true, laidLooks := .later }
def HostTellsCardSaid : Prop := Claim7.holds Tryz.pinned (.plain (OpenSpec.ofChange hostTellsSpec)) hostTellsCard

/-- THE TIED CARD OF 'mantraplaw12.HostOnce'. -/
def hostOnceCard : Claim7 := { stood := { row := hostOnceRow, standIns := [], harness := (true, "8ca443f98eacc752c31fc6e858abaf3a80a6f8cb14c6742ed182a6ffb2c30296"), looks := true }, kinds := [], alts := [], laidByText := true, laidKinds := [.data, .data, .data, .data, .pinned], laidTests := true, laidLooks := .later }
def HostOnceCardSaid : Prop := Claim7.holds Tryz.pinned (.plain (OpenSpec.ofChange hostOnceSpec)) hostOnceCard

/-- THE TIED CARD OF 'mantraplaw12.HostCase'. -/
def hostCaseCard : Claim7 := { stood := { row := hostCaseRow, standIns := [], harness := (true, "8ca443f98eacc752c31fc6e858abaf3a80a6f8cb14c6742ed182a6ffb2c30296"), looks := true }, kinds := [], alts := [], laidByText := true, laidKinds := [.data, .data, .data, .data, .pinned], laidTests := true, laidLooks := .later }
def HostCaseCardSaid : Prop := Claim7.holds Tryz.pinned (.plain (OpenSpec.ofChange hostCaseSpec)) hostCaseCard

/-- THE SECOND FORM's CARD OF 'mantraplaw11.DomainReads'. -/
def domainReadsUptoCard : Claim7 := { stood := { row := domainReadsUptoRow, standIns := [], harness := (true, "8ca443f98eacc752c31fc6e858abaf3a80a6f8cb14c6742ed182a6ffb2c30296"), looks := true }, kinds := [], alts := [], laidByText := true, laidKinds := [.data, .data, .data, .data, .pinned], laidTests := true, laidLooks := .later }
def DomainReadsUptoCardSaid : Prop := Claim7.holds Tryz.pinned (.plain (OpenSpec.upto domainReadsSpec)) domainReadsUptoCard

/-- THE SECOND FORM's CARD OF 'mantraplaw11.DomainBack'. -/
def domainBackUptoCard : Claim7 := { stood := { row := domainBackUptoRow, standIns := [], harness := (true, "8ca443f98eacc752c31fc6e858abaf3a80a6f8cb14c6742ed182a6ffb2c30296"), looks := true }, kinds := [], alts := [], laidByText := true, laidKinds := [.data, .data, .data, .data, .pinned], laidTests := true, laidLooks := .later }
def DomainBackUptoCardSaid : Prop := Claim7.holds Tryz.pinned (.plain (OpenSpec.upto domainBackSpec)) domainBackUptoCard

/-- THE SECOND FORM's CARD OF 'mantraplaw11.DomainJoins'. -/
def domainJoinsUptoCard : Claim7 := { stood := { row := domainJoinsUptoRow, standIns := [], harness := (true, "8ca443f98eacc752c31fc6e858abaf3a80a6f8cb14c6742ed182a6ffb2c30296"), looks := true }, kinds := [], alts := [], laidByText := true, laidKinds := [.data, .data, .data, .data, .pinned], laidTests := true, laidLooks := .later }
def DomainJoinsUptoCardSaid : Prop := Claim7.holds Tryz.pinned (.plain (OpenSpec.upto domainJoinsSpec)) domainJoinsUptoCard

/-- THE SECOND FORM's CARD OF 'mantraplaw12.HostReads'. -/
def hostReadsUptoCard : Claim7 := { stood := { row := hostReadsUptoRow, standIns := [], harness := (true, "8ca443f98eacc752c31fc6e858abaf3a80a6f8cb14c6742ed182a6ffb2c30296"), looks := true }, kinds := [], alts := [], laidByText := true, laidKinds := [.data, .data, .data, .data, .pinned], laidTests := true, laidLooks := .later }
def HostReadsUptoCardSaid : Prop := Claim7.holds Tryz.pinned (.plain (OpenSpec.upto hostReadsSpec)) hostReadsUptoCard

/-- THE SECOND FORM's CARD OF 'mantraplaw12.HostTells'. -/
def hostTellsUptoCard : Claim7 := { stood := { row := hostTellsUptoRow, standIns := [], harness := (true, "8ca443f98eacc752c31fc6e858abaf3a80a6f8cb14c6742ed182a6ffb2c30296"), looks := true }, kinds := [], alts := [], laidByText := true, laidKinds := [.data, .data, .data, .data, .pinned], laidTests := true, laidLooks := .later }
def HostTellsUptoCardSaid : Prop := Claim7.holds Tryz.pinned (.plain (OpenSpec.upto hostTellsSpec)) hostTellsUptoCard

/-- THE SECOND FORM's CARD OF 'mantraplaw12.HostOnce'. -/
def hostOnceUptoCard : Claim7 := { stood := { row := hostOnceUptoRow, standIns := [], harness := (true, "8ca443f98eacc752c31fc6e858abaf3a80a6f8cb14c6742ed182a6ffb2c30296"), looks := true }, kinds := [], alts := [], laidByText := true, laidKinds := [.data, .data, .data, .data, .pinned], laidTests := true, laidLooks := .later }
def HostOnceUptoCardSaid : Prop := Claim7.holds Tryz.pinned (.plain (OpenSpec.upto hostOnceSpec)) hostOnceUptoCard

/-- THE SECOND FORM's CARD OF 'mantraplaw12.HostCase'. -/
def hostCaseUptoCard : Claim7 := { stood := { row := hostCaseUptoRow, standIns := [], harness := (true, "8ca443f98eacc752c31fc6e858abaf3a80a6f8cb14c6742ed182a6ffb2c30296"), looks := true }, kinds := [], alts := [], laidByText := true, laidKinds := [.data, .data, .data, .data, .pinned], laidTests := true, laidLooks := .later }
def HostCaseUptoCardSaid : Prop := Claim7.holds Tryz.pinned (.plain (OpenSpec.upto hostCaseSpec)) hostCaseUptoCard
end Rows
end Go.Proofs.YtphapecoimlngaaGreatDoor
