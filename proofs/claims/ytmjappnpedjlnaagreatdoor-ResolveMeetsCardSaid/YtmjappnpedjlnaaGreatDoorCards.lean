/-
  DERIVED. GIVEN WITH THE SEED: THE CARDS: each row of YtmjappnpedjlnaaGreatDoorRows.lean that lists a variable, with what it lists TIED to the program's text (the seventh form; the later family's looks); each row that meets fmt, with fmt's text TOLD by the authors' own Lean function (tested against real Go, not proved from fmt's source: count such statements apart). THE CARD IS WHAT COUNTS. Prove the row's statement (the work); the ties are given (YtmjappnpedjlnaaGreatDoorTie.lean); close each card by the builder's one call (the guide's Derived/Test/ToyasCard.lean, 'card_holds'). Laid BY PROGRAM, IN A SANDBOX (cutbox-door.mjs). By AI agents, Wed Nov 11 2026. No macro, syntax, notation, axiom, sorry.
-/
import Derived.Test.YtmjappnpedjlnaaGreatDoorRows
import GoSem.ClaimSeven
namespace Go.Proofs.YtmjappnpedjlnaaGreatDoor
namespace Rows

/-- THE TIED CARD OF 'mantraplaw15.AbnfReads'. -/
def abnfReadsCard : Claim7 := { stood := { row := abnfReadsRow, standIns := [], harness := (true, "41ffcca5bc619ed8f13ad2dd281942e19920f3ffd12dfc2c2c47909aef76ef3d"), looks := true }, kinds := [], alts := [], laidByText := true, laidKinds := [.data, .data, .data, .data, .pinned], laidTests := true, laidLooks := .later }
def AbnfReadsCardSaid : Prop := Claim7.holds Tryz.pinned (.plain (OpenSpec.ofChange abnfReadsSpec)) abnfReadsCard

/-- THE TIED CARD OF 'mantraplaw15.AbnfTells'. -/
def abnfTellsCard : Claim7 := { stood := { row := abnfTellsRow, standIns := [], harness := (true, "41ffcca5bc619ed8f13ad2dd281942e19920f3ffd12dfc2c2c47909aef76ef3d"), looks := true }, kinds := [], alts := [], laidByText := true, laidKinds := [.data, .data, .data, .data, .pinned], laidTests := true, laidLooks := .later }
def AbnfTellsCardSaid : Prop := Claim7.holds Tryz.pinned (.plain (OpenSpec.ofChange abnfTellsSpec)) abnfTellsCard

/-- THE TIED CARD OF 'mantraplaw17.ResolveParts'. -/
def resolvePartsCard : Claim7 := { stood := { row := resolvePartsRow, standIns := [], harness := (true, "41ffcca5bc619ed8f13ad2dd281942e19920f3ffd12dfc2c2c47909aef76ef3d"), looks := true }, kinds := [], alts := [], laidByText := true, laidKinds := [.data, .data, .data, .data, .pinned], laidTests := true, laidLooks := .later }
def ResolvePartsCardSaid : Prop := Claim7.holds Tryz.pinned (.plain (OpenSpec.ofChange resolvePartsSpec)) resolvePartsCard

/-- THE TIED CARD OF 'mantraplaw17.ResolveRight'. -/
def resolveRightCard : Claim7 := { stood := { row := resolveRightRow, standIns := [], harness := (true, "41ffcca5bc619ed8f13ad2dd281942e19920f3ffd12dfc2c2c47909aef76ef3d"), looks := true }, kinds := [], alts := [], laidByText := true, laidKinds := [.data, .data, .data, .data, .pinned], laidTests := true, laidLooks := .later }
def ResolveRightCardSaid : Prop := Claim7.holds Tryz.pinned (.plain (OpenSpec.ofChange resolveRightSpec)) resolveRightCard

/-- THE TIED CARD OF 'mantraplaw17.ResolveMeets'. -/
def resolveMeetsCard : Claim7 := { stood := { row := resolveMeetsRow, standIns := [], harness := (true, "41ffcca5bc619ed8f13ad2dd281942e19920f3ffd12dfc2c2c47909aef76ef3d"), looks := true }, kinds := [], alts := [], laidByText := true, laidKinds := [.data, .data, .data, .data, .pinned], laidTests := true, laidLooks := .later }
def ResolveMeetsCardSaid : Prop := Claim7.holds Tryz.pinned (.plain (OpenSpec.ofChange resolveMeetsSpec)) resolveMeetsCard

/-- THE TIED CARD OF 'mantraplaw18.AuthorityStrict'. -/
def authorityStrictCard : Claim7 := { stood := { row := authorityStrictRow, standIns := [], harness := (true, "41ffcca5bc619ed8f13ad2dd281942e19920f3ffd12dfc2c2c47909aef76ef3d"), looks := true }, kinds := [], alts := [], laidByText := true, laidKinds := [.data, .data, .data, .data, .pinned], laidTests := true, laidLooks := .later }
def AuthorityStrictCardSaid : Prop := Claim7.holds Tryz.pinned (.plain (OpenSpec.ofChange authorityStrictSpec)) authorityStrictCard

/-- THE TIED CARD OF 'mantraplaw18.AuthorityAgrees'. -/
def authorityAgreesCard : Claim7 := { stood := { row := authorityAgreesRow, standIns := [], harness := (true, "41ffcca5bc619ed8f13ad2dd281942e19920f3ffd12dfc2c2c47909aef76ef3d"), looks := true }, kinds := [], alts := [], laidByText := true, laidKinds := [.data, .data, .data, .data, .pinned], laidTests := true, laidLooks := .later }
def AuthorityAgreesCardSaid : Prop := Claim7.holds Tryz.pinned (.plain (OpenSpec.ofChange authorityAgreesSpec)) authorityAgreesCard

/-- THE SECOND FORM's CARD OF 'mantraplaw15.AbnfReads'. -/
def abnfReadsUptoCard : Claim7 := { stood := { row := abnfReadsUptoRow, standIns := [], harness := (true, "41ffcca5bc619ed8f13ad2dd281942e19920f3ffd12dfc2c2c47909aef76ef3d"), looks := true }, kinds := [], alts := [], laidByText := true, laidKinds := [.data, .data, .data, .data, .pinned], laidTests := true, laidLooks := .later }
def AbnfReadsUptoCardSaid : Prop := Claim7.holds Tryz.pinned (.plain (OpenSpec.upto abnfReadsSpec)) abnfReadsUptoCard

/-- THE SECOND FORM's CARD OF 'mantraplaw15.AbnfTells'. -/
def abnfTellsUptoCard : Claim7 := { stood := { row := abnfTellsUptoRow, standIns := [], harness := (true, "41ffcca5bc619ed8f13ad2dd281942e19920f3ffd12dfc2c2c47909aef76ef3d"), looks := true }, kinds := [], alts := [], laidByText := true, laidKinds := [.data, .data, .data, .data, .pinned], laidTests := true, laidLooks := .later }
def AbnfTellsUptoCardSaid : Prop := Claim7.holds Tryz.pinned (.plain (OpenSpec.upto abnfTellsSpec)) abnfTellsUptoCard

/-- THE SECOND FORM's CARD OF 'mantraplaw17.ResolveParts'. -/
def resolvePartsUptoCard : Claim7 := { stood := { row := resolvePartsUptoRow, standIns := [], harness := (true, "41ffcca5bc619ed8f13ad2dd281942e19920f3ffd12dfc2c2c47909aef76ef3d"), looks := true }, kinds := [], alts := [], laidByText := true, laidKinds := [.data, .data, .data, .data, .pinned], laidTests := true, laidLooks := .later }
def ResolvePartsUptoCardSaid : Prop := Claim7.holds Tryz.pinned (.plain (OpenSpec.upto resolvePartsSpec)) resolvePartsUptoCard

/-- THE SECOND FORM's CARD OF 'mantraplaw17.ResolveRight'. -/
def resolveRightUptoCard : Claim7 := { stood := { row := resolveRightUptoRow, standIns := [], harness := (true, "41ffcca5bc619ed8f13ad2dd281942e19920f3ffd12dfc2c2c47909aef76ef3d"), looks := true }, kinds := [], alts := [], laidByText := true, laidKinds := [.data, .data, .data, .data, .pinned], laidTests := true, laidLooks := .later }
def ResolveRightUptoCardSaid : Prop := Claim7.holds Tryz.pinned (.plain (OpenSpec.upto resolveRightSpec)) resolveRightUptoCard

/-- THE SECOND FORM's CARD OF 'mantraplaw17.ResolveMeets'. -/
def resolveMeetsUptoCard : Claim7 := { stood := { row := resolveMeetsUptoRow, standIns := [], harness := (true, "41ffcca5bc619ed8f13ad2dd281942e19920f3ffd12dfc2c2c47909aef76ef3d"), looks := true }, kinds := [], alts := [], laidByText := true, laidKinds := [.data, .data, .data, .data, .pinned], laidTests := true, laidLooks := .later }
def ResolveMeetsUptoCardSaid : Prop := Claim7.holds Tryz.pinned (.plain (OpenSpec.upto resolveMeetsSpec)) resolveMeetsUptoCard

/-- THE SECOND FORM's CARD OF 'mantraplaw18.AuthorityStrict'. -/
def authorityStrictUptoCard : Claim7 := { stood := { row := authorityStrictUptoRow, standIns := [], harness := (true, "41ffcca5bc619ed8f13ad2dd281942e19920f3ffd12dfc2c2c47909aef76ef3d"), looks := true }, kinds := [], alts := [], laidByText := true, laidKinds := [.data, .data, .data, .data, .pinned], laidTests := true, laidLooks := .later }
def AuthorityStrictUptoCardSaid : Prop := Claim7.holds Tryz.pinned (.plain (OpenSpec.upto authorityStrictSpec)) authorityStrictUptoCard

/-- THE SECOND FORM's CARD OF 'mantraplaw18.AuthorityAgrees'. -/
def authorityAgreesUptoCard : Claim7 := { stood := { row := authorityAgreesUptoRow, standIns := [], harness := (true, "41ffcca5bc619ed8f13ad2dd281942e19920f3ffd12dfc2c2c47909aef76ef3d"), looks := true }, kinds := [], alts := [], laidByText := true, laidKinds := [.data, .data, .data, .data, .pinned], laidTests := true, laidLooks := .later }
def AuthorityAgreesUptoCardSaid : Prop := Claim7.holds Tryz.pinned (.plain (OpenSpec.upto authorityAgreesSpec)) authorityAgreesUptoCard
end Rows
end Go.Proofs.YtmjappnpedjlnaaGreatDoor
