/-
  DERIVED. GIVEN WITH THE SEED: THE CARDS: each row of YtgmfgcpfpopboaaDoorRows.lean that lists a variable, with what it lists TIED to the program's text (the seventh form; the later family's looks); each row that meets fmt, with fmt's text TOLD by the authors' own Lean function (tested against real Go, not proved from fmt's source: count such statements apart). THE CARD IS WHAT COUNTS. Prove the row's statement (the work); the ties are given (YtgmfgcpfpopboaaDoorTie.lean); close each card by the builder's one call (the guide's Derived/Test/ToyasCard.lean, 'card_holds'). Laid BY PROGRAM, IN A SANDBOX (cutbox-door.mjs). By AI agents, Wed Nov 11 2026. No macro, syntax, notation, axiom, sorry.
-/
import Derived.Test.YtgmfgcpfpopboaaDoorRows
import GoSem.ClaimSeven
namespace Go.Proofs.YtgmfgcpfpopboaaDoor
namespace Rows

/-- THE TIED CARD OF 'mantraplaw05.SixReads'. -/
def sixReadsCard : Claim7 := { stood := { row := sixReadsRow, standIns := [], harness := (true, "edc58d91329146845633797a4a2771d04c8af5b2c7b27ef780a45bb20198fd72"), looks := true }, kinds := [], alts := [], laidByText := true, laidKinds := [.data, .data, .data], laidTests := true, laidLooks := .later }
def SixReadsCardSaid : Prop := Claim7.holds Tryd.pinned (.plain (OpenSpec.ofChange sixReadsSpec)) sixReadsCard

/-- THE TIED CARD OF 'mantraplaw05.SixWrites'. -/
def sixWritesCard : Claim7 := { stood := { row := sixWritesRow, standIns := [], harness := (true, "edc58d91329146845633797a4a2771d04c8af5b2c7b27ef780a45bb20198fd72"), looks := true }, kinds := [], alts := [], laidByText := true, laidKinds := [.data, .data, .data], laidTests := true, laidLooks := .later }
def SixWritesCardSaid : Prop := Claim7.holds Tryd.pinned (.plain (OpenSpec.ofChange sixWritesSpec)) sixWritesCard

/-- THE TIED CARD OF 'mantraplaw05.SixOf'. -/
def sixOfCard : Claim7 := { stood := { row := sixOfRow, standIns := [], harness := (true, "edc58d91329146845633797a4a2771d04c8af5b2c7b27ef780a45bb20198fd72"), looks := true }, kinds := [], alts := [], laidByText := true, laidKinds := [.data, .data, .data], laidTests := true, laidLooks := .later }
def SixOfCardSaid : Prop := Claim7.holds Tryd.pinned (.plain (OpenSpec.ofChange sixOfSpec)) sixOfCard

/-- THE TIED CARD OF 'mantraplaw05.SixSame'. -/
def sixSameCard : Claim7 := { stood := { row := sixSameRow, standIns := [], harness := (true, "edc58d91329146845633797a4a2771d04c8af5b2c7b27ef780a45bb20198fd72"), looks := true }, kinds := [], alts := [], laidByText := true, laidKinds := [.data, .data, .data, .data, .pinned, .pinned], laidTests := true, laidLooks := .later }
def SixSameCardSaid : Prop := Claim7.holds Tryd.pinned (.plain (OpenSpec.ofChange sixSameSpec)) sixSameCard

/-- THE TIED CARD OF 'mantraplaw06.AddrReads'. -/
def addrReadsCard : Claim7 := { stood := { row := addrReadsRow, standIns := [], harness := (true, "edc58d91329146845633797a4a2771d04c8af5b2c7b27ef780a45bb20198fd72"), looks := true }, kinds := [], alts := [], laidByText := true, laidKinds := [.data, .data, .data], laidTests := true, laidLooks := .later }
def AddrReadsCardSaid : Prop := Claim7.holds Tryd.pinned (.plain (OpenSpec.ofChange addrReadsSpec)) addrReadsCard

/-- THE TIED CARD OF 'mantraplaw06.AddrNone'. -/
def addrNoneCard : Claim7 := { stood := { row := addrNoneRow, standIns := [], harness := (true, "edc58d91329146845633797a4a2771d04c8af5b2c7b27ef780a45bb20198fd72"), looks := true }, kinds := [], alts := [], laidByText := true, laidKinds := [.data, .data, .data], laidTests := true, laidLooks := .later }
def AddrNoneCardSaid : Prop := Claim7.holds Tryd.pinned (.plain (OpenSpec.ofChange addrNoneSpec)) addrNoneCard

/-- THE TIED CARD OF 'mantraplaw06.AddrEmbeds'. -/
def addrEmbedsCard : Claim7 := { stood := { row := addrEmbedsRow, standIns := [], harness := (true, "edc58d91329146845633797a4a2771d04c8af5b2c7b27ef780a45bb20198fd72"), looks := true }, kinds := [], alts := [], laidByText := true, laidKinds := [.data, .data, .data], laidTests := true, laidLooks := .later }
def AddrEmbedsCardSaid : Prop := Claim7.holds Tryd.pinned (.plain (OpenSpec.ofChange addrEmbedsSpec)) addrEmbedsCard

/-- THE TIED CARD OF 'mantraplaw06.AddrOrder'. -/
def addrOrderCard : Claim7 := { stood := { row := addrOrderRow, standIns := [], harness := (true, "edc58d91329146845633797a4a2771d04c8af5b2c7b27ef780a45bb20198fd72"), looks := true }, kinds := [], alts := [], laidByText := true, laidKinds := [.data, .data, .data], laidTests := true, laidLooks := .later }
def AddrOrderCardSaid : Prop := Claim7.holds Tryd.pinned (.plain (OpenSpec.ofChange addrOrderSpec)) addrOrderCard

/-- THE SECOND FORM's CARD OF 'mantraplaw05.SixReads'. -/
def sixReadsUptoCard : Claim7 := { stood := { row := sixReadsUptoRow, standIns := [], harness := (true, "edc58d91329146845633797a4a2771d04c8af5b2c7b27ef780a45bb20198fd72"), looks := true }, kinds := [], alts := [], laidByText := true, laidKinds := [.data, .data, .data], laidTests := true, laidLooks := .later }
def SixReadsUptoCardSaid : Prop := Claim7.holds Tryd.pinned (.plain (OpenSpec.upto sixReadsSpec)) sixReadsUptoCard

/-- THE SECOND FORM's CARD OF 'mantraplaw05.SixWrites'. -/
def sixWritesUptoCard : Claim7 := { stood := { row := sixWritesUptoRow, standIns := [], harness := (true, "edc58d91329146845633797a4a2771d04c8af5b2c7b27ef780a45bb20198fd72"), looks := true }, kinds := [], alts := [], laidByText := true, laidKinds := [.data, .data, .data], laidTests := true, laidLooks := .later }
def SixWritesUptoCardSaid : Prop := Claim7.holds Tryd.pinned (.plain (OpenSpec.upto sixWritesSpec)) sixWritesUptoCard

/-- THE SECOND FORM's CARD OF 'mantraplaw05.SixOf'. -/
def sixOfUptoCard : Claim7 := { stood := { row := sixOfUptoRow, standIns := [], harness := (true, "edc58d91329146845633797a4a2771d04c8af5b2c7b27ef780a45bb20198fd72"), looks := true }, kinds := [], alts := [], laidByText := true, laidKinds := [.data, .data, .data], laidTests := true, laidLooks := .later }
def SixOfUptoCardSaid : Prop := Claim7.holds Tryd.pinned (.plain (OpenSpec.upto sixOfSpec)) sixOfUptoCard

/-- THE SECOND FORM's CARD OF 'mantraplaw05.SixSame'. -/
def sixSameUptoCard : Claim7 := { stood := { row := sixSameUptoRow, standIns := [], harness := (true, "edc58d91329146845633797a4a2771d04c8af5b2c7b27ef780a45bb20198fd72"), looks := true }, kinds := [], alts := [], laidByText := true, laidKinds := [.data, .data, .data, .data, .pinned, .pinned], laidTests := true, laidLooks := .later }
def SixSameUptoCardSaid : Prop := Claim7.holds Tryd.pinned (.plain (OpenSpec.upto sixSameSpec)) sixSameUptoCard

/-- THE SECOND FORM's CARD OF 'mantraplaw06.AddrReads'. -/
def addrReadsUptoCard : Claim7 := { stood := { row := addrReadsUptoRow, standIns := [], harness := (true, "edc58d91329146845633797a4a2771d04c8af5b2c7b27ef780a45bb20198fd72"), looks := true }, kinds := [], alts := [], laidByText := true, laidKinds := [.data, .data, .data], laidTests := true, laidLooks := .later }
def AddrReadsUptoCardSaid : Prop := Claim7.holds Tryd.pinned (.plain (OpenSpec.upto addrReadsSpec)) addrReadsUptoCard

/-- THE SECOND FORM's CARD OF 'mantraplaw06.AddrNone'. -/
def addrNoneUptoCard : Claim7 := { stood := { row := addrNoneUptoRow, standIns := [], harness := (true, "edc58d91329146845633797a4a2771d04c8af5b2c7b27ef780a45bb20198fd72"), looks := true }, kinds := [], alts := [], laidByText := true, laidKinds := [.data, .data, .data], laidTests := true, laidLooks := .later }
def AddrNoneUptoCardSaid : Prop := Claim7.holds Tryd.pinned (.plain (OpenSpec.upto addrNoneSpec)) addrNoneUptoCard

/-- THE SECOND FORM's CARD OF 'mantraplaw06.AddrEmbeds'. -/
def addrEmbedsUptoCard : Claim7 := { stood := { row := addrEmbedsUptoRow, standIns := [], harness := (true, "edc58d91329146845633797a4a2771d04c8af5b2c7b27ef780a45bb20198fd72"), looks := true }, kinds := [], alts := [], laidByText := true, laidKinds := [.data, .data, .data], laidTests := true, laidLooks := .later }
def AddrEmbedsUptoCardSaid : Prop := Claim7.holds Tryd.pinned (.plain (OpenSpec.upto addrEmbedsSpec)) addrEmbedsUptoCard

/-- THE SECOND FORM's CARD OF 'mantraplaw06.AddrOrder'. -/
def addrOrderUptoCard : Claim7 := { stood := { row := addrOrderUptoRow, standIns := [], harness := (true, "edc58d91329146845633797a4a2771d04c8af5b2c7b27ef780a45bb20198fd72"), looks := true }, kinds := [], alts := [], laidByText := true, laidKinds := [.data, .data, .data], laidTests := true, laidLooks := .later }
def AddrOrderUptoCardSaid : Prop := Claim7.holds Tryd.pinned (.plain (OpenSpec.upto addrOrderSpec)) addrOrderUptoCard
end Rows
end Go.Proofs.YtgmfgcpfpopboaaDoor
