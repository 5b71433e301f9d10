/-
  DERIVED. GIVEN WITH THE SEED: THE CARDS: each row of YtppgdppmheiocaaGreatDoorRows.lean that lists a variable, with what it lists TIED to the program's text (the seventh form; the later family's looks); each row that meets fmt, with fmt's text TOLD by the authors' own Lean function (tested against real Go, not proved from fmt's source: count such statements apart). THE CARD IS WHAT COUNTS. Prove the row's statement (the work); the ties are given (YtppgdppmheiocaaGreatDoorTie.lean); close each card by the builder's one call (the guide's Derived/Test/ToyasCard.lean, 'card_holds'). Laid BY PROGRAM, IN A SANDBOX (cutbox-door.mjs). By AI agents, Wed Nov 11 2026. No macro, syntax, notation, axiom, sorry.
-/
import Derived.Test.YtppgdppmheiocaaGreatDoorRows
import GoSem.ClaimSeven
namespace Go.Proofs.YtppgdppmheiocaaGreatDoor
namespace Rows

/-- THE TIED CARD OF 'mantraplaw15.AbnfReads'. -/
def abnfReadsCard : Claim7 := { stood := { row := abnfReadsRow, standIns := [], harness := (true, "7df0d3ccfda19866a7e23715ce2b6135487e1179353d85237bf1918937fc1a87"), looks := true }, kinds := [], alts := [], laidByText := true, laidKinds := [.data, .data, .data, .data, .pinned], laidTests := true, laidLooks := .later }
def AbnfReadsCardSaid : Prop := Claim7.holds Tryz.pinned (.plain (OpenSpec.ofChange abnfReadsSpec)) abnfReadsCard

/-- THE TIED CARD OF 'mantraplaw15.AbnfTells'. -/
def abnfTellsCard : Claim7 := { stood := { row := abnfTellsRow, standIns := [], harness := (true, "7df0d3ccfda19866a7e23715ce2b6135487e1179353d85237bf1918937fc1a87"), looks := true }, kinds := [], alts := [], laidByText := true, laidKinds := [.data, .data, .data, .data, .pinned], laidTests := true, laidLooks := .later }
def AbnfTellsCardSaid : Prop := Claim7.holds Tryz.pinned (.plain (OpenSpec.ofChange abnfTellsSpec)) abnfTellsCard

/-- THE TIED CARD OF 'mantraplaw15.AbnfBack'. -/
def abnfBackCard : Claim7 := { stood := { row := abnfBackRow, standIns := [], harness := (true, "7df0d3ccfda19866a7e23715ce2b6135487e1179353d85237bf1918937fc1a87"), looks := true }, kinds := [], alts := [], laidByText := true, laidKinds := [.data, .data, .data, .data, .pinned], laidTests := true, laidLooks := .later }
def AbnfBackCardSaid : Prop := Claim7.holds Tryz.pinned (.plain (OpenSpec.ofChange abnfBackSpec)) abnfBackCard

/-- THE TIED CARD OF 'mantraplaw15.AbnfMeets'. -/
def abnfMeetsCard : Claim7 := { stood := { row := abnfMeetsRow, standIns := [], harness := (true, "7df0d3ccfda19866a7e23715ce2b6135487e1179353d85237bf1918937fc1a87"), looks := true }, kinds := [], alts := [], laidByText := true, laidKinds := [.data, .data, .data, .data, .pinned], laidTests := true, laidLooks := .later }
def AbnfMeetsCardSaid : Prop := Claim7.holds Tryz.pinned (.plain (OpenSpec.ofChange abnfMeetsSpec)) abnfMeetsCard

/-- THE TIED CARD OF 'mantraplaw16.DotsGo'. -/
def dotsGoCard : Claim7 := { stood := { row := dotsGoRow, standIns := [], harness := (true, "7df0d3ccfda19866a7e23715ce2b6135487e1179353d85237bf1918937fc1a87"), looks := true }, kinds := [], alts := [], laidByText := true, laidKinds := [.data, .data, .data, .data, .pinned], laidTests := true, laidLooks := .later }
def DotsGoCardSaid : Prop := Claim7.holds Tryz.pinned (.plain (OpenSpec.ofChange dotsGoSpec)) dotsGoCard

/-- THE TIED CARD OF 'mantraplaw16.DotsOnce'. -/
def dotsOnceCard : Claim7 := { stood := { row := dotsOnceRow, standIns := [], harness := (true, "7df0d3ccfda19866a7e23715ce2b6135487e1179353d85237bf1918937fc1a87"), looks := true }, kinds := [], alts := [], laidByText := true, laidKinds := [.data, .data, .data, .data, .pinned], laidTests := true, laidLooks := .later }
def DotsOnceCardSaid : Prop := Claim7.holds Tryz.pinned (.plain (OpenSpec.ofChange dotsOnceSpec)) dotsOnceCard

/-- THE TIED CARD OF 'mantraplaw16.DotsClimb'. -/
def dotsClimbCard : Claim7 := { stood := { row := dotsClimbRow, standIns := [], harness := (true, "7df0d3ccfda19866a7e23715ce2b6135487e1179353d85237bf1918937fc1a87"), looks := true }, kinds := [], alts := [], laidByText := true, laidKinds := [.data, .data, .data, .data, .pinned], laidTests := true, laidLooks := .later }
def DotsClimbCardSaid : Prop := Claim7.holds Tryz.pinned (.plain (OpenSpec.ofChange dotsClimbSpec)) dotsClimbCard

/-- THE SECOND FORM's CARD OF 'mantraplaw15.AbnfReads'. -/
def abnfReadsUptoCard : Claim7 := { stood := { row := abnfReadsUptoRow, standIns := [], harness := (true, "7df0d3ccfda19866a7e23715ce2b6135487e1179353d85237bf1918937fc1a87"), looks := true }, kinds := [], alts := [], laidByText := true, laidKinds := [.data, .data, .data, .data, .pinned], laidTests := true, laidLooks := .later }
def AbnfReadsUptoCardSaid : Prop := Claim7.holds Tryz.pinned (.plain (OpenSpec.upto abnfReadsSpec)) abnfReadsUptoCard

/-- THE SECOND FORM's CARD OF 'mantraplaw15.AbnfTells'. -/
def abnfTellsUptoCard : Claim7 := { stood := { row := abnfTellsUptoRow, standIns := [], harness := (true, "7df0d3ccfda19866a7e23715ce2b6135487e1179353d85237bf1918937fc1a87"), looks := true }, kinds := [], alts := [], laidByText := true, laidKinds := [.data, .data, .data, .data, .pinned], laidTests := true, laidLooks := .later }
def AbnfTellsUptoCardSaid : Prop := Claim7.holds Tryz.pinned (.plain (OpenSpec.upto abnfTellsSpec)) abnfTellsUptoCard

/-- THE SECOND FORM's CARD OF 'mantraplaw15.AbnfBack'. -/
def abnfBackUptoCard : Claim7 := { stood := { row := abnfBackUptoRow, standIns := [], harness := (true, "7df0d3ccfda19866a7e23715ce2b6135487e1179353d85237bf1918937fc1a87"), looks := true }, kinds := [], alts := [], laidByText := true, laidKinds := [.data, .data, .data, .data, .pinned], laidTests := true, laidLooks := .later }
def AbnfBackUptoCardSaid : Prop := Claim7.holds Tryz.pinned (.plain (OpenSpec.upto abnfBackSpec)) abnfBackUptoCard

/-- THE SECOND FORM's CARD OF 'mantraplaw15.AbnfMeets'. -/
def abnfMeetsUptoCard : Claim7 := { stood := { row := abnfMeetsUptoRow, standIns := [], harness := (true, "7df0d3ccfda19866a7e23715ce2b6135487e1179353d85237bf1918937fc1a87"), looks := true }, kinds := [], alts := [], laidByText := true, laidKinds := [.data, .data, .data, .data, .pinned], laidTests := true, laidLooks := .later }
def AbnfMeetsUptoCardSaid : Prop := Claim7.holds Tryz.pinned (.plain (OpenSpec.upto abnfMeetsSpec)) abnfMeetsUptoCard

/-- THE SECOND FORM's CARD OF 'mantraplaw16.DotsGo'. -/
def dotsGoUptoCard : Claim7 := { stood := { row := dotsGoUptoRow, standIns := [], harness := (true, "7df0d3ccfda19866a7e23715ce2b6135487e1179353d85237bf1918937fc1a87"), looks := true }, kinds := [], alts := [], laidByText := true, laidKinds := [.data, .data, .data, .data, .pinned], laidTests := true, laidLooks := .later }
def DotsGoUptoCardSaid : Prop := Claim7.holds Tryz.pinned (.plain (OpenSpec.upto dotsGoSpec)) dotsGoUptoCard

/-- THE SECOND FORM's CARD OF 'mantraplaw16.DotsOnce'. -/
def dotsOnceUptoCard : Claim7 := { stood := { row := dotsOnceUptoRow, standIns := [], harness := (true, "7df0d3ccfda19866a7e23715ce2b6135487e1179353d85237bf1918937fc1a87"), looks := true }, kinds := [], alts := [], laidByText := true, laidKinds := [.data, .data, .data, .data, .pinned], laidTests := true, laidLooks := .later }
def DotsOnceUptoCardSaid : Prop := Claim7.holds Tryz.pinned (.plain (OpenSpec.upto dotsOnceSpec)) dotsOnceUptoCard

/-- THE SECOND FORM's CARD OF 'mantraplaw16.DotsClimb'. -/
def dotsClimbUptoCard : Claim7 := { stood := { row := dotsClimbUptoRow, standIns := [], harness := (true, "7df0d3ccfda19866a7e23715ce2b6135487e1179353d85237bf1918937fc1a87"), looks := true }, kinds := [], alts := [], laidByText := true, laidKinds := [.data, .data, .data, .data, .pinned], laidTests := true, laidLooks := .later }
def DotsClimbUptoCardSaid : Prop := Claim7.holds Tryz.pinned (.plain (OpenSpec.upto dotsClimbSpec)) dotsClimbUptoCard
end Rows
end Go.Proofs.YtppgdppmheiocaaGreatDoor
