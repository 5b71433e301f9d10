/-
  DERIVED. GIVEN WITH THE SEED: THE CARDS: each row of YthacmlahnpdeeaaGreatDoorRows.lean that lists a variable, with what it lists TIED to the program's text (the seventh form; the later family's looks); each row that meets fmt, with fmt's text TOLD by the authors' own Lean function (tested against real Go, not proved from fmt's source: count such statements apart). THE CARD IS WHAT COUNTS. Prove the row's statement (the work); the ties are given (YthacmlahnpdeeaaGreatDoorTie.lean); close each card by the builder's one call (the guide's Derived/Test/ToyasCard.lean, 'card_holds'). Laid BY PROGRAM, IN A SANDBOX (cutbox-door.mjs). By AI agents, Wed Nov 11 2026. No macro, syntax, notation, axiom, sorry.
-/
import Derived.Test.YthacmlahnpdeeaaGreatDoorRows
import GoSem.ClaimSeven
namespace Go.Proofs.YthacmlahnpdeeaaGreatDoor
namespace Rows

/-- THE TIED CARD OF 'mantraplaw14.WhatwgReads'. -/
def whatwgReadsCard : Claim7 := { stood := { row := whatwgReadsRow, standIns := [], harness := (true, "a18e2a8bc085a878f05c4e5e79ccbb7137b0c84c2c1aa75d4d4b81866945229b"), looks := true }, kinds := [], alts := [], laidByText := true, laidKinds := [.data, .data, .data, .data, .pinned], laidTests := true, laidLooks := .later }
def WhatwgReadsCardSaid : Prop := Claim7.holds Tryz.pinned (.plain (OpenSpec.ofChange whatwgReadsSpec)) whatwgReadsCard

/-- THE TIED CARD OF 'mantraplaw14.WhatwgChains'. -/
def whatwgChainsCard : Claim7 := { stood := { row := whatwgChainsRow, standIns := [], harness := (true, "a18e2a8bc085a878f05c4e5e79ccbb7137b0c84c2c1aa75d4d4b81866945229b"), looks := true }, kinds := [], alts := [], laidByText := true, laidKinds := [.data, .data, .data, .data, .pinned], laidTests := true, laidLooks := .later }
def WhatwgChainsCardSaid : Prop := Claim7.holds Tryz.pinned (.plain (OpenSpec.ofChange whatwgChainsSpec)) whatwgChainsCard

/-- THE TIED CARD OF 'mantraplaw14.WhatwgClean'. -/
def whatwgCleanCard : Claim7 := { stood := { row := whatwgCleanRow, standIns := [], harness := (true, "a18e2a8bc085a878f05c4e5e79ccbb7137b0c84c2c1aa75d4d4b81866945229b"), looks := true }, kinds := [], alts := [], laidByText := true, laidKinds := [.data, .data, .data, .data, .pinned], laidTests := true, laidLooks := .later }
def WhatwgCleanCardSaid : Prop := Claim7.holds Tryz.pinned (.plain (OpenSpec.ofChange whatwgCleanSpec)) whatwgCleanCard

/-- THE SECOND FORM's CARD OF 'mantraplaw14.WhatwgReads'. -/
def whatwgReadsUptoCard : Claim7 := { stood := { row := whatwgReadsUptoRow, standIns := [], harness := (true, "a18e2a8bc085a878f05c4e5e79ccbb7137b0c84c2c1aa75d4d4b81866945229b"), looks := true }, kinds := [], alts := [], laidByText := true, laidKinds := [.data, .data, .data, .data, .pinned], laidTests := true, laidLooks := .later }
def WhatwgReadsUptoCardSaid : Prop := Claim7.holds Tryz.pinned (.plain (OpenSpec.upto whatwgReadsSpec)) whatwgReadsUptoCard

/-- THE SECOND FORM's CARD OF 'mantraplaw14.WhatwgChains'. -/
def whatwgChainsUptoCard : Claim7 := { stood := { row := whatwgChainsUptoRow, standIns := [], harness := (true, "a18e2a8bc085a878f05c4e5e79ccbb7137b0c84c2c1aa75d4d4b81866945229b"), looks := true }, kinds := [], alts := [], laidByText := true, laidKinds := [.data, .data, .data, .data, .pinned], laidTests := true, laidLooks := .later }
def WhatwgChainsUptoCardSaid : Prop := Claim7.holds Tryz.pinned (.plain (OpenSpec.upto whatwgChainsSpec)) whatwgChainsUptoCard

/-- THE SECOND FORM's CARD OF 'mantraplaw14.WhatwgClean'. -/
def whatwgCleanUptoCard : Claim7 := { stood := { row := whatwgCleanUptoRow, standIns := [], harness := (true, "a18e2a8bc085a878f05c4e5e79ccbb7137b0c84c2c1aa75d4d4b81866945229b"), looks := true }, kinds := [], alts := [], laidByText := true, laidKinds := [.data, .data, .data, .data, .pinned], laidTests := true, laidLooks := .later }
def WhatwgCleanUptoCardSaid : Prop := Claim7.holds Tryz.pinned (.plain (OpenSpec.upto whatwgCleanSpec)) whatwgCleanUptoCard
end Rows
end Go.Proofs.YthacmlahnpdeeaaGreatDoor
