/-
  DERIVED. GIVEN WITH THE SEED: THE CARDS: each row of YtcagcjdhbijknaaGreatDoorRows.lean that lists a variable, with what it lists TIED to the program's text (the seventh form; the later family's looks); each row that meets fmt, with fmt's text TOLD by the authors' own Lean function (tested against real Go, not proved from fmt's source: count such statements apart). THE CARD IS WHAT COUNTS. Prove the row's statement (the work); the ties are given (YtcagcjdhbijknaaGreatDoorTie.lean); close each card by the builder's one call (the guide's Derived/Test/ToyasCard.lean, 'card_holds'). Laid BY PROGRAM, IN A SANDBOX (cutbox-door.mjs). By AI agents, Wed Nov 11 2026. No macro, syntax, notation, axiom, sorry.
-/
import Derived.Test.YtcagcjdhbijknaaGreatDoorRows
import GoSem.ClaimSeven
namespace Go.Proofs.YtcagcjdhbijknaaGreatDoor
namespace Rows

/-- THE TIED CARD OF 'mantraplaw14.WhatwgChains'. -/
def whatwgChainsCard : Claim7 := { stood := { row := whatwgChainsRow, standIns := [], harness := (true, "0098ba5bfd61de5321e88d1e9ff4c1f24c1393066702540a1748837360bbd881"), looks := true }, kinds := [], alts := [], laidByText := true, laidKinds := [.data, .data, .data, .data, .pinned], laidTests := true, laidLooks := .later }
def WhatwgChainsCardSaid : Prop := Claim7.holds Tryz.pinned (.plain (OpenSpec.ofChange whatwgChainsSpec)) whatwgChainsCard

/-- THE SECOND FORM's CARD OF 'mantraplaw14.WhatwgChains'. -/
def whatwgChainsUptoCard : Claim7 := { stood := { row := whatwgChainsUptoRow, standIns := [], harness := (true, "0098ba5bfd61de5321e88d1e9ff4c1f24c1393066702540a1748837360bbd881"), looks := true }, kinds := [], alts := [], laidByText := true, laidKinds := [.data, .data, .data, .data, .pinned], laidTests := true, laidLooks := .later }
def WhatwgChainsUptoCardSaid : Prop := Claim7.holds Tryz.pinned (.plain (OpenSpec.upto whatwgChainsSpec)) whatwgChainsUptoCard
end Rows
end Go.Proofs.YtcagcjdhbijknaaGreatDoor
