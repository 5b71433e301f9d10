/-
  DERIVED. GIVEN WITH THE SEED: THE CARDS: each row of YtkiehdigpchebaaGreatDoorRows.lean that lists a variable, with what it lists TIED to the program's text (the seventh form; the later family's looks); each row that meets fmt, with fmt's text TOLD by the authors' own Lean function (tested against real Go, not proved from fmt's source: count such statements apart). THE CARD IS WHAT COUNTS. Prove the row's statement (the work); the ties are given (YtkiehdigpchebaaGreatDoorTie.lean); close each card by the builder's one call (the guide's Derived/Test/ToyasCard.lean, 'card_holds'). Laid BY PROGRAM, IN A SANDBOX (cutbox-door.mjs). By AI agents, Wed Nov 11 2026. No macro, syntax, notation, axiom, sorry.
-/
import Derived.Test.YtkiehdigpchebaaGreatDoorRows
import GoSem.ClaimSeven
namespace Go.Proofs.YtkiehdigpchebaaGreatDoor
namespace Rows

/-- THE TIED CARD OF 'mantraplaw20.CacheLast'. -/
def cacheLastCard : Claim7 := { stood := { row := cacheLastRow, standIns := [], harness := (true, "1d587d5ca0919a44fbefe96f7ed5bae2587f581f002a92c58850a72d8077cfc7"), looks := true }, kinds := [], alts := [], laidByText := true, laidKinds := [.data, .data, .data, .data, .pinned], laidTests := true, laidLooks := .later }
def CacheLastCardSaid : Prop := Claim7.holds Tryz.pinned (.plain (OpenSpec.ofChange cacheLastSpec)) cacheLastCard

/-- THE TIED CARD OF 'mantraplaw21.AnswersPlay'. -/
def answersPlayCard : Claim7 := { stood := { row := answersPlayRow, standIns := [], harness := (true, "1d587d5ca0919a44fbefe96f7ed5bae2587f581f002a92c58850a72d8077cfc7"), looks := true }, kinds := [], alts := [], laidByText := true, laidKinds := [.data, .data, .data, .data, .pinned], laidTests := true, laidLooks := .later }
def AnswersPlayCardSaid : Prop := Claim7.holds Tryz.pinned (.plain (OpenSpec.ofChange answersPlaySpec)) answersPlayCard

/-- THE TIED CARD OF 'mantraplaw21.AnswersNone'. -/
def answersNoneCard : Claim7 := { stood := { row := answersNoneRow, standIns := [], harness := (true, "1d587d5ca0919a44fbefe96f7ed5bae2587f581f002a92c58850a72d8077cfc7"), looks := true }, kinds := [], alts := [], laidByText := true, laidKinds := [.data, .data, .data, .data, .pinned], laidTests := true, laidLooks := .later }
def AnswersNoneCardSaid : Prop := Claim7.holds Tryz.pinned (.plain (OpenSpec.ofChange answersNoneSpec)) answersNoneCard

/-- THE SECOND FORM's CARD OF 'mantraplaw20.CacheLast'. -/
def cacheLastUptoCard : Claim7 := { stood := { row := cacheLastUptoRow, standIns := [], harness := (true, "1d587d5ca0919a44fbefe96f7ed5bae2587f581f002a92c58850a72d8077cfc7"), looks := true }, kinds := [], alts := [], laidByText := true, laidKinds := [.data, .data, .data, .data, .pinned], laidTests := true, laidLooks := .later }
def CacheLastUptoCardSaid : Prop := Claim7.holds Tryz.pinned (.plain (OpenSpec.upto cacheLastSpec)) cacheLastUptoCard

/-- THE SECOND FORM's CARD OF 'mantraplaw21.AnswersPlay'. -/
def answersPlayUptoCard : Claim7 := { stood := { row := answersPlayUptoRow, standIns := [], harness := (true, "1d587d5ca0919a44fbefe96f7ed5bae2587f581f002a92c58850a72d8077cfc7"), looks := true }, kinds := [], alts := [], laidByText := true, laidKinds := [.data, .data, .data, .data, .pinned], laidTests := true, laidLooks := .later }
def AnswersPlayUptoCardSaid : Prop := Claim7.holds Tryz.pinned (.plain (OpenSpec.upto answersPlaySpec)) answersPlayUptoCard

/-- THE SECOND FORM's CARD OF 'mantraplaw21.AnswersNone'. -/
def answersNoneUptoCard : Claim7 := { stood := { row := answersNoneUptoRow, standIns := [], harness := (true, "1d587d5ca0919a44fbefe96f7ed5bae2587f581f002a92c58850a72d8077cfc7"), looks := true }, kinds := [], alts := [], laidByText := true, laidKinds := [.data, .data, .data, .data, .pinned], laidTests := true, laidLooks := .later }
def AnswersNoneUptoCardSaid : Prop := Claim7.holds Tryz.pinned (.plain (OpenSpec.upto answersNoneSpec)) answersNoneUptoCard
end Rows
end Go.Proofs.YtkiehdigpchebaaGreatDoor
