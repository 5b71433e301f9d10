/-
  DERIVED. GIVEN WITH THE SEED: THE CARDS: each row of YtoobiaifogackaaGreatDoorRows.lean that lists a variable, with what it lists TIED to the program's text (the seventh form; the later family's looks); each row that meets fmt, with fmt's text TOLD by the authors' own Lean function (tested against real Go, not proved from fmt's source: count such statements apart). THE CARD IS WHAT COUNTS. Prove the row's statement (the work); the ties are given (YtoobiaifogackaaGreatDoorTie.lean); close each card by the builder's one call (the guide's Derived/Test/ToyasCard.lean, 'card_holds'). Laid BY PROGRAM, IN A SANDBOX (cutbox-door.mjs). By AI agents, Wed Nov 11 2026. No macro, syntax, notation, axiom, sorry.
-/
import Derived.Test.YtoobiaifogackaaGreatDoorRows
import GoSem.ClaimSeven
namespace Go.Proofs.YtoobiaifogackaaGreatDoor
namespace Rows

/-- THE TIED CARD OF 'mantraplaw09.SpecialNames'. -/
def specialNamesCard : Claim7 := { stood := { row := specialNamesRow, standIns := [], harness := (true, "81969a3fa46567f2db4aad48e42e2132518f71029cf357cbf105f9a5e24b8b74"), looks := true }, kinds := [], alts := [], laidByText := true, laidKinds := [.data, .data, .data], laidTests := true, laidLooks := .later }
def SpecialNamesCardSaid : Prop := Claim7.holds Tryz.pinned (.plain (OpenSpec.ofChange specialNamesSpec)) specialNamesCard

/-- THE TIED CARD OF 'mantraplaw09.SpecialNamed'. -/
def specialNamedCard : Claim7 := { stood := { row := specialNamedRow, standIns := [], harness := (true, "81969a3fa46567f2db4aad48e42e2132518f71029cf357cbf105f9a5e24b8b74"), looks := true }, kinds := [], alts := [], laidByText := true, laidKinds := [.data, .data, .data], laidTests := true, laidLooks := .later }
def SpecialNamedCardSaid : Prop := Claim7.holds Tryz.pinned (.plain (OpenSpec.ofChange specialNamedSpec)) specialNamedCard

/-- THE TIED CARD OF 'mantraplaw09.SpecialRows'. -/
def specialRowsCard : Claim7 := { stood := { row := specialRowsRow, standIns := [], harness := (true, "81969a3fa46567f2db4aad48e42e2132518f71029cf357cbf105f9a5e24b8b74"), looks := true }, kinds := [], alts := [], laidByText := true, laidKinds := [.data, .data, .data], laidTests := true, laidLooks := .later }
def SpecialRowsCardSaid : Prop := Claim7.holds Tryz.pinned (.plain (OpenSpec.ofChange specialRowsSpec)) specialRowsCard

/-- THE TIED CARD OF 'mantraplaw10.PolicyTells'. -/
def policyTellsCard : Claim7 := { stood := { row := policyTellsRow, standIns := [], harness := (true, "81969a3fa46567f2db4aad48e42e2132518f71029cf357cbf105f9a5e24b8b74"), looks := true }, kinds := [], alts := [], laidByText := true, laidKinds := [.data, .data, .data, .data, .pinned], laidTests := true, laidLooks := .later }
def PolicyTellsCardSaid : Prop := Claim7.holds Tryz.pinned (.plain (OpenSpec.ofChange policyTellsSpec)) policyTellsCard

/-- THE TIED CARD OF 'mantraplaw10.PolicyReads'. -/
def policyReadsCard : Claim7 := { stood := { row := policyReadsRow, standIns := [], harness := (true, "81969a3fa46567f2db4aad48e42e2132518f71029cf357cbf105f9a5e24b8b74"), looks := true }, kinds := [], alts := [], laidByText := true, laidKinds := [.data, .data, .data, .data, .pinned], laidTests := true, laidLooks := .later }
def PolicyReadsCardSaid : Prop := Claim7.holds Tryz.pinned (.plain (OpenSpec.ofChange policyReadsSpec)) policyReadsCard

/-- THE TIED CARD OF 'mantraplaw10.PolicyBack'. -/
def policyBackCard : Claim7 := { stood := { row := policyBackRow, standIns := [], harness := (true, "81969a3fa46567f2db4aad48e42e2132518f71029cf357cbf105f9a5e24b8b74"), looks := true }, kinds := [], alts := [], laidByText := true, laidKinds := [.data, .data, .data, .data, .pinned], laidTests := true, laidLooks := .later }
def PolicyBackCardSaid : Prop := Claim7.holds Tryz.pinned (.plain (OpenSpec.ofChange policyBackSpec)) policyBackCard

/-- THE TIED CARD OF 'mantraplaw10.PolicyInner'. -/
def policyInnerCard : Claim7 := { stood := { row := policyInnerRow, standIns := [], harness := (true, "81969a3fa46567f2db4aad48e42e2132518f71029cf357cbf105f9a5e24b8b74"), looks := true }, kinds := [], alts := [], laidByText := true, laidKinds := [.data, .data, .data, .data, .pinned], laidTests := true, laidLooks := .later }
def PolicyInnerCardSaid : Prop := Claim7.holds Tryz.pinned (.plain (OpenSpec.ofChange policyInnerSpec)) policyInnerCard

/-- THE TIED CARD OF 'mantraplaw10.PolicyLast'. -/
def policyLastCard : Claim7 := { stood := { row := policyLastRow, standIns := [], harness := (true, "81969a3fa46567f2db4aad48e42e2132518f71029cf357cbf105f9a5e24b8b74"), looks := true }, kinds := [], alts := [], laidByText := true, laidKinds := [.data, .data, .data, .data, .pinned], laidTests := true, laidLooks := .later }
def PolicyLastCardSaid : Prop := Claim7.holds Tryz.pinned (.plain (OpenSpec.ofChange policyLastSpec)) policyLastCard

/-- THE SECOND FORM's CARD OF 'mantraplaw09.SpecialNames'. -/
def specialNamesUptoCard : Claim7 := { stood := { row := specialNamesUptoRow, standIns := [], harness := (true, "81969a3fa46567f2db4aad48e42e2132518f71029cf357cbf105f9a5e24b8b74"), looks := true }, kinds := [], alts := [], laidByText := true, laidKinds := [.data, .data, .data], laidTests := true, laidLooks := .later }
def SpecialNamesUptoCardSaid : Prop := Claim7.holds Tryz.pinned (.plain (OpenSpec.upto specialNamesSpec)) specialNamesUptoCard

/-- THE SECOND FORM's CARD OF 'mantraplaw09.SpecialNamed'. -/
def specialNamedUptoCard : Claim7 := { stood := { row := specialNamedUptoRow, standIns := [], harness := (true, "81969a3fa46567f2db4aad48e42e2132518f71029cf357cbf105f9a5e24b8b74"), looks := true }, kinds := [], alts := [], laidByText := true, laidKinds := [.data, .data, .data], laidTests := true, laidLooks := .later }
def SpecialNamedUptoCardSaid : Prop := Claim7.holds Tryz.pinned (.plain (OpenSpec.upto specialNamedSpec)) specialNamedUptoCard

/-- THE SECOND FORM's CARD OF 'mantraplaw09.SpecialRows'. -/
def specialRowsUptoCard : Claim7 := { stood := { row := specialRowsUptoRow, standIns := [], harness := (true, "81969a3fa46567f2db4aad48e42e2132518f71029cf357cbf105f9a5e24b8b74"), looks := true }, kinds := [], alts := [], laidByText := true, laidKinds := [.data, .data, .data], laidTests := true, laidLooks := .later }
def SpecialRowsUptoCardSaid : Prop := Claim7.holds Tryz.pinned (.plain (OpenSpec.upto specialRowsSpec)) specialRowsUptoCard

/-- THE SECOND FORM's CARD OF 'mantraplaw10.PolicyTells'. -/
def policyTellsUptoCard : Claim7 := { stood := { row := policyTellsUptoRow, standIns := [], harness := (true, "81969a3fa46567f2db4aad48e42e2132518f71029cf357cbf105f9a5e24b8b74"), looks := true }, kinds := [], alts := [], laidByText := true, laidKinds := [.data, .data, .data, .data, .pinned], laidTests := true, laidLooks := .later }
def PolicyTellsUptoCardSaid : Prop := Claim7.holds Tryz.pinned (.plain (OpenSpec.upto policyTellsSpec)) policyTellsUptoCard

/-- THE SECOND FORM's CARD OF 'mantraplaw10.PolicyReads'. -/
def policyReadsUptoCard : Claim7 := { stood := { row := policyReadsUptoRow, standIns := [], harness := (true, "81969a3fa46567f2db4aad48e42e2132518f71029cf357cbf105f9a5e24b8b74"), looks := true }, kinds := [], alts := [], laidByText := true, laidKinds := [.data, .data, .data, .data, .pinned], laidTests := true, laidLooks := .later }
def PolicyReadsUptoCardSaid : Prop := Claim7.holds Tryz.pinned (.plain (OpenSpec.upto policyReadsSpec)) policyReadsUptoCard

/-- THE SECOND FORM's CARD OF 'mantraplaw10.PolicyBack'. -/
def policyBackUptoCard : Claim7 := { stood := { row := policyBackUptoRow, standIns := [], harness := (true, "81969a3fa46567f2db4aad48e42e2132518f71029cf357cbf105f9a5e24b8b74"), looks := true }, kinds := [], alts := [], laidByText := true, laidKinds := [.data, .data, .data, .data, .pinned], laidTests := true, laidLooks := .later }
def PolicyBackUptoCardSaid : Prop := Claim7.holds Tryz.pinned (.plain (OpenSpec.upto policyBackSpec)) policyBackUptoCard

/-- THE SECOND FORM's CARD OF 'mantraplaw10.PolicyInner'. -/
def policyInnerUptoCard : Claim7 := { stood := { row := policyInnerUptoRow, standIns := [], harness := (true, "81969a3fa46567f2db4aad48e42e2132518f71029cf357cbf105f9a5e24b8b74"), looks := true }, kinds := [], alts := [], laidByText := true, laidKinds := [.data, .data, .data, .data, .pinned], laidTests := true, laidLooks := .later }
def PolicyInnerUptoCardSaid : Prop := Claim7.holds Tryz.pinned (.plain (OpenSpec.upto policyInnerSpec)) policyInnerUptoCard

/-- THE SECOND FORM's CARD OF 'mantraplaw10.PolicyLast'. -/
def policyLastUptoCard : Claim7 := { stood := { row := policyLastUptoRow, standIns := [], harness := (true, "81969a3fa46567f2db4aad48e42e2132518f71029cf357cbf105f9a5e24b8b74"), looks := true }, kinds := [], alts := [], laidByText := true, laidKinds := [.data, .data, .data, .data, .pinned], laidTests := true, laidLooks := .later }
def PolicyLastUptoCardSaid : Prop := Claim7.holds Tryz.pinned (.plain (OpenSpec.upto policyLastSpec)) policyLastUptoCard
end Rows
end Go.Proofs.YtoobiaifogackaaGreatDoor
