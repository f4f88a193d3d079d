/-
  DERIVED. GIVEN WITH THE SEED: THE CARDS: each row of YtimblnhigoggpaaDoorRows.lean that lists a variable, with what it lists TIED to the program's text (the seventh form; the later family's looks); each row that meets fmt, with fmt's text TOLD by the authors' own Lean function (tested against real Go, not proved from fmt's source: count such statements apart). THE CARD IS WHAT COUNTS. Prove the row's statement (the work); the ties are given (YtimblnhigoggpaaDoorTie.lean); close each card by the builder's one call (the guide's Derived/Test/ToyasCard.lean, 'card_holds'). Laid BY PROGRAM, IN A SANDBOX (cutbox-door.mjs). By AI agents, Wed Nov 11 2026. No macro, syntax, notation, axiom, sorry.
-/
import Derived.Test.YtimblnhigoggpaaDoorRows
import GoSem.ClaimSeven
namespace Go.Proofs.YtimblnhigoggpaaDoor
namespace Rows

/-- THE TIED CARD OF 'scriptinglaw19.FailureRaises'. -/
def failureRaisesCard : Claim7 := { stood := { row := failureRaisesRow, standIns := [], harness := (true, "1815097b092b535a990902881388e3a624e1e8bd7ed0739f43cc3d87d0ef9dbd"), looks := false }, kinds := [], alts := [], laidByText := true, laidKinds := [.data, .data, .data], laidTests := true, laidLooks := .later }
def FailureRaisesCardSaid : Prop := Claim7.holds Tryd.pinned (.plain (OpenSpec.ofChange failureRaisesSpec)) failureRaisesCard

/-- THE TIED CARD OF 'scriptinglaw19.FailureMessages'. -/
def failureMessagesCard : Claim7 := { stood := { row := failureMessagesRow, standIns := [], harness := (true, "1815097b092b535a990902881388e3a624e1e8bd7ed0739f43cc3d87d0ef9dbd"), looks := false }, kinds := [], alts := [], laidByText := true, laidKinds := [.data, .data, .data], laidTests := true, laidLooks := .later }
def FailureMessagesCardSaid : Prop := Claim7.holds Tryd.pinned (.plain (OpenSpec.ofChange failureMessagesSpec)) failureMessagesCard

/-- THE TIED CARD OF 'scriptinglaw19.FailureTexts'. -/
def failureTextsCard : Claim7 := { stood := { row := failureTextsRow, standIns := [], harness := (true, "1815097b092b535a990902881388e3a624e1e8bd7ed0739f43cc3d87d0ef9dbd"), looks := false }, kinds := [], alts := [], laidByText := true, laidKinds := [.data, .data, .data], laidTests := true, laidLooks := .later }
def FailureTextsCardSaid : Prop := Claim7.holds Tryd.pinned (.plain (OpenSpec.ofChange failureTextsSpec)) failureTextsCard

/-- THE TIED CARD OF 'scriptinglaw19.FailureLines'. -/
def failureLinesCard : Claim7 := { stood := { row := failureLinesRow, standIns := [], harness := (true, "1815097b092b535a990902881388e3a624e1e8bd7ed0739f43cc3d87d0ef9dbd"), looks := false }, kinds := [], alts := [], laidByText := true, laidKinds := [.data, .data, .data], laidTests := true, laidLooks := .later }
def FailureLinesCardSaid : Prop := Claim7.holds Tryd.pinned (.plain (OpenSpec.ofChange failureLinesSpec)) failureLinesCard

/-- THE TIED CARD OF 'scriptinglaw19.FailureCompares'. -/
def failureComparesCard : Claim7 := { stood := { row := failureComparesRow, standIns := [], harness := (true, "1815097b092b535a990902881388e3a624e1e8bd7ed0739f43cc3d87d0ef9dbd"), looks := false }, kinds := [], alts := [], laidByText := true, laidKinds := [.data, .data, .data], laidTests := true, laidLooks := .later }
def FailureComparesCardSaid : Prop := Claim7.holds Tryd.pinned (.plain (OpenSpec.ofChange failureComparesSpec)) failureComparesCard

/-- THE TIED CARD OF 'scriptinglaw19.FailureDescribes'. -/
def failureDescribesCard : Claim7 := { stood := { row := failureDescribesRow, standIns := [], harness := (true, "1815097b092b535a990902881388e3a624e1e8bd7ed0739f43cc3d87d0ef9dbd"), looks := false }, kinds := [], alts := [], laidByText := true, laidKinds := [.data, .data, .data], laidTests := true, laidLooks := .later }
def FailureDescribesCardSaid : Prop := Claim7.holds Tryd.pinned (.plain (OpenSpec.ofChange failureDescribesSpec)) failureDescribesCard

/-- THE TIED CARD OF 'scriptinglaw19.FailureKeeps'. -/
def failureKeepsCard : Claim7 := { stood := { row := failureKeepsRow, standIns := [], harness := (true, "1815097b092b535a990902881388e3a624e1e8bd7ed0739f43cc3d87d0ef9dbd"), looks := false }, kinds := [], alts := [], laidByText := true, laidKinds := [.data, .data, .data], laidTests := true, laidLooks := .later }
def FailureKeepsCardSaid : Prop := Claim7.holds Tryd.pinned (.plain (OpenSpec.ofChange failureKeepsSpec)) failureKeepsCard

/-- THE TIED CARD OF 'scriptinglaw19.FailureShort'. -/
def failureShortCard : Claim7 := { stood := { row := failureShortRow, standIns := [], harness := (true, "1815097b092b535a990902881388e3a624e1e8bd7ed0739f43cc3d87d0ef9dbd"), looks := false }, kinds := [], alts := [], laidByText := true, laidKinds := [.data, .data, .data], laidTests := true, laidLooks := .later }
def FailureShortCardSaid : Prop := Claim7.holds Tryd.pinned (.plain (OpenSpec.ofChange failureShortSpec)) failureShortCard

/-- THE SECOND FORM's CARD OF 'scriptinglaw19.FailureRaises'. -/
def failureRaisesUptoCard : Claim7 := { stood := { row := failureRaisesUptoRow, standIns := [], harness := (true, "1815097b092b535a990902881388e3a624e1e8bd7ed0739f43cc3d87d0ef9dbd"), looks := false }, kinds := [], alts := [], laidByText := true, laidKinds := [.data, .data, .data], laidTests := true, laidLooks := .later }
def FailureRaisesUptoCardSaid : Prop := Claim7.holds Tryd.pinned (.plain (OpenSpec.upto failureRaisesSpec)) failureRaisesUptoCard

/-- THE SECOND FORM's CARD OF 'scriptinglaw19.FailureMessages'. -/
def failureMessagesUptoCard : Claim7 := { stood := { row := failureMessagesUptoRow, standIns := [], harness := (true, "1815097b092b535a990902881388e3a624e1e8bd7ed0739f43cc3d87d0ef9dbd"), looks := false }, kinds := [], alts := [], laidByText := true, laidKinds := [.data, .data, .data], laidTests := true, laidLooks := .later }
def FailureMessagesUptoCardSaid : Prop := Claim7.holds Tryd.pinned (.plain (OpenSpec.upto failureMessagesSpec)) failureMessagesUptoCard

/-- THE SECOND FORM's CARD OF 'scriptinglaw19.FailureTexts'. -/
def failureTextsUptoCard : Claim7 := { stood := { row := failureTextsUptoRow, standIns := [], harness := (true, "1815097b092b535a990902881388e3a624e1e8bd7ed0739f43cc3d87d0ef9dbd"), looks := false }, kinds := [], alts := [], laidByText := true, laidKinds := [.data, .data, .data], laidTests := true, laidLooks := .later }
def FailureTextsUptoCardSaid : Prop := Claim7.holds Tryd.pinned (.plain (OpenSpec.upto failureTextsSpec)) failureTextsUptoCard

/-- THE SECOND FORM's CARD OF 'scriptinglaw19.FailureLines'. -/
def failureLinesUptoCard : Claim7 := { stood := { row := failureLinesUptoRow, standIns := [], harness := (true, "1815097b092b535a990902881388e3a624e1e8bd7ed0739f43cc3d87d0ef9dbd"), looks := false }, kinds := [], alts := [], laidByText := true, laidKinds := [.data, .data, .data], laidTests := true, laidLooks := .later }
def FailureLinesUptoCardSaid : Prop := Claim7.holds Tryd.pinned (.plain (OpenSpec.upto failureLinesSpec)) failureLinesUptoCard

/-- THE SECOND FORM's CARD OF 'scriptinglaw19.FailureCompares'. -/
def failureComparesUptoCard : Claim7 := { stood := { row := failureComparesUptoRow, standIns := [], harness := (true, "1815097b092b535a990902881388e3a624e1e8bd7ed0739f43cc3d87d0ef9dbd"), looks := false }, kinds := [], alts := [], laidByText := true, laidKinds := [.data, .data, .data], laidTests := true, laidLooks := .later }
def FailureComparesUptoCardSaid : Prop := Claim7.holds Tryd.pinned (.plain (OpenSpec.upto failureComparesSpec)) failureComparesUptoCard

/-- THE SECOND FORM's CARD OF 'scriptinglaw19.FailureDescribes'. -/
def failureDescribesUptoCard : Claim7 := { stood := { row := failureDescribesUptoRow, standIns := [], harness := (true, "1815097b092b535a990902881388e3a624e1e8bd7ed0739f43cc3d87d0ef9dbd"), looks := false }, kinds := [], alts := [], laidByText := true, laidKinds := [.data, .data, .data], laidTests := true, laidLooks := .later }
def FailureDescribesUptoCardSaid : Prop := Claim7.holds Tryd.pinned (.plain (OpenSpec.upto failureDescribesSpec)) failureDescribesUptoCard

/-- THE SECOND FORM's CARD OF 'scriptinglaw19.FailureKeeps'. -/
def failureKeepsUptoCard : Claim7 := { stood := { row := failureKeepsUptoRow, standIns := [], harness := (true, "1815097b092b535a990902881388e3a624e1e8bd7ed0739f43cc3d87d0ef9dbd"), looks := false }, kinds := [], alts := [], laidByText := true, laidKinds := [.data, .data, .data], laidTests := true, laidLooks := .later }
def FailureKeepsUptoCardSaid : Prop := Claim7.holds Tryd.pinned (.plain (OpenSpec.upto failureKeepsSpec)) failureKeepsUptoCard

/-- THE SECOND FORM's CARD OF 'scriptinglaw19.FailureShort'. -/
def failureShortUptoCard : Claim7 := { stood := { row := failureShortUptoRow, standIns := [], harness := (true, "1815097b092b535a990902881388e3a624e1e8bd7ed0739f43cc3d87d0ef9dbd"), looks := false }, kinds := [], alts := [], laidByText := true, laidKinds := [.data, .data, .data], laidTests := true, laidLooks := .later }
def FailureShortUptoCardSaid : Prop := Claim7.holds Tryd.pinned (.plain (OpenSpec.upto failureShortSpec)) failureShortUptoCard
end Rows
end Go.Proofs.YtimblnhigoggpaaDoor
