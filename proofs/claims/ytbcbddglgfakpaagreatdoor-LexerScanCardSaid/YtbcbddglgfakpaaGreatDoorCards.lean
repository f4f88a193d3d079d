/-
  DERIVED. GIVEN WITH THE SEED: THE CARDS: each row of YtbcbddglgfakpaaGreatDoorRows.lean that lists a variable, with what it lists TIED to the program's text (the seventh form; the later family's looks); each row that meets fmt, with fmt's text TOLD by the authors' own Lean function (tested against real Go, not proved from fmt's source: count such statements apart). THE CARD IS WHAT COUNTS. Prove the row's statement (the work); the ties are given (YtbcbddglgfakpaaGreatDoorTie.lean); close each card by the builder's one call (the guide's Derived/Test/ToyasCard.lean, 'card_holds'). Laid BY PROGRAM, IN A SANDBOX (cutbox-door.mjs). By AI agents, Wed Nov 11 2026. No macro, syntax, notation, axiom, sorry.
-/
import Derived.Test.YtbcbddglgfakpaaGreatDoorRows
import GoSem.ClaimSeven
namespace Go.Proofs.YtbcbddglgfakpaaGreatDoor
namespace Rows

/-- THE TIED CARD OF 'scriptinglaw03.LexerScan'. -/
def lexerScanCard : Claim7 := { stood := { row := lexerScanRow, standIns := [], harness := (true, "fc02759fddec7a8335c0b4eac7552f97f04d19c91b79b729697f5f9eb8a672b0"), looks := true }, kinds := [], alts := [], laidByText := true, laidKinds := [.data, .data, .data, .sentinel, .sentinel], laidTests := true, laidLooks := .later }
def LexerScanCardSaid : Prop := Claim7.holds Tryz.pinned (.plain (OpenSpec.ofChange lexerScanSpec)) lexerScanCard

/-- THE SECOND FORM's CARD OF 'scriptinglaw03.LexerScan'. -/
def lexerScanUptoCard : Claim7 := { stood := { row := lexerScanUptoRow, standIns := [], harness := (true, "fc02759fddec7a8335c0b4eac7552f97f04d19c91b79b729697f5f9eb8a672b0"), looks := true }, kinds := [], alts := [], laidByText := true, laidKinds := [.data, .data, .data, .sentinel, .sentinel], laidTests := true, laidLooks := .later }
def LexerScanUptoCardSaid : Prop := Claim7.holds Tryz.pinned (.plain (OpenSpec.upto lexerScanSpec)) lexerScanUptoCard
end Rows
end Go.Proofs.YtbcbddglgfakpaaGreatDoor
