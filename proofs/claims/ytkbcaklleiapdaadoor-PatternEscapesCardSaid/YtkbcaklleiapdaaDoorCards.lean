/-
  DERIVED. GIVEN WITH THE SEED: THE CARDS: each row of YtkbcaklleiapdaaDoorRows.lean that lists a variable, with what it lists TIED to the program's text (the seventh form; the later family's looks); each row that meets fmt, with fmt's text TOLD by the authors' own Lean function (tested against real Go, not proved from fmt's source: count such statements apart). THE CARD IS WHAT COUNTS. Prove the row's statement (the work); the ties are given (YtkbcaklleiapdaaDoorTie.lean); close each card by the builder's one call (the guide's Derived/Test/ToyasCard.lean, 'card_holds'). Laid BY PROGRAM, IN A SANDBOX (cutbox-door.mjs). By AI agents, Wed Nov 11 2026. No macro, syntax, notation, axiom, sorry.
-/
import Derived.Test.YtkbcaklleiapdaaDoorRows
import GoSem.ClaimSeven
namespace Go.Proofs.YtkbcaklleiapdaaDoor
namespace Rows

/-- THE TIED CARD OF 'scriptinglaw04.PatternChecks'. -/
def patternChecksCard : Claim7 := { stood := { row := patternChecksRow, standIns := [], harness := (true, "f3b8763ac5b319f6b8ea0565b8f2f160575d93e5e149ed991f2622771895a771"), looks := false }, kinds := [], alts := [], laidByText := true, laidKinds := [.data, .data, .data], laidTests := true, laidLooks := .later }
def PatternChecksCardSaid : Prop := Claim7.holds Tryd.pinned (.plain (OpenSpec.ofChange patternChecksSpec)) patternChecksCard

/-- THE TIED CARD OF 'scriptinglaw04.PatternFills'. -/
def patternFillsCard : Claim7 := { stood := { row := patternFillsRow, standIns := [], harness := (true, "f3b8763ac5b319f6b8ea0565b8f2f160575d93e5e149ed991f2622771895a771"), looks := false }, kinds := [], alts := [], laidByText := true, laidKinds := [.data, .data, .data], laidTests := true, laidLooks := .later }
def PatternFillsCardSaid : Prop := Claim7.holds Tryd.pinned (.plain (OpenSpec.ofChange patternFillsSpec)) patternFillsCard

/-- THE TIED CARD OF 'scriptinglaw04.PatternEscapes'. -/
def patternEscapesCard : Claim7 := { stood := { row := patternEscapesRow, standIns := [], harness := (true, "f3b8763ac5b319f6b8ea0565b8f2f160575d93e5e149ed991f2622771895a771"), looks := false }, kinds := [], alts := [], laidByText := true, laidKinds := [.data, .data, .data], laidTests := true, laidLooks := .later }
def PatternEscapesCardSaid : Prop := Claim7.holds Tryd.pinned (.plain (OpenSpec.ofChange patternEscapesSpec)) patternEscapesCard

/-- THE TIED CARD OF 'scriptinglaw04.PatternFirst'. -/
def patternFirstCard : Claim7 := { stood := { row := patternFirstRow, standIns := [], harness := (true, "f3b8763ac5b319f6b8ea0565b8f2f160575d93e5e149ed991f2622771895a771"), looks := false }, kinds := [], alts := [], laidByText := true, laidKinds := [.data, .data, .data], laidTests := true, laidLooks := .later }
def PatternFirstCardSaid : Prop := Claim7.holds Tryd.pinned (.plain (OpenSpec.ofChange patternFirstSpec)) patternFirstCard

/-- THE TIED CARD OF 'scriptinglaw04.PatternOrder'. -/
def patternOrderCard : Claim7 := { stood := { row := patternOrderRow, standIns := [], harness := (true, "f3b8763ac5b319f6b8ea0565b8f2f160575d93e5e149ed991f2622771895a771"), looks := false }, kinds := [], alts := [], laidByText := true, laidKinds := [.data, .data, .data], laidTests := true, laidLooks := .later }
def PatternOrderCardSaid : Prop := Claim7.holds Tryd.pinned (.plain (OpenSpec.ofChange patternOrderSpec)) patternOrderCard

/-- THE TIED CARD OF 'scriptinglaw04.PatternKeeps'. -/
def patternKeepsCard : Claim7 := { stood := { row := patternKeepsRow, standIns := [], harness := (true, "f3b8763ac5b319f6b8ea0565b8f2f160575d93e5e149ed991f2622771895a771"), looks := false }, kinds := [], alts := [], laidByText := true, laidKinds := [.data, .data, .data], laidTests := true, laidLooks := .later }
def PatternKeepsCardSaid : Prop := Claim7.holds Tryd.pinned (.plain (OpenSpec.ofChange patternKeepsSpec)) patternKeepsCard

/-- THE SECOND FORM's CARD OF 'scriptinglaw04.PatternChecks'. -/
def patternChecksUptoCard : Claim7 := { stood := { row := patternChecksUptoRow, standIns := [], harness := (true, "f3b8763ac5b319f6b8ea0565b8f2f160575d93e5e149ed991f2622771895a771"), looks := false }, kinds := [], alts := [], laidByText := true, laidKinds := [.data, .data, .data], laidTests := true, laidLooks := .later }
def PatternChecksUptoCardSaid : Prop := Claim7.holds Tryd.pinned (.plain (OpenSpec.upto patternChecksSpec)) patternChecksUptoCard

/-- THE SECOND FORM's CARD OF 'scriptinglaw04.PatternFills'. -/
def patternFillsUptoCard : Claim7 := { stood := { row := patternFillsUptoRow, standIns := [], harness := (true, "f3b8763ac5b319f6b8ea0565b8f2f160575d93e5e149ed991f2622771895a771"), looks := false }, kinds := [], alts := [], laidByText := true, laidKinds := [.data, .data, .data], laidTests := true, laidLooks := .later }
def PatternFillsUptoCardSaid : Prop := Claim7.holds Tryd.pinned (.plain (OpenSpec.upto patternFillsSpec)) patternFillsUptoCard

/-- THE SECOND FORM's CARD OF 'scriptinglaw04.PatternEscapes'. -/
def patternEscapesUptoCard : Claim7 := { stood := { row := patternEscapesUptoRow, standIns := [], harness := (true, "f3b8763ac5b319f6b8ea0565b8f2f160575d93e5e149ed991f2622771895a771"), looks := false }, kinds := [], alts := [], laidByText := true, laidKinds := [.data, .data, .data], laidTests := true, laidLooks := .later }
def PatternEscapesUptoCardSaid : Prop := Claim7.holds Tryd.pinned (.plain (OpenSpec.upto patternEscapesSpec)) patternEscapesUptoCard

/-- THE SECOND FORM's CARD OF 'scriptinglaw04.PatternFirst'. -/
def patternFirstUptoCard : Claim7 := { stood := { row := patternFirstUptoRow, standIns := [], harness := (true, "f3b8763ac5b319f6b8ea0565b8f2f160575d93e5e149ed991f2622771895a771"), looks := false }, kinds := [], alts := [], laidByText := true, laidKinds := [.data, .data, .data], laidTests := true, laidLooks := .later }
def PatternFirstUptoCardSaid : Prop := Claim7.holds Tryd.pinned (.plain (OpenSpec.upto patternFirstSpec)) patternFirstUptoCard

/-- THE SECOND FORM's CARD OF 'scriptinglaw04.PatternOrder'. -/
def patternOrderUptoCard : Claim7 := { stood := { row := patternOrderUptoRow, standIns := [], harness := (true, "f3b8763ac5b319f6b8ea0565b8f2f160575d93e5e149ed991f2622771895a771"), looks := false }, kinds := [], alts := [], laidByText := true, laidKinds := [.data, .data, .data], laidTests := true, laidLooks := .later }
def PatternOrderUptoCardSaid : Prop := Claim7.holds Tryd.pinned (.plain (OpenSpec.upto patternOrderSpec)) patternOrderUptoCard

/-- THE SECOND FORM's CARD OF 'scriptinglaw04.PatternKeeps'. -/
def patternKeepsUptoCard : Claim7 := { stood := { row := patternKeepsUptoRow, standIns := [], harness := (true, "f3b8763ac5b319f6b8ea0565b8f2f160575d93e5e149ed991f2622771895a771"), looks := false }, kinds := [], alts := [], laidByText := true, laidKinds := [.data, .data, .data], laidTests := true, laidLooks := .later }
def PatternKeepsUptoCardSaid : Prop := Claim7.holds Tryd.pinned (.plain (OpenSpec.upto patternKeepsSpec)) patternKeepsUptoCard
end Rows
end Go.Proofs.YtkbcaklleiapdaaDoor
