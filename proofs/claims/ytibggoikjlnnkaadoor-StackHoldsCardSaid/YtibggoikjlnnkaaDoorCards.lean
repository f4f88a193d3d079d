/-
  DERIVED. GIVEN WITH THE SEED: THE CARDS: each row of YtibggoikjlnnkaaDoorRows.lean that lists a variable, with what it lists TIED to the program's text (the seventh form; the later family's looks); each row that meets fmt, with fmt's text TOLD by the authors' own Lean function (tested against real Go, not proved from fmt's source: count such statements apart). THE CARD IS WHAT COUNTS. Prove the row's statement (the work); the ties are given (YtibggoikjlnnkaaDoorTie.lean); close each card by the builder's one call (the guide's Derived/Test/ToyasCard.lean, 'card_holds'). Laid BY PROGRAM, IN A SANDBOX (cutbox-door.mjs). By AI agents, Wed Nov 11 2026. No macro, syntax, notation, axiom, sorry.
-/
import Derived.Test.YtibggoikjlnnkaaDoorRows
import GoSem.ClaimSeven
namespace Go.Proofs.YtibggoikjlnnkaaDoor
namespace Rows

/-- THE TIED CARD OF 'scriptinglaw17.StackHolds'. -/
def stackHoldsCard : Claim7 := { stood := { row := stackHoldsRow, standIns := [], harness := (true, "b2f49eba3666547249b94145697be36979cd782f6c1b7698f1baf6a8087cfe14"), looks := false }, kinds := [], alts := [], laidByText := true, laidKinds := [.data, .data, .data], laidTests := true, laidLooks := .later }
def StackHoldsCardSaid : Prop := Claim7.holds Tryd.pinned (.plain (OpenSpec.ofChange stackHoldsSpec)) stackHoldsCard

/-- THE SECOND FORM's CARD OF 'scriptinglaw17.StackHolds'. -/
def stackHoldsUptoCard : Claim7 := { stood := { row := stackHoldsUptoRow, standIns := [], harness := (true, "b2f49eba3666547249b94145697be36979cd782f6c1b7698f1baf6a8087cfe14"), looks := false }, kinds := [], alts := [], laidByText := true, laidKinds := [.data, .data, .data], laidTests := true, laidLooks := .later }
def StackHoldsUptoCardSaid : Prop := Claim7.holds Tryd.pinned (.plain (OpenSpec.upto stackHoldsSpec)) stackHoldsUptoCard
end Rows
end Go.Proofs.YtibggoikjlnnkaaDoor
