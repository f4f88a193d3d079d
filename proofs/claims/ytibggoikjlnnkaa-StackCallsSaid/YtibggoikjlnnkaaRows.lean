/-
  No cell of these rows narrows 'for every input' (looked for: loops, veiled, ifaces, maps, wideKeys, modest, calm, conditions, laid).
  DERIVED. THE GIVEN ROWS OF THIS SEAT. 6 by the template 'for every input the law returns true; each argument reads behind the call as it read before'; 0 by the template 'total and deterministic' (their statements: YtibggoikjlnnkaaTotals.lean).
  GIVEN WITH THE SEED: the statements are not yours to turn. If you find one false, say at which input.
  Laid BY PROGRAM, IN A SANDBOX (cutbox-rows.mjs): the forced cells as the released guide's own fill.sh prints them over the translation f32195c88873593b… (all of the seat's roots in one cut). By AI agents, Wed Nov 11 2026. No macro, syntax, notation, axiom, sorry.
-/
import Derived.Test.YtibggoikjlnnkaaChecked
import GoSem.Claim
import GoSem.ClaimJoined
import GoSem.ClaimMapViews
import Derived.JoinedTies
import Derived.KernelRfl
namespace Go.Proofs.Ytibggoikjlnnkaa
/- THE CELL 'sum', in the pinned program and in every row, IS THE sha256 OF THE DUMP (.gsa) THAT YtibggoikjlnnkaaProg.lean LOADS. Nothing in Lean hashes anything: it is a label: what it is worth is what the hold of that sum in a sandbox is worth. -/
noncomputable def Try.pinned : Pinned := { name := "ytibggoikjlnnkaa", sum := "f32195c88873593ba102f270746760f5d2eda567e99e4a824e0f3e39a846a4c2", checked := Try.checked }
namespace Rows
def none {H : Type} : Left H := { results := [], args := [] }

/-- 'scriptinglaw17.StackCalls': WHATEVER THE INPUT: true; the input reads as it did. -/
def stackCallsSpec : ChangeSpec := { name := "stackCalls", fn := fun _ => fun
  | [d1, d2] => { results := [.lit (.bool true)], args := [d1, d2] }
  | _ => none }
def stackCallsRow : OpenClaim := { program := "ytibggoikjlnnkaa", sum := "f32195c88873593ba102f270746760f5d2eda567e99e4a824e0f3e39a846a4c2", func := "scripting/scriptinglaw17.StackCalls", spec := "stackCalls", apart := false }
def StackCallsSaid : Prop := stackCallsRow.holds Try.pinned (OpenSpec.ofChange stackCallsSpec)

/-- ITS FALSE NEIGHBOUR: 'it returns false'. Refute it at one input. -/
def stackCallsWrong : ChangeSpec := { name := "stackCalls", fn := fun _ => fun
  | [d1, d2] => { results := [.lit (.bool false)], args := [d1, d2] }
  | _ => none }
def StackCallsWrongFalsely : Prop := stackCallsRow.holds Try.pinned (OpenSpec.ofChange stackCallsWrong)

/-- 'scriptinglaw17.StackTurns': WHATEVER THE INPUT: true; the input reads as it did. -/
def stackTurnsSpec : ChangeSpec := { name := "stackTurns", fn := fun _ => fun
  | [d1, d2, d3] => { results := [.lit (.bool true)], args := [d1, d2, d3] }
  | _ => none }
def stackTurnsRow : OpenClaim := { program := "ytibggoikjlnnkaa", sum := "f32195c88873593ba102f270746760f5d2eda567e99e4a824e0f3e39a846a4c2", func := "scripting/scriptinglaw17.StackTurns", spec := "stackTurns", apart := false }
def StackTurnsSaid : Prop := stackTurnsRow.holds Try.pinned (OpenSpec.ofChange stackTurnsSpec)

/-- ITS FALSE NEIGHBOUR: 'it returns false'. Refute it at one input. -/
def stackTurnsWrong : ChangeSpec := { name := "stackTurns", fn := fun _ => fun
  | [d1, d2, d3] => { results := [.lit (.bool false)], args := [d1, d2, d3] }
  | _ => none }
def StackTurnsWrongFalsely : Prop := stackTurnsRow.holds Try.pinned (OpenSpec.ofChange stackTurnsWrong)

/-- 'scriptinglaw17.StackEnds': WHATEVER THE INPUT: true; the input reads as it did. -/
def stackEndsSpec : ChangeSpec := { name := "stackEnds", fn := fun _ => fun
  | [d1, d2, d3] => { results := [.lit (.bool true)], args := [d1, d2, d3] }
  | _ => none }
def stackEndsRow : OpenClaim := { program := "ytibggoikjlnnkaa", sum := "f32195c88873593ba102f270746760f5d2eda567e99e4a824e0f3e39a846a4c2", func := "scripting/scriptinglaw17.StackEnds", spec := "stackEnds", apart := false }
def StackEndsSaid : Prop := stackEndsRow.holds Try.pinned (OpenSpec.ofChange stackEndsSpec)

/-- ITS FALSE NEIGHBOUR: 'it returns false'. Refute it at one input. -/
def stackEndsWrong : ChangeSpec := { name := "stackEnds", fn := fun _ => fun
  | [d1, d2, d3] => { results := [.lit (.bool false)], args := [d1, d2, d3] }
  | _ => none }
def StackEndsWrongFalsely : Prop := stackEndsRow.holds Try.pinned (OpenSpec.ofChange stackEndsWrong)

/-- 'scriptinglaw17.StackBounds': WHATEVER THE INPUT: true; the input reads as it did. -/
def stackBoundsSpec : ChangeSpec := { name := "stackBounds", fn := fun _ => fun
  | [d1, d2] => { results := [.lit (.bool true)], args := [d1, d2] }
  | _ => none }
def stackBoundsRow : OpenClaim := { program := "ytibggoikjlnnkaa", sum := "f32195c88873593ba102f270746760f5d2eda567e99e4a824e0f3e39a846a4c2", func := "scripting/scriptinglaw17.StackBounds", spec := "stackBounds", apart := false }
def StackBoundsSaid : Prop := stackBoundsRow.holds Try.pinned (OpenSpec.ofChange stackBoundsSpec)

/-- ITS FALSE NEIGHBOUR: 'it returns false'. Refute it at one input. -/
def stackBoundsWrong : ChangeSpec := { name := "stackBounds", fn := fun _ => fun
  | [d1, d2] => { results := [.lit (.bool false)], args := [d1, d2] }
  | _ => none }
def StackBoundsWrongFalsely : Prop := stackBoundsRow.holds Try.pinned (OpenSpec.ofChange stackBoundsWrong)

/-- 'scriptinglaw17.StackShares': WHATEVER THE INPUT: true; the input reads as it did. -/
def stackSharesSpec : ChangeSpec := { name := "stackShares", fn := fun _ => fun
  | [d1, d2] => { results := [.lit (.bool true)], args := [d1, d2] }
  | _ => none }
def stackSharesRow : OpenClaim := { program := "ytibggoikjlnnkaa", sum := "f32195c88873593ba102f270746760f5d2eda567e99e4a824e0f3e39a846a4c2", func := "scripting/scriptinglaw17.StackShares", spec := "stackShares", apart := false }
def StackSharesSaid : Prop := stackSharesRow.holds Try.pinned (OpenSpec.ofChange stackSharesSpec)

/-- ITS FALSE NEIGHBOUR: 'it returns false'. Refute it at one input. -/
def stackSharesWrong : ChangeSpec := { name := "stackShares", fn := fun _ => fun
  | [d1, d2] => { results := [.lit (.bool false)], args := [d1, d2] }
  | _ => none }
def StackSharesWrongFalsely : Prop := stackSharesRow.holds Try.pinned (OpenSpec.ofChange stackSharesWrong)

/-- 'scriptinglaw17.StackNone': WHATEVER THE INPUT: true; the input reads as it did. -/
def stackNoneSpec : ChangeSpec := { name := "stackNone", fn := fun _ => fun
  | [d] => { results := [.lit (.bool true)], args := [d] }
  | _ => none }
def stackNoneRow : OpenClaim := { program := "ytibggoikjlnnkaa", sum := "f32195c88873593ba102f270746760f5d2eda567e99e4a824e0f3e39a846a4c2", func := "scripting/scriptinglaw17.StackNone", spec := "stackNone", apart := false }
def StackNoneSaid : Prop := stackNoneRow.holds Try.pinned (OpenSpec.ofChange stackNoneSpec)

/-- ITS FALSE NEIGHBOUR: 'it returns false'. Refute it at one input. -/
def stackNoneWrong : ChangeSpec := { name := "stackNone", fn := fun _ => fun
  | [d] => { results := [.lit (.bool false)], args := [d] }
  | _ => none }
def StackNoneWrongFalsely : Prop := stackNoneRow.holds Try.pinned (OpenSpec.ofChange stackNoneWrong)

/- THE SECOND FORM. 'bulk': how many values and letters a reading holds, each counted each time it is reached (what is shared counts as often as it is met; a slice's spare places count too). A statement '..UptoSaid' is the law's where the arguments, and the package variables that the reading takes, are together of bulk at most 1048576: NARROWER than '..Said'. Prove '..Said' where nothing that the law and all that it calls make is longer than what came in: it says more and counts as full. Else prove '..UptoSaid'. A law counts once. -/
mutual
def uptoBulk {H : Type} : DataW H → Nat
  | .lit (.string bytes) => bytes.length + 1
  | .lit _ => 1
  | .nil => 1
  | .ptr d => uptoBulk d + 1
  | .slice elems spare => uptoBulkAll elems + uptoBulkAll spare + 1
  | .agg parts => uptoBulkAll parts + 1
  | .iface _ d => uptoBulk d + 1
  | .map entries => uptoBulkEntries entries + 1
  | .held _ => 1
def uptoBulkAll {H : Type} : List (DataW H) → Nat
  | [] => 0
  | d :: r => uptoBulk d + uptoBulkAll r
def uptoBulkEntries {H : Type} : List (Lit × DataW H) → Nat
  | [] => 0
  | x :: r => uptoBulkEntry x + uptoBulkEntries r
def uptoBulkEntry {H : Type} : Lit × DataW H → Nat
  | (.string bytes, d) => bytes.length + uptoBulk d + 1
  | (_, d) => uptoBulk d + 1
 end
def uptoSmall : (H : Type) → List (DataW H) → Bool := fun _ ds => decide (uptoBulkAll ds ≤ 1048576)
def OpenSpec.upto (s : _root_.Go.ChangeSpec) : _root_.Go.OpenSpec := { _root_.Go.OpenSpec.ofChange s with cond := some uptoSmall }

/-- 'scriptinglaw17.StackCalls', WHERE WHAT IT READS IS OF BULK AT MOST 1048576: true; the input reads as it did. -/
def stackCallsUptoRow : OpenClaim := { program := "ytibggoikjlnnkaa", sum := "f32195c88873593ba102f270746760f5d2eda567e99e4a824e0f3e39a846a4c2", func := "scripting/scriptinglaw17.StackCalls", spec := "stackCalls", apart := false, narrowed := true }
def StackCallsUptoSaid : Prop := stackCallsUptoRow.holds Try.pinned (OpenSpec.upto stackCallsSpec)

/-- 'scriptinglaw17.StackTurns', WHERE WHAT IT READS IS OF BULK AT MOST 1048576: true; the input reads as it did. -/
def stackTurnsUptoRow : OpenClaim := { program := "ytibggoikjlnnkaa", sum := "f32195c88873593ba102f270746760f5d2eda567e99e4a824e0f3e39a846a4c2", func := "scripting/scriptinglaw17.StackTurns", spec := "stackTurns", apart := false, narrowed := true }
def StackTurnsUptoSaid : Prop := stackTurnsUptoRow.holds Try.pinned (OpenSpec.upto stackTurnsSpec)

/-- 'scriptinglaw17.StackEnds', WHERE WHAT IT READS IS OF BULK AT MOST 1048576: true; the input reads as it did. -/
def stackEndsUptoRow : OpenClaim := { program := "ytibggoikjlnnkaa", sum := "f32195c88873593ba102f270746760f5d2eda567e99e4a824e0f3e39a846a4c2", func := "scripting/scriptinglaw17.StackEnds", spec := "stackEnds", apart := false, narrowed := true }
def StackEndsUptoSaid : Prop := stackEndsUptoRow.holds Try.pinned (OpenSpec.upto stackEndsSpec)

/-- 'scriptinglaw17.StackBounds', WHERE WHAT IT READS IS OF BULK AT MOST 1048576: true; the input reads as it did. -/
def stackBoundsUptoRow : OpenClaim := { program := "ytibggoikjlnnkaa", sum := "f32195c88873593ba102f270746760f5d2eda567e99e4a824e0f3e39a846a4c2", func := "scripting/scriptinglaw17.StackBounds", spec := "stackBounds", apart := false, narrowed := true }
def StackBoundsUptoSaid : Prop := stackBoundsUptoRow.holds Try.pinned (OpenSpec.upto stackBoundsSpec)

/-- 'scriptinglaw17.StackShares', WHERE WHAT IT READS IS OF BULK AT MOST 1048576: true; the input reads as it did. -/
def stackSharesUptoRow : OpenClaim := { program := "ytibggoikjlnnkaa", sum := "f32195c88873593ba102f270746760f5d2eda567e99e4a824e0f3e39a846a4c2", func := "scripting/scriptinglaw17.StackShares", spec := "stackShares", apart := false, narrowed := true }
def StackSharesUptoSaid : Prop := stackSharesUptoRow.holds Try.pinned (OpenSpec.upto stackSharesSpec)

/-- 'scriptinglaw17.StackNone', WHERE WHAT IT READS IS OF BULK AT MOST 1048576: true; the input reads as it did. -/
def stackNoneUptoRow : OpenClaim := { program := "ytibggoikjlnnkaa", sum := "f32195c88873593ba102f270746760f5d2eda567e99e4a824e0f3e39a846a4c2", func := "scripting/scriptinglaw17.StackNone", spec := "stackNone", apart := false, narrowed := true }
def StackNoneUptoSaid : Prop := stackNoneUptoRow.holds Try.pinned (OpenSpec.upto stackNoneSpec)

end Rows
end Go.Proofs.Ytibggoikjlnnkaa
