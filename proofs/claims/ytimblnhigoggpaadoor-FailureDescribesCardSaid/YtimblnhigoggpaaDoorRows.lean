/-
  NARROWER THAN 'FOR EVERY INPUT', by the rows' own cells (each row's printed sentence says how): FailureRaises: laid · FailureMessages: laid · FailureTexts: laid · FailureLines: laid · FailureCompares: laid · FailureDescribes: laid · FailureKeeps: laid · FailureShort: laid.
  DERIVED. THE GIVEN ROWS OF THIS SEAT. 8 by the template 'for every input the law returns true; each argument reads behind the call as it read before'; 0 by the template 'total and deterministic' (their statements: YtimblnhigoggpaaDoorTotals.lean).
  GIVEN WITH THE SEED: the statements are not yours to turn. If you find one false, say at which input.
  Laid BY PROGRAM, IN A SANDBOX (cutbox-rows.mjs): the forced cells as the released guide's own fill.sh prints them over the translation 4c76afe3f7c0a8e9… (all of the seat's roots in one cut). By AI agents, Wed Nov 11 2026. No macro, syntax, notation, axiom, sorry.
-/
import Derived.Test.YtimblnhigoggpaaDoorChecked
import GoSem.Claim
import GoSem.ClaimJoined
import GoSem.ClaimMapViews
import Derived.JoinedTies
import Derived.KernelRfl
namespace Go.Proofs.YtimblnhigoggpaaDoor
/- THE CELL 'sum', in the pinned program and in every row, IS THE sha256 OF THE DUMP (.gsa) THAT YtimblnhigoggpaaDoorProg.lean LOADS. Nothing in Lean hashes anything: it is a label: what it is worth is what the hold of that sum in a sandbox is worth. -/
noncomputable def Tryd.pinned : Pinned := { name := "ytimblnhigoggpaadoor", sum := "4c76afe3f7c0a8e90cc5eb5899cc4bc12b53e36ec504c3148129fd1e82465e64", checked := Tryd.checked }
namespace Rows
def none {H : Type} : Left H := { results := [], args := [] }

/- WHAT THE LISTED PACKAGE-LEVEL VARIABLES READ AS WHEN THE CALL BEGINS. Each datum BY PROGRAM (the guide's laid-datum.mjs) off the statement by which the dump's own 'gosem.cut.vars' lays the variable. In a bare row this is a premise. The card (YtimblnhigoggpaaDoorCards.lean) ties it to the program's text. -/
def laid_math_bits_deBruijn32tab {H : Type} : DataW H := .agg [.lit (.int .u8 0), .lit (.int .u8 1), .lit (.int .u8 28), .lit (.int .u8 2), .lit (.int .u8 29), .lit (.int .u8 14), .lit (.int .u8 24), .lit (.int .u8 3), .lit (.int .u8 30), .lit (.int .u8 22), .lit (.int .u8 20), .lit (.int .u8 15), .lit (.int .u8 25), .lit (.int .u8 17), .lit (.int .u8 4), .lit (.int .u8 8), .lit (.int .u8 31), .lit (.int .u8 27), .lit (.int .u8 13), .lit (.int .u8 23), .lit (.int .u8 21), .lit (.int .u8 19), .lit (.int .u8 16), .lit (.int .u8 7), .lit (.int .u8 26), .lit (.int .u8 12), .lit (.int .u8 18), .lit (.int .u8 6), .lit (.int .u8 11), .lit (.int .u8 5), .lit (.int .u8 10), .lit (.int .u8 9)]
def laid_math_bits_deBruijn64tab {H : Type} : DataW H := .agg [.lit (.int .u8 0), .lit (.int .u8 1), .lit (.int .u8 56), .lit (.int .u8 2), .lit (.int .u8 57), .lit (.int .u8 49), .lit (.int .u8 28), .lit (.int .u8 3), .lit (.int .u8 61), .lit (.int .u8 58), .lit (.int .u8 42), .lit (.int .u8 50), .lit (.int .u8 38), .lit (.int .u8 29), .lit (.int .u8 17), .lit (.int .u8 4), .lit (.int .u8 62), .lit (.int .u8 47), .lit (.int .u8 59), .lit (.int .u8 36), .lit (.int .u8 45), .lit (.int .u8 43), .lit (.int .u8 51), .lit (.int .u8 22), .lit (.int .u8 53), .lit (.int .u8 39), .lit (.int .u8 33), .lit (.int .u8 30), .lit (.int .u8 24), .lit (.int .u8 18), .lit (.int .u8 12), .lit (.int .u8 5), .lit (.int .u8 63), .lit (.int .u8 55), .lit (.int .u8 48), .lit (.int .u8 27), .lit (.int .u8 60), .lit (.int .u8 41), .lit (.int .u8 37), .lit (.int .u8 16), .lit (.int .u8 46), .lit (.int .u8 35), .lit (.int .u8 44), .lit (.int .u8 21), .lit (.int .u8 52), .lit (.int .u8 32), .lit (.int .u8 23), .lit (.int .u8 11), .lit (.int .u8 54), .lit (.int .u8 26), .lit (.int .u8 40), .lit (.int .u8 15), .lit (.int .u8 34), .lit (.int .u8 20), .lit (.int .u8 31), .lit (.int .u8 10), .lit (.int .u8 25), .lit (.int .u8 14), .lit (.int .u8 19), .lit (.int .u8 9), .lit (.int .u8 13), .lit (.int .u8 8), .lit (.int .u8 7), .lit (.int .u8 6)]
def laid_internal_strconv_uint64pow10 {H : Type} : DataW H := .agg [.lit (.int .u64 1), .lit (.int .u64 10), .lit (.int .u64 100), .lit (.int .u64 1000), .lit (.int .u64 10000), .lit (.int .u64 100000), .lit (.int .u64 1000000), .lit (.int .u64 10000000), .lit (.int .u64 100000000), .lit (.int .u64 1000000000), .lit (.int .u64 10000000000), .lit (.int .u64 100000000000), .lit (.int .u64 1000000000000), .lit (.int .u64 10000000000000), .lit (.int .u64 100000000000000), .lit (.int .u64 1000000000000000), .lit (.int .u64 10000000000000000), .lit (.int .u64 100000000000000000), .lit (.int .u64 1000000000000000000), .lit (.int .u64 10000000000000000000)]

/-- 'scriptinglaw19.FailureRaises': WHATEVER THE INPUT: true; the input reads as it did. -/
def failureRaisesSpec : ChangeSpec := { name := "failureRaises", fn := fun _ => fun
  | [d1, d2, d3] => { results := [.lit (.bool true)], args := [d1, d2, d3] }
  | _ => none }
def failureRaisesRow : OpenClaim := { program := "ytimblnhigoggpaadoor", sum := "4c76afe3f7c0a8e90cc5eb5899cc4bc12b53e36ec504c3148129fd1e82465e64", func := "scripting/scriptinglaw19.FailureRaises", spec := "failureRaises", inPlace := ["internal/abi.NoEscape", "internal/bytealg.MakeNoZero"], named := ["internal/strconv.uint64pow10", "math/bits.deBruijn32tab", "math/bits.deBruijn64tab"], apart := false, laid := [("math/bits.deBruijn32tab", laid_math_bits_deBruijn32tab), ("math/bits.deBruijn64tab", laid_math_bits_deBruijn64tab), ("internal/strconv.uint64pow10", laid_internal_strconv_uint64pow10)] }
def FailureRaisesSaid : Prop := failureRaisesRow.holds Tryd.pinned (OpenSpec.ofChange failureRaisesSpec)

/-- ITS FALSE NEIGHBOUR: 'it returns false'. Refute it at one input. -/
def failureRaisesWrong : ChangeSpec := { name := "failureRaises", fn := fun _ => fun
  | [d1, d2, d3] => { results := [.lit (.bool false)], args := [d1, d2, d3] }
  | _ => none }
def FailureRaisesWrongFalsely : Prop := failureRaisesRow.holds Tryd.pinned (OpenSpec.ofChange failureRaisesWrong)

/-- 'scriptinglaw19.FailureMessages': WHATEVER THE INPUT: true; the input reads as it did. -/
def failureMessagesSpec : ChangeSpec := { name := "failureMessages", fn := fun _ => fun
  | [d1, d2] => { results := [.lit (.bool true)], args := [d1, d2] }
  | _ => none }
def failureMessagesRow : OpenClaim := { program := "ytimblnhigoggpaadoor", sum := "4c76afe3f7c0a8e90cc5eb5899cc4bc12b53e36ec504c3148129fd1e82465e64", func := "scripting/scriptinglaw19.FailureMessages", spec := "failureMessages", inPlace := ["internal/abi.NoEscape", "internal/bytealg.MakeNoZero"], named := ["internal/strconv.uint64pow10", "math/bits.deBruijn32tab", "math/bits.deBruijn64tab"], apart := false, laid := [("math/bits.deBruijn32tab", laid_math_bits_deBruijn32tab), ("math/bits.deBruijn64tab", laid_math_bits_deBruijn64tab), ("internal/strconv.uint64pow10", laid_internal_strconv_uint64pow10)] }
def FailureMessagesSaid : Prop := failureMessagesRow.holds Tryd.pinned (OpenSpec.ofChange failureMessagesSpec)

/-- ITS FALSE NEIGHBOUR: 'it returns false'. Refute it at one input. -/
def failureMessagesWrong : ChangeSpec := { name := "failureMessages", fn := fun _ => fun
  | [d1, d2] => { results := [.lit (.bool false)], args := [d1, d2] }
  | _ => none }
def FailureMessagesWrongFalsely : Prop := failureMessagesRow.holds Tryd.pinned (OpenSpec.ofChange failureMessagesWrong)

/-- 'scriptinglaw19.FailureTexts': WHATEVER THE INPUT: true; the input reads as it did. -/
def failureTextsSpec : ChangeSpec := { name := "failureTexts", fn := fun _ => fun
  | [d] => { results := [.lit (.bool true)], args := [d] }
  | _ => none }
def failureTextsRow : OpenClaim := { program := "ytimblnhigoggpaadoor", sum := "4c76afe3f7c0a8e90cc5eb5899cc4bc12b53e36ec504c3148129fd1e82465e64", func := "scripting/scriptinglaw19.FailureTexts", spec := "failureTexts", inPlace := ["internal/abi.NoEscape", "internal/bytealg.MakeNoZero"], named := ["internal/strconv.uint64pow10", "math/bits.deBruijn32tab", "math/bits.deBruijn64tab"], apart := false, laid := [("math/bits.deBruijn32tab", laid_math_bits_deBruijn32tab), ("math/bits.deBruijn64tab", laid_math_bits_deBruijn64tab), ("internal/strconv.uint64pow10", laid_internal_strconv_uint64pow10)] }
def FailureTextsSaid : Prop := failureTextsRow.holds Tryd.pinned (OpenSpec.ofChange failureTextsSpec)

/-- ITS FALSE NEIGHBOUR: 'it returns false'. Refute it at one input. -/
def failureTextsWrong : ChangeSpec := { name := "failureTexts", fn := fun _ => fun
  | [d] => { results := [.lit (.bool false)], args := [d] }
  | _ => none }
def FailureTextsWrongFalsely : Prop := failureTextsRow.holds Tryd.pinned (OpenSpec.ofChange failureTextsWrong)

/-- 'scriptinglaw19.FailureLines': WHATEVER THE INPUT: true; the input reads as it did. -/
def failureLinesSpec : ChangeSpec := { name := "failureLines", fn := fun _ => fun
  | [d] => { results := [.lit (.bool true)], args := [d] }
  | _ => none }
def failureLinesRow : OpenClaim := { program := "ytimblnhigoggpaadoor", sum := "4c76afe3f7c0a8e90cc5eb5899cc4bc12b53e36ec504c3148129fd1e82465e64", func := "scripting/scriptinglaw19.FailureLines", spec := "failureLines", inPlace := ["internal/abi.NoEscape", "internal/bytealg.MakeNoZero"], named := ["internal/strconv.uint64pow10", "math/bits.deBruijn32tab", "math/bits.deBruijn64tab"], apart := false, laid := [("math/bits.deBruijn32tab", laid_math_bits_deBruijn32tab), ("math/bits.deBruijn64tab", laid_math_bits_deBruijn64tab), ("internal/strconv.uint64pow10", laid_internal_strconv_uint64pow10)] }
def FailureLinesSaid : Prop := failureLinesRow.holds Tryd.pinned (OpenSpec.ofChange failureLinesSpec)

/-- ITS FALSE NEIGHBOUR: 'it returns false'. Refute it at one input. -/
def failureLinesWrong : ChangeSpec := { name := "failureLines", fn := fun _ => fun
  | [d] => { results := [.lit (.bool false)], args := [d] }
  | _ => none }
def FailureLinesWrongFalsely : Prop := failureLinesRow.holds Tryd.pinned (OpenSpec.ofChange failureLinesWrong)

/-- 'scriptinglaw19.FailureCompares': WHATEVER THE INPUT: true; the input reads as it did. -/
def failureComparesSpec : ChangeSpec := { name := "failureCompares", fn := fun _ => fun
  | [d1, d2] => { results := [.lit (.bool true)], args := [d1, d2] }
  | _ => none }
def failureComparesRow : OpenClaim := { program := "ytimblnhigoggpaadoor", sum := "4c76afe3f7c0a8e90cc5eb5899cc4bc12b53e36ec504c3148129fd1e82465e64", func := "scripting/scriptinglaw19.FailureCompares", spec := "failureCompares", inPlace := ["internal/abi.NoEscape", "internal/bytealg.MakeNoZero"], named := ["internal/strconv.uint64pow10", "math/bits.deBruijn32tab", "math/bits.deBruijn64tab"], apart := false, laid := [("math/bits.deBruijn32tab", laid_math_bits_deBruijn32tab), ("math/bits.deBruijn64tab", laid_math_bits_deBruijn64tab), ("internal/strconv.uint64pow10", laid_internal_strconv_uint64pow10)] }
def FailureComparesSaid : Prop := failureComparesRow.holds Tryd.pinned (OpenSpec.ofChange failureComparesSpec)

/-- ITS FALSE NEIGHBOUR: 'it returns false'. Refute it at one input. -/
def failureComparesWrong : ChangeSpec := { name := "failureCompares", fn := fun _ => fun
  | [d1, d2] => { results := [.lit (.bool false)], args := [d1, d2] }
  | _ => none }
def FailureComparesWrongFalsely : Prop := failureComparesRow.holds Tryd.pinned (OpenSpec.ofChange failureComparesWrong)

/-- 'scriptinglaw19.FailureDescribes': WHATEVER THE INPUT: true; the input reads as it did. -/
def failureDescribesSpec : ChangeSpec := { name := "failureDescribes", fn := fun _ => fun
  | [d1, d2, d3] => { results := [.lit (.bool true)], args := [d1, d2, d3] }
  | _ => none }
def failureDescribesRow : OpenClaim := { program := "ytimblnhigoggpaadoor", sum := "4c76afe3f7c0a8e90cc5eb5899cc4bc12b53e36ec504c3148129fd1e82465e64", func := "scripting/scriptinglaw19.FailureDescribes", spec := "failureDescribes", inPlace := ["internal/abi.NoEscape", "internal/bytealg.MakeNoZero"], named := ["internal/strconv.uint64pow10", "math/bits.deBruijn32tab", "math/bits.deBruijn64tab"], apart := false, laid := [("math/bits.deBruijn32tab", laid_math_bits_deBruijn32tab), ("math/bits.deBruijn64tab", laid_math_bits_deBruijn64tab), ("internal/strconv.uint64pow10", laid_internal_strconv_uint64pow10)] }
def FailureDescribesSaid : Prop := failureDescribesRow.holds Tryd.pinned (OpenSpec.ofChange failureDescribesSpec)

/-- ITS FALSE NEIGHBOUR: 'it returns false'. Refute it at one input. -/
def failureDescribesWrong : ChangeSpec := { name := "failureDescribes", fn := fun _ => fun
  | [d1, d2, d3] => { results := [.lit (.bool false)], args := [d1, d2, d3] }
  | _ => none }
def FailureDescribesWrongFalsely : Prop := failureDescribesRow.holds Tryd.pinned (OpenSpec.ofChange failureDescribesWrong)

/-- 'scriptinglaw19.FailureKeeps': WHATEVER THE INPUT: true; the input reads as it did. -/
def failureKeepsSpec : ChangeSpec := { name := "failureKeeps", fn := fun _ => fun
  | [d1, d2, d3] => { results := [.lit (.bool true)], args := [d1, d2, d3] }
  | _ => none }
def failureKeepsRow : OpenClaim := { program := "ytimblnhigoggpaadoor", sum := "4c76afe3f7c0a8e90cc5eb5899cc4bc12b53e36ec504c3148129fd1e82465e64", func := "scripting/scriptinglaw19.FailureKeeps", spec := "failureKeeps", inPlace := ["internal/abi.NoEscape", "internal/bytealg.MakeNoZero"], named := ["internal/strconv.uint64pow10", "math/bits.deBruijn32tab", "math/bits.deBruijn64tab"], apart := false, laid := [("math/bits.deBruijn32tab", laid_math_bits_deBruijn32tab), ("math/bits.deBruijn64tab", laid_math_bits_deBruijn64tab), ("internal/strconv.uint64pow10", laid_internal_strconv_uint64pow10)] }
def FailureKeepsSaid : Prop := failureKeepsRow.holds Tryd.pinned (OpenSpec.ofChange failureKeepsSpec)

/-- ITS FALSE NEIGHBOUR: 'it returns false'. Refute it at one input. -/
def failureKeepsWrong : ChangeSpec := { name := "failureKeeps", fn := fun _ => fun
  | [d1, d2, d3] => { results := [.lit (.bool false)], args := [d1, d2, d3] }
  | _ => none }
def FailureKeepsWrongFalsely : Prop := failureKeepsRow.holds Tryd.pinned (OpenSpec.ofChange failureKeepsWrong)

/-- 'scriptinglaw19.FailureShort': WHATEVER THE INPUT: true; the input reads as it did. -/
def failureShortSpec : ChangeSpec := { name := "failureShort", fn := fun _ => fun
  | [d] => { results := [.lit (.bool true)], args := [d] }
  | _ => none }
def failureShortRow : OpenClaim := { program := "ytimblnhigoggpaadoor", sum := "4c76afe3f7c0a8e90cc5eb5899cc4bc12b53e36ec504c3148129fd1e82465e64", func := "scripting/scriptinglaw19.FailureShort", spec := "failureShort", inPlace := ["internal/abi.NoEscape", "internal/bytealg.MakeNoZero"], named := ["internal/strconv.uint64pow10", "math/bits.deBruijn32tab", "math/bits.deBruijn64tab"], apart := false, laid := [("math/bits.deBruijn32tab", laid_math_bits_deBruijn32tab), ("math/bits.deBruijn64tab", laid_math_bits_deBruijn64tab), ("internal/strconv.uint64pow10", laid_internal_strconv_uint64pow10)] }
def FailureShortSaid : Prop := failureShortRow.holds Tryd.pinned (OpenSpec.ofChange failureShortSpec)

/-- ITS FALSE NEIGHBOUR: 'it returns false'. Refute it at one input. -/
def failureShortWrong : ChangeSpec := { name := "failureShort", fn := fun _ => fun
  | [d] => { results := [.lit (.bool false)], args := [d] }
  | _ => none }
def FailureShortWrongFalsely : Prop := failureShortRow.holds Tryd.pinned (OpenSpec.ofChange failureShortWrong)

/- THE SECOND FORM. 'bulk': how many values and letters a reading holds, each counted each time it is reached (what is shared counts as often as it is met; a slice's spare places count too). A statement '..UptoSaid' is the law's where the arguments, and the package variables that the reading takes, are together of bulk at most 1048576: NARROWER than '..Said'. Prove '..Said' where nothing that the law and all that it calls make is longer than what came in: it says more and counts as full. Else prove '..UptoSaid'. A law counts once. -/
mutual
def uptoBulk {H : Type} : DataW H → Nat
  | .lit (.string bytes) => bytes.length + 1
  | .lit _ => 1
  | .nil => 1
  | .ptr d => uptoBulk d + 1
  | .slice elems spare => uptoBulkAll elems + uptoBulkAll spare + 1
  | .agg parts => uptoBulkAll parts + 1
  | .iface _ d => uptoBulk d + 1
  | .map entries => uptoBulkEntries entries + 1
  | .held _ => 1
def uptoBulkAll {H : Type} : List (DataW H) → Nat
  | [] => 0
  | d :: r => uptoBulk d + uptoBulkAll r
def uptoBulkEntries {H : Type} : List (Lit × DataW H) → Nat
  | [] => 0
  | x :: r => uptoBulkEntry x + uptoBulkEntries r
def uptoBulkEntry {H : Type} : Lit × DataW H → Nat
  | (.string bytes, d) => bytes.length + uptoBulk d + 1
  | (_, d) => uptoBulk d + 1
 end
def uptoSmall : (H : Type) → List (DataW H) → Bool := fun _ ds => decide (uptoBulkAll ds ≤ 1048576)
def OpenSpec.upto (s : _root_.Go.ChangeSpec) : _root_.Go.OpenSpec := { _root_.Go.OpenSpec.ofChange s with cond := some uptoSmall }

/-- 'scriptinglaw19.FailureRaises', WHERE WHAT IT READS IS OF BULK AT MOST 1048576: true; the input reads as it did. -/
def failureRaisesUptoRow : OpenClaim := { program := "ytimblnhigoggpaadoor", sum := "4c76afe3f7c0a8e90cc5eb5899cc4bc12b53e36ec504c3148129fd1e82465e64", func := "scripting/scriptinglaw19.FailureRaises", spec := "failureRaises", inPlace := ["internal/abi.NoEscape", "internal/bytealg.MakeNoZero"], named := ["internal/strconv.uint64pow10", "math/bits.deBruijn32tab", "math/bits.deBruijn64tab"], apart := false, laid := [("math/bits.deBruijn32tab", laid_math_bits_deBruijn32tab), ("math/bits.deBruijn64tab", laid_math_bits_deBruijn64tab), ("internal/strconv.uint64pow10", laid_internal_strconv_uint64pow10)], narrowed := true }
def FailureRaisesUptoSaid : Prop := failureRaisesUptoRow.holds Tryd.pinned (OpenSpec.upto failureRaisesSpec)

/-- 'scriptinglaw19.FailureMessages', WHERE WHAT IT READS IS OF BULK AT MOST 1048576: true; the input reads as it did. -/
def failureMessagesUptoRow : OpenClaim := { program := "ytimblnhigoggpaadoor", sum := "4c76afe3f7c0a8e90cc5eb5899cc4bc12b53e36ec504c3148129fd1e82465e64", func := "scripting/scriptinglaw19.FailureMessages", spec := "failureMessages", inPlace := ["internal/abi.NoEscape", "internal/bytealg.MakeNoZero"], named := ["internal/strconv.uint64pow10", "math/bits.deBruijn32tab", "math/bits.deBruijn64tab"], apart := false, laid := [("math/bits.deBruijn32tab", laid_math_bits_deBruijn32tab), ("math/bits.deBruijn64tab", laid_math_bits_deBruijn64tab), ("internal/strconv.uint64pow10", laid_internal_strconv_uint64pow10)], narrowed := true }
def FailureMessagesUptoSaid : Prop := failureMessagesUptoRow.holds Tryd.pinned (OpenSpec.upto failureMessagesSpec)

/-- 'scriptinglaw19.FailureTexts', WHERE WHAT IT READS IS OF BULK AT MOST 1048576: true; the input reads as it did. -/
def failureTextsUptoRow : OpenClaim := { program := "ytimblnhigoggpaadoor", sum := "4c76afe3f7c0a8e90cc5eb5899cc4bc12b53e36ec504c3148129fd1e82465e64", func := "scripting/scriptinglaw19.FailureTexts", spec := "failureTexts", inPlace := ["internal/abi.NoEscape", "internal/bytealg.MakeNoZero"], named := ["internal/strconv.uint64pow10", "math/bits.deBruijn32tab", "math/bits.deBruijn64tab"], apart := false, laid := [("math/bits.deBruijn32tab", laid_math_bits_deBruijn32tab), ("math/bits.deBruijn64tab", laid_math_bits_deBruijn64tab), ("internal/strconv.uint64pow10", laid_internal_strconv_uint64pow10)], narrowed := true }
def FailureTextsUptoSaid : Prop := failureTextsUptoRow.holds Tryd.pinned (OpenSpec.upto failureTextsSpec)

/-- 'scriptinglaw19.FailureLines', WHERE WHAT IT READS IS OF BULK AT MOST 1048576: true; the input reads as it did. -/
def failureLinesUptoRow : OpenClaim := { program := "ytimblnhigoggpaadoor", sum := "4c76afe3f7c0a8e90cc5eb5899cc4bc12b53e36ec504c3148129fd1e82465e64", func := "scripting/scriptinglaw19.FailureLines", spec := "failureLines", inPlace := ["internal/abi.NoEscape", "internal/bytealg.MakeNoZero"], named := ["internal/strconv.uint64pow10", "math/bits.deBruijn32tab", "math/bits.deBruijn64tab"], apart := false, laid := [("math/bits.deBruijn32tab", laid_math_bits_deBruijn32tab), ("math/bits.deBruijn64tab", laid_math_bits_deBruijn64tab), ("internal/strconv.uint64pow10", laid_internal_strconv_uint64pow10)], narrowed := true }
def FailureLinesUptoSaid : Prop := failureLinesUptoRow.holds Tryd.pinned (OpenSpec.upto failureLinesSpec)

/-- 'scriptinglaw19.FailureCompares', WHERE WHAT IT READS IS OF BULK AT MOST 1048576: true; the input reads as it did. -/
def failureComparesUptoRow : OpenClaim := { program := "ytimblnhigoggpaadoor", sum := "4c76afe3f7c0a8e90cc5eb5899cc4bc12b53e36ec504c3148129fd1e82465e64", func := "scripting/scriptinglaw19.FailureCompares", spec := "failureCompares", inPlace := ["internal/abi.NoEscape", "internal/bytealg.MakeNoZero"], named := ["internal/strconv.uint64pow10", "math/bits.deBruijn32tab", "math/bits.deBruijn64tab"], apart := false, laid := [("math/bits.deBruijn32tab", laid_math_bits_deBruijn32tab), ("math/bits.deBruijn64tab", laid_math_bits_deBruijn64tab), ("internal/strconv.uint64pow10", laid_internal_strconv_uint64pow10)], narrowed := true }
def FailureComparesUptoSaid : Prop := failureComparesUptoRow.holds Tryd.pinned (OpenSpec.upto failureComparesSpec)

/-- 'scriptinglaw19.FailureDescribes', WHERE WHAT IT READS IS OF BULK AT MOST 1048576: true; the input reads as it did. -/
def failureDescribesUptoRow : OpenClaim := { program := "ytimblnhigoggpaadoor", sum := "4c76afe3f7c0a8e90cc5eb5899cc4bc12b53e36ec504c3148129fd1e82465e64", func := "scripting/scriptinglaw19.FailureDescribes", spec := "failureDescribes", inPlace := ["internal/abi.NoEscape", "internal/bytealg.MakeNoZero"], named := ["internal/strconv.uint64pow10", "math/bits.deBruijn32tab", "math/bits.deBruijn64tab"], apart := false, laid := [("math/bits.deBruijn32tab", laid_math_bits_deBruijn32tab), ("math/bits.deBruijn64tab", laid_math_bits_deBruijn64tab), ("internal/strconv.uint64pow10", laid_internal_strconv_uint64pow10)], narrowed := true }
def FailureDescribesUptoSaid : Prop := failureDescribesUptoRow.holds Tryd.pinned (OpenSpec.upto failureDescribesSpec)

/-- 'scriptinglaw19.FailureKeeps', WHERE WHAT IT READS IS OF BULK AT MOST 1048576: true; the input reads as it did. -/
def failureKeepsUptoRow : OpenClaim := { program := "ytimblnhigoggpaadoor", sum := "4c76afe3f7c0a8e90cc5eb5899cc4bc12b53e36ec504c3148129fd1e82465e64", func := "scripting/scriptinglaw19.FailureKeeps", spec := "failureKeeps", inPlace := ["internal/abi.NoEscape", "internal/bytealg.MakeNoZero"], named := ["internal/strconv.uint64pow10", "math/bits.deBruijn32tab", "math/bits.deBruijn64tab"], apart := false, laid := [("math/bits.deBruijn32tab", laid_math_bits_deBruijn32tab), ("math/bits.deBruijn64tab", laid_math_bits_deBruijn64tab), ("internal/strconv.uint64pow10", laid_internal_strconv_uint64pow10)], narrowed := true }
def FailureKeepsUptoSaid : Prop := failureKeepsUptoRow.holds Tryd.pinned (OpenSpec.upto failureKeepsSpec)

/-- 'scriptinglaw19.FailureShort', WHERE WHAT IT READS IS OF BULK AT MOST 1048576: true; the input reads as it did. -/
def failureShortUptoRow : OpenClaim := { program := "ytimblnhigoggpaadoor", sum := "4c76afe3f7c0a8e90cc5eb5899cc4bc12b53e36ec504c3148129fd1e82465e64", func := "scripting/scriptinglaw19.FailureShort", spec := "failureShort", inPlace := ["internal/abi.NoEscape", "internal/bytealg.MakeNoZero"], named := ["internal/strconv.uint64pow10", "math/bits.deBruijn32tab", "math/bits.deBruijn64tab"], apart := false, laid := [("math/bits.deBruijn32tab", laid_math_bits_deBruijn32tab), ("math/bits.deBruijn64tab", laid_math_bits_deBruijn64tab), ("internal/strconv.uint64pow10", laid_internal_strconv_uint64pow10)], narrowed := true }
def FailureShortUptoSaid : Prop := failureShortUptoRow.holds Tryd.pinned (OpenSpec.upto failureShortSpec)

end Rows
end Go.Proofs.YtimblnhigoggpaaDoor
