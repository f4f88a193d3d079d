/- What every law of layer 9 begins with: the listed variables, a world that fits. -/
import Derived.Test.YtbdcmnhfmkefdaaGreatDoorFmtL
import Derived.Test.YtbdcmnhfmkefdaaGreatDoorCards
import Derived.Test.YtbdcmnhfmkefdaaGreatDoorTie
import Derived.ProofKit
import Derived.OpenShut
import Derived.ChangeOld
import Derived.Below
import Derived.Lib.SmallJoins
import Derived.Deep.DeepHandedRow
import Derived.Stop.LaidErr
import Derived.Lib.LaidTab
import Derived.Lay
import Derived.MakeChecks
namespace Go.Proofs.YtbdcmnhfmkefdaaGreatDoor
open Go.ChangeShapes Go.WideShapes Go.ChangeAt Go.RowKit Go.Joins M1 M2 M9
set_option linter.unusedVariables false
theorem own : ownKnob Tryz.prog.godebug = none := by kernel_rfl
abbrev L5 : List (String × DataW Unit) := Rows.formattingPiecesRow.laid
def vrowD (l b : Int) (s z : Bool) : DataW Unit := .agg [.lit (.int .u8 l), .lit (.int .i64 b), .lit (.bool s), .lit (.bool z)]
def verbF : List (List Value × DataW Unit) := [(vrow 100 10 true true, vrowD 100 10 true true), (vrow 120 16 false true, vrowD 120 16 false true), (vrow 88 16 false true, vrowD 88 16 false true), (vrow 111 8 false true, vrowD 111 8 false true), (vrow 102 0 true true, vrowD 102 0 true true), (vrow 115 0 false false, vrowD 115 0 false false), (vrow 99 0 false false, vrowD 99 0 false false), (vrow 113 0 false false, vrowD 113 0 false false), (vrow 103 0 true false, vrowD 103 0 true false)]
theorem vrow_row {enc : TypeId × Value → Unit} {w : World} {base : Nat} {sp : Nat → Bool} {held : Bool} {l b : Int} {s z : Bool} {f : Nat} {c : List Value} {q : List MemPlace} (h : DataW.trod enc Tryz.prog w base sp held f 98 c = some (vrowD l b s z, q)) : c = vrow l b s z :=
  struct4_row Tryz.underlying98 (by kernel_rfl) (by kernel_rfl) h (fun _ _ _ h => int_row Tryz.underlying5 h) (fun _ _ _ h => int_row Tryz.underlying3 h) (fun _ _ _ h => bool_row Tryz.underlying4 h) (fun _ _ _ h => bool_row Tryz.underlying4 h)
theorem verbs_laid {W : World} {r : List (String × DataW Unit)} (h : laidMet Tryz.prog (("scripting/formatting.verbs", .agg (verbF.map (·.2))) :: r) W) : W.var? Tryz.prog "scripting/formatting.verbs" = some verbCells := by
  obtain ⟨ps, ⟨g, t, cs, fuel, p, q, hg, ht, hv, hd, -⟩, -, -⟩ := h
  have e1 : Tryz.prog.globalNamed "scripting/formatting.verbs" = some 0 := by kernel_rfl
  rw [e1] at hg
  obtain rfl := Option.some.inj hg
  have e2 : (Tryz.prog.globals[0]?).map (·.type) = some 127 := by kernel_rfl
  rw [e2] at ht
  obtain rfl := Option.some.inj ht
  have h1 := array_rows (k := 4) verbF Tryz.underlying127 (by kernel_rfl) (by kernel_rfl) hd rfl (fun x hx f c q hc => by
    unfold verbF at hx
    simp only [List.mem_cons, List.not_mem_nil, or_false] at hx
    rcases hx with rfl | rfl | rfl | rfl | rfl | rfl | rfl | rfl | rfl <;> exact vrow_row hc)
  rw [hv]
  congr 1
  apply Array.ext'
  rw [h1]; rfl
theorem env {W : World} (hL : laidMetH Tryz.prog L5 W) (hsh : W.ShapedOpen Tryz.prog) : E9 W := by
  rw [MakeChecks.laidMetH_plain _ _ _ (by kernel_rfl)] at hL
  refine ⟨⟨?_, Tryz.laysM145.s1_3 W hsh⟩, verbs_laid (r := L5.drop 5) hL.tail.tail.tail.tail⟩
  exact Lib.tabIs_of_head (k := .u64) (zs := Lib.pow10Tab) (n := 20) (rest := L5.drop 3) (show Tryz.prog.globalNamed "internal/strconv.uint64pow10" = some 5 by kernel_rfl) (by kernel_rfl) Tryz.underlying194 Tryz.underlying121 (by kernel_rfl) (by kernel_rfl) hL.tail.tail
theorem laid_met (os : Os) (args : Array Value) : laidMetH Tryz.prog L5 ((World.laidAll Tryz.prog os L5).forCall (fun _ _ => 0) ⟨#[], args, []⟩).memory := by
  rw [MakeChecks.laidMetH_plain _ _ _ (by kernel_rfl)]
  exact laidMet_laidAll _ (by kernel_rfl) (by kernel_rfl)
theorem wit_shaped (os : Os) (args : Array Value) : ((World.laidAll Tryz.prog os L5).forCall (fun _ _ => 0) ⟨#[], args, []⟩).Shaped Tryz.prog :=
  World.shaped_of_ZipB (by kernel_rfl) (by kernel_rfl)
end Go.Proofs.YtbdcmnhfmkefdaaGreatDoor
