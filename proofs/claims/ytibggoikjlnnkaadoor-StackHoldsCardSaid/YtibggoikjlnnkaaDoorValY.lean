/- What every law of layer 11 begins with: the library's variables, a world that fits. -/
import Derived.Test.YtibggoikjlnnkaaDoorValW
import Derived.Test.YtibggoikjlnnkaaDoorNumL
import Derived.Test.YtibggoikjlnnkaaDoorNumH
import Derived.Test.YtibggoikjlnnkaaDoorRatF
import Derived.Test.YtibggoikjlnnkaaDoorCards
import Derived.Test.YtibggoikjlnnkaaDoorTie
import Derived.ProofKit
import Derived.OpenShut
import Derived.ChangeOld
import Derived.Below
import Derived.Lib.SmallJoins
import Derived.Deep.DeepHandedRow
import Derived.Stop.LaidErr
import Derived.Lib.LaidTab
import Derived.Lay
import Derived.MakeChecks
namespace Go.Proofs.YtibggoikjlnnkaaDoor
open Go.ChangeShapes Go.WideShapes Go.ChangeAt Go.RowKit Go.Joins M1 M2
set_option linter.unusedVariables false

theorem own : ownKnob Tryd.prog.godebug = none := by kernel_rfl
theorem cellsNum : Tryd.prog.cellsOf 23 = 2 := by kernel_rfl
theorem numReads {H : Type} {enc : TypeId × Value → H} (W' : World) (sp : Nat → Bool) (p q : Int) (wp : (Lit.int .i64 p).wf = true) (wq : (Lit.int .i64 q).wf = true) :
    DataW.Trod enc Tryd.prog W' 0 sp true 23 (.agg #[.int .i64 p, .int .i64 q]) (.agg [.lit (.int .i64 p), .lit (.int .i64 q)]) [] :=
  shut_agg2 (y0 := (.lit (.int .i64 p), [])) (y1 := (.lit (.int .i64 q), [])) Tryd.underlying23 (by kernel_rfl) cellsNum ⟨1, by simp [DataW.trod, Tryd.underlying3, wp]⟩ ⟨1, by simp [DataW.trod, Tryd.underlying3, wq]⟩
abbrev L5 : List (String × DataW Unit) := Rows.stackHoldsRow.laid
theorem env {W : World} (hL : laidMetH Tryd.prog L5 W) (hsh : W.ShapedOpen Tryd.prog) : Env W := by
  refine ⟨?_⟩
  rw [MakeChecks.laidMetH_plain _ _ _ (by kernel_rfl)] at hL
  exact Lib.tabIs_of_head (k := .u64) (zs := Lib.pow10Tab) (n := 20) (rest := L5.drop 3) (show Tryd.prog.globalNamed "internal/strconv.uint64pow10" = some 0 by kernel_rfl) (by kernel_rfl) Tryd.underlying74 Tryd.underlying67 (by kernel_rfl) (by kernel_rfl) hL.tail.tail
theorem laid_met (os : Os) (args : Array Value) : laidMetH Tryd.prog L5 ((World.laidAll Tryd.prog os L5).forCall (fun _ _ => 0) ⟨#[], args, []⟩).memory := by
  rw [MakeChecks.laidMetH_plain _ _ _ (by kernel_rfl)]
  exact laidMet_laidAll _ (by kernel_rfl) (by kernel_rfl)
theorem wit_shaped (os : Os) (args : Array Value) : ((World.laidAll Tryd.prog os L5).forCall (fun _ _ => 0) ⟨#[], args, []⟩).Shaped Tryd.prog :=
  World.shaped_of_ZipB (by kernel_rfl) (by kernel_rfl)
end Go.Proofs.YtibggoikjlnnkaaDoor
