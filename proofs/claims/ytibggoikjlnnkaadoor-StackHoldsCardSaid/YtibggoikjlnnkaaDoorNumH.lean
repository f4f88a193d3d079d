/- Contracts of layer 2: Parse and Scan. -/
import Derived.Test.YtibggoikjlnnkaaDoorNumG
namespace Go.Proofs.YtibggoikjlnnkaaDoor
open Go.RowKit M1 M2
set_option linter.unusedVariables false

theorem trm_len (l : List UInt8) : (trm l).length ≤ l.length := by
  unfold trm Lib.trimS Lib.trimLeftS Lib.trimRightS
  refine Nat.le_trans (List.dropWhile_sublist _).length_le ?_
  rw [List.length_reverse]
  refine Nat.le_trans (List.dropWhile_sublist _).length_le ?_
  simp
theorem tpre_yes {l : List UInt8} (h : Lib.hasPrefix l [45] = true) : Lib.trimPrefix l [45] = l.drop 1 := by unfold Lib.trimPrefix; rw [if_pos h]; rfl
theorem tpre_no {l : List UInt8} (h : Lib.hasPrefix l [45] = false) : Lib.trimPrefix l [45] = l := by unfold Lib.trimPrefix; rw [if_neg (by simp [h])]

end Go.Proofs.YtibggoikjlnnkaaDoor
