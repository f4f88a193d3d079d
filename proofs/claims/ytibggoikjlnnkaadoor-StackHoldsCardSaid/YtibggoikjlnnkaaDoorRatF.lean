/- Contracts of layer 1: integers, order, remainders. -/
import Derived.Test.YtibggoikjlnnkaaDoorRatE
import Derived.Deep.RegionWith
set_option linter.unusedSimpArgs false
namespace Go.Proofs.YtibggoikjlnnkaaDoor
open Go.RowKit M1
theorem fmod_bd (x y : Int) (h : y ≠ 0) : (x.fmod y).natAbs ≤ y.natAbs := by
  by_cases h2 : 0 < y
  · have := fm_pos x y h2; omega
  · have := fm_neg x y (by omega); omega
theorem tmod_neg (x y : Int) (h : x ≤ 0) : x.tmod y ≤ 0 := by
  have := Int.tmod_nonneg (a := -x) y (by omega)
  rw [Int.neg_tmod] at this; omega
theorem tmod_bd (x y : Int) : (x.tmod y).natAbs ≤ x.natAbs := by rw [Int.natAbs_tmod]; exact Nat.mod_le _ _

end Go.Proofs.YtibggoikjlnnkaaDoor
