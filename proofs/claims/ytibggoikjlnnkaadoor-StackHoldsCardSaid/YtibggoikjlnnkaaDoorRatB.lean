/- Contracts of layer 1: reduced fractions. -/
import Derived.Test.YtibggoikjlnnkaaDoorRatA
namespace Go.Proofs.YtibggoikjlnnkaaDoor
open Go.RowKit M1

theorem tdiv_bd (a g : Int) : -(a.natAbs : Int) ≤ a.tdiv g ∧ a.tdiv g ≤ (a.natAbs : Int) := by
  have : (a.tdiv g).natAbs ≤ a.natAbs := by rw [Int.natAbs_tdiv]; exact Nat.div_le_self _ _
  omega

theorem tdiv_neg' (q g : Int) (hq : q < 0) (g1 : 1 ≤ g) (g2 : g ≤ (q.natAbs : Int)) : q.tdiv g < 0 := by
  have h : (-q).tdiv g = -(q.tdiv g) := Int.neg_tdiv q g
  rw [Int.tdiv_eq_ediv_of_nonneg (by omega)] at h
  have : 1 ≤ (-q) / g := by rw [Int.le_ediv_iff_mul_le (by omega)]; omega
  omega

end Go.Proofs.YtibggoikjlnnkaaDoor
