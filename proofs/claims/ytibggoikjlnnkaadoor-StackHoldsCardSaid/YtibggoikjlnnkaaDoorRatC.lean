/- Contracts of layer 1: sums, differences, products. -/
import Derived.Test.YtibggoikjlnnkaaDoorRatB
namespace Go.Proofs.YtibggoikjlnnkaaDoor
open Go.RowKit M1

theorem below_step {B B' : Nat} {a b c : World} (h : Below B' b c) (hB : B ≤ B') (k : Below B a b) : Below B a c := k.trans (h.mono hB)

end Go.Proofs.YtibggoikjlnnkaaDoor
