/- Contracts of layer 1: quotients. -/
import Derived.Test.YtibggoikjlnnkaaDoorRatB
namespace Go.Proofs.YtibggoikjlnnkaaDoor
open Go.RowKit M1
theorem ret_int {k : IntKind} {a b : Int} (h : a = b) : Ending.returned (.int k a) = .returned (.int k b) := by rw [h]

end Go.Proofs.YtibggoikjlnnkaaDoor
