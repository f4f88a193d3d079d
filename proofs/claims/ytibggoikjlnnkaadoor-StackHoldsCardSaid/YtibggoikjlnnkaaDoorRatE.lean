/- Contracts of layer 1: the other functions. -/
import Derived.Test.YtibggoikjlnnkaaDoorRatC
import Derived.Test.YtibggoikjlnnkaaDoorRatD
namespace Go.Proofs.YtibggoikjlnnkaaDoor
open Go.RowKit M1

end Go.Proofs.YtibggoikjlnnkaaDoor
