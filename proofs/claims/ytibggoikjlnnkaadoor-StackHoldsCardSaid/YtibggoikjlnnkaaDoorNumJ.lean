/- Contracts of layer 2: the reference's Parse and Scan. -/
import Derived.Test.YtibggoikjlnnkaaDoorNumI
namespace Go.Proofs.YtibggoikjlnnkaaDoor
open Go.RowKit M1 M2
set_option linter.unusedVariables false

end Go.Proofs.YtibggoikjlnnkaaDoor
