/- Contracts of layer 2: digits, in code and reference. -/
import Derived.Test.YtibggoikjlnnkaaDoorNumA
namespace Go.Proofs.YtibggoikjlnnkaaDoor
open Go.RowKit M1 M2
set_option linter.unusedVariables false

end Go.Proofs.YtibggoikjlnnkaaDoor
