/- Contracts of layer 2: numerals that are recognised (measure). -/
import Derived.Test.YtibggoikjlnnkaaDoorNumC
import Derived.StillTailTactics
namespace Go.Proofs.YtibggoikjlnnkaaDoor
open Go.RowKit M1 M2
set_option linter.unusedVariables false

end Go.Proofs.YtibggoikjlnnkaaDoor
