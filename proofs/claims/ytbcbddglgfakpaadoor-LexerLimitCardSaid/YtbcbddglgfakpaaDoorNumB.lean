/- Contracts of layer 2: digits, in code and reference. -/
import Derived.Test.YtbcbddglgfakpaaDoorNumA
namespace Go.Proofs.YtbcbddglgfakpaaDoor
open Go.RowKit M1 M2
set_option linter.unusedVariables false

end Go.Proofs.YtbcbddglgfakpaaDoor
