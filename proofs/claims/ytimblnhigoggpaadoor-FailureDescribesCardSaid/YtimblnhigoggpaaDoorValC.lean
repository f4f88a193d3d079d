/- Contracts of layer 11: valid values. -/
import Derived.Test.YtimblnhigoggpaaDoorValB
import Derived.Deep.DeepCutAuto
import Derived.Deep.CutBlock
namespace Go.Proofs.YtimblnhigoggpaaDoor
open Go.RowKit M1
set_option linter.unusedVariables false
def validF (k p q : Int) (s : ByteArray) (r : Int) : Bool :=
  if k = 0 then eqV k p q s r 0 0 0 ⟨#[]⟩ 0
  else if k = 1 then eqV k p q s r 1 0 0 ⟨#[]⟩ (if r = 0 then 0 else 1)
  else if k = 2 then vld p q && eqV k p q s r 2 p q ⟨#[]⟩ 0
  else if k = 3 then decide (s.size ≤ 4096) && eqV k p q s r 3 0 0 s 0
  else if k = 6 then decide (1 ≤ s.size) && (decide (s.size ≤ 4096) && eqV k p q s r 6 0 0 s 0)
  else if k = 4 ∨ k = 5 ∨ k = 7 ∨ k = 8 then decide (1 ≤ r) && eqV k p q s r k 0 0 ⟨#[]⟩ r
  else false
end Go.Proofs.YtimblnhigoggpaaDoor
