/- Contracts of layer 2: Parse and Scan. -/
import Derived.Test.YtibggoikjlnnkaaDoorNumF
namespace Go.Proofs.YtibggoikjlnnkaaDoor
open Go.RowKit M1 M2
set_option linter.unusedVariables false

theorem R3.eta (r : R3) (a b c : Int) (h1 : r.P = a) (h2 : r.Q = b) (h3 : r.E = c) : r = ⟨a, b, c⟩ := by subst h1 h2 h3; rfl
/-- What is answered: a number and an error. -/
def r3V (r : R3) : Value := .tuple #[.agg #[.int .i64 r.P, .int .i64 r.Q], .int .i64 r.E]
theorem cut_le (l : List UInt8) : (Lib.cut l [47]).1.length ≤ l.length ∧ (Lib.cut l [47]).2.1.length ≤ l.length := by
  unfold Lib.cut; split
  · simp; omega
  · simp

end Go.Proofs.YtibggoikjlnnkaaDoor
