/- Contracts of layer 2: the reference's Scan; texts of numbers. -/
import Derived.Test.YtibggoikjlnnkaaDoorNumJ
namespace Go.Proofs.YtibggoikjlnnkaaDoor
open Go.RowKit M1 M2
set_option linter.unusedVariables false
theorem scanR_rn (l : List UInt8) (a : Nat) (h : a ≤ l.length) : scanR l a = if (rnR (l.drop a)).E = 0 then ⟨(rnR (l.drop a)).P, (rnR (l.drop a)).Q, ((a + (meas (l.drop a)).fin : Nat) : Int), 0⟩ else ⟨0, 0, 0, (rnR (l.drop a)).E⟩ := by
  unfold scanR
  rw [if_neg (by omega), Int.toNat_natCast]
  by_cases h0 : (meas (l.drop a)).fin = 0
  · rw [if_pos h0]; unfold rnR; rw [if_pos h0]; rfl
  · rw [if_neg h0]
    have : rnR (l.drop a) = numR (meas (l.drop a)) := if_neg h0
    rw [this]
    push_cast
    rfl

end Go.Proofs.YtibggoikjlnnkaaDoor
