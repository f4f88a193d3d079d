/- Contracts of layer 2: numerals and their numbers. -/
import Derived.Test.YtibggoikjlnnkaaDoorNumD
namespace Go.Proofs.YtibggoikjlnnkaaDoor
open Go.RowKit M1 M2
set_option linter.unusedVariables false

theorem dot_iff (s : ByteArray) (n : Nat) (h : n < s.size) : s.data.toList[n]? = some 46 ↔ ((s[n].toNat : Int) == 46) = true := by
  rw [List.getElem?_eq_getElem (by simpa using h), beq_iff_eq]
  show some s[n] = some 46 ↔ _
  rw [Option.some.injEq, ← UInt8.toNat_inj]
  show s[n].toNat = 46 ↔ _
  omega
end Go.Proofs.YtibggoikjlnnkaaDoor
