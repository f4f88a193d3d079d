/- Contracts of layer 2: the reference's numerals. -/
import Derived.Test.YtibggoikjlnnkaaDoorNumE
import Derived.Deep.DeepCutAuto
namespace Go.Proofs.YtibggoikjlnnkaaDoor
open Go.RowKit M1 M2
set_option linter.unusedVariables false

theorem byte_iff (s : ByteArray) (n : Nat) (h : n < s.size) (c : UInt8) : s.data.toList[n]? = some c ↔ ((s[n].toNat : Int) == (c.toNat : Int)) = true := by
  rw [List.getElem?_eq_getElem (by simpa using h), beq_iff_eq]
  show some s[n] = some c ↔ _
  rw [Option.some.injEq, ← UInt8.toNat_inj]
  omega
theorem cnt_pos (s : ByteArray) (b : Int) (n : Nat) : 0 < cnt b (s.data.toList.drop n) ↔ ∃ h : n < s.size, isd b s[n] = true := by
  by_cases h : n < s.size
  · rw [at_drop s n h]
    cases hi : isd b s[n] with
    | true => rw [cnt_yes hi]; simp [h, hi]
    | false => rw [cnt_no hi]; simp [hi]
  · rw [drop_end s n (by omega)]; simp [cnt, h]
theorem hexp_at (s : ByteArray) (a : Nat) : hexp (s.data.toList.drop a) = true ↔ s.data.toList[a]? = some 48 ∧ (s.data.toList[a + 1]? = some 120 ∨ s.data.toList[a + 1]? = some 88) ∧ ∃ h : a + 2 < s.size, isd 16 s[a + 2] = true := by
  unfold hexp; rw [decide_eq_true_iff, List.drop_drop, cnt_pos, List.getElem?_drop, List.getElem?_drop, Nat.add_zero]
theorem rdg_no {n b : Int} (h : dg n < 0 ∨ b ≤ dg n) (hb : b ≤ 16) : decide (rdg n < b) = false := by
  rw [decide_eq_false_iff_not]; unfold rdg; split <;> omega
theorem frac_at (s : ByteArray) (a n : Nat) (hn : cnt 10 (s.data.toList.drop a) = n) : frac (s.data.toList.drop a) = true ↔ 0 < n ∧ s.data.toList[a + n]? = some 46 ∧ ∃ h : a + n + 1 < s.size, isd 10 s[a + n + 1] = true := by
  unfold frac; rw [decide_eq_true_iff, hn, List.drop_drop, show a + (n + 1) = a + n + 1 by omega, cnt_pos, List.getElem?_drop]
def rnR (l : List UInt8) : R3 := if (meas l).fin = 0 then err 4 else numR (meas l)

end Go.Proofs.YtibggoikjlnnkaaDoor
