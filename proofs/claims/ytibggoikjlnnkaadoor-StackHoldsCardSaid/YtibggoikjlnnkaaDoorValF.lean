/- Contracts of layer 11: numbers of strings, the order of values. -/
import Derived.Test.YtibggoikjlnnkaaDoorValE
import Derived.Test.YtibggoikjlnnkaaDoorRatF
import Derived.Laws.Strings
namespace Go.Proofs.YtibggoikjlnnkaaDoor
open Go.RowKit M1 M2
set_option linter.unusedVariables false
theorem bl_step {a b : List UInt8} {i : Nat} (ha : i < a.length) (hb : i < b.length) : Op.bytesLess (a.drop i) (b.drop i) = (decide (a[i] < b[i]) || (a[i] == b[i] && Op.bytesLess (a.drop (i + 1)) (b.drop (i + 1)))) := by
  rw [List.drop_eq_getElem_cons ha, List.drop_eq_getElem_cons hb]; rfl
theorem bl_end {a b : List UInt8} {i : Nat} (h : ¬ (i < a.length ∧ i < b.length)) (ha : i ≤ a.length) (hb : i ≤ b.length) : Op.bytesLess (a.drop i) (b.drop i) = decide (a.length < b.length) := by
  by_cases h1 : i < b.length
  · have h2 : i = a.length := by omega
    rw [h2, List.drop_length, decide_eq_true (by omega)]
    have : b.drop a.length ≠ [] := by intro e; have := congrArg List.length e; simp at this; omega
    cases hd : b.drop a.length with
    | nil => exact absurd hd this
    | cons x t => rfl
  · have h2 : i = b.length := by omega
    rw [h2, List.drop_length, decide_eq_false (by omega)]
    cases a.drop b.length <;> rfl
def lessB (k p q : Int) (s : ByteArray) (k' p' q' : Int) (s' : ByteArray) : Bool :=
  if ((decide (k = 2) && vld p q) && (decide (k' = 2) && vld p' q')) = true then decide (ratCmp p q p' q' < 0) else if k = 3 ∧ k' = 3 then Op.bytesLess s.data.toList s'.data.toList else false
def lessE (k p q k' p' q' : Int) : Int :=
  if ((decide (k = 2) && vld p q) && (decide (k' = 2) && vld p' q')) = true then 0 else if k = 3 ∧ k' = 3 then 0 else 8
theorem toList_data (s : ByteArray) : s.toList = s.data.toList := ByteArray.toList_eq s
end Go.Proofs.YtibggoikjlnnkaaDoor
