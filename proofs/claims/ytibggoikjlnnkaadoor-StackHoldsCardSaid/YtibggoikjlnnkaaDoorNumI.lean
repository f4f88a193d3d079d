/- Contracts of layer 2: the reference's Parse and Scan. -/
import Derived.Test.YtibggoikjlnnkaaDoorNumH
namespace Go.Proofs.YtibggoikjlnnkaaDoor
open Go.RowKit M1 M2
set_option linter.unusedVariables false

theorem ext_nil (s : ByteArray) (k : Nat) : s.extract k k = ByteArray.empty := by simp
theorem u8_ne {c d : UInt8} (h : ((c.toNat : Int) == (d.toNat : Int)) = false) : c ≠ d := by
  rintro rfl; simp at h

theorem slash_first (l : List UInt8) : (∀ j : Nat, l[j]? ≠ some 47) ∨ ∃ k, k < l.length ∧ l[k]? = some 47 ∧ ∀ j : Nat, j < k → l[j]? ≠ some 47 := by
  induction l with
  | nil => left; intro j; simp
  | cons c cs ih =>
    by_cases hc : c = 47
    · right; exact ⟨0, by simp, by simp [hc], fun j hj => by omega⟩
    · rcases ih with h | ⟨k, h1, h2, h3⟩
      · left; intro j
        cases j with
        | zero => simp; exact hc
        | succ j => simpa using h j
      · right
        refine ⟨k + 1, by simpa using h1, by simpa using h2, fun j hj => ?_⟩
        cases j with
        | zero => simp; exact hc
        | succ j => simpa using h3 j (by omega)
end Go.Proofs.YtibggoikjlnnkaaDoor
