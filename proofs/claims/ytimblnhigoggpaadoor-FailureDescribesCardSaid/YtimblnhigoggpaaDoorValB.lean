/- Contracts of layer 11: valid values, truth, numbers. -/
import Derived.Test.YtimblnhigoggpaaDoorValA
namespace Go.Proofs.YtimblnhigoggpaaDoor
open Go.RowKit M1
set_option linter.unusedVariables false
theorem vld_int (n : Int) : vld n 1 = decide (-2147483647 ≤ n ∧ n ≤ 2147483647) := by
  unfold vld
  rw [Bool.eq_iff_iff]
  simp only [decide_eq_true_eq]
  constructor
  · rintro ⟨_, _, h1, h2, _⟩; exact ⟨h1, h2⟩
  · rintro ⟨h1, h2⟩; exact ⟨by omega, by omega, h1, h2, by simp [Int.gcd]⟩
theorem same_any (k p q : Int) (s : ByteArray) (r : Int) (k' p' q' : Int) (s' : ByteArray) (r' : Int) (w : World) :
    Calls Tryd.prog 39 #[.agg #[.int .i64 k, .int .i64 p, .int .i64 q, .string s, .int .i64 r], .agg #[.int .i64 k', .int .i64 p', .int .i64 q', .string s', .int .i64 r']] w fun e w' => e = .returned (.bool (eqV k p q s r k' p' q' s' r')) ∧ Below w.heap.size w w' := by
  have E := fun W => eq_val k p q s r k' p' q' s' r' W
  generalize eqV k p q s r k' p' q' s' r' = b at *
  go_enter Tryd.func39, Tryd.ntmps39
  go_wp2
  go_ret
  refine ⟨rfl, ?_⟩
  repeat (first | exact Below.refl _ _ | refine below_drewN ?_ _ | refine Below.drew ?_ | refine Below.setCell ?_ (by first | omega | (simp; done) | (simp; omega)) _ | refine Below.alloc ?_ (by first | omega | (simp; done) | (simp; omega)) _ | refine vstep (by assumption) (by first | omega | (simp; done) | (simp; omega)) ?_)
def trueF (k r : Int) : Bool := !decide (k = 0) && (!decide (k = 1) || !decide (r = 0))
end Go.Proofs.YtimblnhigoggpaaDoor
