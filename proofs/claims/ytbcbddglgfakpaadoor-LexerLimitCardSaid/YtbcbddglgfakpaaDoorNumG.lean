/- Contracts of layer 2: Parse and Scan. -/
import Derived.Test.YtbcbddglgfakpaaDoorNumF
namespace Go.Proofs.YtbcbddglgfakpaaDoor
open Go.RowKit M1 M2
set_option linter.unusedVariables false

theorem R3.eta (r : R3) (a b c : Int) (h1 : r.P = a) (h2 : r.Q = b) (h3 : r.E = c) : r = ⟨a, b, c⟩ := by subst h1 h2 h3; rfl
/-- What is answered: a number and an error. -/
def r3V (r : R3) : Value := .tuple #[.agg #[.int .i64 r.P, .int .i64 r.Q], .int .i64 r.E]
theorem cut_le (l : List UInt8) : (Lib.cut l [47]).1.length ≤ l.length ∧ (Lib.cut l [47]).2.1.length ≤ l.length := by
  unfold Lib.cut; split
  · simp; omega
  · simp

/-- measure, told by variables. -/
theorem measure_fact (s : ByteArray) (hs : s.size ≤ 4000000000) : ∃ (B : Int) (wh bh : ByteArray) (f : Nat), meas s.data.toList = ⟨B, wh.data.toList, bh.data.toList, f⟩ ∧ f ≤ s.size ∧ numR ⟨B, wh.data.toList, bh.data.toList, 0⟩ = numR (meas s.data.toList) ∧
    (Hid (∀ w, Calls Tryd.prog 65 #[.string s] w fun e w' => e = .returned (.agg #[.int .i64 B, .string wh, .string bh, .int .i64 (f : Int)]) ∧ Below w.heap.size w w')) ∧
    (Hid (∀ w, Calls Tryd.prog 66 #[.agg #[.int .i64 B, .string wh, .string bh, .int .i64 (f : Int)]] w fun e w' => e = .returned (.tuple #[.agg #[.int .i64 (numR (meas s.data.toList)).P, .int .i64 (numR (meas s.data.toList)).Q], .int .i64 (numR (meas s.data.toList)).E]) ∧ Below w.heap.size w w')) := by
  obtain ⟨h1, h2, h3, h4⟩ := meas_wf s.data.toList
  rw [list_size] at h4
  have hw : (meas s.data.toList).whole.length ≤ 4000000000 ∧ (meas s.data.toList).behind.length ≤ 4000000000 := by
    unfold meas; repeat' split
    all_goals (simp; omega)
  refine ⟨(meas s.data.toList).B, mkB (meas s.data.toList).whole, mkB (meas s.data.toList).behind, (meas s.data.toList).fin, by rw [mkB_list, mkB_list], h4, by rw [mkB_list, mkB_list]; rfl, Lib.hid fun w => measure_any s w hs, Lib.hid fun w => ?_⟩
  have := number_any (meas s.data.toList).B (mkB (meas s.data.toList).whole) (mkB (meas s.data.toList).behind) ((meas s.data.toList).fin : Int) w h1 (by rw [mkB_size]; exact hw.1) (by rw [mkB_size]; exact hw.2) (by rw [mkB_list]; exact h2) (by rw [mkB_list]; exact h3)
  rw [mkB_list, mkB_list] at this
  exact this

end Go.Proofs.YtbcbddglgfakpaaDoor
