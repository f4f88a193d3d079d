/- Contracts of layer 1: quotients. -/
import Derived.Test.YtpoljkgfaceniaaRatB
namespace Go.Proofs.Ytpoljkgfaceniaa
open Go.RowKit M1
theorem ret_int {k : IntKind} {a b : Int} (h : a = b) : Ending.returned (.int k a) = .returned (.int k b) := by rw [h]

theorem floor_any (p q : Int) (w : World) (hq : q ≠ 0) (h1 : -4611686018427387904 ≤ p) (h2 : p ≤ 4611686018427387904) :
    Calls Try.prog 56 #[.int .i64 p, .int .i64 q] w fun e w' => e = .returned (.int .i64 (fl p q)) ∧ w = w' := by
  have bd : (p.tdiv q).natAbs ≤ p.natAbs := by rw [Int.natAbs_tdiv]; exact Nat.div_le_self _ _
  have bd1 : -4611686018427387904 ≤ p.tdiv q := by omega
  have bd2 : p.tdiv q ≤ 4611686018427387904 := by omega
  clear bd
  by_cases hr : p.tmod q = 0
  · by_cases hp : p < 0
    · by_cases hn : q < 0
      · have e := Lib.hid (show fl p q = p.tdiv q by rw [fl_eq p q hq]; simp [hr, hp, hn])
        go_enter Try.func56, Try.ntmps56
        go_wp2
        go_ret
        exact ⟨ret_int e.out.symm, rfl⟩
      · have e := Lib.hid (show fl p q = p.tdiv q by rw [fl_eq p q hq]; simp [hr, hp, hn])
        go_enter Try.func56, Try.ntmps56
        go_wp2
        go_ret
        exact ⟨ret_int e.out.symm, rfl⟩
    · by_cases hn : q < 0
      · have hr2 : (p % q != 0) = false := by simpa [Int.tmod_eq_emod_of_nonneg (show 0 ≤ p by omega)] using hr
        have e := Lib.hid (show fl p q = p.tdiv q by rw [fl_eq p q hq]; simp [hr, hp, hn])
        go_enter Try.func56, Try.ntmps56
        go_wp2
        go_ret
        exact ⟨ret_int e.out.symm, rfl⟩
      · have hr2 : (p % q != 0) = false := by simpa [Int.tmod_eq_emod_of_nonneg (show 0 ≤ p by omega)] using hr
        have e := Lib.hid (show fl p q = p.tdiv q by rw [fl_eq p q hq]; simp [hr, hp, hn])
        go_enter Try.func56, Try.ntmps56
        go_wp2
        go_ret
        exact ⟨ret_int e.out.symm, rfl⟩
  · by_cases hp : p < 0
    · by_cases hn : q < 0
      · have e := Lib.hid (show fl p q = p.tdiv q by rw [fl_eq p q hq]; simp [hr, hp, hn])
        go_enter Try.func56, Try.ntmps56
        go_wp2
        go_ret
        exact ⟨ret_int e.out.symm, rfl⟩
      · have e := Lib.hid (show fl p q = p.tdiv q - 1 by rw [fl_eq p q hq]; simp [hr, hp, hn])
        go_enter Try.func56, Try.ntmps56
        go_wp2
        go_ret
        exact ⟨ret_int e.out.symm, rfl⟩
    · by_cases hn : q < 0
      · have hr2 : (p % q != 0) = true := by simpa [Int.tmod_eq_emod_of_nonneg (show 0 ≤ p by omega)] using hr
        have e := Lib.hid (show fl p q = p.tdiv q - 1 by rw [fl_eq p q hq]; simp [hr, hp, hn])
        go_enter Try.func56, Try.ntmps56
        go_wp2
        go_ret
        exact ⟨ret_int e.out.symm, rfl⟩
      · have hr2 : (p % q != 0) = true := by simpa [Int.tmod_eq_emod_of_nonneg (show 0 ≤ p by omega)] using hr
        have e := Lib.hid (show fl p q = p.tdiv q by rw [fl_eq p q hq]; simp [hr, hp, hn])
        go_enter Try.func56, Try.ntmps56
        go_wp2
        go_ret
        exact ⟨ret_int e.out.symm, rfl⟩

theorem rfloor_any (p q : Int) (w : World) (hq : q ≠ 0) (h1 : -4611686018427387904 ≤ p) (h2 : p ≤ 4611686018427387904) :
    Calls Try.prog 57 #[.int .i64 p, .int .i64 q] w fun e w' => e = .returned (.int .i64 (fl p q)) ∧ w = w' := by
  have bd : (p.tdiv q).natAbs ≤ p.natAbs := by rw [Int.natAbs_tdiv]; exact Nat.div_le_self _ _
  have bd1 : -4611686018427387904 ≤ p.tdiv q := by omega
  have bd2 : p.tdiv q ≤ 4611686018427387904 := by omega
  clear bd
  by_cases hr : p.tmod q = 0
  · by_cases hp : p < 0
    · by_cases hn : q < 0
      · have e := Lib.hid (show fl p q = p.tdiv q by rw [fl_eq p q hq]; simp [hr, hp, hn])
        go_enter Try.func57, Try.ntmps57
        go_wp2
        go_ret
        exact ⟨ret_int e.out.symm, rfl⟩
      · have e := Lib.hid (show fl p q = p.tdiv q by rw [fl_eq p q hq]; simp [hr, hp, hn])
        go_enter Try.func57, Try.ntmps57
        go_wp2
        go_ret
        exact ⟨ret_int e.out.symm, rfl⟩
    · by_cases hn : q < 0
      · have hr2 : (p % q != 0) = false := by simpa [Int.tmod_eq_emod_of_nonneg (show 0 ≤ p by omega)] using hr
        have e := Lib.hid (show fl p q = p.tdiv q by rw [fl_eq p q hq]; simp [hr, hp, hn])
        go_enter Try.func57, Try.ntmps57
        go_wp2
        go_ret
        exact ⟨ret_int e.out.symm, rfl⟩
      · have hr2 : (p % q != 0) = false := by simpa [Int.tmod_eq_emod_of_nonneg (show 0 ≤ p by omega)] using hr
        have e := Lib.hid (show fl p q = p.tdiv q by rw [fl_eq p q hq]; simp [hr, hp, hn])
        go_enter Try.func57, Try.ntmps57
        go_wp2
        go_ret
        exact ⟨ret_int e.out.symm, rfl⟩
  · by_cases hp : p < 0
    · by_cases hn : q < 0
      · have e := Lib.hid (show fl p q = p.tdiv q by rw [fl_eq p q hq]; simp [hr, hp, hn])
        go_enter Try.func57, Try.ntmps57
        go_wp2
        go_ret
        exact ⟨ret_int e.out.symm, rfl⟩
      · have e := Lib.hid (show fl p q = p.tdiv q - 1 by rw [fl_eq p q hq]; simp [hr, hp, hn])
        go_enter Try.func57, Try.ntmps57
        go_wp2
        go_ret
        exact ⟨ret_int e.out.symm, rfl⟩
    · by_cases hn : q < 0
      · have hr2 : (p % q != 0) = true := by simpa [Int.tmod_eq_emod_of_nonneg (show 0 ≤ p by omega)] using hr
        have e := Lib.hid (show fl p q = p.tdiv q - 1 by rw [fl_eq p q hq]; simp [hr, hp, hn])
        go_enter Try.func57, Try.ntmps57
        go_wp2
        go_ret
        exact ⟨ret_int e.out.symm, rfl⟩
      · have hr2 : (p % q != 0) = true := by simpa [Int.tmod_eq_emod_of_nonneg (show 0 ≤ p by omega)] using hr
        have e := Lib.hid (show fl p q = p.tdiv q by rw [fl_eq p q hq]; simp [hr, hp, hn])
        go_enter Try.func57, Try.ntmps57
        go_wp2
        go_ret
        exact ⟨ret_int e.out.symm, rfl⟩
end Go.Proofs.Ytpoljkgfaceniaa
