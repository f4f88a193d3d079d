/- Contracts of layer 2: digits, in code and reference. -/
import Derived.Test.YtmnfebgkpcjjjaaDoorNumA
namespace Go.Proofs.YtmnfebgkpcjjjaaDoor
open Go.RowKit M1 M2
set_option linter.unusedVariables false

theorem alld_any (s : ByteArray) (w : World) (hs : s.size ≤ 4000000000) :
    Calls Tryd.prog 86 #[.string s] w fun e w' => e = .returned (.bool (okd s.data.toList)) ∧ w = w' := by
  have hle := cnt_le 10 s.data.toList
  have hl : s.data.toList.length = s.size := by simp
  rw [hl] at hle
  by_cases h1 : 0 < cnt 10 s.data.toList
  · by_cases h2 : cnt 10 s.data.toList = s.size
    · have e := Lib.hid (show okd s.data.toList = true by unfold okd; rw [decide_eq_true_iff, hl]; exact ⟨h1, h2⟩)
      have h3 : ((cnt 10 s.data.toList : Int) == (s.size : Int)) = true := by rw [beq_iff_eq]; omega
      clear h2
      go_enter Tryd.func86, Tryd.ntmps86
      go_wp2_with (go_at_call 90; refine (count_any _ _ _ hs (by omega) (by omega)).mono ?_; rintro e w' ⟨rfl, rfl⟩)
      go_ret
      exact ⟨by rw [e.out]; rfl, rfl⟩
    · have e := Lib.hid (show okd s.data.toList = false by unfold okd; rw [decide_eq_false_iff_not, hl]; exact fun h => h2 h.2)
      have h3 : ((cnt 10 s.data.toList : Int) == (s.size : Int)) = false := by rw [beq_eq_false_iff_ne]; omega
      clear h2
      go_enter Tryd.func86, Tryd.ntmps86
      go_wp2_with (go_at_call 90; refine (count_any _ _ _ hs (by omega) (by omega)).mono ?_; rintro e w' ⟨rfl, rfl⟩)
      go_ret
      exact ⟨by rw [e.out]; rfl, rfl⟩
  · have e := Lib.hid (show okd s.data.toList = false by unfold okd; rw [decide_eq_false_iff_not]; exact fun h => h1 h.1)
    go_enter Tryd.func86, Tryd.ntmps86
    go_wp2_with (go_at_call 90; refine (count_any _ _ _ hs (by omega) (by omega)).mono ?_; rintro e w' ⟨rfl, rfl⟩)
    go_ret
    exact ⟨by rw [e.out]; rfl, rfl⟩

end Go.Proofs.YtmnfebgkpcjjjaaDoor
