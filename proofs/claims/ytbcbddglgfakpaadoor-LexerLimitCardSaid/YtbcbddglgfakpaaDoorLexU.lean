/- Contracts of layer 3: whether a text is a name. -/
import Derived.Test.YtbcbddglgfakpaaDoorLexC
namespace Go.Proofs.YtbcbddglgfakpaaDoor
open Go.RowKit M3
set_option linter.unusedVariables false
def nameB (l : List UInt8) : Bool := decide (0 < l.length ∧ l.length ≤ 40 ∧ dgt (l.headD 0) = false ∧ cntP wrd l = l.length ∧ key l = false)
theorem head_at (s : ByteArray) (h : 0 < s.size) : s.data.toList.headD 0 = s[0] := by
  have hl : 0 < s.data.toList.length := by simpa using h
  rw [List.headD_eq_head?_getD, List.head?_eq_getElem?, List.getElem?_eq_getElem hl]
  simp; rfl

set_option maxHeartbeats 2000000 in
theorem name3_any (s : ByteArray) (w : World) (hs : s.size ≤ 4000000000) :
    Calls Tryd.prog 13 #[.string s] w fun e w' => e = .returned (.bool (nameB s.data.toList)) ∧ Below w.heap.size w w' := by
  have hll : s.data.toList.length = s.size := by simp
  by_cases h0 : s.size = 0
  · have he : s = ⟨#[]⟩ := by apply ByteArray.ext; apply Array.eq_empty_of_size_eq_zero; exact h0
    subst he
    go_enter Tryd.func13, Tryd.ntmps13
    go_wp2
    go_ret
    exact ⟨rfl, Below.refl _ _⟩
  · have hpos : 0 < s.size := by omega
    have hsl : (s.toList == []) = false := by
      rw [toList_data, beq_eq_false_iff_ne]; intro h; rw [h] at hll; simp at hll; omega
    by_cases h40 : 40 < s.size
    · have h40' : 40 < (s.size : Int) := by omega
      have HX : Hid (nameB s.data.toList = false) := Lib.hid (decide_eq_false fun h => by have := h.2.1; omega)
      go_enter Tryd.func13, Tryd.ntmps13
      go_wp2
      go_ret
      exact ⟨by rw [HX.out]; rfl, Below.refl _ _⟩
    · have h40' : ¬ 40 < (s.size : Int) := by omega
      have hd := fun w => digit3_any s[0] w
      have hh := head_at s hpos
      have hp' : (0 : Int) < (s.size : Int) := by omega
      cases hd0 : dgt s[0] with
      | true =>
        rw [hd0] at hd
        have D1 := Lib.hid hd
        have HX : Hid (nameB s.data.toList = false) := Lib.hid (decide_eq_false fun h => by have := h.2.2.1; rw [hh, hd0] at this; cases this)
        clear hd hh hd0
        go_enter Tryd.func13, Tryd.ntmps13
        go_wp2_with (go_at_call 31; (with_reducible refine (D1.out _).mono ?_); rintro e w1 ⟨rfl, rfl⟩)
        go_ret
        exact ⟨by rw [HX.out]; rfl, Below.refl _ _⟩
      | false =>
        rw [hd0] at hd
        have D1 := Lib.hid hd
        have hSc : Sc w.heap.size s 0 0 (w.alloc (.cells #[.string s, .int .i64 0, .int .i64 0] 53)) := heap_alloc_new w _
        have hT := take_word w.heap.size s 0 0 _ hs (Nat.zero_le _) hSc
        rw [List.drop_zero, Nat.zero_add] at hT
        have hle := cntP_le wrd s.data.toList
        have hbb : ∀ w', (w.alloc (.cells #[.string s, .int .i64 0, .int .i64 0] 53)).grownBy w' (some w.heap.size) → Below w.heap.size w w' := fun w' h => Below.grown ((Below.refl _ _).alloc (Nat.le_refl _) _) h (by simp) (fun k e => by cases e; exact Nat.le_refl _)
        by_cases hc : cntP wrd s.data.toList = s.size
        · rw [hc, ← hll, List.take_length, bs_of] at hT
          have T1 := Lib.hid hT
          have hk := fun w => keyword_any s w
          cases hk0 : key s.data.toList with
          | true =>
            rw [hk0] at hk
            have K1 := Lib.hid hk
            have HX : Hid (nameB s.data.toList = false) := Lib.hid (decide_eq_false fun h => by have := h.2.2.2.2; rw [hk0] at this; cases this)
            have HB := Lib.hid hbb
            clear hd hh hd0 hT hk hk0 hc hle hSc hbb
            go_enter Tryd.func13, Tryd.ntmps13
            go_wp2_with (first | (go_at_call 31; (with_reducible refine (D1.out _).mono ?_); rintro e w1 ⟨rfl, rfl⟩) | (go_at_call 32; (with_reducible refine (T1.out).mono ?_); rintro e w2 ⟨rfl, hs2, hg2⟩) | (go_at_call 14; (with_reducible refine (K1.out _).mono ?_); rintro e w3 ⟨rfl, rfl⟩))
            go_ret
            exact ⟨by rw [HX.out]; rfl, HB.out _ hg2⟩
          | false =>
            rw [hk0] at hk
            have K1 := Lib.hid hk
            have HX : Hid (nameB s.data.toList = true) := Lib.hid (decide_eq_true ⟨by omega, by omega, by rw [hh]; exact hd0, by rw [hll]; exact hc, hk0⟩)
            have HB := Lib.hid hbb
            clear hd hh hd0 hT hk hk0 hc hle hSc hbb
            go_enter Tryd.func13, Tryd.ntmps13
            go_wp2_with (first | (go_at_call 31; (with_reducible refine (D1.out _).mono ?_); rintro e w1 ⟨rfl, rfl⟩) | (go_at_call 32; (with_reducible refine (T1.out).mono ?_); rintro e w2 ⟨rfl, hs2, hg2⟩) | (go_at_call 14; (with_reducible refine (K1.out _).mono ?_); rintro e w3 ⟨rfl, rfl⟩))
            go_ret
            exact ⟨by rw [HX.out]; rfl, HB.out _ hg2⟩
        · have HX : Hid (nameB s.data.toList = false) := Lib.hid (decide_eq_false fun h => hc (by rw [h.2.2.2.1, hll]))
          obtain ⟨x, hx⟩ : ∃ x, bs (s.data.toList.take (cntP wrd s.data.toList)) = x := ⟨_, rfl⟩
          have hne : (x.toList == s.toList) = false := by
            rw [beq_eq_false_iff_ne, toList_data, toList_data, ← hx, bs_list]
            intro h
            have := congrArg List.length h
            rw [List.length_take, hll] at this
            omega
          rw [hx] at hT
          have T1 := Lib.hid hT
          have HB := Lib.hid hbb
          clear hd hh hd0 hT hc hle hSc hbb hx
          go_enter Tryd.func13, Tryd.ntmps13
          go_wp2_with (first | (go_at_call 31; (with_reducible refine (D1.out _).mono ?_); rintro e w1 ⟨rfl, rfl⟩) | (go_at_call 32; (with_reducible refine (T1.out).mono ?_); rintro e w2 ⟨rfl, hs2, hg2⟩))
          go_ret
          exact ⟨by rw [HX.out]; rfl, HB.out _ hg2⟩
end Go.Proofs.YtbcbddglgfakpaaDoor
