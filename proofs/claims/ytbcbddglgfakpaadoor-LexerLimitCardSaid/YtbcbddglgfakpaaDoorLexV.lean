/- Contracts of layer 3: the reference's names. -/
import Derived.Test.YtbcbddglgfakpaaDoorLexU
namespace Go.Proofs.YtbcbddglgfakpaaDoor
open Go.RowKit M3
set_option linter.unusedVariables false
set_option maxHeartbeats 2000000 in
theorem rname3_any (s : ByteArray) (w : World) (hs : s.size ≤ 4000000000) :
    Calls Tryd.prog 15 #[.string s] w fun e w' => e = .returned (.bool (nameB s.data.toList)) ∧ w = w' := by
  have hll : s.data.toList.length = s.size := by simp
  by_cases h0 : s.size = 0
  · have he : s = ⟨#[]⟩ := by apply ByteArray.ext; apply Array.eq_empty_of_size_eq_zero; exact h0
    subst he
    go_enter Tryd.func15, Tryd.ntmps15
    go_wp2
    go_ret
    exact ⟨rfl, rfl⟩
  · have hpos : 0 < s.size := by omega
    have hz : ((s.size : Int) == 0) = false := by rw [beq_eq_false_iff_ne]; omega
    by_cases h40 : 40 < s.size
    · have h40' : 40 < (s.size : Int) := by omega
      have HX : Hid (nameB s.data.toList = false) := Lib.hid (decide_eq_false fun h => by have := h.2.1; omega)
      go_enter Tryd.func15, Tryd.ntmps15
      go_wp2
      go_ret
      exact ⟨by rw [HX.out]; rfl, rfl⟩
    · have h40' : ¬ 40 < (s.size : Int) := by omega
      have hd := fun w => rdigit3_any s[0] w
      have hh := head_at s hpos
      have hp' : (0 : Int) < (s.size : Int) := by omega
      cases hd0 : dgt s[0] with
      | true =>
        rw [hd0] at hd
        have D1 := Lib.hid hd
        have HX : Hid (nameB s.data.toList = false) := Lib.hid (decide_eq_false fun h => by have := h.2.2.1; rw [hh, hd0] at this; cases this)
        clear hd hh hd0
        go_enter Tryd.func15, Tryd.ntmps15
        go_wp2_with (go_at_call 34; (with_reducible refine (D1.out _).mono ?_); rintro e w1 ⟨rfl, rfl⟩)
        go_ret
        exact ⟨by rw [HX.out]; rfl, rfl⟩
      | false =>
        rw [hd0] at hd
        have D1 := Lib.hid hd
        have hk := fun w => rkeyword_any s w
        cases hk0 : key s.data.toList with
        | true =>
          rw [hk0] at hk
          have K1 := Lib.hid hk
          have HX : Hid (nameB s.data.toList = false) := Lib.hid (decide_eq_false fun h => by have := h.2.2.2.2; rw [hk0] at this; cases this)
          clear hd hh hd0 hk hk0
          go_enter Tryd.func15, Tryd.ntmps15
          go_wp2_with (first | (go_at_call 34; (with_reducible refine (D1.out _).mono ?_); rintro e w1 ⟨rfl, rfl⟩) | (go_at_call 16; (with_reducible refine (K1.out _).mono ?_); rintro e w3 ⟨rfl, rfl⟩))
          go_ret
          exact ⟨by rw [HX.out]; rfl, rfl⟩
        | false =>
          rw [hk0] at hk
          have K1 := Lib.hid hk
          have HB : Hid (cntP wrd s.data.toList = s.size → nameB s.data.toList = true) := Lib.hid fun hc => decide_eq_true ⟨by omega, by omega, by rw [hh]; exact hd0, by rw [hll]; exact hc, hk0⟩
          have HF : Hid (cntP wrd s.data.toList ≠ s.size → nameB s.data.toList = false) := Lib.hid fun hc => decide_eq_false fun h => hc (by rw [h.2.2.2.1, hll])
          clear hd hh hd0 hk hk0
          go_enter Tryd.func15, Tryd.ntmps15
          go_wp2_with (first | (go_at_call 34; (with_reducible refine (D1.out _).mono ?_); rintro e w1 ⟨rfl, rfl⟩) | (go_at_call 16; (with_reducible refine (K1.out _).mono ?_); rintro e w3 ⟨rfl, rfl⟩))
          go_loop [3] (fun v3 => ∃ k : Nat, k ≤ s.size ∧ v3 = .int .i64 (k : Int) ∧ Hid (cntP wrd s.data.toList = k + cntP wrd (s.data.toList.drop k))) (fun v3 => s.size - (intOf v3).toNat)
          case atStart => exact ⟨0, Nat.zero_le _, rfl, Lib.hid (by simp)⟩
          case round =>
            obtain ⟨k, hk, rfl, HC⟩ := hrel
            by_cases hlt : k < s.size
            · have hlt' : (k : Int) < (s.size : Int) := by omega
              have hcb := byte_bd3 s[k]
              have hcd := cntP_drop (P := wrd) (l := s.data.toList) (k := k) (by omega)
              have hse : s.data.toList[k]'(by omega) = s[k] := by simp; rfl
              rw [hse] at hcd
              have hw := fun w => rword_any s[k] w
              cases hP : wrd s[k] with
              | true =>
                rw [hP] at hw
                have W1 := Lib.hid hw
                rw [if_pos hP] at hcd
                have HN : Hid (cntP wrd s.data.toList = (k + 1) + cntP wrd (s.data.toList.drop (k + 1))) := Lib.hid (by rw [HC.out, hcd]; omega)
                clear hcd HC hse hw hP
                go_wp2_with (go_at_call 35; (with_reducible refine (W1.out _).mono ?_); rintro e w4 ⟨rfl, rfl⟩)
                go_round
                case rel => exact ⟨k + 1, by omega, by go_num, HN⟩
                case measure => simp [intOf]; omega
              | false =>
                rw [hP] at hw
                have W1 := Lib.hid hw
                rw [if_neg (by simp [hP])] at hcd
                have HX : Hid (nameB s.data.toList = false) := Lib.hid (HF.out (by rw [HC.out, hcd]; omega))
                clear hcd HC hse hw hP
                go_wp2_with (go_at_call 35; (with_reducible refine (W1.out _).mono ?_); rintro e w4 ⟨rfl, rfl⟩)
                go_ret
                exact ⟨by rw [HX.out]; rfl, rfl⟩
            · have hlt' : ¬ (k : Int) < (s.size : Int) := by omega
              have HX : Hid (nameB s.data.toList = true) := Lib.hid (HB.out (by rw [HC.out, cntP_len (by omega)]; omega))
              clear HC
              go_wp2
              go_ret
              exact ⟨by rw [HX.out]; rfl, rfl⟩
end Go.Proofs.YtbcbddglgfakpaaDoor
