/- Contracts of layer 2: the reference's Parse and Scan. -/
import Derived.Test.YtbdcmnhfmkefdaaGreatDoorNumH
namespace Go.Proofs.YtbdcmnhfmkefdaaGreatDoor
open Go.RowKit M1 M2
set_option linter.unusedVariables false

theorem ext_nil (s : ByteArray) (k : Nat) : s.extract k k = ByteArray.empty := by simp
theorem u8_ne {c d : UInt8} (h : ((c.toNat : Int) == (d.toNat : Int)) = false) : c ≠ d := by
  rintro rfl; simp at h

theorem blank_any (c : UInt8) (w : World) :
    Calls Tryz.prog 132 #[.int .u8 (c.toNat : Int)] w fun e w' => e = .returned (.bool (blk c)) ∧ w = w' := by
  have hcb := byte_bd c
  cases c32 : ((c.toNat : Int) == 32) with
  | true =>
    have HX : Hid (blk c = true) := Lib.hid ((blk_iff c).2 (.inl (UInt8.toNat_inj.1 (by have := beq_iff_eq.1 c32; show c.toNat = 32; omega))))
    go_enter Tryz.func132, Tryz.ntmps132
    go_wp2
    go_ret
    exact ⟨by rw [HX.out]; rfl, rfl⟩
  | false =>
    cases c9 : ((c.toNat : Int) == 9) with
    | true =>
      have HX : Hid (blk c = true) := Lib.hid ((blk_iff c).2 (.inr (.inl (UInt8.toNat_inj.1 (by have := beq_iff_eq.1 c9; show c.toNat = 9; omega)))))
      go_enter Tryz.func132, Tryz.ntmps132
      go_wp2
      go_ret
      exact ⟨by rw [HX.out]; rfl, rfl⟩
    | false =>
      cases c10 : ((c.toNat : Int) == 10) with
      | true =>
        have HX : Hid (blk c = true) := Lib.hid ((blk_iff c).2 (.inr (.inr (.inl (UInt8.toNat_inj.1 (by have := beq_iff_eq.1 c10; show c.toNat = 10; omega))))))
        go_enter Tryz.func132, Tryz.ntmps132
        go_wp2
        go_ret
        exact ⟨by rw [HX.out]; rfl, rfl⟩
      | false =>
        cases c13 : ((c.toNat : Int) == 13) with
        | true =>
          have HX : Hid (blk c = true) := Lib.hid ((blk_iff c).2 (.inr (.inr (.inr ((UInt8.toNat_inj.1 (by have := beq_iff_eq.1 c13; show c.toNat = 13; omega)))))))
          go_enter Tryz.func132, Tryz.ntmps132
          go_wp2
          go_ret
          exact ⟨by rw [HX.out]; rfl, rfl⟩
        | false =>
          have HX : Hid (blk c = false) := Lib.hid (Bool.eq_false_iff.2 fun h => by
            rcases (blk_iff c).1 h with h | h | h | h
            · exact u8_ne (d := 32) c32 h
            · exact u8_ne (d := 9) c9 h
            · exact u8_ne (d := 10) c10 h
            · exact u8_ne (d := 13) c13 h
          )
          go_enter Tryz.func132, Tryz.ntmps132
          go_wp2
          go_ret
          exact ⟨by rw [HX.out]; rfl, rfl⟩

set_option maxHeartbeats 800000 in
theorem rtrim_any (s : ByteArray) (w : World) (hs : s.size ≤ 4000000000) :
    Calls Tryz.prog 113 #[.string s] w fun e w' => e = .returned (.string (mkB (trm s.data.toList))) ∧ w = w' := by
  go_enter Tryz.func113, Tryz.ntmps113
  go_wp2
  go_loop [3] (fun i => ∃ k : Nat, k ≤ s.size ∧ i = .int .i64 k ∧ Hid (∀ (j : Nat) c, j < k → s.data.toList[j]? = some c → blk c = true)) (fun i => s.size - (intOf i).toNat)
  case atStart => exact ⟨0, Nat.zero_le _, rfl, Lib.hid (fun j c hj => by omega)⟩
  case round =>
    obtain ⟨k, hk, rfl, HC⟩ := hrel
    by_cases hgo : ∃ h : k < s.size, blk s[k] = true
    · obtain ⟨hlt, hb⟩ := hgo
      have B1 : Hid (∀ w, Calls Tryz.prog 132 #[.int .u8 (s[k].toNat : Int)] w fun e w' => e = .returned (.bool true) ∧ w = w') := Lib.hid fun w => (blank_any s[k] w).mono fun e w' ⟨h1, h2⟩ => ⟨by rw [h1, hb], h2⟩
      have HN : Hid (∀ (j : Nat) c, j < k + 1 → s.data.toList[j]? = some c → blk c = true) := Lib.hid fun j c hj hc => by
        by_cases hjk : j < k
        · exact HC.out j c hjk hc
        · obtain rfl : j = k := by omega
          rw [List.getElem?_eq_getElem (by simpa using hlt)] at hc
          rw [← Option.some.inj hc]; exact hb
      clear hb HC
      go_wp2_with (go_at_call 132; (with_reducible refine (B1.out _).mono ?_); rintro e w' ⟨rfl, rfl⟩)
      go_round
      case rel => exact ⟨k + 1, by omega, by go_num, HN⟩
      case measure => simp [intOf]; omega
    · have HE : Hid (∀ c, s.data.toList[k]? = some c → blk c = false) := Lib.hid fun c hc => by
        by_cases hlt : k < s.size
        · rw [List.getElem?_eq_getElem (by simpa using hlt)] at hc
          have h2 : blk s[k] = false := by
            cases h3 : blk s[k] with
            | true => exact absurd ⟨hlt, h3⟩ hgo
            | false => rfl
          rw [← Option.some.inj hc]; exact h2
        · rw [List.getElem?_eq_none (by rw [list_size]; omega)] at hc; cases hc
      have HG := Lib.hid hgo
      clear hgo
      by_cases hlt : k < s.size
      · have hb : blk s[k] = false := HE.out _ (by rw [List.getElem?_eq_getElem (by simpa using hlt)]; rfl)
        have B1 : Hid (∀ w, Calls Tryz.prog 132 #[.int .u8 (s[k].toNat : Int)] w fun e w' => e = .returned (.bool false) ∧ w = w') := Lib.hid fun w => (blank_any s[k] w).mono fun e w' ⟨h1, h2⟩ => ⟨by rw [h1, hb], h2⟩
        clear hb
        go_wp2_with (go_at_call 132; (with_reducible refine (B1.out _).mono ?_); rintro e w' ⟨rfl, rfl⟩)
        go_loop [4] (fun i => ∃ t : Nat, k ≤ t ∧ t ≤ s.size ∧ i = .int .i64 t ∧ Hid (∀ (j : Nat) c, t ≤ j → s.data.toList[j]? = some c → blk c = true)) (fun i => (intOf i).toNat)
        case atStart => exact ⟨s.size, hk, Nat.le_refl _, rfl, Lib.hid (fun j c hj hc => by rw [List.getElem?_eq_none (by rw [list_size]; omega)] at hc; cases hc)⟩
        case round =>
          obtain ⟨t, ht1, ht2, rfl, HD⟩ := hrel
          have HR : Hid ((k < t → ∀ c, s.data.toList[t - 1]? = some c → blk c = false) → Ending.returned (.string (s.extract k t)) = .returned (.string (mkB (trm s.data.toList)))) := Lib.hid fun h => by
            rw [trm_of s.data.toList k t ht1 (by rw [list_size]; exact ht2) HC.out (fun _ => HE.out) HD.out h, ext_mk]
          by_cases htk : k < t
          · obtain ⟨u, rfl⟩ : ∃ u, t = u + 1 := ⟨t - 1, by omega⟩
            have hu : u < s.size := by omega
            cases hb : blk s[u] with
            | true =>
              have B1 : Hid (∀ w, Calls Tryz.prog 132 #[.int .u8 (s[u].toNat : Int)] w fun e w' => e = .returned (.bool true) ∧ w = w') := Lib.hid fun w => (blank_any s[u] w).mono fun e w' ⟨h1, h2⟩ => ⟨by rw [h1, hb], h2⟩
              have HN : Hid (∀ (j : Nat) c, u ≤ j → s.data.toList[j]? = some c → blk c = true) := Lib.hid fun j c hj hc => by
                by_cases hju : u + 1 ≤ j
                · exact HD.out j c hju hc
                · obtain rfl : j = u := by omega
                  rw [List.getElem?_eq_getElem (by simpa using hu)] at hc
                  rw [← Option.some.inj hc]; exact hb
              clear hb
              go_wp2_with (go_at_call 132; (with_reducible refine (B1.out _).mono ?_); rintro e w' ⟨rfl, rfl⟩)
              go_round
              case rel => exact ⟨u, by omega, by omega, by go_num, HN⟩
              case measure => simp [intOf]
            | false =>
              have B1 : Hid (∀ w, Calls Tryz.prog 132 #[.int .u8 (s[u].toNat : Int)] w fun e w' => e = .returned (.bool false) ∧ w = w') := Lib.hid fun w => (blank_any s[u] w).mono fun e w' ⟨h1, h2⟩ => ⟨by rw [h1, hb], h2⟩
              have HF := Lib.hid hb
              clear hb
              go_wp2_with (go_at_call 132; (with_reducible refine (B1.out _).mono ?_); rintro e w' ⟨rfl, rfl⟩)
              go_ret
              exact ⟨HR.out (fun _ c hc => by
                rw [Nat.add_sub_cancel, List.getElem?_eq_getElem (by simpa using hu)] at hc
                rw [← Option.some.inj hc]; exact HF.out), rfl⟩
          · obtain rfl : k = t := by omega
            go_wp2
            go_ret
            have hfin := HR.out (fun h => by omega)
            rw [ext_nil] at hfin
            exact ⟨hfin, rfl⟩
      · go_wp2
        go_loop [4] (fun i => ∃ t : Nat, k ≤ t ∧ t ≤ s.size ∧ i = .int .i64 t ∧ Hid (∀ (j : Nat) c, t ≤ j → s.data.toList[j]? = some c → blk c = true)) (fun i => (intOf i).toNat)
        case atStart => exact ⟨s.size, hk, Nat.le_refl _, rfl, Lib.hid (fun j c hj hc => by rw [List.getElem?_eq_none (by rw [list_size]; omega)] at hc; cases hc)⟩
        case round =>
          obtain ⟨t, ht1, ht2, rfl, HD⟩ := hrel
          have HR : Hid ((k < t → ∀ c, s.data.toList[t - 1]? = some c → blk c = false) → Ending.returned (.string (s.extract k t)) = .returned (.string (mkB (trm s.data.toList)))) := Lib.hid fun h => by
            rw [trm_of s.data.toList k t ht1 (by rw [list_size]; exact ht2) HC.out (fun _ => HE.out) HD.out h, ext_mk]
          by_cases htk : k < t
          · exfalso; omega
          · obtain rfl : k = t := by omega
            go_wp2
            go_ret
            have hfin := HR.out (fun h => by omega)
            rw [ext_nil] at hfin
            exact ⟨hfin, rfl⟩

theorem slash_yes (s : ByteArray) (k : Nat) (w : World) (hs : s.size ≤ 4000000000) (hk : k < s.size) (h : s.data.toList[k]? = some 47) (hn : ∀ j : Nat, j < k → s.data.toList[j]? ≠ some 47) :
    Calls Tryz.prog 133 #[.string s] w fun e w' => e = .returned (.int .i64 k) ∧ w = w' := by
  have HY := Lib.hid h
  have HN := Lib.hid hn
  clear h hn
  go_enter Tryz.func133, Tryz.ntmps133
  go_wp2
  go_loop [3] (fun i => ∃ j : Nat, j ≤ k ∧ i = .int .i64 j) (fun i => k - (intOf i).toNat)
  case atStart => exact ⟨0, Nat.zero_le _, rfl⟩
  case round =>
    obtain ⟨j, hj, rfl⟩ := hrel
    have b := byte_iff s j (by omega) 47
    by_cases hjk : j = k
    · subst hjk
      have c : ((s[j].toNat : Int) == 47) = true := b.1 HY.out
      clear b
      go_wp2
      go_ret
      exact ⟨rfl, rfl⟩
    · have c : ((s[j].toNat : Int) == 47) = false := by
        cases hc : ((s[j].toNat : Int) == 47) with
        | true => exact absurd (b.2 hc) (HN.out j (by omega))
        | false => rfl
      clear b
      go_wp2
      go_round
      case rel => exact ⟨j + 1, by omega, by go_num⟩
      case measure => simp [intOf]; omega
theorem slash_no (s : ByteArray) (w : World) (hs : s.size ≤ 4000000000) (hn : ∀ j : Nat, s.data.toList[j]? ≠ some 47) :
    Calls Tryz.prog 133 #[.string s] w fun e w' => e = .returned (.int .i64 (-1)) ∧ w = w' := by
  have HN := Lib.hid hn
  clear hn
  go_enter Tryz.func133, Tryz.ntmps133
  go_wp2
  go_loop [3] (fun i => ∃ j : Nat, j ≤ s.size ∧ i = .int .i64 j) (fun i => s.size - (intOf i).toNat)
  case atStart => exact ⟨0, Nat.zero_le _, rfl⟩
  case round =>
    obtain ⟨j, hj, rfl⟩ := hrel
    by_cases hjk : j < s.size
    · have b := byte_iff s j (by omega) 47
      have c : ((s[j].toNat : Int) == 47) = false := by
        cases hc : ((s[j].toNat : Int) == 47) with
        | true => exact absurd (b.2 hc) (HN.out j)
        | false => rfl
      clear b
      go_wp2
      go_round
      case rel => exact ⟨j + 1, by omega, by go_num⟩
      case measure => simp [intOf]; omega
    · go_wp2
      go_ret
      exact ⟨rfl, rfl⟩
theorem slash_first (l : List UInt8) : (∀ j : Nat, l[j]? ≠ some 47) ∨ ∃ k, k < l.length ∧ l[k]? = some 47 ∧ ∀ j : Nat, j < k → l[j]? ≠ some 47 := by
  induction l with
  | nil => left; intro j; simp
  | cons c cs ih =>
    by_cases hc : c = 47
    · right; exact ⟨0, by simp, by simp [hc], fun j hj => by omega⟩
    · rcases ih with h | ⟨k, h1, h2, h3⟩
      · left; intro j
        cases j with
        | zero => simp; exact hc
        | succ j => simpa using h j
      · right
        refine ⟨k + 1, by simpa using h1, by simpa using h2, fun j hj => ?_⟩
        cases j with
        | zero => simp; exact hc
        | succ j => simpa using h3 j (by omega)
end Go.Proofs.YtbdcmnhfmkefdaaGreatDoor
