/- Contracts of layer 2: digits, in code and reference. -/
import Derived.Test.YtbdcmnhfmkefdaaGreatDoorNumA
namespace Go.Proofs.YtbdcmnhfmkefdaaGreatDoor
open Go.RowKit M1 M2
set_option linter.unusedVariables false

set_option maxHeartbeats 800000 in
theorem rjoin_some (s : ByteArray) (b m : Int) (w : World) (hs : s.size ≤ 4000000000) (hb : 2 ≤ b) (hb2 : b ≤ 16) (ha : alld b s.data.toList) (hm : jn b 0 s.data.toList = some m) :
    Calls Tryz.prog 117 #[.string s, .int .i64 b] w fun e w' => e = .returned (.tuple #[.int .i64 m, .bool true]) ∧ w = w' := by
  have HM := Lib.hid hm
  have HA := Lib.hid ha
  clear hm ha
  go_enter Tryz.func117, Tryz.ntmps117
  go_wp2
  go_loop [6, 7, 8] (fun n' i _ => ∃ (k : Nat) (t : Int), k ≤ s.size ∧ 0 ≤ t ∧ t ≤ 4611686018427387904 ∧ n' = .int .i64 t ∧ i = .int .i64 k ∧ Hid (jn b t (s.data.toList.drop k) = some m)) (fun n' i _ => s.size - (intOf i).toNat)
  case atStart => exact ⟨0, 0, Nat.zero_le _, Int.le_refl _, by omega, rfl, rfl, Lib.hid HM.out⟩
  case round =>
    obtain ⟨k, t, hk, ht, ht2, rfl, rfl, HC⟩ := hrel
    by_cases hlt : k < s.size
    · have hcb := byte_bd s[k]
      have HD := Lib.hid (at_drop s k hlt)
      have hi' := isd_yes.1 (HA.out s[k] (by have := HD.out; exact List.mem_of_mem_drop (i := k) (by rw [this]; exact List.mem_cons_self ..)))
      unfold dgB at hi'
      obtain ⟨hi1, hi2⟩ := hi'
      have hd3 := dg_hi (s[k].toNat : Int)
      have HQ := Lib.hid (Int.tdiv_eq_ediv_of_nonneg (a := 4611686018427387904 - dg (s[k].toNat : Int)) (b := b) (by omega))
      have HS := Lib.hid (jn_step (b := b) (n := t) (d := dg (s[k].toNat : Int)) hb hi1 (by omega))
      have hrd := rdg_pos hi1
      by_cases hc : (4611686018427387904 - dg (s[k].toNat : Int)) / b < t
      · have HX : Hid (jn b t (s.data.toList.drop k) = none) := by
          apply Lib.hid; rw [HD.out]; apply jn_no; unfold dgB; rw [HQ.out]; exact hc
        have hbad : False := by
          have := HX.out; rw [HC.out] at this; cases this
        exact hbad.elim
      · have hc' : t ≤ (4611686018427387904 - dg (s[k].toNat : Int)) / b := by omega
        have hle : t * b + dg (s[k].toNat : Int) ≤ 4611686018427387904 := HS.out.1 (by rw [HQ.out]; exact hc)
        have hnn : 0 ≤ t * b := Int.mul_nonneg ht (by omega)
        have HX : Hid (jn b t (s.data.toList.drop k) = jn b (t * b + dg (s[k].toNat : Int)) (s.data.toList.drop (k + 1))) := by
          apply Lib.hid; rw [HD.out]; apply jn_yes; unfold dgB; rw [HQ.out]; exact hc
        clear HS HQ hc
        go_wp2_with (go_at_call 115; refine (rdigit_any _ hcb.1 hcb.2 _).mono ?_; rintro e w' ⟨rfl, rfl⟩; rw [hrd])
        go_round
        case rel =>
          refine ⟨k + 1, t * b + dg (s[k].toNat : Int), by omega, by omega, hle, by go_num, by go_num, Lib.hid ?_⟩
          rw [← HX.out]; exact HC.out
        case measure => simp [intOf]; omega
    · go_wp2
      go_ret2
      have := HC.out
      rw [drop_end s k (by omega)] at this
      simp only [jn, Option.some.injEq] at this
      subst this
      exact ⟨rfl, rfl⟩

set_option maxHeartbeats 800000 in
theorem rjoin_none (s : ByteArray) (b : Int) (w : World) (hs : s.size ≤ 4000000000) (hb : 2 ≤ b) (hb2 : b ≤ 16) (ha : alld b s.data.toList) (hm : jn b 0 s.data.toList = none) :
    Calls Tryz.prog 117 #[.string s, .int .i64 b] w fun e w' => e = .returned (.tuple #[.int .i64 0, .bool false]) ∧ w = w' := by
  have HM := Lib.hid hm
  have HA := Lib.hid ha
  clear hm ha
  go_enter Tryz.func117, Tryz.ntmps117
  go_wp2
  go_loop [6, 7, 8] (fun n' i _ => ∃ (k : Nat) (t : Int), k ≤ s.size ∧ 0 ≤ t ∧ t ≤ 4611686018427387904 ∧ n' = .int .i64 t ∧ i = .int .i64 k ∧ Hid (jn b t (s.data.toList.drop k) = none)) (fun n' i _ => s.size - (intOf i).toNat)
  case atStart => exact ⟨0, 0, Nat.zero_le _, Int.le_refl _, by omega, rfl, rfl, Lib.hid HM.out⟩
  case round =>
    obtain ⟨k, t, hk, ht, ht2, rfl, rfl, HC⟩ := hrel
    by_cases hlt : k < s.size
    · have hcb := byte_bd s[k]
      have HD := Lib.hid (at_drop s k hlt)
      have hi' := isd_yes.1 (HA.out s[k] (by have := HD.out; exact List.mem_of_mem_drop (i := k) (by rw [this]; exact List.mem_cons_self ..)))
      unfold dgB at hi'
      obtain ⟨hi1, hi2⟩ := hi'
      have hd3 := dg_hi (s[k].toNat : Int)
      have HQ := Lib.hid (Int.tdiv_eq_ediv_of_nonneg (a := 4611686018427387904 - dg (s[k].toNat : Int)) (b := b) (by omega))
      have HS := Lib.hid (jn_step (b := b) (n := t) (d := dg (s[k].toNat : Int)) hb hi1 (by omega))
      have hrd := rdg_pos hi1
      by_cases hc : (4611686018427387904 - dg (s[k].toNat : Int)) / b < t
      · have HX : Hid (jn b t (s.data.toList.drop k) = none) := by
          apply Lib.hid; rw [HD.out]; apply jn_no; unfold dgB; rw [HQ.out]; exact hc
        clear HS HQ
        go_wp2_with (go_at_call 115; refine (rdigit_any _ hcb.1 hcb.2 _).mono ?_; rintro e w' ⟨rfl, rfl⟩; rw [hrd])
        go_ret2
        exact ⟨rfl, rfl⟩
      · have hc' : t ≤ (4611686018427387904 - dg (s[k].toNat : Int)) / b := by omega
        have hle : t * b + dg (s[k].toNat : Int) ≤ 4611686018427387904 := HS.out.1 (by rw [HQ.out]; exact hc)
        have hnn : 0 ≤ t * b := Int.mul_nonneg ht (by omega)
        have HX : Hid (jn b t (s.data.toList.drop k) = jn b (t * b + dg (s[k].toNat : Int)) (s.data.toList.drop (k + 1))) := by
          apply Lib.hid; rw [HD.out]; apply jn_yes; unfold dgB; rw [HQ.out]; exact hc
        clear HS HQ hc
        go_wp2_with (go_at_call 115; refine (rdigit_any _ hcb.1 hcb.2 _).mono ?_; rintro e w' ⟨rfl, rfl⟩; rw [hrd])
        go_round
        case rel =>
          refine ⟨k + 1, t * b + dg (s[k].toNat : Int), by omega, by omega, hle, by go_num, by go_num, Lib.hid ?_⟩
          rw [← HX.out]; exact HC.out
        case measure => simp [intOf]; omega
    · have := HC.out
      rw [drop_end s k (by omega)] at this
      simp [jn] at this

set_option maxHeartbeats 400000 in
theorem run_any (s : ByteArray) (a : Nat) (b : Int) (w : World) (hs : s.size ≤ 4000000000) (ha : a ≤ s.size) (hb : 0 ≤ b) (hb2 : b ≤ 16) :
    Calls Tryz.prog 116 #[.string s, .int .i64 a, .int .i64 b] w fun e w' => e = .returned (.int .i64 ((a + cnt b (s.data.toList.drop a) : Nat) : Int)) ∧ w = w' := by
  go_enter Tryz.func116, Tryz.ntmps116
  go_wp2
  go_loop [1] (fun i => ∃ k : Nat, k ≤ s.size ∧ i = .int .i64 k ∧ Hid (a + cnt b (s.data.toList.drop a) = k + cnt b (s.data.toList.drop k))) (fun i => s.size - (intOf i).toNat)
  case atStart => exact ⟨a, ha, rfl, Lib.hid rfl⟩
  case round =>
    obtain ⟨k, hk, rfl, HC⟩ := hrel
    by_cases hlt : k < s.size
    · have hcb := byte_bd s[k]
      have HD := Lib.hid (at_drop s k hlt)
      have hlo := dg_lo (s[k].toNat : Int)
      cases hi : isd b s[k] with
      | true =>
        have hi' := isd_yes.1 hi
        have HI := Lib.hid hi
        clear hi
        unfold dgB at hi'
        obtain ⟨hi1, hi2⟩ := hi'
        have hrd := rdg_pos hi1
        go_wp2_with (go_at_call 115; refine (rdigit_any _ hcb.1 hcb.2 _).mono ?_; rintro e w' ⟨rfl, rfl⟩; rw [hrd])
        go_round
        case rel =>
          refine ⟨k + 1, by omega, by go_num, Lib.hid ?_⟩
          rw [HC.out, HD.out, cnt_yes HI.out]; omega
        case measure => simp [intOf]; omega
      | false =>
        have HI := Lib.hid hi
        have hi' := isd_no.1 hi
        clear hi
        unfold dgB at hi'
        have HF : Hid (a + cnt b (s.data.toList.drop a) = k) := by
          apply Lib.hid; rw [HC.out, HD.out, cnt_no HI.out, Nat.add_zero]
        have hge : b ≤ rdg (s[k].toNat : Int) := by
          unfold rdg; split <;> omega
        go_wp2_with (go_at_call 115; refine (rdigit_any _ hcb.1 hcb.2 _).mono ?_; rintro e w' ⟨rfl, rfl⟩)
        go_ret
        exact ⟨ret_int (by rw [HF.out]), rfl⟩
    · go_wp2
      go_ret
      refine ⟨ret_int ?_, rfl⟩
      have := HC.out
      rw [drop_end s k (by omega)] at this
      simp only [cnt] at this
      omega

theorem power_any (n : Nat) (w : World) (hn : n ≤ 18) :
    Calls Tryz.prog 119 #[.int .i64 n] w fun e w' => e = .returned (.int .i64 ((10 : Int) ^ n)) ∧ w = w' := by
  go_enter Tryz.func119, Tryz.ntmps119
  go_wp2
  go_loop [3, 4] (fun p i => ∃ (k P : Nat), k ≤ n ∧ p = .int .i64 P ∧ i = .int .i64 k ∧ Hid (P = 10 ^ k) ∧ P ≤ 1000000000000000000) (fun _ i => n - (intOf i).toNat)
  case atStart => exact ⟨0, 1, Nat.zero_le _, rfl, rfl, Lib.hid rfl, by omega⟩
  case round =>
    obtain ⟨k, P, hk, rfl, rfl, HP, hP⟩ := hrel
    by_cases hlt : k < n
    · have hP2 : P * 10 ≤ 1000000000000000000 := by
        have h1 := HP.out
        have : 10 ^ (k + 1) ≤ 10 ^ 18 := Nat.pow_le_pow_right (by omega) (by omega)
        rw [Nat.pow_succ] at this
        omega
      go_wp2
      go_round
      case rel =>
        refine ⟨k + 1, P * 10, by omega, by go_num, by go_num, Lib.hid ?_, hP2⟩
        rw [HP.out, Nat.pow_succ]
      case measure => simp [intOf]; omega
    · obtain rfl : k = n := by omega
      go_wp2
      go_ret
      exact ⟨ret_int (by rw [HP.out]; push_cast; rfl), rfl⟩

theorem alld_any (s : ByteArray) (w : World) (hs : s.size ≤ 4000000000) :
    Calls Tryz.prog 154 #[.string s] w fun e w' => e = .returned (.bool (okd s.data.toList)) ∧ w = w' := by
  have hle := cnt_le 10 s.data.toList
  have hl : s.data.toList.length = s.size := by simp
  rw [hl] at hle
  by_cases h1 : 0 < cnt 10 s.data.toList
  · by_cases h2 : cnt 10 s.data.toList = s.size
    · have e := Lib.hid (show okd s.data.toList = true by unfold okd; rw [decide_eq_true_iff, hl]; exact ⟨h1, h2⟩)
      have h3 : ((cnt 10 s.data.toList : Int) == (s.size : Int)) = true := by rw [beq_iff_eq]; omega
      clear h2
      go_enter Tryz.func154, Tryz.ntmps154
      go_wp2_with (go_at_call 157; refine (count_any _ _ _ hs (by omega) (by omega)).mono ?_; rintro e w' ⟨rfl, rfl⟩)
      go_ret
      exact ⟨by rw [e.out]; rfl, rfl⟩
    · have e := Lib.hid (show okd s.data.toList = false by unfold okd; rw [decide_eq_false_iff_not, hl]; exact fun h => h2 h.2)
      have h3 : ((cnt 10 s.data.toList : Int) == (s.size : Int)) = false := by rw [beq_eq_false_iff_ne]; omega
      clear h2
      go_enter Tryz.func154, Tryz.ntmps154
      go_wp2_with (go_at_call 157; refine (count_any _ _ _ hs (by omega) (by omega)).mono ?_; rintro e w' ⟨rfl, rfl⟩)
      go_ret
      exact ⟨by rw [e.out]; rfl, rfl⟩
  · have e := Lib.hid (show okd s.data.toList = false by unfold okd; rw [decide_eq_false_iff_not]; exact fun h => h1 h.1)
    go_enter Tryz.func154, Tryz.ntmps154
    go_wp2_with (go_at_call 157; refine (count_any _ _ _ hs (by omega) (by omega)).mono ?_; rintro e w' ⟨rfl, rfl⟩)
    go_ret
    exact ⟨by rw [e.out]; rfl, rfl⟩

theorem rdigits_any (s : ByteArray) (w : World) (hs : s.size ≤ 4000000000) :
    Calls Tryz.prog 134 #[.string s] w fun e w' => e = .returned (.bool (okd s.data.toList)) ∧ w = w' := by
  have hle := cnt_le 10 s.data.toList
  have hl : s.data.toList.length = s.size := by simp
  rw [hl] at hle
  have H := run_any s 0 10 w hs (Nat.zero_le _) (by omega) (by omega)
  simp only [List.drop_zero, Nat.zero_add] at H
  have H0 : Calls Tryz.prog 116 #[.string s, .int .i64 0, .int .i64 10] w fun e w' => e = .returned (.int .i64 (cnt 10 s.data.toList : Int)) ∧ w = w' := H
  have HR := Lib.hid H0
  clear H H0
  by_cases h0 : s.data.toList = []
  · have e := Lib.hid (show okd s.data.toList = false by unfold okd; rw [decide_eq_false_iff_not, h0]; simp [cnt])
    have h3 : s.toList = [] := by rw [Lib.toList_data]; exact h0
    clear h0 hl hle
    go_enter Tryz.func134, Tryz.ntmps134
    go_wp2
    go_ret
    exact ⟨by rw [e.out]; rfl, rfl⟩
  · have h3 : (!s.toList.isEmpty) = true := by rw [Lib.toList_data]; simpa using h0
    have h4 : s.toList.isEmpty = false := by rw [Lib.toList_data]; simpa using h0
    by_cases h2 : cnt 10 s.data.toList = s.size
    · have hp : 0 < s.size := by
        rcases Nat.eq_zero_or_pos s.size with hz | hz
        · rw [← hl] at hz; exact absurd (List.length_eq_zero_iff.1 hz) h0
        · exact hz
      have e := Lib.hid (show okd s.data.toList = true by unfold okd; rw [decide_eq_true_iff, hl]; omega)
      have h5 : ((cnt 10 s.data.toList : Int) == (s.size : Int)) = true := by rw [beq_iff_eq]; omega
      clear h2 h0 hl
      go_enter Tryz.func134, Tryz.ntmps134
      go_wp2_with (go_at_call 116; refine HR.out.mono ?_; rintro e w' ⟨rfl, rfl⟩)
      go_ret
      exact ⟨by rw [e.out]; rfl, rfl⟩
    · have e := Lib.hid (show okd s.data.toList = false by unfold okd; rw [decide_eq_false_iff_not, hl]; exact fun h => h2 h.2)
      have h5 : ((cnt 10 s.data.toList : Int) == (s.size : Int)) = false := by rw [beq_eq_false_iff_ne]; omega
      clear h2 h0 hl
      go_enter Tryz.func134, Tryz.ntmps134
      go_wp2_with (go_at_call 116; refine HR.out.mono ?_; rintro e w' ⟨rfl, rfl⟩)
      go_ret
      exact ⟨by rw [e.out]; rfl, rfl⟩
end Go.Proofs.YtbdcmnhfmkefdaaGreatDoor
