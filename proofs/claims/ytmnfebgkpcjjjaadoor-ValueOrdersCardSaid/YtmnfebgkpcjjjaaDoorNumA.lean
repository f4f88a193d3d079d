/- Contracts of layer 2: digits and the integers that they are. -/
import Derived.Test.YtmnfebgkpcjjjaaDoorRatE
import Derived.Test.YtmnfebgkpcjjjaaDoorNumQ
import Derived.Lib.Strings
namespace Go.Proofs.YtmnfebgkpcjjjaaDoor
open Go.RowKit M1 M2
set_option linter.unusedVariables false
theorem digit_any (n : Int) (h0 : 0 ≤ n) (h1 : n ≤ 255) (w : World) :
    Calls Tryd.prog 100 #[.int .u8 n] w fun e w' => e = .returned (.int .i64 (dg n)) ∧ w = w' := by
  go_enter Tryd.func100, Tryd.ntmps100
  go_wp2
  all_goals go_ret
  all_goals (refine ⟨ret_int ?_, rfl⟩; unfold dg; (repeat' split) <;> omega)
theorem at_drop (s : ByteArray) (k : Nat) (h : k < s.size) : s.data.toList.drop k = s[k] :: s.data.toList.drop (k + 1) := by
  rw [List.drop_eq_getElem_cons (by simpa using h)]; rfl
theorem drop_end (s : ByteArray) (k : Nat) (h : s.size ≤ k) : s.data.toList.drop k = [] := List.drop_eq_nil_of_le (by simpa using h)
theorem byte_bd (c : UInt8) : 0 ≤ (c.toNat : Int) ∧ (c.toNat : Int) ≤ 255 := by have := c.toNat_lt; omega

set_option maxHeartbeats 400000 in
theorem count_any (s : ByteArray) (b : Int) (w : World) (hs : s.size ≤ 4000000000) (hb : 0 ≤ b) (hb2 : b ≤ 16) :
    Calls Tryd.prog 90 #[.string s, .int .i64 b] w fun e w' => e = .returned (.int .i64 (cnt b s.data.toList : Int)) ∧ w = w' := by
  go_enter Tryd.func90, Tryd.ntmps90
  go_wp2
  go_loop [5, 6, 9] (fun _ _ i => ∃ k : Nat, k ≤ s.size ∧ i = .int .i64 k ∧ Hid (cnt b s.data.toList = k + cnt b (s.data.toList.drop k))) (fun _ _ i => s.size - (intOf i).toNat)
  case atStart => exact ⟨0, Nat.zero_le _, rfl, Lib.hid (by simp)⟩
  case round =>
    obtain ⟨k, hk, rfl, HC⟩ := hrel
    by_cases hlt : k < s.size
    · have hcb := byte_bd s[k]
      have hd := at_drop s k hlt
      have HD := Lib.hid hd
      clear hd
      cases hi : isd b s[k] with
      | true =>
        have hi' := isd_yes.1 hi
        have HI := Lib.hid hi
        clear hi
        unfold dgB at hi'
        obtain ⟨hi1, hi2⟩ := hi'
        go_wp2_with (go_at_call 100; refine (digit_any _ hcb.1 hcb.2 _).mono ?_; rintro e w' ⟨rfl, rfl⟩)
        go_round
        case rel =>
          refine ⟨k + 1, by omega, by go_num, Lib.hid ?_⟩
          rw [HC.out, HD.out, cnt_yes HI.out]; omega
        case measure => simp [intOf]; omega
      | false =>
        have HI := Lib.hid hi
        have hi' := isd_no.1 hi
        clear hi
        unfold dgB at hi'
        have hfin : cnt b s.data.toList = k := by rw [HC.out, HD.out, cnt_no HI.out, Nat.add_zero]
        have HF := Lib.hid hfin
        clear hfin
        by_cases hn : dg (s[k].toNat : Int) < 0
        · go_wp2_with (go_at_call 100; refine (digit_any _ hcb.1 hcb.2 _).mono ?_; rintro e w' ⟨rfl, rfl⟩)
          go_ret
          exact ⟨ret_int (by rw [HF.out]), rfl⟩
        · have hge : b ≤ dg (s[k].toNat : Int) := by omega
          go_wp2_with (go_at_call 100; refine (digit_any _ hcb.1 hcb.2 _).mono ?_; rintro e w' ⟨rfl, rfl⟩)
          go_ret
          exact ⟨ret_int (by rw [HF.out]), rfl⟩
    · go_wp2
      go_ret
      refine ⟨ret_int ?_, rfl⟩
      rw [HC.out, drop_end s k (by omega)]; simp [cnt]; omega

set_option maxHeartbeats 800000 in
theorem join_some (s : ByteArray) (b n m : Int) (w : World) (hs : s.size ≤ 4000000000) (hb : 2 ≤ b) (hb2 : b ≤ 16) (hn : 0 ≤ n) (hn2 : n ≤ 4611686018427387904) (ha : alld b s.data.toList) (hm : jn b n s.data.toList = some m) :
    Calls Tryd.prog 87 #[.int .i64 n, .string s, .int .i64 b] w fun e w' => e = .returned (.tuple #[.int .i64 m, .bool true]) ∧ w = w' := by
  have HM := Lib.hid hm
  have HA := Lib.hid ha
  clear hm ha
  go_enter Tryd.func87, Tryd.ntmps87
  go_wp2
  go_loop [0, 8, 9, 12] (fun n' _ _ i => ∃ (k : Nat) (t : Int), k ≤ s.size ∧ 0 ≤ t ∧ t ≤ 4611686018427387904 ∧ n' = .int .i64 t ∧ i = .int .i64 k ∧ Hid (jn b t (s.data.toList.drop k) = some m)) (fun n' _ _ i => s.size - (intOf i).toNat)
  case atStart => exact ⟨0, n, Nat.zero_le _, hn, hn2, rfl, rfl, Lib.hid HM.out⟩
  case round =>
    obtain ⟨k, t, hk, ht, ht2, rfl, rfl, HC⟩ := hrel
    by_cases hlt : k < s.size
    · have hcb := byte_bd s[k]
      have HD := Lib.hid (at_drop s k hlt)
      have hi' := isd_yes.1 (HA.out s[k] (by have := HD.out; exact List.mem_of_mem_drop (i := k) (by rw [this]; exact List.mem_cons_self ..)))
      unfold dgB at hi'
      obtain ⟨hi1, hi2⟩ := hi'
      have hd3 := dg_hi (s[k].toNat : Int)
      have HQ := Lib.hid (Int.tdiv_eq_ediv_of_nonneg (a := 4611686018427387904 - dg (s[k].toNat : Int)) (b := b) (by omega))
      have HS := Lib.hid (jn_step (b := b) (n := t) (d := dg (s[k].toNat : Int)) hb hi1 (by omega))

      by_cases hc : (4611686018427387904 - dg (s[k].toNat : Int)) / b < t
      · have HX : Hid (jn b t (s.data.toList.drop k) = none) := by
          apply Lib.hid; rw [HD.out]; apply jn_no; unfold dgB; rw [HQ.out]; exact hc
        have hbad : False := by
          have := HX.out; rw [HC.out] at this; cases this
        exact hbad.elim
      · have hc' : t ≤ (4611686018427387904 - dg (s[k].toNat : Int)) / b := by omega
        have hle : t * b + dg (s[k].toNat : Int) ≤ 4611686018427387904 := HS.out.1 (by rw [HQ.out]; exact hc)
        have hnn : 0 ≤ t * b := Int.mul_nonneg ht (by omega)
        have HX : Hid (jn b t (s.data.toList.drop k) = jn b (t * b + dg (s[k].toNat : Int)) (s.data.toList.drop (k + 1))) := by
          apply Lib.hid; rw [HD.out]; apply jn_yes; unfold dgB; rw [HQ.out]; exact hc
        clear HS HQ hc
        go_wp2_with (go_at_call 100; refine (digit_any _ hcb.1 hcb.2 _).mono ?_; rintro e w' ⟨rfl, rfl⟩)
        go_round
        case rel =>
          refine ⟨k + 1, t * b + dg (s[k].toNat : Int), by omega, by omega, hle, rfl, by go_num, Lib.hid ?_⟩
          rw [← HX.out]; exact HC.out
        case measure => simp [intOf]; omega
    · go_wp2
      go_ret2
      have := HC.out
      rw [drop_end s k (by omega)] at this
      simp only [jn, Option.some.injEq] at this
      subst this
      exact ⟨rfl, rfl⟩

set_option maxHeartbeats 800000 in
theorem join_none (s : ByteArray) (b n : Int) (w : World) (hs : s.size ≤ 4000000000) (hb : 2 ≤ b) (hb2 : b ≤ 16) (hn : 0 ≤ n) (hn2 : n ≤ 4611686018427387904) (ha : alld b s.data.toList) (hm : jn b n s.data.toList = none) :
    Calls Tryd.prog 87 #[.int .i64 n, .string s, .int .i64 b] w fun e w' => e = .returned (.tuple #[.int .i64 0, .bool false]) ∧ w = w' := by
  have HM := Lib.hid hm
  have HA := Lib.hid ha
  clear hm ha
  go_enter Tryd.func87, Tryd.ntmps87
  go_wp2
  go_loop [0, 8, 9, 12] (fun n' _ _ i => ∃ (k : Nat) (t : Int), k ≤ s.size ∧ 0 ≤ t ∧ t ≤ 4611686018427387904 ∧ n' = .int .i64 t ∧ i = .int .i64 k ∧ Hid (jn b t (s.data.toList.drop k) = none)) (fun n' _ _ i => s.size - (intOf i).toNat)
  case atStart => exact ⟨0, n, Nat.zero_le _, hn, hn2, rfl, rfl, Lib.hid HM.out⟩
  case round =>
    obtain ⟨k, t, hk, ht, ht2, rfl, rfl, HC⟩ := hrel
    by_cases hlt : k < s.size
    · have hcb := byte_bd s[k]
      have HD := Lib.hid (at_drop s k hlt)
      have hi' := isd_yes.1 (HA.out s[k] (by have := HD.out; exact List.mem_of_mem_drop (i := k) (by rw [this]; exact List.mem_cons_self ..)))
      unfold dgB at hi'
      obtain ⟨hi1, hi2⟩ := hi'
      have hd3 := dg_hi (s[k].toNat : Int)
      have HQ := Lib.hid (Int.tdiv_eq_ediv_of_nonneg (a := 4611686018427387904 - dg (s[k].toNat : Int)) (b := b) (by omega))
      have HS := Lib.hid (jn_step (b := b) (n := t) (d := dg (s[k].toNat : Int)) hb hi1 (by omega))

      by_cases hc : (4611686018427387904 - dg (s[k].toNat : Int)) / b < t
      · have HX : Hid (jn b t (s.data.toList.drop k) = none) := by
          apply Lib.hid; rw [HD.out]; apply jn_no; unfold dgB; rw [HQ.out]; exact hc
        clear HS HQ
        go_wp2_with (go_at_call 100; refine (digit_any _ hcb.1 hcb.2 _).mono ?_; rintro e w' ⟨rfl, rfl⟩)
        go_ret2
        exact ⟨rfl, rfl⟩
      · have hc' : t ≤ (4611686018427387904 - dg (s[k].toNat : Int)) / b := by omega
        have hle : t * b + dg (s[k].toNat : Int) ≤ 4611686018427387904 := HS.out.1 (by rw [HQ.out]; exact hc)
        have hnn : 0 ≤ t * b := Int.mul_nonneg ht (by omega)
        have HX : Hid (jn b t (s.data.toList.drop k) = jn b (t * b + dg (s[k].toNat : Int)) (s.data.toList.drop (k + 1))) := by
          apply Lib.hid; rw [HD.out]; apply jn_yes; unfold dgB; rw [HQ.out]; exact hc
        clear HS HQ hc
        go_wp2_with (go_at_call 100; refine (digit_any _ hcb.1 hcb.2 _).mono ?_; rintro e w' ⟨rfl, rfl⟩)
        go_round
        case rel =>
          refine ⟨k + 1, t * b + dg (s[k].toNat : Int), by omega, by omega, hle, rfl, by go_num, Lib.hid ?_⟩
          rw [← HX.out]; exact HC.out
        case measure => simp [intOf]; omega
    · have := HC.out
      rw [drop_end s k (by omega)] at this
      simp [jn] at this
end Go.Proofs.YtmnfebgkpcjjjaaDoor
