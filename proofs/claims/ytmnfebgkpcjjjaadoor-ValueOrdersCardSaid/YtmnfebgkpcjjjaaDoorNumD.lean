/- Contracts of layer 2: numerals that are recognised (measure). -/
import Derived.Test.YtmnfebgkpcjjjaaDoorNumC
import Derived.StillTailTactics
namespace Go.Proofs.YtmnfebgkpcjjjaaDoor
open Go.RowKit M1 M2
set_option linter.unusedVariables false

theorem pre_fact (s p : ByteArray) (b : Bool) (h : Lib.hasPrefix s.data.toList p.data.toList = b) : Hid (∀ w, Calls Tryd.prog 89 #[.string s, .string p] w fun e w' => e = .returned (.bool b) ∧ w = w') :=
  Lib.hid fun w => (pre_any s p w).mono fun e w' ⟨he, hw⟩ => ⟨by rw [he, ← h], hw⟩
theorem count_fact (s : ByteArray) (b : Int) (n a : Nat) (hs : s.size ≤ 4000000000) (hb : 0 ≤ b) (hb2 : b ≤ 16) (h : cnt b (s.data.toList.drop a) = n) :
    Hid (∀ w, Calls Tryd.prog 90 #[.string (s.extract a s.size), .int .i64 b] w fun e w' => e = .returned (.int .i64 (n : Int)) ∧ w = w') :=
  Lib.hid fun w => by
    have := count_any (s.extract a s.size) b w (by simp; omega) hb hb2
    rw [ext_end, mkB_list, h] at this
    rw [ext_end]; exact this
theorem count_fact0 (s : ByteArray) (b : Int) (n : Nat) (hs : s.size ≤ 4000000000) (hb : 0 ≤ b) (hb2 : b ≤ 16) (h : cnt b s.data.toList = n) :
    Hid (∀ w, Calls Tryd.prog 90 #[.string s, .int .i64 b] w fun e w' => e = .returned (.int .i64 (n : Int)) ∧ w = w') :=
  Lib.hid fun w => by
    have := count_any s b w hs hb hb2
    rw [h] at this; exact this

set_option maxHeartbeats 400000 in
theorem measure_hex1 (s : ByteArray) (w : World) (hs : s.size ≤ 4000000000) (h : hexp s.data.toList = true) (hp1 : Lib.hasPrefix s.data.toList [48, 120] = true) (hp2 : Lib.hasPrefix s.data.toList [48, 88] = false) :
    Calls Tryd.prog 74 #[.string s] w fun e w' => e = .returned (msV (meas s.data.toList)) ∧ Below w.heap.size w w' := by
  obtain ⟨_, hpos⟩ := (hexp_iff _).1 h
  have hl2 := pre2_len hp1
  rw [list_size] at hl2
  have hcl := cnt_le 16 (s.data.toList.drop 2)
  rw [List.length_drop, list_size] at hcl
  have HM := Lib.hid (show meas s.data.toList = ⟨16, (s.data.toList.drop 2).take (cnt 16 (s.data.toList.drop 2)), [], 2 + cnt 16 (s.data.toList.drop 2)⟩ from if_pos h)
  have P1 := pre_fact s ⟨#[48, 120]⟩ true hp1
  have P2 := pre_fact s ⟨#[48, 88]⟩ false hp2
  clear h hp1 hp2
  generalize hn : cnt 16 (s.data.toList.drop 2) = n at *
  have C16 := count_fact s 16 n 2 hs (by omega) (by omega) hn
  have C10 := C16
  have CF := C16
  clear hn
  go_enter Tryd.func74, Tryd.ntmps74
  go_wp2_with (first | (go_at_call 89; (with_reducible refine (P1.out _).mono ?_); rintro e w' ⟨rfl, rfl⟩) | (go_at_call 89; (with_reducible refine (P2.out _).mono ?_); rintro e w' ⟨rfl, rfl⟩) | (go_at_call 90; (with_reducible refine (C16.out _).mono ?_); rintro e w' ⟨rfl, rfl⟩) | (go_at_call 90; (with_reducible refine (C10.out _).mono ?_); rintro e w' ⟨rfl, rfl⟩) | (go_at_call 90; (with_reducible refine (CF.out _).mono ?_); rintro e w' ⟨rfl, rfl⟩))
  refine bodyPost_ret (v := .agg #[.int .i64 16, .string (s.extract 2 (2 + n)), .string ⟨#[]⟩, .int .i64 (2 + n)]) (by simp [results, Tryd.results74, go_sem]) rfl ⟨?_, ?_⟩
  · rw [HM.out]; unfold msV; rw [ext_mk, show 2 + n - 2 = n by omega]; simp [mkB]
  · exact (Below.refl _ _).alloc (Nat.le_refl _) _

set_option maxHeartbeats 400000 in
theorem measure_hex2 (s : ByteArray) (w : World) (hs : s.size ≤ 4000000000) (h : hexp s.data.toList = true) (hp1 : Lib.hasPrefix s.data.toList [48, 120] = false) (hp2 : Lib.hasPrefix s.data.toList [48, 88] = true) :
    Calls Tryd.prog 74 #[.string s] w fun e w' => e = .returned (msV (meas s.data.toList)) ∧ Below w.heap.size w w' := by
  obtain ⟨_, hpos⟩ := (hexp_iff _).1 h
  have hl2 := pre2_len hp2
  rw [list_size] at hl2
  have hcl := cnt_le 16 (s.data.toList.drop 2)
  rw [List.length_drop, list_size] at hcl
  have HM := Lib.hid (show meas s.data.toList = ⟨16, (s.data.toList.drop 2).take (cnt 16 (s.data.toList.drop 2)), [], 2 + cnt 16 (s.data.toList.drop 2)⟩ from if_pos h)
  have P1 := pre_fact s ⟨#[48, 120]⟩ false hp1
  have P2 := pre_fact s ⟨#[48, 88]⟩ true hp2
  clear h hp1 hp2
  generalize hn : cnt 16 (s.data.toList.drop 2) = n at *
  have C16 := count_fact s 16 n 2 hs (by omega) (by omega) hn
  have C10 := C16
  have CF := C16
  clear hn
  go_enter Tryd.func74, Tryd.ntmps74
  go_wp2_with (first | (go_at_call 89; (with_reducible refine (P1.out _).mono ?_); rintro e w' ⟨rfl, rfl⟩) | (go_at_call 89; (with_reducible refine (P2.out _).mono ?_); rintro e w' ⟨rfl, rfl⟩) | (go_at_call 90; (with_reducible refine (C16.out _).mono ?_); rintro e w' ⟨rfl, rfl⟩) | (go_at_call 90; (with_reducible refine (C10.out _).mono ?_); rintro e w' ⟨rfl, rfl⟩) | (go_at_call 90; (with_reducible refine (CF.out _).mono ?_); rintro e w' ⟨rfl, rfl⟩))
  refine bodyPost_ret (v := .agg #[.int .i64 16, .string (s.extract 2 (2 + n)), .string ⟨#[]⟩, .int .i64 (2 + n)]) (by simp [results, Tryd.results74, go_sem]) rfl ⟨?_, ?_⟩
  · rw [HM.out]; unfold msV; rw [ext_mk, show 2 + n - 2 = n by omega]; simp [mkB]
  · exact (Below.refl _ _).alloc (Nat.le_refl _) _

set_option maxHeartbeats 400000 in
theorem measure_xa (s : ByteArray) (w : World) (hs : s.size ≤ 4000000000) (h : hexp s.data.toList = false) (hp1 : Lib.hasPrefix s.data.toList [48, 120] = true) (hp2 : Lib.hasPrefix s.data.toList [48, 88] = false) (n : Nat) (hn : cnt 10 s.data.toList = n) (h0 : n = 0) (hf : frac s.data.toList = false) :
    Calls Tryd.prog 74 #[.string s] w fun e w' => e = .returned (msV (meas s.data.toList)) ∧ Below w.heap.size w w' := by
  have hcl := cnt_le 10 s.data.toList
  rw [hn, list_size] at hcl
  have HM := Lib.hid (show meas s.data.toList = ⟨10, s.data.toList.take n, [], n⟩ by unfold meas; rw [if_neg (by simp [h]), if_neg (by simp [hf]), hn])
  have P1 := pre_fact s ⟨#[48, 120]⟩ true hp1
  have P2 := pre_fact s ⟨#[48, 88]⟩ false hp2
  have hl2 := pre2_len hp1
  rw [list_size] at hl2
  have hz : cnt 16 (s.data.toList.drop 2) = 0 := by
    apply Decidable.byContradiction; intro hz
    have : hexp s.data.toList = true := (hexp_iff _).2 ⟨.inl hp1, by omega⟩
    rw [h] at this; cases this
  have C16 := count_fact s 16 0 2 hs (by omega) (by omega) hz
  clear hz
  have C10 := count_fact0 s 10 n hs (by omega) (by omega) hn
  have CF := C10
  clear h hp1 hp2 hn hf
  subst h0
  go_enter Tryd.func74, Tryd.ntmps74
  go_wp2_with (first | (go_at_call 89; (with_reducible refine (P1.out _).mono ?_); rintro e w' ⟨rfl, rfl⟩) | (go_at_call 89; (with_reducible refine (P2.out _).mono ?_); rintro e w' ⟨rfl, rfl⟩) | (go_at_call 90; (with_reducible refine (C16.out _).mono ?_); rintro e w' ⟨rfl, rfl⟩) | (go_at_call 90; (with_reducible refine (C10.out _).mono ?_); rintro e w' ⟨rfl, rfl⟩) | (go_at_call 90; (with_reducible refine (CF.out _).mono ?_); rintro e w' ⟨rfl, rfl⟩))
  refine bodyPost_ret (v := .agg #[.int .i64 10, .string (s.extract 0 0), .string ⟨#[]⟩, .int .i64 0]) (by simp [results, Tryd.results74, go_sem]) rfl ⟨?_, ?_⟩
  · rw [HM.out]; unfold msV; rw [ext_mk, List.drop_zero, Nat.sub_zero]; simp [mkB]
  · exact (Below.refl _ _).alloc (Nat.le_refl _) _

set_option maxHeartbeats 400000 in
theorem measure_xb (s : ByteArray) (w : World) (hs : s.size ≤ 4000000000) (h : hexp s.data.toList = false) (hp1 : Lib.hasPrefix s.data.toList [48, 120] = true) (hp2 : Lib.hasPrefix s.data.toList [48, 88] = false) (n : Nat) (hn : cnt 10 s.data.toList = n) (h0 : 0 < n) (h1 : n = s.size) (hf : frac s.data.toList = false) :
    Calls Tryd.prog 74 #[.string s] w fun e w' => e = .returned (msV (meas s.data.toList)) ∧ Below w.heap.size w w' := by
  have hcl := cnt_le 10 s.data.toList
  rw [hn, list_size] at hcl
  have HM := Lib.hid (show meas s.data.toList = ⟨10, s.data.toList.take n, [], n⟩ by unfold meas; rw [if_neg (by simp [h]), if_neg (by simp [hf]), hn])
  have P1 := pre_fact s ⟨#[48, 120]⟩ true hp1
  have P2 := pre_fact s ⟨#[48, 88]⟩ false hp2
  have hl2 := pre2_len hp1
  rw [list_size] at hl2
  have hz : cnt 16 (s.data.toList.drop 2) = 0 := by
    apply Decidable.byContradiction; intro hz
    have : hexp s.data.toList = true := (hexp_iff _).2 ⟨.inl hp1, by omega⟩
    rw [h] at this; cases this
  have C16 := count_fact s 16 0 2 hs (by omega) (by omega) hz
  clear hz
  have C10 := count_fact0 s 10 n hs (by omega) (by omega) hn
  have CF := C10
  clear h hp1 hp2 hn hf
  subst h1
  go_enter Tryd.func74, Tryd.ntmps74
  go_wp2_with (first | (go_at_call 89; (with_reducible refine (P1.out _).mono ?_); rintro e w' ⟨rfl, rfl⟩) | (go_at_call 89; (with_reducible refine (P2.out _).mono ?_); rintro e w' ⟨rfl, rfl⟩) | (go_at_call 90; (with_reducible refine (C16.out _).mono ?_); rintro e w' ⟨rfl, rfl⟩) | (go_at_call 90; (with_reducible refine (C10.out _).mono ?_); rintro e w' ⟨rfl, rfl⟩) | (go_at_call 90; (with_reducible refine (CF.out _).mono ?_); rintro e w' ⟨rfl, rfl⟩))
  refine bodyPost_ret (v := .agg #[.int .i64 10, .string (s.extract 0 s.size), .string ⟨#[]⟩, .int .i64 s.size]) (by simp [results, Tryd.results74, go_sem]) rfl ⟨?_, ?_⟩
  · rw [HM.out]; unfold msV; rw [ext_mk, List.drop_zero, Nat.sub_zero]; simp [mkB]
  · exact (Below.refl _ _).alloc (Nat.le_refl _) _

set_option maxHeartbeats 400000 in
theorem measure_xc (s : ByteArray) (w : World) (hs : s.size ≤ 4000000000) (h : hexp s.data.toList = false) (hp1 : Lib.hasPrefix s.data.toList [48, 120] = true) (hp2 : Lib.hasPrefix s.data.toList [48, 88] = false) (n : Nat) (hn : cnt 10 s.data.toList = n) (h0 : 0 < n) (h1 : n < s.size) (h2 : ((s[n].toNat : Int) == 46) = false) (hf : frac s.data.toList = false) :
    Calls Tryd.prog 74 #[.string s] w fun e w' => e = .returned (msV (meas s.data.toList)) ∧ Below w.heap.size w w' := by
  have hcl := cnt_le 10 s.data.toList
  rw [hn, list_size] at hcl
  have HM := Lib.hid (show meas s.data.toList = ⟨10, s.data.toList.take n, [], n⟩ by unfold meas; rw [if_neg (by simp [h]), if_neg (by simp [hf]), hn])
  have P1 := pre_fact s ⟨#[48, 120]⟩ true hp1
  have P2 := pre_fact s ⟨#[48, 88]⟩ false hp2
  have hl2 := pre2_len hp1
  rw [list_size] at hl2
  have hz : cnt 16 (s.data.toList.drop 2) = 0 := by
    apply Decidable.byContradiction; intro hz
    have : hexp s.data.toList = true := (hexp_iff _).2 ⟨.inl hp1, by omega⟩
    rw [h] at this; cases this
  have C16 := count_fact s 16 0 2 hs (by omega) (by omega) hz
  clear hz
  have C10 := count_fact0 s 10 n hs (by omega) (by omega) hn
  have CF := C10
  clear h hp1 hp2 hn hf
  go_enter Tryd.func74, Tryd.ntmps74
  go_wp2_with (first | (go_at_call 89; (with_reducible refine (P1.out _).mono ?_); rintro e w' ⟨rfl, rfl⟩) | (go_at_call 89; (with_reducible refine (P2.out _).mono ?_); rintro e w' ⟨rfl, rfl⟩) | (go_at_call 90; (with_reducible refine (C16.out _).mono ?_); rintro e w' ⟨rfl, rfl⟩) | (go_at_call 90; (with_reducible refine (C10.out _).mono ?_); rintro e w' ⟨rfl, rfl⟩) | (go_at_call 90; (with_reducible refine (CF.out _).mono ?_); rintro e w' ⟨rfl, rfl⟩))
  refine bodyPost_ret (v := .agg #[.int .i64 10, .string (s.extract 0 n), .string ⟨#[]⟩, .int .i64 n]) (by simp [results, Tryd.results74, go_sem]) rfl ⟨?_, ?_⟩
  · rw [HM.out]; unfold msV; rw [ext_mk, List.drop_zero, Nat.sub_zero]; simp [mkB]
  · exact (Below.refl _ _).alloc (Nat.le_refl _) _

set_option maxHeartbeats 400000 in
theorem measure_xd (s : ByteArray) (w : World) (hs : s.size ≤ 4000000000) (h : hexp s.data.toList = false) (hp1 : Lib.hasPrefix s.data.toList [48, 120] = true) (hp2 : Lib.hasPrefix s.data.toList [48, 88] = false) (n : Nat) (hn : cnt 10 s.data.toList = n) (h0 : 0 < n) (h1 : n < s.size) (h2 : ((s[n].toNat : Int) == 46) = true) (m : Nat) (hm : cnt 10 (s.data.toList.drop (n + 1)) = m) (h3 : m = 0) (hf : frac s.data.toList = false) :
    Calls Tryd.prog 74 #[.string s] w fun e w' => e = .returned (msV (meas s.data.toList)) ∧ Below w.heap.size w w' := by
  have hcl := cnt_le 10 s.data.toList
  rw [hn, list_size] at hcl
  have HM := Lib.hid (show meas s.data.toList = ⟨10, s.data.toList.take n, [], n⟩ by unfold meas; rw [if_neg (by simp [h]), if_neg (by simp [hf]), hn])
  have P1 := pre_fact s ⟨#[48, 120]⟩ true hp1
  have P2 := pre_fact s ⟨#[48, 88]⟩ false hp2
  have hl2 := pre2_len hp1
  rw [list_size] at hl2
  have hz : cnt 16 (s.data.toList.drop 2) = 0 := by
    apply Decidable.byContradiction; intro hz
    have : hexp s.data.toList = true := (hexp_iff _).2 ⟨.inl hp1, by omega⟩
    rw [h] at this; cases this
  have C16 := count_fact s 16 0 2 hs (by omega) (by omega) hz
  clear hz
  have C10 := count_fact0 s 10 n hs (by omega) (by omega) hn
  have CF := count_fact s 10 m (n + 1) hs (by omega) (by omega) hm
  clear h hp1 hp2 hn hf hm
  subst h3
  go_enter Tryd.func74, Tryd.ntmps74
  go_wp2_with (first | (go_at_call 89; (with_reducible refine (P1.out _).mono ?_); rintro e w' ⟨rfl, rfl⟩) | (go_at_call 89; (with_reducible refine (P2.out _).mono ?_); rintro e w' ⟨rfl, rfl⟩) | (go_at_call 90; (with_reducible refine (C16.out _).mono ?_); rintro e w' ⟨rfl, rfl⟩) | (go_at_call 90; (with_reducible refine (C10.out _).mono ?_); rintro e w' ⟨rfl, rfl⟩) | (go_at_call 90; (with_reducible refine (CF.out _).mono ?_); rintro e w' ⟨rfl, rfl⟩))
  refine bodyPost_ret (v := .agg #[.int .i64 10, .string (s.extract 0 n), .string ⟨#[]⟩, .int .i64 n]) (by simp [results, Tryd.results74, go_sem]) rfl ⟨?_, ?_⟩
  · rw [HM.out]; unfold msV; rw [ext_mk, List.drop_zero, Nat.sub_zero]; simp [mkB]
  · exact (Below.refl _ _).alloc (Nat.le_refl _) _

set_option maxHeartbeats 400000 in
theorem measure_xe (s : ByteArray) (w : World) (hs : s.size ≤ 4000000000) (h : hexp s.data.toList = false) (hp1 : Lib.hasPrefix s.data.toList [48, 120] = true) (hp2 : Lib.hasPrefix s.data.toList [48, 88] = false) (n : Nat) (hn : cnt 10 s.data.toList = n) (h0 : 0 < n) (h1 : n < s.size) (h2 : ((s[n].toNat : Int) == 46) = true) (m : Nat) (hm : cnt 10 (s.data.toList.drop (n + 1)) = m) (h3 : 0 < m) (hf : frac s.data.toList = true) :
    Calls Tryd.prog 74 #[.string s] w fun e w' => e = .returned (msV (meas s.data.toList)) ∧ Below w.heap.size w w' := by
  have hcl := cnt_le 10 s.data.toList
  rw [hn, list_size] at hcl
  have hcm := cnt_le 10 (s.data.toList.drop (n + 1))
  rw [hm, List.length_drop, list_size] at hcm
  have HM := Lib.hid (show meas s.data.toList = ⟨10, s.data.toList.take n, (s.data.toList.drop (n + 1)).take m, n + 1 + m⟩ by unfold meas; rw [if_neg (by simp [h]), if_pos hf, hn, hm])
  have P1 := pre_fact s ⟨#[48, 120]⟩ true hp1
  have P2 := pre_fact s ⟨#[48, 88]⟩ false hp2
  have hl2 := pre2_len hp1
  rw [list_size] at hl2
  have hz : cnt 16 (s.data.toList.drop 2) = 0 := by
    apply Decidable.byContradiction; intro hz
    have : hexp s.data.toList = true := (hexp_iff _).2 ⟨.inl hp1, by omega⟩
    rw [h] at this; cases this
  have C16 := count_fact s 16 0 2 hs (by omega) (by omega) hz
  clear hz
  have C10 := count_fact0 s 10 n hs (by omega) (by omega) hn
  have CF := count_fact s 10 m (n + 1) hs (by omega) (by omega) hm
  clear h hp1 hp2 hn hf hm
  go_enter Tryd.func74, Tryd.ntmps74
  go_wp2_with (first | (go_at_call 89; (with_reducible refine (P1.out _).mono ?_); rintro e w' ⟨rfl, rfl⟩) | (go_at_call 89; (with_reducible refine (P2.out _).mono ?_); rintro e w' ⟨rfl, rfl⟩) | (go_at_call 90; (with_reducible refine (C16.out _).mono ?_); rintro e w' ⟨rfl, rfl⟩) | (go_at_call 90; (with_reducible refine (C10.out _).mono ?_); rintro e w' ⟨rfl, rfl⟩) | (go_at_call 90; (with_reducible refine (CF.out _).mono ?_); rintro e w' ⟨rfl, rfl⟩))
  go_region
  all_goals go_wp2
  refine bodyPost_ret (v := .agg #[.int .i64 10, .string (s.extract 0 n), .string (s.extract (n + 1) (n + 1 + m)), .int .i64 (n + 1 + m)]) (by simp [results, Tryd.results74, go_sem]) rfl ⟨?_, ?_⟩
  · rw [HM.out]; unfold msV; rw [ext_mk, ext_mk, List.drop_zero, Nat.sub_zero, show n + 1 + m - (n + 1) = m by omega]; simp [mkB]
  · exact ((Below.refl _ _).alloc (Nat.le_refl _) _).drew

set_option maxHeartbeats 400000 in
theorem measure_Xa (s : ByteArray) (w : World) (hs : s.size ≤ 4000000000) (h : hexp s.data.toList = false) (hp1 : Lib.hasPrefix s.data.toList [48, 120] = false) (hp2 : Lib.hasPrefix s.data.toList [48, 88] = true) (n : Nat) (hn : cnt 10 s.data.toList = n) (h0 : n = 0) (hf : frac s.data.toList = false) :
    Calls Tryd.prog 74 #[.string s] w fun e w' => e = .returned (msV (meas s.data.toList)) ∧ Below w.heap.size w w' := by
  have hcl := cnt_le 10 s.data.toList
  rw [hn, list_size] at hcl
  have HM := Lib.hid (show meas s.data.toList = ⟨10, s.data.toList.take n, [], n⟩ by unfold meas; rw [if_neg (by simp [h]), if_neg (by simp [hf]), hn])
  have P1 := pre_fact s ⟨#[48, 120]⟩ false hp1
  have P2 := pre_fact s ⟨#[48, 88]⟩ true hp2
  have hl2 := pre2_len hp2
  rw [list_size] at hl2
  have hz : cnt 16 (s.data.toList.drop 2) = 0 := by
    apply Decidable.byContradiction; intro hz
    have : hexp s.data.toList = true := (hexp_iff _).2 ⟨.inr hp2, by omega⟩
    rw [h] at this; cases this
  have C16 := count_fact s 16 0 2 hs (by omega) (by omega) hz
  clear hz
  have C10 := count_fact0 s 10 n hs (by omega) (by omega) hn
  have CF := C10
  clear h hp1 hp2 hn hf
  subst h0
  go_enter Tryd.func74, Tryd.ntmps74
  go_wp2_with (first | (go_at_call 89; (with_reducible refine (P1.out _).mono ?_); rintro e w' ⟨rfl, rfl⟩) | (go_at_call 89; (with_reducible refine (P2.out _).mono ?_); rintro e w' ⟨rfl, rfl⟩) | (go_at_call 90; (with_reducible refine (C16.out _).mono ?_); rintro e w' ⟨rfl, rfl⟩) | (go_at_call 90; (with_reducible refine (C10.out _).mono ?_); rintro e w' ⟨rfl, rfl⟩) | (go_at_call 90; (with_reducible refine (CF.out _).mono ?_); rintro e w' ⟨rfl, rfl⟩))
  refine bodyPost_ret (v := .agg #[.int .i64 10, .string (s.extract 0 0), .string ⟨#[]⟩, .int .i64 0]) (by simp [results, Tryd.results74, go_sem]) rfl ⟨?_, ?_⟩
  · rw [HM.out]; unfold msV; rw [ext_mk, List.drop_zero, Nat.sub_zero]; simp [mkB]
  · exact (Below.refl _ _).alloc (Nat.le_refl _) _

set_option maxHeartbeats 400000 in
theorem measure_Xb (s : ByteArray) (w : World) (hs : s.size ≤ 4000000000) (h : hexp s.data.toList = false) (hp1 : Lib.hasPrefix s.data.toList [48, 120] = false) (hp2 : Lib.hasPrefix s.data.toList [48, 88] = true) (n : Nat) (hn : cnt 10 s.data.toList = n) (h0 : 0 < n) (h1 : n = s.size) (hf : frac s.data.toList = false) :
    Calls Tryd.prog 74 #[.string s] w fun e w' => e = .returned (msV (meas s.data.toList)) ∧ Below w.heap.size w w' := by
  have hcl := cnt_le 10 s.data.toList
  rw [hn, list_size] at hcl
  have HM := Lib.hid (show meas s.data.toList = ⟨10, s.data.toList.take n, [], n⟩ by unfold meas; rw [if_neg (by simp [h]), if_neg (by simp [hf]), hn])
  have P1 := pre_fact s ⟨#[48, 120]⟩ false hp1
  have P2 := pre_fact s ⟨#[48, 88]⟩ true hp2
  have hl2 := pre2_len hp2
  rw [list_size] at hl2
  have hz : cnt 16 (s.data.toList.drop 2) = 0 := by
    apply Decidable.byContradiction; intro hz
    have : hexp s.data.toList = true := (hexp_iff _).2 ⟨.inr hp2, by omega⟩
    rw [h] at this; cases this
  have C16 := count_fact s 16 0 2 hs (by omega) (by omega) hz
  clear hz
  have C10 := count_fact0 s 10 n hs (by omega) (by omega) hn
  have CF := C10
  clear h hp1 hp2 hn hf
  subst h1
  go_enter Tryd.func74, Tryd.ntmps74
  go_wp2_with (first | (go_at_call 89; (with_reducible refine (P1.out _).mono ?_); rintro e w' ⟨rfl, rfl⟩) | (go_at_call 89; (with_reducible refine (P2.out _).mono ?_); rintro e w' ⟨rfl, rfl⟩) | (go_at_call 90; (with_reducible refine (C16.out _).mono ?_); rintro e w' ⟨rfl, rfl⟩) | (go_at_call 90; (with_reducible refine (C10.out _).mono ?_); rintro e w' ⟨rfl, rfl⟩) | (go_at_call 90; (with_reducible refine (CF.out _).mono ?_); rintro e w' ⟨rfl, rfl⟩))
  refine bodyPost_ret (v := .agg #[.int .i64 10, .string (s.extract 0 s.size), .string ⟨#[]⟩, .int .i64 s.size]) (by simp [results, Tryd.results74, go_sem]) rfl ⟨?_, ?_⟩
  · rw [HM.out]; unfold msV; rw [ext_mk, List.drop_zero, Nat.sub_zero]; simp [mkB]
  · exact (Below.refl _ _).alloc (Nat.le_refl _) _

set_option maxHeartbeats 400000 in
theorem measure_Xc (s : ByteArray) (w : World) (hs : s.size ≤ 4000000000) (h : hexp s.data.toList = false) (hp1 : Lib.hasPrefix s.data.toList [48, 120] = false) (hp2 : Lib.hasPrefix s.data.toList [48, 88] = true) (n : Nat) (hn : cnt 10 s.data.toList = n) (h0 : 0 < n) (h1 : n < s.size) (h2 : ((s[n].toNat : Int) == 46) = false) (hf : frac s.data.toList = false) :
    Calls Tryd.prog 74 #[.string s] w fun e w' => e = .returned (msV (meas s.data.toList)) ∧ Below w.heap.size w w' := by
  have hcl := cnt_le 10 s.data.toList
  rw [hn, list_size] at hcl
  have HM := Lib.hid (show meas s.data.toList = ⟨10, s.data.toList.take n, [], n⟩ by unfold meas; rw [if_neg (by simp [h]), if_neg (by simp [hf]), hn])
  have P1 := pre_fact s ⟨#[48, 120]⟩ false hp1
  have P2 := pre_fact s ⟨#[48, 88]⟩ true hp2
  have hl2 := pre2_len hp2
  rw [list_size] at hl2
  have hz : cnt 16 (s.data.toList.drop 2) = 0 := by
    apply Decidable.byContradiction; intro hz
    have : hexp s.data.toList = true := (hexp_iff _).2 ⟨.inr hp2, by omega⟩
    rw [h] at this; cases this
  have C16 := count_fact s 16 0 2 hs (by omega) (by omega) hz
  clear hz
  have C10 := count_fact0 s 10 n hs (by omega) (by omega) hn
  have CF := C10
  clear h hp1 hp2 hn hf
  go_enter Tryd.func74, Tryd.ntmps74
  go_wp2_with (first | (go_at_call 89; (with_reducible refine (P1.out _).mono ?_); rintro e w' ⟨rfl, rfl⟩) | (go_at_call 89; (with_reducible refine (P2.out _).mono ?_); rintro e w' ⟨rfl, rfl⟩) | (go_at_call 90; (with_reducible refine (C16.out _).mono ?_); rintro e w' ⟨rfl, rfl⟩) | (go_at_call 90; (with_reducible refine (C10.out _).mono ?_); rintro e w' ⟨rfl, rfl⟩) | (go_at_call 90; (with_reducible refine (CF.out _).mono ?_); rintro e w' ⟨rfl, rfl⟩))
  refine bodyPost_ret (v := .agg #[.int .i64 10, .string (s.extract 0 n), .string ⟨#[]⟩, .int .i64 n]) (by simp [results, Tryd.results74, go_sem]) rfl ⟨?_, ?_⟩
  · rw [HM.out]; unfold msV; rw [ext_mk, List.drop_zero, Nat.sub_zero]; simp [mkB]
  · exact (Below.refl _ _).alloc (Nat.le_refl _) _

set_option maxHeartbeats 400000 in
theorem measure_Xd (s : ByteArray) (w : World) (hs : s.size ≤ 4000000000) (h : hexp s.data.toList = false) (hp1 : Lib.hasPrefix s.data.toList [48, 120] = false) (hp2 : Lib.hasPrefix s.data.toList [48, 88] = true) (n : Nat) (hn : cnt 10 s.data.toList = n) (h0 : 0 < n) (h1 : n < s.size) (h2 : ((s[n].toNat : Int) == 46) = true) (m : Nat) (hm : cnt 10 (s.data.toList.drop (n + 1)) = m) (h3 : m = 0) (hf : frac s.data.toList = false) :
    Calls Tryd.prog 74 #[.string s] w fun e w' => e = .returned (msV (meas s.data.toList)) ∧ Below w.heap.size w w' := by
  have hcl := cnt_le 10 s.data.toList
  rw [hn, list_size] at hcl
  have HM := Lib.hid (show meas s.data.toList = ⟨10, s.data.toList.take n, [], n⟩ by unfold meas; rw [if_neg (by simp [h]), if_neg (by simp [hf]), hn])
  have P1 := pre_fact s ⟨#[48, 120]⟩ false hp1
  have P2 := pre_fact s ⟨#[48, 88]⟩ true hp2
  have hl2 := pre2_len hp2
  rw [list_size] at hl2
  have hz : cnt 16 (s.data.toList.drop 2) = 0 := by
    apply Decidable.byContradiction; intro hz
    have : hexp s.data.toList = true := (hexp_iff _).2 ⟨.inr hp2, by omega⟩
    rw [h] at this; cases this
  have C16 := count_fact s 16 0 2 hs (by omega) (by omega) hz
  clear hz
  have C10 := count_fact0 s 10 n hs (by omega) (by omega) hn
  have CF := count_fact s 10 m (n + 1) hs (by omega) (by omega) hm
  clear h hp1 hp2 hn hf hm
  subst h3
  go_enter Tryd.func74, Tryd.ntmps74
  go_wp2_with (first | (go_at_call 89; (with_reducible refine (P1.out _).mono ?_); rintro e w' ⟨rfl, rfl⟩) | (go_at_call 89; (with_reducible refine (P2.out _).mono ?_); rintro e w' ⟨rfl, rfl⟩) | (go_at_call 90; (with_reducible refine (C16.out _).mono ?_); rintro e w' ⟨rfl, rfl⟩) | (go_at_call 90; (with_reducible refine (C10.out _).mono ?_); rintro e w' ⟨rfl, rfl⟩) | (go_at_call 90; (with_reducible refine (CF.out _).mono ?_); rintro e w' ⟨rfl, rfl⟩))
  refine bodyPost_ret (v := .agg #[.int .i64 10, .string (s.extract 0 n), .string ⟨#[]⟩, .int .i64 n]) (by simp [results, Tryd.results74, go_sem]) rfl ⟨?_, ?_⟩
  · rw [HM.out]; unfold msV; rw [ext_mk, List.drop_zero, Nat.sub_zero]; simp [mkB]
  · exact (Below.refl _ _).alloc (Nat.le_refl _) _

set_option maxHeartbeats 400000 in
theorem measure_Xe (s : ByteArray) (w : World) (hs : s.size ≤ 4000000000) (h : hexp s.data.toList = false) (hp1 : Lib.hasPrefix s.data.toList [48, 120] = false) (hp2 : Lib.hasPrefix s.data.toList [48, 88] = true) (n : Nat) (hn : cnt 10 s.data.toList = n) (h0 : 0 < n) (h1 : n < s.size) (h2 : ((s[n].toNat : Int) == 46) = true) (m : Nat) (hm : cnt 10 (s.data.toList.drop (n + 1)) = m) (h3 : 0 < m) (hf : frac s.data.toList = true) :
    Calls Tryd.prog 74 #[.string s] w fun e w' => e = .returned (msV (meas s.data.toList)) ∧ Below w.heap.size w w' := by
  have hcl := cnt_le 10 s.data.toList
  rw [hn, list_size] at hcl
  have hcm := cnt_le 10 (s.data.toList.drop (n + 1))
  rw [hm, List.length_drop, list_size] at hcm
  have HM := Lib.hid (show meas s.data.toList = ⟨10, s.data.toList.take n, (s.data.toList.drop (n + 1)).take m, n + 1 + m⟩ by unfold meas; rw [if_neg (by simp [h]), if_pos hf, hn, hm])
  have P1 := pre_fact s ⟨#[48, 120]⟩ false hp1
  have P2 := pre_fact s ⟨#[48, 88]⟩ true hp2
  have hl2 := pre2_len hp2
  rw [list_size] at hl2
  have hz : cnt 16 (s.data.toList.drop 2) = 0 := by
    apply Decidable.byContradiction; intro hz
    have : hexp s.data.toList = true := (hexp_iff _).2 ⟨.inr hp2, by omega⟩
    rw [h] at this; cases this
  have C16 := count_fact s 16 0 2 hs (by omega) (by omega) hz
  clear hz
  have C10 := count_fact0 s 10 n hs (by omega) (by omega) hn
  have CF := count_fact s 10 m (n + 1) hs (by omega) (by omega) hm
  clear h hp1 hp2 hn hf hm
  go_enter Tryd.func74, Tryd.ntmps74
  go_wp2_with (first | (go_at_call 89; (with_reducible refine (P1.out _).mono ?_); rintro e w' ⟨rfl, rfl⟩) | (go_at_call 89; (with_reducible refine (P2.out _).mono ?_); rintro e w' ⟨rfl, rfl⟩) | (go_at_call 90; (with_reducible refine (C16.out _).mono ?_); rintro e w' ⟨rfl, rfl⟩) | (go_at_call 90; (with_reducible refine (C10.out _).mono ?_); rintro e w' ⟨rfl, rfl⟩) | (go_at_call 90; (with_reducible refine (CF.out _).mono ?_); rintro e w' ⟨rfl, rfl⟩))
  go_region
  all_goals go_wp2
  refine bodyPost_ret (v := .agg #[.int .i64 10, .string (s.extract 0 n), .string (s.extract (n + 1) (n + 1 + m)), .int .i64 (n + 1 + m)]) (by simp [results, Tryd.results74, go_sem]) rfl ⟨?_, ?_⟩
  · rw [HM.out]; unfold msV; rw [ext_mk, ext_mk, List.drop_zero, Nat.sub_zero, show n + 1 + m - (n + 1) = m by omega]; simp [mkB]
  · exact ((Below.refl _ _).alloc (Nat.le_refl _) _).drew

set_option maxHeartbeats 400000 in
theorem measure_na (s : ByteArray) (w : World) (hs : s.size ≤ 4000000000) (h : hexp s.data.toList = false) (hp1 : Lib.hasPrefix s.data.toList [48, 120] = false) (hp2 : Lib.hasPrefix s.data.toList [48, 88] = false) (n : Nat) (hn : cnt 10 s.data.toList = n) (h0 : n = 0) (hf : frac s.data.toList = false) :
    Calls Tryd.prog 74 #[.string s] w fun e w' => e = .returned (msV (meas s.data.toList)) ∧ Below w.heap.size w w' := by
  have hcl := cnt_le 10 s.data.toList
  rw [hn, list_size] at hcl
  have HM := Lib.hid (show meas s.data.toList = ⟨10, s.data.toList.take n, [], n⟩ by unfold meas; rw [if_neg (by simp [h]), if_neg (by simp [hf]), hn])
  have P1 := pre_fact s ⟨#[48, 120]⟩ false hp1
  have P2 := pre_fact s ⟨#[48, 88]⟩ false hp2
  have C10 := count_fact0 s 10 n hs (by omega) (by omega) hn
  have C16 := C10
  have CF := C10
  clear h hp1 hp2 hn hf
  subst h0
  go_enter Tryd.func74, Tryd.ntmps74
  go_wp2_with (first | (go_at_call 89; (with_reducible refine (P1.out _).mono ?_); rintro e w' ⟨rfl, rfl⟩) | (go_at_call 89; (with_reducible refine (P2.out _).mono ?_); rintro e w' ⟨rfl, rfl⟩) | (go_at_call 90; (with_reducible refine (C16.out _).mono ?_); rintro e w' ⟨rfl, rfl⟩) | (go_at_call 90; (with_reducible refine (C10.out _).mono ?_); rintro e w' ⟨rfl, rfl⟩) | (go_at_call 90; (with_reducible refine (CF.out _).mono ?_); rintro e w' ⟨rfl, rfl⟩))
  refine bodyPost_ret (v := .agg #[.int .i64 10, .string (s.extract 0 0), .string ⟨#[]⟩, .int .i64 0]) (by simp [results, Tryd.results74, go_sem]) rfl ⟨?_, ?_⟩
  · rw [HM.out]; unfold msV; rw [ext_mk, List.drop_zero, Nat.sub_zero]; simp [mkB]
  · exact (Below.refl _ _).alloc (Nat.le_refl _) _

set_option maxHeartbeats 400000 in
theorem measure_nb (s : ByteArray) (w : World) (hs : s.size ≤ 4000000000) (h : hexp s.data.toList = false) (hp1 : Lib.hasPrefix s.data.toList [48, 120] = false) (hp2 : Lib.hasPrefix s.data.toList [48, 88] = false) (n : Nat) (hn : cnt 10 s.data.toList = n) (h0 : 0 < n) (h1 : n = s.size) (hf : frac s.data.toList = false) :
    Calls Tryd.prog 74 #[.string s] w fun e w' => e = .returned (msV (meas s.data.toList)) ∧ Below w.heap.size w w' := by
  have hcl := cnt_le 10 s.data.toList
  rw [hn, list_size] at hcl
  have HM := Lib.hid (show meas s.data.toList = ⟨10, s.data.toList.take n, [], n⟩ by unfold meas; rw [if_neg (by simp [h]), if_neg (by simp [hf]), hn])
  have P1 := pre_fact s ⟨#[48, 120]⟩ false hp1
  have P2 := pre_fact s ⟨#[48, 88]⟩ false hp2
  have C10 := count_fact0 s 10 n hs (by omega) (by omega) hn
  have C16 := C10
  have CF := C10
  clear h hp1 hp2 hn hf
  subst h1
  go_enter Tryd.func74, Tryd.ntmps74
  go_wp2_with (first | (go_at_call 89; (with_reducible refine (P1.out _).mono ?_); rintro e w' ⟨rfl, rfl⟩) | (go_at_call 89; (with_reducible refine (P2.out _).mono ?_); rintro e w' ⟨rfl, rfl⟩) | (go_at_call 90; (with_reducible refine (C16.out _).mono ?_); rintro e w' ⟨rfl, rfl⟩) | (go_at_call 90; (with_reducible refine (C10.out _).mono ?_); rintro e w' ⟨rfl, rfl⟩) | (go_at_call 90; (with_reducible refine (CF.out _).mono ?_); rintro e w' ⟨rfl, rfl⟩))
  refine bodyPost_ret (v := .agg #[.int .i64 10, .string (s.extract 0 s.size), .string ⟨#[]⟩, .int .i64 s.size]) (by simp [results, Tryd.results74, go_sem]) rfl ⟨?_, ?_⟩
  · rw [HM.out]; unfold msV; rw [ext_mk, List.drop_zero, Nat.sub_zero]; simp [mkB]
  · exact (Below.refl _ _).alloc (Nat.le_refl _) _

set_option maxHeartbeats 400000 in
theorem measure_nc (s : ByteArray) (w : World) (hs : s.size ≤ 4000000000) (h : hexp s.data.toList = false) (hp1 : Lib.hasPrefix s.data.toList [48, 120] = false) (hp2 : Lib.hasPrefix s.data.toList [48, 88] = false) (n : Nat) (hn : cnt 10 s.data.toList = n) (h0 : 0 < n) (h1 : n < s.size) (h2 : ((s[n].toNat : Int) == 46) = false) (hf : frac s.data.toList = false) :
    Calls Tryd.prog 74 #[.string s] w fun e w' => e = .returned (msV (meas s.data.toList)) ∧ Below w.heap.size w w' := by
  have hcl := cnt_le 10 s.data.toList
  rw [hn, list_size] at hcl
  have HM := Lib.hid (show meas s.data.toList = ⟨10, s.data.toList.take n, [], n⟩ by unfold meas; rw [if_neg (by simp [h]), if_neg (by simp [hf]), hn])
  have P1 := pre_fact s ⟨#[48, 120]⟩ false hp1
  have P2 := pre_fact s ⟨#[48, 88]⟩ false hp2
  have C10 := count_fact0 s 10 n hs (by omega) (by omega) hn
  have C16 := C10
  have CF := C10
  clear h hp1 hp2 hn hf
  go_enter Tryd.func74, Tryd.ntmps74
  go_wp2_with (first | (go_at_call 89; (with_reducible refine (P1.out _).mono ?_); rintro e w' ⟨rfl, rfl⟩) | (go_at_call 89; (with_reducible refine (P2.out _).mono ?_); rintro e w' ⟨rfl, rfl⟩) | (go_at_call 90; (with_reducible refine (C16.out _).mono ?_); rintro e w' ⟨rfl, rfl⟩) | (go_at_call 90; (with_reducible refine (C10.out _).mono ?_); rintro e w' ⟨rfl, rfl⟩) | (go_at_call 90; (with_reducible refine (CF.out _).mono ?_); rintro e w' ⟨rfl, rfl⟩))
  refine bodyPost_ret (v := .agg #[.int .i64 10, .string (s.extract 0 n), .string ⟨#[]⟩, .int .i64 n]) (by simp [results, Tryd.results74, go_sem]) rfl ⟨?_, ?_⟩
  · rw [HM.out]; unfold msV; rw [ext_mk, List.drop_zero, Nat.sub_zero]; simp [mkB]
  · exact (Below.refl _ _).alloc (Nat.le_refl _) _

set_option maxHeartbeats 400000 in
theorem measure_nd (s : ByteArray) (w : World) (hs : s.size ≤ 4000000000) (h : hexp s.data.toList = false) (hp1 : Lib.hasPrefix s.data.toList [48, 120] = false) (hp2 : Lib.hasPrefix s.data.toList [48, 88] = false) (n : Nat) (hn : cnt 10 s.data.toList = n) (h0 : 0 < n) (h1 : n < s.size) (h2 : ((s[n].toNat : Int) == 46) = true) (m : Nat) (hm : cnt 10 (s.data.toList.drop (n + 1)) = m) (h3 : m = 0) (hf : frac s.data.toList = false) :
    Calls Tryd.prog 74 #[.string s] w fun e w' => e = .returned (msV (meas s.data.toList)) ∧ Below w.heap.size w w' := by
  have hcl := cnt_le 10 s.data.toList
  rw [hn, list_size] at hcl
  have HM := Lib.hid (show meas s.data.toList = ⟨10, s.data.toList.take n, [], n⟩ by unfold meas; rw [if_neg (by simp [h]), if_neg (by simp [hf]), hn])
  have P1 := pre_fact s ⟨#[48, 120]⟩ false hp1
  have P2 := pre_fact s ⟨#[48, 88]⟩ false hp2
  have C10 := count_fact0 s 10 n hs (by omega) (by omega) hn
  have C16 := C10
  have CF := count_fact s 10 m (n + 1) hs (by omega) (by omega) hm
  clear h hp1 hp2 hn hf hm
  subst h3
  go_enter Tryd.func74, Tryd.ntmps74
  go_wp2_with (first | (go_at_call 89; (with_reducible refine (P1.out _).mono ?_); rintro e w' ⟨rfl, rfl⟩) | (go_at_call 89; (with_reducible refine (P2.out _).mono ?_); rintro e w' ⟨rfl, rfl⟩) | (go_at_call 90; (with_reducible refine (C16.out _).mono ?_); rintro e w' ⟨rfl, rfl⟩) | (go_at_call 90; (with_reducible refine (C10.out _).mono ?_); rintro e w' ⟨rfl, rfl⟩) | (go_at_call 90; (with_reducible refine (CF.out _).mono ?_); rintro e w' ⟨rfl, rfl⟩))
  refine bodyPost_ret (v := .agg #[.int .i64 10, .string (s.extract 0 n), .string ⟨#[]⟩, .int .i64 n]) (by simp [results, Tryd.results74, go_sem]) rfl ⟨?_, ?_⟩
  · rw [HM.out]; unfold msV; rw [ext_mk, List.drop_zero, Nat.sub_zero]; simp [mkB]
  · exact (Below.refl _ _).alloc (Nat.le_refl _) _

set_option maxHeartbeats 400000 in
theorem measure_ne (s : ByteArray) (w : World) (hs : s.size ≤ 4000000000) (h : hexp s.data.toList = false) (hp1 : Lib.hasPrefix s.data.toList [48, 120] = false) (hp2 : Lib.hasPrefix s.data.toList [48, 88] = false) (n : Nat) (hn : cnt 10 s.data.toList = n) (h0 : 0 < n) (h1 : n < s.size) (h2 : ((s[n].toNat : Int) == 46) = true) (m : Nat) (hm : cnt 10 (s.data.toList.drop (n + 1)) = m) (h3 : 0 < m) (hf : frac s.data.toList = true) :
    Calls Tryd.prog 74 #[.string s] w fun e w' => e = .returned (msV (meas s.data.toList)) ∧ Below w.heap.size w w' := by
  have hcl := cnt_le 10 s.data.toList
  rw [hn, list_size] at hcl
  have hcm := cnt_le 10 (s.data.toList.drop (n + 1))
  rw [hm, List.length_drop, list_size] at hcm
  have HM := Lib.hid (show meas s.data.toList = ⟨10, s.data.toList.take n, (s.data.toList.drop (n + 1)).take m, n + 1 + m⟩ by unfold meas; rw [if_neg (by simp [h]), if_pos hf, hn, hm])
  have P1 := pre_fact s ⟨#[48, 120]⟩ false hp1
  have P2 := pre_fact s ⟨#[48, 88]⟩ false hp2
  have C10 := count_fact0 s 10 n hs (by omega) (by omega) hn
  have C16 := C10
  have CF := count_fact s 10 m (n + 1) hs (by omega) (by omega) hm
  clear h hp1 hp2 hn hf hm
  go_enter Tryd.func74, Tryd.ntmps74
  go_wp2_with (first | (go_at_call 89; (with_reducible refine (P1.out _).mono ?_); rintro e w' ⟨rfl, rfl⟩) | (go_at_call 89; (with_reducible refine (P2.out _).mono ?_); rintro e w' ⟨rfl, rfl⟩) | (go_at_call 90; (with_reducible refine (C16.out _).mono ?_); rintro e w' ⟨rfl, rfl⟩) | (go_at_call 90; (with_reducible refine (C10.out _).mono ?_); rintro e w' ⟨rfl, rfl⟩) | (go_at_call 90; (with_reducible refine (CF.out _).mono ?_); rintro e w' ⟨rfl, rfl⟩))
  go_region
  all_goals go_wp2
  refine bodyPost_ret (v := .agg #[.int .i64 10, .string (s.extract 0 n), .string (s.extract (n + 1) (n + 1 + m)), .int .i64 (n + 1 + m)]) (by simp [results, Tryd.results74, go_sem]) rfl ⟨?_, ?_⟩
  · rw [HM.out]; unfold msV; rw [ext_mk, ext_mk, List.drop_zero, Nat.sub_zero, show n + 1 + m - (n + 1) = m by omega]; simp [mkB]
  · exact ((Below.refl _ _).alloc (Nat.le_refl _) _).drew
end Go.Proofs.YtmnfebgkpcjjjaaDoor
