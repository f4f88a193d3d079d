/- NumeralRounds. No condition. -/
import Derived.Test.YtplfdfpnplhonaaDoorNumY
namespace Go.Proofs.YtplfdfpnplhonaaDoor.numeralRoundsLaw
open Go.ChangeMaps (open_string shut_string)
open Go.ChangeShapes Go.WideShapes Go.ChangeAt Go.RowKit Go.Joins M1 M2
set_option linter.unusedVariables false


theorem sub_hi {p q p' q' : Int} (h : (subR p q p' q').E = 0) : (subR p q p' q').Q ≤ 2147483647 := by
  unfold subR at h ⊢
  split at h
  · rename_i hb
    rw [if_pos hb]
    have hf : fit (rat (p * q' - p' * q) (q * q')) = true := fit_of_oE h
    show oQ _ ≤ _
    rw [oQ_fit hf]
    exact (fit_iff.1 hf).2.2
  · cases h

set_option maxHeartbeats 4000000 in
theorem R0 (p q : Int) (m k : Nat) (hm : m ≤ 255) (hk : (m : Int) % 10 = (k : Int)) (hk9 : k ≤ 9) (w : World) (he : Env w)
    (V1 : Hid (∀ w, Calls Tryd.prog 24 #[.agg #[.int .i64 p, .int .i64 q]] w fun e w' => e = .returned (.bool false) ∧ Below w.heap.size w w'))
    (F1 : Hid (∀ w, Env w → Calls Tryd.prog 20 #[.agg #[.int .i64 p, .int .i64 q], .int .i64 (k : Int)] w fun e w' => e = .returned (.tuple #[.string ⟨#[]⟩, .int .i64 2]) ∧ Below w.heap.size w w')) :
    Calls Tryd.prog 11 #[.agg #[.int .i64 p, .int .i64 q], .int .u8 (m : Int)] w fun e w' => e = .returned (.bool true) ∧ Below w.heap.size w w' := by
  have HE := Lib.hid (he.alloc (.cells #[.int .i64 p, .int .i64 q] 23))
  clear he
  go_enter Tryd.func11, Tryd.ntmps11
  go_wp2_with (first | (go_at_call 20; (with_reducible refine (F1.out _ HE.out).mono ?_); rintro e w1 ⟨rfl, hb1⟩; obtain ⟨hc1, hf1⟩ := bcell hb1; have hz1 := hb1.size; (try simp at hz1); have k10 : w1.cell? ⟨w.heap.size, 0, none⟩ = some (.int .i64 p) := (by go_simp); have k11 : w1.cell? ⟨w.heap.size, 1, none⟩ = some (.int .i64 q) := (by go_simp); have HE1 := Lib.hid (HE.out.on hb1)) | (go_at_call 24; (with_reducible refine (V1.out _).mono ?_); rintro e w2 ⟨rfl, hb2⟩; obtain ⟨hc2, hf2⟩ := bcell hb2; have hz2 := hb2.size; (try simp at hz2); have HE2 := Lib.hid (HE1.out.on hb2)) | (go_at_call 14; (with_reducible refine (awake_any _ HE2.out).mono ?_); rintro e w3 ⟨rfl, hb3⟩; obtain ⟨hc3, hf3⟩ := bcell hb3; have hz3 := hb3.size; (try simp at hz3); ))
  go_ret
  refine ⟨rfl, ?_⟩
  repeat (first | exact Below.refl _ _ | refine below_drewN ?_ _ | refine Below.drew ?_ | refine Below.setCell ?_ (by first | omega | (simp; done) | (simp; omega)) _ | refine Below.alloc ?_ (by first | omega | (simp; done) | (simp; omega)) _ | refine below_step (by assumption) (by first | omega | (simp; done) | (simp; omega)) ?_)

set_option maxHeartbeats 4000000 in
theorem R1 (p q bP bQ dP dQ : Int) (t : ByteArray) (m k : Nat) (hm : m ≤ 255) (hk : (m : Int) % 10 = (k : Int)) (hk9 : k ≤ 9) (bE dE : Int) (hbE : (bE == 0) = false) (w : World) (he : Env w)
    (F1 : Hid (∀ w, Env w → Calls Tryd.prog 20 #[.agg #[.int .i64 p, .int .i64 q], .int .i64 (k : Int)] w fun e w' => e = .returned (.tuple #[.string t, .int .i64 0]) ∧ Below w.heap.size w w'))
    (P1 : Hid (∀ w, Env w → Calls Tryd.prog 16 #[.string t] w fun e w' => e = .returned (.tuple #[.agg #[.int .i64 bP, .int .i64 bQ], .int .i64 bE]) ∧ Below w.heap.size w w'))
    (S1 : Hid (∀ w, Calls Tryd.prog 27 #[.agg #[.int .i64 p, .int .i64 q], .agg #[.int .i64 bP, .int .i64 bQ]] w fun e w' => e = .returned (.tuple #[.agg #[.int .i64 dP, .int .i64 dQ], .int .i64 dE]) ∧ Below w.heap.size w w')) :
    Calls Tryd.prog 11 #[.agg #[.int .i64 p, .int .i64 q], .int .u8 (m : Int)] w fun e w' => e = .returned (.bool true) ∧ Below w.heap.size w w' := by
  have HE := Lib.hid (he.alloc (.cells #[.int .i64 p, .int .i64 q] 23))
  clear he
  go_enter Tryd.func11, Tryd.ntmps11
  go_wp2_with (go_at_call 20; (with_reducible refine (F1.out _ HE.out).mono ?_); rintro e w1 ⟨rfl, hb1⟩; obtain ⟨hc1, hf1⟩ := bcell hb1; have hz1 := hb1.size; (try simp at hz1); have y10 : w.heap.size < w1.heap.size := (by omega); have k10 : w1.cell? ⟨w.heap.size, 0, none⟩ = some (.int .i64 p) := (by go_simp); have k11 : w1.cell? ⟨w.heap.size, 1, none⟩ = some (.int .i64 q) := (by go_simp); have HE1 := Lib.hid (HE.out.on hb1))
  go_loop [8, 9] (fun s i => ∃ (j S : Nat), j ≤ k ∧ s = .int .i64 S ∧ i = .int .i64 j ∧ Hid (S = 10 ^ j) ∧ S ≤ 1000000000) (fun _ i => k - (intOf i).toNat)
  case atStart => exact ⟨0, 1, Nat.zero_le _, rfl, rfl, Lib.hid rfl, by omega⟩
  case round =>
    obtain ⟨j, S, hj, rfl, rfl, HS, hS2⟩ := hrel
    by_cases hlt : j < k
    · have hP2 : S * 10 ≤ 1000000000 := by
        have h1 := HS.out
        have : 10 ^ (j + 1) ≤ 10 ^ 9 := Nat.pow_le_pow_right (by omega) (by omega)
        rw [Nat.pow_succ] at this
        omega
      go_wp2
      go_round
      case rel =>
        refine ⟨j + 1, S * 10, by omega, by go_num, by go_num, Lib.hid ?_, hP2⟩
        rw [HS.out, Nat.pow_succ]
      case measure => simp [intOf]; omega
    · obtain rfl : j = k := by omega
      go_wp2_with (first | (go_at_call 16; (with_reducible refine (P1.out _ HE1.out).mono ?_); rintro e w2 ⟨rfl, hb2⟩; obtain ⟨hc2, hf2⟩ := bcell hb2; have hz2 := hb2.size; (try simp at hz2); have y20 : w.heap.size < w2.heap.size := (by omega); have k20 : w2.cell? ⟨w.heap.size, 0, none⟩ = some (.int .i64 p) := (by go_simp); have k21 : w2.cell? ⟨w.heap.size, 1, none⟩ = some (.int .i64 q) := (by go_simp); have HE2 := Lib.hid ((HE1.out.on hb2).alloc (.cells #[.int .i64 bP, .int .i64 bQ] 23))) | (go_at_call 27; (with_reducible refine (S1.out _).mono ?_); rintro e w3 ⟨rfl, hb3⟩; obtain ⟨hc3, hf3⟩ := bcell hb3; have hz3 := hb3.size; (try simp at hz3); have y30 : w.heap.size < w3.heap.size := (by omega); have y32 : w2.heap.size < w3.heap.size := (by omega); have HE3 := Lib.hid ((HE2.out.on hb3).alloc (.cells #[.int .i64 dP, .int .i64 dQ] 23))) | (go_at_call 14; (with_reducible refine (awake_any _ HE3.out).mono ?_); rintro e w4 ⟨rfl, hb4⟩; obtain ⟨hc4, hf4⟩ := bcell hb4; have hz4 := hb4.size; (try simp at hz4); ))
      go_ret
      refine ⟨rfl, ?_⟩
      repeat (first | exact Below.refl _ _ | refine below_drewN ?_ _ | refine Below.drew ?_ | refine Below.setCell ?_ (by first | omega | (simp; done) | (simp; omega)) _ | refine Below.alloc ?_ (by first | omega | (simp; done) | (simp; omega)) _ | refine below_step (by assumption) (by first | omega | (simp; done) | (simp; omega)) ?_)

set_option maxHeartbeats 4000000 in
theorem R2 (p q bP bQ dP dQ : Int) (t : ByteArray) (m k : Nat) (hm : m ≤ 255) (hk : (m : Int) % 10 = (k : Int)) (hk9 : k ≤ 9) (dE : Int) (hdE : (dE == 0) = false) (w : World) (he : Env w)
    (F1 : Hid (∀ w, Env w → Calls Tryd.prog 20 #[.agg #[.int .i64 p, .int .i64 q], .int .i64 (k : Int)] w fun e w' => e = .returned (.tuple #[.string t, .int .i64 0]) ∧ Below w.heap.size w w'))
    (P1 : Hid (∀ w, Env w → Calls Tryd.prog 16 #[.string t] w fun e w' => e = .returned (.tuple #[.agg #[.int .i64 bP, .int .i64 bQ], .int .i64 0]) ∧ Below w.heap.size w w'))
    (S1 : Hid (∀ w, Calls Tryd.prog 27 #[.agg #[.int .i64 p, .int .i64 q], .agg #[.int .i64 bP, .int .i64 bQ]] w fun e w' => e = .returned (.tuple #[.agg #[.int .i64 dP, .int .i64 dQ], .int .i64 dE]) ∧ Below w.heap.size w w')) :
    Calls Tryd.prog 11 #[.agg #[.int .i64 p, .int .i64 q], .int .u8 (m : Int)] w fun e w' => e = .returned (.bool true) ∧ Below w.heap.size w w' := by
  have HE := Lib.hid (he.alloc (.cells #[.int .i64 p, .int .i64 q] 23))
  clear he
  go_enter Tryd.func11, Tryd.ntmps11
  go_wp2_with (go_at_call 20; (with_reducible refine (F1.out _ HE.out).mono ?_); rintro e w1 ⟨rfl, hb1⟩; obtain ⟨hc1, hf1⟩ := bcell hb1; have hz1 := hb1.size; (try simp at hz1); have y10 : w.heap.size < w1.heap.size := (by omega); have k10 : w1.cell? ⟨w.heap.size, 0, none⟩ = some (.int .i64 p) := (by go_simp); have k11 : w1.cell? ⟨w.heap.size, 1, none⟩ = some (.int .i64 q) := (by go_simp); have HE1 := Lib.hid (HE.out.on hb1))
  go_loop [8, 9] (fun s i => ∃ (j S : Nat), j ≤ k ∧ s = .int .i64 S ∧ i = .int .i64 j ∧ Hid (S = 10 ^ j) ∧ S ≤ 1000000000) (fun _ i => k - (intOf i).toNat)
  case atStart => exact ⟨0, 1, Nat.zero_le _, rfl, rfl, Lib.hid rfl, by omega⟩
  case round =>
    obtain ⟨j, S, hj, rfl, rfl, HS, hS2⟩ := hrel
    by_cases hlt : j < k
    · have hP2 : S * 10 ≤ 1000000000 := by
        have h1 := HS.out
        have : 10 ^ (j + 1) ≤ 10 ^ 9 := Nat.pow_le_pow_right (by omega) (by omega)
        rw [Nat.pow_succ] at this
        omega
      go_wp2
      go_round
      case rel =>
        refine ⟨j + 1, S * 10, by omega, by go_num, by go_num, Lib.hid ?_, hP2⟩
        rw [HS.out, Nat.pow_succ]
      case measure => simp [intOf]; omega
    · obtain rfl : j = k := by omega
      go_wp2_with (first | (go_at_call 16; (with_reducible refine (P1.out _ HE1.out).mono ?_); rintro e w2 ⟨rfl, hb2⟩; obtain ⟨hc2, hf2⟩ := bcell hb2; have hz2 := hb2.size; (try simp at hz2); have y20 : w.heap.size < w2.heap.size := (by omega); have k20 : w2.cell? ⟨w.heap.size, 0, none⟩ = some (.int .i64 p) := (by go_simp); have k21 : w2.cell? ⟨w.heap.size, 1, none⟩ = some (.int .i64 q) := (by go_simp); have HE2 := Lib.hid ((HE1.out.on hb2).alloc (.cells #[.int .i64 bP, .int .i64 bQ] 23))) | (go_at_call 27; (with_reducible refine (S1.out _).mono ?_); rintro e w3 ⟨rfl, hb3⟩; obtain ⟨hc3, hf3⟩ := bcell hb3; have hz3 := hb3.size; (try simp at hz3); have y30 : w.heap.size < w3.heap.size := (by omega); have y32 : w2.heap.size < w3.heap.size := (by omega); have HE3 := Lib.hid ((HE2.out.on hb3).alloc (.cells #[.int .i64 dP, .int .i64 dQ] 23))) | (go_at_call 14; (with_reducible refine (awake_any _ HE3.out).mono ?_); rintro e w4 ⟨rfl, hb4⟩; obtain ⟨hc4, hf4⟩ := bcell hb4; have hz4 := hb4.size; (try simp at hz4); ))
      go_ret
      refine ⟨rfl, ?_⟩
      repeat (first | exact Below.refl _ _ | refine below_drewN ?_ _ | refine Below.drew ?_ | refine Below.setCell ?_ (by first | omega | (simp; done) | (simp; omega)) _ | refine Below.alloc ?_ (by first | omega | (simp; done) | (simp; omega)) _ | refine below_step (by assumption) (by first | omega | (simp; done) | (simp; omega)) ?_)

set_option maxHeartbeats 4000000 in
theorem R3 (p q bP bQ dP dQ : Int) (t : ByteArray) (m k : Nat) (hm : m ≤ 255) (hk : (m : Int) % 10 = (k : Int)) (hk9 : k ≤ 9) (hb1 : -2147483647 ≤ dP) (hb2 : dP ≤ 2147483647) (pv : Int) (hmx : (if -dP > dP then -dP else dP) = pv) (hmx2 : max dP (-dP) = pv) (hpv : (pv == 0) = true) (w : World) (he : Env w)
    (F1 : Hid (∀ w, Env w → Calls Tryd.prog 20 #[.agg #[.int .i64 p, .int .i64 q], .int .i64 (k : Int)] w fun e w' => e = .returned (.tuple #[.string t, .int .i64 0]) ∧ Below w.heap.size w w'))
    (P1 : Hid (∀ w, Env w → Calls Tryd.prog 16 #[.string t] w fun e w' => e = .returned (.tuple #[.agg #[.int .i64 bP, .int .i64 bQ], .int .i64 0]) ∧ Below w.heap.size w w'))
    (S1 : Hid (∀ w, Calls Tryd.prog 27 #[.agg #[.int .i64 p, .int .i64 q], .agg #[.int .i64 bP, .int .i64 bQ]] w fun e w' => e = .returned (.tuple #[.agg #[.int .i64 dP, .int .i64 dQ], .int .i64 0]) ∧ Below w.heap.size w w')) :
    Calls Tryd.prog 11 #[.agg #[.int .i64 p, .int .i64 q], .int .u8 (m : Int)] w fun e w' => e = .returned (.bool true) ∧ Below w.heap.size w w' := by
  have HE := Lib.hid (he.alloc (.cells #[.int .i64 p, .int .i64 q] 23))
  clear he
  go_enter Tryd.func11, Tryd.ntmps11
  go_wp2_with (go_at_call 20; (with_reducible refine (F1.out _ HE.out).mono ?_); rintro e w1 ⟨rfl, hb1⟩; obtain ⟨hc1, hf1⟩ := bcell hb1; have hz1 := hb1.size; (try simp at hz1); have y10 : w.heap.size < w1.heap.size := (by omega); have k10 : w1.cell? ⟨w.heap.size, 0, none⟩ = some (.int .i64 p) := (by go_simp); have k11 : w1.cell? ⟨w.heap.size, 1, none⟩ = some (.int .i64 q) := (by go_simp); have HE1 := Lib.hid (HE.out.on hb1))
  go_loop [8, 9] (fun s i => ∃ (j S : Nat), j ≤ k ∧ s = .int .i64 S ∧ i = .int .i64 j ∧ Hid (S = 10 ^ j) ∧ S ≤ 1000000000) (fun _ i => k - (intOf i).toNat)
  case atStart => exact ⟨0, 1, Nat.zero_le _, rfl, rfl, Lib.hid rfl, by omega⟩
  case round =>
    obtain ⟨j, S, hj, rfl, rfl, HS, hS2⟩ := hrel
    by_cases hlt : j < k
    · have hP2 : S * 10 ≤ 1000000000 := by
        have h1 := HS.out
        have : 10 ^ (j + 1) ≤ 10 ^ 9 := Nat.pow_le_pow_right (by omega) (by omega)
        rw [Nat.pow_succ] at this
        omega
      go_wp2
      go_round
      case rel =>
        refine ⟨j + 1, S * 10, by omega, by go_num, by go_num, Lib.hid ?_, hP2⟩
        rw [HS.out, Nat.pow_succ]
      case measure => simp [intOf]; omega
    · obtain rfl : j = k := by omega
      go_wp2_with (first | (go_at_call 16; (with_reducible refine (P1.out _ HE1.out).mono ?_); rintro e w2 ⟨rfl, hb2⟩; obtain ⟨hc2, hf2⟩ := bcell hb2; have hz2 := hb2.size; (try simp at hz2); have y20 : w.heap.size < w2.heap.size := (by omega); have k20 : w2.cell? ⟨w.heap.size, 0, none⟩ = some (.int .i64 p) := (by go_simp); have k21 : w2.cell? ⟨w.heap.size, 1, none⟩ = some (.int .i64 q) := (by go_simp); have HE2 := Lib.hid ((HE1.out.on hb2).alloc (.cells #[.int .i64 bP, .int .i64 bQ] 23))) | (go_at_call 27; (with_reducible refine (S1.out _).mono ?_); rintro e w3 ⟨rfl, hb3⟩; obtain ⟨hc3, hf3⟩ := bcell hb3; have hz3 := hb3.size; (try simp at hz3); have y30 : w.heap.size < w3.heap.size := (by omega); have y32 : w2.heap.size < w3.heap.size := (by omega); have HE3 := Lib.hid ((HE2.out.on hb3).alloc (.cells #[.int .i64 dP, .int .i64 dQ] 23))) | (go_at_call 14; (with_reducible refine (awake_any _ HE3.out).mono ?_); rintro e w4 ⟨rfl, hb4⟩; obtain ⟨hc4, hf4⟩ := bcell hb4; have hz4 := hb4.size; (try simp at hz4); ))
      go_ret
      refine ⟨rfl, ?_⟩
      repeat (first | exact Below.refl _ _ | refine below_drewN ?_ _ | refine Below.drew ?_ | refine Below.setCell ?_ (by first | omega | (simp; done) | (simp; omega)) _ | refine Below.alloc ?_ (by first | omega | (simp; done) | (simp; omega)) _ | refine below_step (by assumption) (by first | omega | (simp; done) | (simp; omega)) ?_)

set_option maxHeartbeats 4000000 in
theorem R4 (p q bP bQ dP dQ : Int) (t : ByteArray) (m k : Nat) (hm : m ≤ 255) (hk : (m : Int) % 10 = (k : Int)) (hk9 : k ≤ 9) (hb1 : -2147483647 ≤ dP) (hb2 : dP ≤ 2147483647) (hq2 : dQ ≤ 2147483647) (pv : Int) (hmx : (if -dP > dP then -dP else dP) = pv) (hmx2 : max dP (-dP) = pv) (hpv : (pv == 0) = false) (hp1 : 0 < pv) (hp2 : pv ≤ 2147483647) (hS : Hid (2 * pv * 10 ^ k ≤ dQ)) (w : World) (he : Env w)
    (F1 : Hid (∀ w, Env w → Calls Tryd.prog 20 #[.agg #[.int .i64 p, .int .i64 q], .int .i64 (k : Int)] w fun e w' => e = .returned (.tuple #[.string t, .int .i64 0]) ∧ Below w.heap.size w w'))
    (P1 : Hid (∀ w, Env w → Calls Tryd.prog 16 #[.string t] w fun e w' => e = .returned (.tuple #[.agg #[.int .i64 bP, .int .i64 bQ], .int .i64 0]) ∧ Below w.heap.size w w'))
    (S1 : Hid (∀ w, Calls Tryd.prog 27 #[.agg #[.int .i64 p, .int .i64 q], .agg #[.int .i64 bP, .int .i64 bQ]] w fun e w' => e = .returned (.tuple #[.agg #[.int .i64 dP, .int .i64 dQ], .int .i64 0]) ∧ Below w.heap.size w w')) :
    Calls Tryd.prog 11 #[.agg #[.int .i64 p, .int .i64 q], .int .u8 (m : Int)] w fun e w' => e = .returned (.bool true) ∧ Below w.heap.size w w' := by
  have HE := Lib.hid (he.alloc (.cells #[.int .i64 p, .int .i64 q] 23))
  clear he
  go_enter Tryd.func11, Tryd.ntmps11
  go_wp2_with (go_at_call 20; (with_reducible refine (F1.out _ HE.out).mono ?_); rintro e w1 ⟨rfl, hb1⟩; obtain ⟨hc1, hf1⟩ := bcell hb1; have hz1 := hb1.size; (try simp at hz1); have y10 : w.heap.size < w1.heap.size := (by omega); have k10 : w1.cell? ⟨w.heap.size, 0, none⟩ = some (.int .i64 p) := (by go_simp); have k11 : w1.cell? ⟨w.heap.size, 1, none⟩ = some (.int .i64 q) := (by go_simp); have HE1 := Lib.hid (HE.out.on hb1))
  go_loop [8, 9] (fun s i => ∃ (j S : Nat), j ≤ k ∧ s = .int .i64 S ∧ i = .int .i64 j ∧ Hid (S = 10 ^ j) ∧ S ≤ 1000000000) (fun _ i => k - (intOf i).toNat)
  case atStart => exact ⟨0, 1, Nat.zero_le _, rfl, rfl, Lib.hid rfl, by omega⟩
  case round =>
    obtain ⟨j, S, hj, rfl, rfl, HS, hS2⟩ := hrel
    by_cases hlt : j < k
    · have hP2 : S * 10 ≤ 1000000000 := by
        have h1 := HS.out
        have : 10 ^ (j + 1) ≤ 10 ^ 9 := Nat.pow_le_pow_right (by omega) (by omega)
        rw [Nat.pow_succ] at this
        omega
      go_wp2
      go_round
      case rel =>
        refine ⟨j + 1, S * 10, by omega, by go_num, by go_num, Lib.hid ?_, hP2⟩
        rw [HS.out, Nat.pow_succ]
      case measure => simp [intOf]; omega
    · obtain rfl : j = k := by omega
      have hS1 : 1 ≤ S := by rw [HS.out]; exact Nat.pow_pos (by omega)
      have hx : 2 * pv * (S : Int) ≤ dQ := by have h := hS.out; rw [HS.out]; push_cast; exact h
      have hx0 : 0 ≤ 2 * pv * (S : Int) := Int.mul_nonneg (by omega) (by omega)
      go_wp2_with (first | (go_at_call 16; (with_reducible refine (P1.out _ HE1.out).mono ?_); rintro e w2 ⟨rfl, hb2⟩; obtain ⟨hc2, hf2⟩ := bcell hb2; have hz2 := hb2.size; (try simp at hz2); have y20 : w.heap.size < w2.heap.size := (by omega); have k20 : w2.cell? ⟨w.heap.size, 0, none⟩ = some (.int .i64 p) := (by go_simp); have k21 : w2.cell? ⟨w.heap.size, 1, none⟩ = some (.int .i64 q) := (by go_simp); have HE2 := Lib.hid ((HE1.out.on hb2).alloc (.cells #[.int .i64 bP, .int .i64 bQ] 23))) | (go_at_call 27; (with_reducible refine (S1.out _).mono ?_); rintro e w3 ⟨rfl, hb3⟩; obtain ⟨hc3, hf3⟩ := bcell hb3; have hz3 := hb3.size; (try simp at hz3); have y30 : w.heap.size < w3.heap.size := (by omega); have y32 : w2.heap.size < w3.heap.size := (by omega); have HE3 := Lib.hid ((HE2.out.on hb3).alloc (.cells #[.int .i64 dP, .int .i64 dQ] 23))) | (go_at_call 14; (with_reducible refine (awake_any _ HE3.out).mono ?_); rintro e w4 ⟨rfl, hb4⟩; obtain ⟨hc4, hf4⟩ := bcell hb4; have hz4 := hb4.size; (try simp at hz4); ))
      go_ret
      refine ⟨rfl, ?_⟩
      repeat (first | exact Below.refl _ _ | refine below_drewN ?_ _ | refine Below.drew ?_ | refine Below.setCell ?_ (by first | omega | (simp; done) | (simp; omega)) _ | refine Below.alloc ?_ (by first | omega | (simp; done) | (simp; omega)) _ | refine below_step (by assumption) (by first | omega | (simp; done) | (simp; omega)) ?_)

set_option maxHeartbeats 4000000 in
theorem walk (p0 q0 : Int) (wp0 : (Lit.int .i64 p0).wf = true) (wq0 : (Lit.int .i64 q0).wf = true) (n1 : Int) (wn1 : (Lit.int .u8 n1).wf = true) (w : World) (he : Env w) :
    Calls Tryd.prog 11 #[.agg #[.int .i64 p0, .int .i64 q0], .int .u8 n1] w fun e w' => e = .returned (.bool true) ∧ Below w.heap.size w w' := by
  obtain ⟨m, rfl⟩ := Int.eq_ofNat_of_zero_le (show 0 ≤ n1 by have := wn1; simp [Lit.wf, IntKind.min, IntKind.max, IntKind.signed, IntKind.bits] at this; omega)
  have hm : m ≤ 255 := by have := wn1; simp [Lit.wf, IntKind.min, IntKind.max, IntKind.signed, IntKind.bits] at this; omega
  have hk : (m : Int) % 10 = ((m % 10 : Nat) : Int) := by push_cast; rfl
  have hk9 : m % 10 ≤ 9 := by omega
  generalize m % 10 = k at *
  have F1 : ∀ w, Env w → _ := fun w he => fix_any p0 q0 (k : Int) w he
  cases hv : vld p0 q0 with
  | false =>
    have V1 := fun w => rvalid_any p0 q0 w
    rw [hv] at V1
    rw [show fixS p0 q0 k = [] by unfold fixS; rw [if_neg (by simp [hv])], show fixE p0 q0 k = 2 by unfold fixE; rw [if_neg (by simp [hv])]] at F1
    exact R0 p0 q0 m k hm hk hk9 w he (Lib.hid V1) (Lib.hid F1)
  | true =>
    rw [show fixS p0 q0 k = fixL p0 q0.toNat k by unfold fixS; rw [if_pos ⟨hv, by omega, by omega⟩]; simp, show fixE p0 q0 k = 0 by unfold fixE; rw [if_pos ⟨hv, by omega, by omega⟩]] at F1
    have hsz : (mkB (fixL p0 q0.toNat k)).size ≤ 4000000000 := by
      obtain ⟨h1, h2, h3, h4, hg⟩ := vld_iff.1 hv
      have hN : p0.natAbs * 10 ^ k ≤ 2147483647 * 1000000000 := Nat.mul_le_mul (by omega) (pow_le hk9)
      have hT : fixT p0.natAbs q0.toNat k ≤ 4611686018427387904 := by
        unfold fixT
        have := up_01 (fixN p0.natAbs q0.toNat k) (fixR p0.natAbs q0.toNat k) q0.toNat
        have : fixN p0.natAbs q0.toNat k ≤ p0.natAbs * 10 ^ k := Nat.div_le_self _ _
        omega
      have hdl := Nat.div_le_self (fixT p0.natAbs q0.toNat k) (10 ^ k)
      have hd : (Lib.decDigits (fixT p0.natAbs q0.toNat k / 10 ^ k)).length ≤ 64 := by rw [← bd_ten _ (by omega)]; exact (bd_len (by omega) (by omega)).2
      rw [mkB_size]; unfold fixL
      rw [List.length_append, List.length_append]
      have h1 : (if p0 < 0 ∧ fixT p0.natAbs q0.toNat k ≠ 0 then [(45 : UInt8)] else []).length ≤ 1 := by split <;> simp
      have h2 : (if k = 0 then [] else (46 : UInt8) :: pad k (fixT p0.natAbs q0.toNat k % 10 ^ k)).length ≤ 10 := by
        split
        · simp
        · rw [List.length_cons, pad_len]; omega
      omega
    have P1 : ∀ w, Env w → _ := fun w he => parse_any (mkB (fixL p0 q0.toNat k)) w hsz he
    rw [mkB_list] at P1
    generalize hb : parseR (fixL p0 q0.toNat k) = b at P1
    have S1 := fun w => sub_any p0 q0 b.P b.Q w
    have hr := rounds hv hk9 b hb.symm
    generalize mkB (fixL p0 q0.toNat k) = t at *
    generalize hd : subR p0 q0 b.P b.Q = d at S1
    by_cases hbE : b.E = 0
    · rw [hbE] at P1
      by_cases hdE : d.E = 0
      · rw [hdE] at S1
        obtain ⟨r1, r2, r3, r4⟩ := hr hbE d hd.symm hdE
        have hq2 : d.Q ≤ 2147483647 := by have h := sub_hi (p := p0) (q := q0) (p' := b.P) (q' := b.Q); rw [hd] at h; exact h hdE
        have hmx2 : max d.P (-d.P) = if -d.P > d.P then -d.P else d.P := by split <;> omega
        by_cases h0 : d.P = 0
        · exact R3 p0 q0 b.P b.Q d.P d.Q t m k hm hk hk9 r3 r4 0 (by rw [h0]; rfl) (by rw [h0]; rfl) rfl w he (Lib.hid F1) (Lib.hid P1) (Lib.hid S1)
        · by_cases hn : -d.P > d.P
          · rw [if_pos hn] at hmx2
            exact R4 p0 q0 b.P b.Q d.P d.Q t m k hm hk hk9 r3 r4 hq2 (-d.P) (if_pos hn) hmx2 (beq_eq_false_iff_ne.2 (by omega)) (by omega) (by omega) (Lib.hid r2) w he (Lib.hid F1) (Lib.hid P1) (Lib.hid S1)
          · rw [if_neg hn] at hmx2
            exact R4 p0 q0 b.P b.Q d.P d.Q t m k hm hk hk9 r3 r4 hq2 d.P (if_neg hn) hmx2 (beq_eq_false_iff_ne.2 (by omega)) (by omega) (by omega) (Lib.hid r1) w he (Lib.hid F1) (Lib.hid P1) (Lib.hid S1)
      · exact R2 p0 q0 b.P b.Q d.P d.Q t m k hm hk hk9 d.E (beq_eq_false_iff_ne.2 hdE) w he (Lib.hid F1) (Lib.hid P1) (Lib.hid S1)
    · exact R1 p0 q0 b.P b.Q d.P d.Q t m k hm hk hk9 b.E d.E (beq_eq_false_iff_ne.2 hbE) w he (Lib.hid F1) (Lib.hid P1) (Lib.hid S1)

theorem reads (os : Os) {H : Type} (enc : TypeId × Value → H) : ∃ places, DataW.whole enc Tryd.prog ((World.laidAll Tryd.prog os L5).forCall (fun _ _ => 0) ⟨#[], #[.agg #[.int .i64 1, .int .i64 1], .int .u8 0], []⟩).memory Tryd.f11.params.toList Rows.numeralRoundsSpec.vars false #[Value.agg #[.int .i64 1, .int .i64 1], .int .u8 0].toList 8 = some ([.agg [.lit (.int .i64 1), .lit (.int .i64 1)], .lit (.int .u8 0)], [], places) :=
  ⟨[], by kernel_rfl⟩
set_option maxRecDepth 100000 in
theorem lifted (os : Os) (started : os.Started) (H : Type) (enc : TypeId × Value → H) (F : Stop.Interp) :
    ReturnsInHanded {} Tryd.checked os 11 .any ((OpenSpec.ofChange Rows.numeralRoundsSpec).preRow enc Tryd.prog Tryd.f11 Rows.numeralRoundsRow.domain false L5) (((OpenSpec.ofChange Rows.numeralRoundsSpec).at F).post enc Tryd.prog Tryd.f11 false true false false) := by
  obtain ⟨places, hx⟩ := reads os enc
  refine returnsInHanded_of_row (C := Tryd.checked) (s := OpenSpec.ofChange Rows.numeralRoundsSpec) own started (by kernel_rfl) Tryd.func11
    ⟨World.laidAll Tryd.prog os L5, fun _ _ => 0, ⟨#[], #[.agg #[.int .i64 1, .int .i64 1], .int .u8 0], []⟩, World.laidAll_os _ _ _, wit_shaped os _, rfl, (Input.okWide_of_okWideB (by kernel_rfl)).2,
      OpenSpec.preRow_of_cond 8 hx (by kernel_rfl) (fun k hk => by cases hk) (by kernel_rfl) (laid_met os _), by
        simp only [Assume.holds]
        exact ⟨by simp, by simp, fun _ => Modest.zero, by simp, by simp⟩⟩ ?_
  intro W base args ds gs before hval0 hW _ _ _ hL hsh _
  have hE := env hL hsh
  have hval : ∀ (j : Nat) t v, Tryd.f11.params[j]? = some t → args[j]? = some v → Value.okWide Tryd.prog W .any base t v := hval0
  have hW' := hW
  obtain ⟨p, q, hA0, hV, rfl, hfz, hnd⟩ := hW
  have hA : DataW.TrodAll enc Tryd.prog W 0 (fun _ => true) true Tryd.f11.params.toList args.toList ds p := hA0
  rw [Tryd.params11] at hA hval
  obtain ⟨v0, vs0, d0, ds0, p_0, q_0, hargs, rfl, rfl, h0, r0⟩ := trodAll_cons hA
  obtain ⟨v1, vs1, d1, ds1, p_1, q_1, rfl, rfl, rfl, h1, r1⟩ := trodAll_cons r0
  obtain ⟨rfl, rfl, rfl⟩ := trodAll_nil r1
  obtain rfl : args = #[v0, v1] := by cases args; simp_all
  obtain ⟨rfl, rfl⟩ := trodVars_none hV
  obtain ⟨c00, c01, y00, y01, m0, rfl, rfl, rfl, hy00, hy01⟩ := open_agg2 Tryd.underlying23 (by kernel_rfl) cellsNum (hval 0 23 v0 rfl rfl) h0
  obtain ⟨p0, ep0, rfl, wp0⟩ := DataW.trod_int Tryd.underlying3 hy00
  obtain ⟨q0, eq0, rfl, wq0⟩ := DataW.trod_int Tryd.underlying3 hy01
  simp at ep0 eq0
  subst ep0 eq0
  obtain ⟨n1, rfl, rfl, rfl, wn1⟩ := open_int Tryd.underlying5 (hval 1 5 v1 rfl rfl) h1
  clear hA0 hval0
  simp only [List.append_nil] at hW'
  refine (walk p0 q0 wp0 wq0 n1 wn1 W hE).mono fun e W' ⟨he, bel⟩ => ?_
  subst he
  exact ⟨_, rfl, _, _, _, [], [], [], hW', trodAll_mk1 (shut_bool Tryd.underlying4 _), (trodAll_cons_mk (numReads W' _ p0 q0 wp0 wq0) (trodAll_cons_mk (shut_int Tryd.underlying5 wn1) trodAll_mk0)), rfl, bel.frame _, fun h => by cases h⟩

theorem said : Rows.NumeralRoundsSaid :=
  OpenClaim.holds_of_cond 11 Tryd.f11 rfl rfl rfl rfl rfl rfl rfl ⟨rfl, rfl, rfl, rfl, rfl⟩ rfl rfl rfl rfl rfl (by kernel_rfl) Tryd.func11 (by kernel_rfl)
    (of_decide_eq_true (by kernel_rfl)) (by unfold Func.isWrapper; first | (rw [if_pos (by decide +kernel)]; kernel_rfl) | (rw [if_neg (by decide +kernel)]; exact ⟨rfl, rfl⟩))
    (fun os started H enc _ F => by rw [OpenClaim.pre_eq_preRow]; exact lifted os started H enc F)
theorem plain (f : FuncId) (fn : Func) (hf : Tryd.pinned.checked.prog.funcNamed "scripting/scriptinglaw02.NumeralRounds" = some f) (hfn : Tryd.pinned.checked.prog.funcs[f]? = some fn) :
    false = Tryd.pinned.checked.prog.looks [] ∧ ∀ (j : Nat) t, fn.params[j]? = some t → Tryd.pinned.checked.prog.wantsStandIn t = false := by
  obtain rfl : f = 11 := Option.some.inj ((show Tryd.prog.funcNamed "scripting/scriptinglaw02.NumeralRounds" = some 11 by kernel_rfl).symm.trans hf) |>.symm
  obtain rfl : fn = Tryd.f11 := (Option.some.inj (Tryd.func11.symm.trans hfn)).symm
  refine ⟨by kernel_rfl, fun j t ht => ?_⟩
  rw [Tryd.params11] at ht
  have hm : t ∈ [23, 5] := by simpa using Array.mem_of_getElem? ht
  have hall : ([23, 5].all fun u => !Tryd.prog.wantsStandIn u) = true := by kernel_rfl
  exact (show Tryd.prog.wantsStandIn t = false by simpa using List.all_eq_true.1 hall t hm)

/-- The given statement. -/
theorem proved : Rows.NumeralRoundsCardSaid :=
  Claim7.holds_tied_plain_at .later [] _ _ _ _ said (fun _ h => by cases h) (by kernel_rfl) (fun _ h => by cases h) numeralRounds_row_tie rfl ⟨rfl, rfl⟩ (by kernel_rfl) rfl plain (by kernel_rfl)
#print axioms proved
end Go.Proofs.YtplfdfpnplhonaaDoor.numeralRoundsLaw
