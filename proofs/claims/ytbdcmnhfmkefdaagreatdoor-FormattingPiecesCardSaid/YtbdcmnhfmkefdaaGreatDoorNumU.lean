/- Contracts of layer 2: rounded. -/
import Derived.Test.YtbdcmnhfmkefdaaGreatDoorNumT
namespace Go.Proofs.YtbdcmnhfmkefdaaGreatDoor
open Go.RowKit M1 M2
set_option linter.unusedVariables false
theorem up_last (a q k : Nat) (hq : 0 < q) : up (fixN a q k) (fixR a q k) q = up (if k = 0 then a / q else fixN (a % q) q k) (fixR (a % q) q k) q := by
  by_cases hk : k = 0
  · subst hk
    rw [if_pos rfl, up_whole, (fixN_zero (a % q) q (Nat.mod_lt _ hq)).2]
  · rw [if_neg hk, up_part a q k hq (by omega)]
theorem up_yes {n r q : Nat} (h : q < 2 * r ∨ (2 * r = q ∧ n % 2 = 1)) : up n r q = 1 := if_pos h
theorem up_no {n r q : Nat} (h : ¬ (q < 2 * r ∨ (2 * r = q ∧ n % 2 = 1))) : up n r q = 0 := if_neg h
theorem pow12 {k : Nat} (h : k ≤ 12) : 10 ^ k ≤ 1000000000000 := Nat.pow_le_pow_right (n := 10) (by omega) h

set_option maxHeartbeats 4000000 in
set_option maxRecDepth 100000 in
theorem rounded_pos (a q k : Nat) (w : World) (ha : a ≤ 2147483647) (hq0 : 0 < q) (hq1 : q ≤ 2147483647) (hk : k ≤ 12) :
    Calls Tryz.prog 107 #[.agg #[.int .i64 (a : Int), .int .i64 q], .int .i64 k] w fun e w' => e = .returned (.tuple #[.int .i64 ((fixT a q k / 10 ^ k : Nat) : Int), .int .i64 ((fixT a q k % 10 ^ k : Nat) : Int)]) ∧ Below w.heap.size w w' := by
  have hz0 : 0 ≤ (a : Int) / (q : Int) := Int.ediv_nonneg (by omega) (by omega)
  have hz1 : (a : Int) / (q : Int) ≤ 2147483647 := by have := Int.ediv_le_self (q : Int) (show 0 ≤ (a : Int) by omega); omega
  go_enter Tryz.func107, Tryz.ntmps107
  go_wp2
  go_region
  all_goals go_wp2
  go_loop [5, 7, 8, 25] (fun vp vr vu vi => ∃ (i P R U : Nat), i ≤ k ∧ vp = .int .i64 P ∧ vr = .int .i64 R ∧ vu = .int .i64 U ∧ vi = .int .i64 i ∧ Hid (P = fixN (a % q) q i) ∧ Hid (R = fixR (a % q) q i) ∧ Hid (U = 10 ^ i) ∧ P ≤ 1000000000000 ∧ R < q ∧ 1 ≤ U ∧ U ≤ 1000000000000) (fun _ _ _ vi => k - (intOf vi).toNat)
  case atStart =>
    have h0 := fixN_zero (a % q) q (Nat.mod_lt _ hq0)
    exact ⟨0, 0, a % q, 1, Nat.zero_le _, rfl, by push_cast; rfl, rfl, rfl, Lib.hid h0.1.symm, Lib.hid h0.2.symm, Lib.hid rfl, by omega, Nat.mod_lt _ hq0, by omega, by omega⟩
  case round =>
    obtain ⟨i, P, R, U, hi, rfl, rfl, rfl, rfl, HP, HR, HU10, hP, hR, hU1, hU⟩ := hrel
    by_cases hik : i < k
    · have hs := fixN_succ (a % q) q i hq0
      rw [← HP.out, ← HR.out] at hs
      have HS := Lib.hid hs
      have hn := fixN_lt (a % q) q (i + 1) (Nat.mod_lt _ hq0)
      have hp12 := pow12 (show i + 1 ≤ 12 by omega)
      have hU10 : U * 10 ≤ 1000000000000 := by rw [HU10.out, ← Nat.pow_succ]; exact hp12
      rw [hs.1] at hn
      have hP2 : P * 10 + R * 10 / q ≤ 1000000000000 := by omega
      have e0 : 0 ≤ ((R : Int) * 10) / (q : Int) := Int.ediv_nonneg (by omega) (by omega)
      have e1 : ((R : Int) * 10) / (q : Int) ≤ 1000000000000 := by
        have : (((R * 10 / q : Nat)) : Int) = ((R : Int) * 10) / (q : Int) := by push_cast; rfl
        omega
      have e2 : 0 ≤ ((R : Int) * 10) % (q : Int) := Int.emod_nonneg _ (by omega)
      have hmr : R * 10 % q < q := Nat.mod_lt _ hq0
      clear hs hn hp12
      go_wp2
      go_round
      case rel => exact ⟨i + 1, P * 10 + R * 10 / q, R * 10 % q, U * 10, by omega, by push_cast; rfl, by push_cast; rfl, by push_cast; rfl, by go_num, Lib.hid HS.out.1.symm, Lib.hid HS.out.2.symm, Lib.hid (by rw [HU10.out, Nat.pow_succ]), hP2, hmr, by omega, hU10⟩
      case measure => simp [intOf]; omega
    · have hke : k = i := by omega
      subst hke
      have hm0 : 0 ≤ (P : Int) % 2 := Int.emod_nonneg _ (by omega)
      by_cases hk0 : k = 0
      · have HK := Lib.hid hk0
        have hkb : ((k : Int) == 0) = true := by rw [beq_iff_eq]; omega
        clear hk0
        have HDV : Hid (((a / q : Nat) : Int) = (a : Int) / (q : Int)) := Lib.hid (by push_cast; rfl)
        have HU : Hid (up (fixN a q k) (fixR a q k) q = up (a / q) R q) := Lib.hid (by rw [up_last a q k hq0, if_pos HK.out, ← HR.out])
        by_cases hA : q < 2 * R
        · have HCase : Hid (q < 2 * R ∨ (2 * R = q ∧ (a / q) % 2 = 1)) := Lib.hid (.inl hA)
          have hA' : (q : Int) < 2 * (R : Int) := by omega
          have HC : Hid (up (fixN a q k) (fixR a q k) q = 1) := Lib.hid (by rw [HU.out]; exact up_yes HCase.out)
          have hq2 : 0 ≤ ((P : Int) + 1) / (U : Int) := Int.ediv_nonneg (by omega) (by omega)
          have hq3 : ((P : Int) + 1) / (U : Int) ≤ 1000000000001 := by have := Int.ediv_le_self (U : Int) (show 0 ≤ (P : Int) + 1 by omega); omega
          have HF : Hid (Ending.returned (.tuple #[.int .i64 (((a / q : Nat) : Int) + ((P : Int) + 1) / (U : Int)), .int .i64 (((P : Int) + 1) % (U : Int))]) = .returned (.tuple #[.int .i64 ((fixT a q k / 10 ^ k : Nat) : Int), .int .i64 ((fixT a q k % 10 ^ k : Nat) : Int)])) := Lib.hid (by
            obtain ⟨d1, d2⟩ := fixT_div a q k hq0
            rw [d1, d2, HC.out, ← HP.out, ← HU10.out]
            push_cast
            (try rfl))
          clear HCase HC HU

          go_wp2
          go_region
          all_goals go_wp2
          go_ret2
          refine ⟨HF.out, ?_⟩
          exact ((Below.refl _ _).alloc (Nat.le_refl _) _).drew.drew
        · have hA' : 2 * (R : Int) ≤ (q : Int) := by omega
          by_cases hB : 2 * R = q
          · have hB' : (2 * (R : Int) == (q : Int)) = true := by rw [beq_iff_eq]; omega
            by_cases hC : (a / q) % 2 = 1
            · have HCase : Hid (q < 2 * R ∨ (2 * R = q ∧ (a / q) % 2 = 1)) := Lib.hid (.inr ⟨hB, hC⟩)
              have hC' : (((a : Int) / (q : Int)) % 2 == 1) = true := by rw [beq_iff_eq, ← HDV.out]; omega
              clear hB hC
              have HC : Hid (up (fixN a q k) (fixR a q k) q = 1) := Lib.hid (by rw [HU.out]; exact up_yes HCase.out)
              have hq2 : 0 ≤ ((P : Int) + 1) / (U : Int) := Int.ediv_nonneg (by omega) (by omega)
              have hq3 : ((P : Int) + 1) / (U : Int) ≤ 1000000000001 := by have := Int.ediv_le_self (U : Int) (show 0 ≤ (P : Int) + 1 by omega); omega
              have HF : Hid (Ending.returned (.tuple #[.int .i64 (((a / q : Nat) : Int) + ((P : Int) + 1) / (U : Int)), .int .i64 (((P : Int) + 1) % (U : Int))]) = .returned (.tuple #[.int .i64 ((fixT a q k / 10 ^ k : Nat) : Int), .int .i64 ((fixT a q k % 10 ^ k : Nat) : Int)])) := Lib.hid (by
                obtain ⟨d1, d2⟩ := fixT_div a q k hq0
                rw [d1, d2, HC.out, ← HP.out, ← HU10.out]
                push_cast
                (try rfl))
              clear HCase HC HU

              go_wp2
              go_region
              all_goals go_wp2
              go_ret2
              refine ⟨HF.out, ?_⟩
              exact ((Below.refl _ _).alloc (Nat.le_refl _) _).drew.drew
            · have HCase : Hid (¬ (q < 2 * R ∨ (2 * R = q ∧ (a / q) % 2 = 1))) := Lib.hid (by rintro (h | ⟨_, h⟩) <;> omega)
              have hC' : (((a : Int) / (q : Int)) % 2 == 1) = false := by rw [beq_eq_false_iff_ne, ← HDV.out]; omega
              clear hB hC
              have HC : Hid (up (fixN a q k) (fixR a q k) q = 0) := Lib.hid (by rw [HU.out]; exact up_no HCase.out)
              have hq2 : 0 ≤ ((P : Int)) / (U : Int) := Int.ediv_nonneg (by omega) (by omega)
              have hq3 : ((P : Int)) / (U : Int) ≤ 1000000000001 := by have := Int.ediv_le_self (U : Int) (show 0 ≤ (P : Int) by omega); omega
              have HF : Hid (Ending.returned (.tuple #[.int .i64 (((a / q : Nat) : Int) + ((P : Int)) / (U : Int)), .int .i64 (((P : Int)) % (U : Int))]) = .returned (.tuple #[.int .i64 ((fixT a q k / 10 ^ k : Nat) : Int), .int .i64 ((fixT a q k % 10 ^ k : Nat) : Int)])) := Lib.hid (by
                obtain ⟨d1, d2⟩ := fixT_div a q k hq0
                rw [d1, d2, HC.out, ← HP.out, ← HU10.out]
                push_cast
                (try simp only [Int.add_zero])
                (try rfl))
              clear HCase HC HU

              go_wp2
              go_region
              all_goals go_wp2
              go_ret2
              refine ⟨HF.out, ?_⟩
              exact ((Below.refl _ _).alloc (Nat.le_refl _) _).drew.drew
          · have HCase : Hid (¬ (q < 2 * R ∨ (2 * R = q ∧ (a / q) % 2 = 1))) := Lib.hid (by rintro (h | ⟨h, _⟩) <;> omega)
            have hB' : (2 * (R : Int) == (q : Int)) = false := by rw [beq_eq_false_iff_ne]; omega
            clear hB
            have HC : Hid (up (fixN a q k) (fixR a q k) q = 0) := Lib.hid (by rw [HU.out]; exact up_no HCase.out)
            have hq2 : 0 ≤ ((P : Int)) / (U : Int) := Int.ediv_nonneg (by omega) (by omega)
            have hq3 : ((P : Int)) / (U : Int) ≤ 1000000000001 := by have := Int.ediv_le_self (U : Int) (show 0 ≤ (P : Int) by omega); omega
            have HF : Hid (Ending.returned (.tuple #[.int .i64 (((a / q : Nat) : Int) + ((P : Int)) / (U : Int)), .int .i64 (((P : Int)) % (U : Int))]) = .returned (.tuple #[.int .i64 ((fixT a q k / 10 ^ k : Nat) : Int), .int .i64 ((fixT a q k % 10 ^ k : Nat) : Int)])) := Lib.hid (by
              obtain ⟨d1, d2⟩ := fixT_div a q k hq0
              rw [d1, d2, HC.out, ← HP.out, ← HU10.out]
              push_cast
              (try simp only [Int.add_zero])
              (try rfl))
            clear HCase HC HU

            go_wp2
            go_region
            all_goals go_wp2
            go_ret2
            refine ⟨HF.out, ?_⟩
            exact ((Below.refl _ _).alloc (Nat.le_refl _) _).drew.drew
      · have HK := Lib.hid hk0
        have hkb : ((k : Int) == 0) = false := by rw [beq_eq_false_iff_ne]; omega
        clear hk0
        have HU : Hid (up (fixN a q k) (fixR a q k) q = up P R q) := Lib.hid (by rw [up_last a q k hq0, if_neg HK.out, ← HR.out, ← HP.out])
        by_cases hA : q < 2 * R
        · have HCase : Hid (q < 2 * R ∨ (2 * R = q ∧ P % 2 = 1)) := Lib.hid (.inl hA)
          have hA' : (q : Int) < 2 * (R : Int) := by omega
          have HC : Hid (up (fixN a q k) (fixR a q k) q = 1) := Lib.hid (by rw [HU.out]; exact up_yes HCase.out)
          have hq2 : 0 ≤ ((P : Int) + 1) / (U : Int) := Int.ediv_nonneg (by omega) (by omega)
          have hq3 : ((P : Int) + 1) / (U : Int) ≤ 1000000000001 := by have := Int.ediv_le_self (U : Int) (show 0 ≤ (P : Int) + 1 by omega); omega
          have HF : Hid (Ending.returned (.tuple #[.int .i64 (((a / q : Nat) : Int) + ((P : Int) + 1) / (U : Int)), .int .i64 (((P : Int) + 1) % (U : Int))]) = .returned (.tuple #[.int .i64 ((fixT a q k / 10 ^ k : Nat) : Int), .int .i64 ((fixT a q k % 10 ^ k : Nat) : Int)])) := Lib.hid (by
            obtain ⟨d1, d2⟩ := fixT_div a q k hq0
            rw [d1, d2, HC.out, ← HP.out, ← HU10.out]
            push_cast
            (try rfl))
          clear HCase HC HU

          go_wp2
          go_region
          all_goals go_wp2
          go_ret2
          refine ⟨HF.out, ?_⟩
          exact ((Below.refl _ _).alloc (Nat.le_refl _) _).drew.drew
        · have hA' : 2 * (R : Int) ≤ (q : Int) := by omega
          by_cases hB : 2 * R = q
          · have hB' : (2 * (R : Int) == (q : Int)) = true := by rw [beq_iff_eq]; omega
            by_cases hC : P % 2 = 1
            · have HCase : Hid (q < 2 * R ∨ (2 * R = q ∧ P % 2 = 1)) := Lib.hid (.inr ⟨hB, hC⟩)
              have hC' : ((P : Int) % 2 == 1) = true := by rw [beq_iff_eq]; omega
              clear hB hC
              have HC : Hid (up (fixN a q k) (fixR a q k) q = 1) := Lib.hid (by rw [HU.out]; exact up_yes HCase.out)
              have hq2 : 0 ≤ ((P : Int) + 1) / (U : Int) := Int.ediv_nonneg (by omega) (by omega)
              have hq3 : ((P : Int) + 1) / (U : Int) ≤ 1000000000001 := by have := Int.ediv_le_self (U : Int) (show 0 ≤ (P : Int) + 1 by omega); omega
              have HF : Hid (Ending.returned (.tuple #[.int .i64 (((a / q : Nat) : Int) + ((P : Int) + 1) / (U : Int)), .int .i64 (((P : Int) + 1) % (U : Int))]) = .returned (.tuple #[.int .i64 ((fixT a q k / 10 ^ k : Nat) : Int), .int .i64 ((fixT a q k % 10 ^ k : Nat) : Int)])) := Lib.hid (by
                obtain ⟨d1, d2⟩ := fixT_div a q k hq0
                rw [d1, d2, HC.out, ← HP.out, ← HU10.out]
                push_cast
                (try rfl))
              clear HCase HC HU

              go_wp2
              go_region
              all_goals go_wp2
              go_ret2
              refine ⟨HF.out, ?_⟩
              exact ((Below.refl _ _).alloc (Nat.le_refl _) _).drew.drew
            · have HCase : Hid (¬ (q < 2 * R ∨ (2 * R = q ∧ P % 2 = 1))) := Lib.hid (by rintro (h | ⟨_, h⟩) <;> omega)
              have hC' : ((P : Int) % 2 == 1) = false := by rw [beq_eq_false_iff_ne]; omega
              clear hB hC
              have HC : Hid (up (fixN a q k) (fixR a q k) q = 0) := Lib.hid (by rw [HU.out]; exact up_no HCase.out)
              have hq2 : 0 ≤ ((P : Int)) / (U : Int) := Int.ediv_nonneg (by omega) (by omega)
              have hq3 : ((P : Int)) / (U : Int) ≤ 1000000000001 := by have := Int.ediv_le_self (U : Int) (show 0 ≤ (P : Int) by omega); omega
              have HF : Hid (Ending.returned (.tuple #[.int .i64 (((a / q : Nat) : Int) + ((P : Int)) / (U : Int)), .int .i64 (((P : Int)) % (U : Int))]) = .returned (.tuple #[.int .i64 ((fixT a q k / 10 ^ k : Nat) : Int), .int .i64 ((fixT a q k % 10 ^ k : Nat) : Int)])) := Lib.hid (by
                obtain ⟨d1, d2⟩ := fixT_div a q k hq0
                rw [d1, d2, HC.out, ← HP.out, ← HU10.out]
                push_cast
                (try simp only [Int.add_zero])
                (try rfl))
              clear HCase HC HU

              go_wp2
              go_region
              all_goals go_wp2
              go_ret2
              refine ⟨HF.out, ?_⟩
              exact ((Below.refl _ _).alloc (Nat.le_refl _) _).drew.drew
          · have HCase : Hid (¬ (q < 2 * R ∨ (2 * R = q ∧ P % 2 = 1))) := Lib.hid (by rintro (h | ⟨h, _⟩) <;> omega)
            have hB' : (2 * (R : Int) == (q : Int)) = false := by rw [beq_eq_false_iff_ne]; omega
            clear hB
            have HC : Hid (up (fixN a q k) (fixR a q k) q = 0) := Lib.hid (by rw [HU.out]; exact up_no HCase.out)
            have hq2 : 0 ≤ ((P : Int)) / (U : Int) := Int.ediv_nonneg (by omega) (by omega)
            have hq3 : ((P : Int)) / (U : Int) ≤ 1000000000001 := by have := Int.ediv_le_self (U : Int) (show 0 ≤ (P : Int) by omega); omega
            have HF : Hid (Ending.returned (.tuple #[.int .i64 (((a / q : Nat) : Int) + ((P : Int)) / (U : Int)), .int .i64 (((P : Int)) % (U : Int))]) = .returned (.tuple #[.int .i64 ((fixT a q k / 10 ^ k : Nat) : Int), .int .i64 ((fixT a q k % 10 ^ k : Nat) : Int)])) := Lib.hid (by
              obtain ⟨d1, d2⟩ := fixT_div a q k hq0
              rw [d1, d2, HC.out, ← HP.out, ← HU10.out]
              push_cast
              (try simp only [Int.add_zero])
              (try rfl))
            clear HCase HC HU

            go_wp2
            go_region
            all_goals go_wp2
            go_ret2
            refine ⟨HF.out, ?_⟩
            exact ((Below.refl _ _).alloc (Nat.le_refl _) _).drew.drew

set_option maxHeartbeats 4000000 in
set_option maxRecDepth 100000 in
theorem rounded_neg (a q k : Nat) (w : World) (ha : a ≤ 2147483647) (ha1 : 1 ≤ a) (hq0 : 0 < q) (hq1 : q ≤ 2147483647) (hk : k ≤ 12) :
    Calls Tryz.prog 107 #[.agg #[.int .i64 (-(a : Int)), .int .i64 q], .int .i64 k] w fun e w' => e = .returned (.tuple #[.int .i64 ((fixT a q k / 10 ^ k : Nat) : Int), .int .i64 ((fixT a q k % 10 ^ k : Nat) : Int)]) ∧ Below w.heap.size w w' := by
  have hz0 : 0 ≤ (a : Int) / (q : Int) := Int.ediv_nonneg (by omega) (by omega)
  have hz1 : (a : Int) / (q : Int) ≤ 2147483647 := by have := Int.ediv_le_self (q : Int) (show 0 ≤ (a : Int) by omega); omega
  go_enter Tryz.func107, Tryz.ntmps107
  go_wp2
  go_region
  all_goals go_wp2
  go_loop [5, 7, 8, 25] (fun vp vr vu vi => ∃ (i P R U : Nat), i ≤ k ∧ vp = .int .i64 P ∧ vr = .int .i64 R ∧ vu = .int .i64 U ∧ vi = .int .i64 i ∧ Hid (P = fixN (a % q) q i) ∧ Hid (R = fixR (a % q) q i) ∧ Hid (U = 10 ^ i) ∧ P ≤ 1000000000000 ∧ R < q ∧ 1 ≤ U ∧ U ≤ 1000000000000) (fun _ _ _ vi => k - (intOf vi).toNat)
  case atStart =>
    have h0 := fixN_zero (a % q) q (Nat.mod_lt _ hq0)
    exact ⟨0, 0, a % q, 1, Nat.zero_le _, rfl, by push_cast; rfl, rfl, rfl, Lib.hid h0.1.symm, Lib.hid h0.2.symm, Lib.hid rfl, by omega, Nat.mod_lt _ hq0, by omega, by omega⟩
  case round =>
    obtain ⟨i, P, R, U, hi, rfl, rfl, rfl, rfl, HP, HR, HU10, hP, hR, hU1, hU⟩ := hrel
    by_cases hik : i < k
    · have hs := fixN_succ (a % q) q i hq0
      rw [← HP.out, ← HR.out] at hs
      have HS := Lib.hid hs
      have hn := fixN_lt (a % q) q (i + 1) (Nat.mod_lt _ hq0)
      have hp12 := pow12 (show i + 1 ≤ 12 by omega)
      have hU10 : U * 10 ≤ 1000000000000 := by rw [HU10.out, ← Nat.pow_succ]; exact hp12
      rw [hs.1] at hn
      have hP2 : P * 10 + R * 10 / q ≤ 1000000000000 := by omega
      have e0 : 0 ≤ ((R : Int) * 10) / (q : Int) := Int.ediv_nonneg (by omega) (by omega)
      have e1 : ((R : Int) * 10) / (q : Int) ≤ 1000000000000 := by
        have : (((R * 10 / q : Nat)) : Int) = ((R : Int) * 10) / (q : Int) := by push_cast; rfl
        omega
      have e2 : 0 ≤ ((R : Int) * 10) % (q : Int) := Int.emod_nonneg _ (by omega)
      have hmr : R * 10 % q < q := Nat.mod_lt _ hq0
      clear hs hn hp12
      go_wp2
      go_round
      case rel => exact ⟨i + 1, P * 10 + R * 10 / q, R * 10 % q, U * 10, by omega, by push_cast; rfl, by push_cast; rfl, by push_cast; rfl, by go_num, Lib.hid HS.out.1.symm, Lib.hid HS.out.2.symm, Lib.hid (by rw [HU10.out, Nat.pow_succ]), hP2, hmr, by omega, hU10⟩
      case measure => simp [intOf]; omega
    · have hke : k = i := by omega
      subst hke
      have hm0 : 0 ≤ (P : Int) % 2 := Int.emod_nonneg _ (by omega)
      by_cases hk0 : k = 0
      · have HK := Lib.hid hk0
        have hkb : ((k : Int) == 0) = true := by rw [beq_iff_eq]; omega
        clear hk0
        have HDV : Hid (((a / q : Nat) : Int) = (a : Int) / (q : Int)) := Lib.hid (by push_cast; rfl)
        have HU : Hid (up (fixN a q k) (fixR a q k) q = up (a / q) R q) := Lib.hid (by rw [up_last a q k hq0, if_pos HK.out, ← HR.out])
        by_cases hA : q < 2 * R
        · have HCase : Hid (q < 2 * R ∨ (2 * R = q ∧ (a / q) % 2 = 1)) := Lib.hid (.inl hA)
          have hA' : (q : Int) < 2 * (R : Int) := by omega
          have HC : Hid (up (fixN a q k) (fixR a q k) q = 1) := Lib.hid (by rw [HU.out]; exact up_yes HCase.out)
          have hq2 : 0 ≤ ((P : Int) + 1) / (U : Int) := Int.ediv_nonneg (by omega) (by omega)
          have hq3 : ((P : Int) + 1) / (U : Int) ≤ 1000000000001 := by have := Int.ediv_le_self (U : Int) (show 0 ≤ (P : Int) + 1 by omega); omega
          have HF : Hid (Ending.returned (.tuple #[.int .i64 (((a / q : Nat) : Int) + ((P : Int) + 1) / (U : Int)), .int .i64 (((P : Int) + 1) % (U : Int))]) = .returned (.tuple #[.int .i64 ((fixT a q k / 10 ^ k : Nat) : Int), .int .i64 ((fixT a q k % 10 ^ k : Nat) : Int)])) := Lib.hid (by
            obtain ⟨d1, d2⟩ := fixT_div a q k hq0
            rw [d1, d2, HC.out, ← HP.out, ← HU10.out]
            push_cast
            (try rfl))
          clear HCase HC HU

          go_wp2
          go_region
          all_goals go_wp2
          go_ret2
          refine ⟨HF.out, ?_⟩
          exact ((Below.refl _ _).alloc (Nat.le_refl _) _).drew.drew
        · have hA' : 2 * (R : Int) ≤ (q : Int) := by omega
          by_cases hB : 2 * R = q
          · have hB' : (2 * (R : Int) == (q : Int)) = true := by rw [beq_iff_eq]; omega
            by_cases hC : (a / q) % 2 = 1
            · have HCase : Hid (q < 2 * R ∨ (2 * R = q ∧ (a / q) % 2 = 1)) := Lib.hid (.inr ⟨hB, hC⟩)
              have hC' : (((a : Int) / (q : Int)) % 2 == 1) = true := by rw [beq_iff_eq, ← HDV.out]; omega
              clear hB hC
              have HC : Hid (up (fixN a q k) (fixR a q k) q = 1) := Lib.hid (by rw [HU.out]; exact up_yes HCase.out)
              have hq2 : 0 ≤ ((P : Int) + 1) / (U : Int) := Int.ediv_nonneg (by omega) (by omega)
              have hq3 : ((P : Int) + 1) / (U : Int) ≤ 1000000000001 := by have := Int.ediv_le_self (U : Int) (show 0 ≤ (P : Int) + 1 by omega); omega
              have HF : Hid (Ending.returned (.tuple #[.int .i64 (((a / q : Nat) : Int) + ((P : Int) + 1) / (U : Int)), .int .i64 (((P : Int) + 1) % (U : Int))]) = .returned (.tuple #[.int .i64 ((fixT a q k / 10 ^ k : Nat) : Int), .int .i64 ((fixT a q k % 10 ^ k : Nat) : Int)])) := Lib.hid (by
                obtain ⟨d1, d2⟩ := fixT_div a q k hq0
                rw [d1, d2, HC.out, ← HP.out, ← HU10.out]
                push_cast
                (try rfl))
              clear HCase HC HU

              go_wp2
              go_region
              all_goals go_wp2
              go_ret2
              refine ⟨HF.out, ?_⟩
              exact ((Below.refl _ _).alloc (Nat.le_refl _) _).drew.drew
            · have HCase : Hid (¬ (q < 2 * R ∨ (2 * R = q ∧ (a / q) % 2 = 1))) := Lib.hid (by rintro (h | ⟨_, h⟩) <;> omega)
              have hC' : (((a : Int) / (q : Int)) % 2 == 1) = false := by rw [beq_eq_false_iff_ne, ← HDV.out]; omega
              clear hB hC
              have HC : Hid (up (fixN a q k) (fixR a q k) q = 0) := Lib.hid (by rw [HU.out]; exact up_no HCase.out)
              have hq2 : 0 ≤ ((P : Int)) / (U : Int) := Int.ediv_nonneg (by omega) (by omega)
              have hq3 : ((P : Int)) / (U : Int) ≤ 1000000000001 := by have := Int.ediv_le_self (U : Int) (show 0 ≤ (P : Int) by omega); omega
              have HF : Hid (Ending.returned (.tuple #[.int .i64 (((a / q : Nat) : Int) + ((P : Int)) / (U : Int)), .int .i64 (((P : Int)) % (U : Int))]) = .returned (.tuple #[.int .i64 ((fixT a q k / 10 ^ k : Nat) : Int), .int .i64 ((fixT a q k % 10 ^ k : Nat) : Int)])) := Lib.hid (by
                obtain ⟨d1, d2⟩ := fixT_div a q k hq0
                rw [d1, d2, HC.out, ← HP.out, ← HU10.out]
                push_cast
                (try simp only [Int.add_zero])
                (try rfl))
              clear HCase HC HU

              go_wp2
              go_region
              all_goals go_wp2
              go_ret2
              refine ⟨HF.out, ?_⟩
              exact ((Below.refl _ _).alloc (Nat.le_refl _) _).drew.drew
          · have HCase : Hid (¬ (q < 2 * R ∨ (2 * R = q ∧ (a / q) % 2 = 1))) := Lib.hid (by rintro (h | ⟨h, _⟩) <;> omega)
            have hB' : (2 * (R : Int) == (q : Int)) = false := by rw [beq_eq_false_iff_ne]; omega
            clear hB
            have HC : Hid (up (fixN a q k) (fixR a q k) q = 0) := Lib.hid (by rw [HU.out]; exact up_no HCase.out)
            have hq2 : 0 ≤ ((P : Int)) / (U : Int) := Int.ediv_nonneg (by omega) (by omega)
            have hq3 : ((P : Int)) / (U : Int) ≤ 1000000000001 := by have := Int.ediv_le_self (U : Int) (show 0 ≤ (P : Int) by omega); omega
            have HF : Hid (Ending.returned (.tuple #[.int .i64 (((a / q : Nat) : Int) + ((P : Int)) / (U : Int)), .int .i64 (((P : Int)) % (U : Int))]) = .returned (.tuple #[.int .i64 ((fixT a q k / 10 ^ k : Nat) : Int), .int .i64 ((fixT a q k % 10 ^ k : Nat) : Int)])) := Lib.hid (by
              obtain ⟨d1, d2⟩ := fixT_div a q k hq0
              rw [d1, d2, HC.out, ← HP.out, ← HU10.out]
              push_cast
              (try simp only [Int.add_zero])
              (try rfl))
            clear HCase HC HU

            go_wp2
            go_region
            all_goals go_wp2
            go_ret2
            refine ⟨HF.out, ?_⟩
            exact ((Below.refl _ _).alloc (Nat.le_refl _) _).drew.drew
      · have HK := Lib.hid hk0
        have hkb : ((k : Int) == 0) = false := by rw [beq_eq_false_iff_ne]; omega
        clear hk0
        have HU : Hid (up (fixN a q k) (fixR a q k) q = up P R q) := Lib.hid (by rw [up_last a q k hq0, if_neg HK.out, ← HR.out, ← HP.out])
        by_cases hA : q < 2 * R
        · have HCase : Hid (q < 2 * R ∨ (2 * R = q ∧ P % 2 = 1)) := Lib.hid (.inl hA)
          have hA' : (q : Int) < 2 * (R : Int) := by omega
          have HC : Hid (up (fixN a q k) (fixR a q k) q = 1) := Lib.hid (by rw [HU.out]; exact up_yes HCase.out)
          have hq2 : 0 ≤ ((P : Int) + 1) / (U : Int) := Int.ediv_nonneg (by omega) (by omega)
          have hq3 : ((P : Int) + 1) / (U : Int) ≤ 1000000000001 := by have := Int.ediv_le_self (U : Int) (show 0 ≤ (P : Int) + 1 by omega); omega
          have HF : Hid (Ending.returned (.tuple #[.int .i64 (((a / q : Nat) : Int) + ((P : Int) + 1) / (U : Int)), .int .i64 (((P : Int) + 1) % (U : Int))]) = .returned (.tuple #[.int .i64 ((fixT a q k / 10 ^ k : Nat) : Int), .int .i64 ((fixT a q k % 10 ^ k : Nat) : Int)])) := Lib.hid (by
            obtain ⟨d1, d2⟩ := fixT_div a q k hq0
            rw [d1, d2, HC.out, ← HP.out, ← HU10.out]
            push_cast
            (try rfl))
          clear HCase HC HU

          go_wp2
          go_region
          all_goals go_wp2
          go_ret2
          refine ⟨HF.out, ?_⟩
          exact ((Below.refl _ _).alloc (Nat.le_refl _) _).drew.drew
        · have hA' : 2 * (R : Int) ≤ (q : Int) := by omega
          by_cases hB : 2 * R = q
          · have hB' : (2 * (R : Int) == (q : Int)) = true := by rw [beq_iff_eq]; omega
            by_cases hC : P % 2 = 1
            · have HCase : Hid (q < 2 * R ∨ (2 * R = q ∧ P % 2 = 1)) := Lib.hid (.inr ⟨hB, hC⟩)
              have hC' : ((P : Int) % 2 == 1) = true := by rw [beq_iff_eq]; omega
              clear hB hC
              have HC : Hid (up (fixN a q k) (fixR a q k) q = 1) := Lib.hid (by rw [HU.out]; exact up_yes HCase.out)
              have hq2 : 0 ≤ ((P : Int) + 1) / (U : Int) := Int.ediv_nonneg (by omega) (by omega)
              have hq3 : ((P : Int) + 1) / (U : Int) ≤ 1000000000001 := by have := Int.ediv_le_self (U : Int) (show 0 ≤ (P : Int) + 1 by omega); omega
              have HF : Hid (Ending.returned (.tuple #[.int .i64 (((a / q : Nat) : Int) + ((P : Int) + 1) / (U : Int)), .int .i64 (((P : Int) + 1) % (U : Int))]) = .returned (.tuple #[.int .i64 ((fixT a q k / 10 ^ k : Nat) : Int), .int .i64 ((fixT a q k % 10 ^ k : Nat) : Int)])) := Lib.hid (by
                obtain ⟨d1, d2⟩ := fixT_div a q k hq0
                rw [d1, d2, HC.out, ← HP.out, ← HU10.out]
                push_cast
                (try rfl))
              clear HCase HC HU

              go_wp2
              go_region
              all_goals go_wp2
              go_ret2
              refine ⟨HF.out, ?_⟩
              exact ((Below.refl _ _).alloc (Nat.le_refl _) _).drew.drew
            · have HCase : Hid (¬ (q < 2 * R ∨ (2 * R = q ∧ P % 2 = 1))) := Lib.hid (by rintro (h | ⟨_, h⟩) <;> omega)
              have hC' : ((P : Int) % 2 == 1) = false := by rw [beq_eq_false_iff_ne]; omega
              clear hB hC
              have HC : Hid (up (fixN a q k) (fixR a q k) q = 0) := Lib.hid (by rw [HU.out]; exact up_no HCase.out)
              have hq2 : 0 ≤ ((P : Int)) / (U : Int) := Int.ediv_nonneg (by omega) (by omega)
              have hq3 : ((P : Int)) / (U : Int) ≤ 1000000000001 := by have := Int.ediv_le_self (U : Int) (show 0 ≤ (P : Int) by omega); omega
              have HF : Hid (Ending.returned (.tuple #[.int .i64 (((a / q : Nat) : Int) + ((P : Int)) / (U : Int)), .int .i64 (((P : Int)) % (U : Int))]) = .returned (.tuple #[.int .i64 ((fixT a q k / 10 ^ k : Nat) : Int), .int .i64 ((fixT a q k % 10 ^ k : Nat) : Int)])) := Lib.hid (by
                obtain ⟨d1, d2⟩ := fixT_div a q k hq0
                rw [d1, d2, HC.out, ← HP.out, ← HU10.out]
                push_cast
                (try simp only [Int.add_zero])
                (try rfl))
              clear HCase HC HU

              go_wp2
              go_region
              all_goals go_wp2
              go_ret2
              refine ⟨HF.out, ?_⟩
              exact ((Below.refl _ _).alloc (Nat.le_refl _) _).drew.drew
          · have HCase : Hid (¬ (q < 2 * R ∨ (2 * R = q ∧ P % 2 = 1))) := Lib.hid (by rintro (h | ⟨h, _⟩) <;> omega)
            have hB' : (2 * (R : Int) == (q : Int)) = false := by rw [beq_eq_false_iff_ne]; omega
            clear hB
            have HC : Hid (up (fixN a q k) (fixR a q k) q = 0) := Lib.hid (by rw [HU.out]; exact up_no HCase.out)
            have hq2 : 0 ≤ ((P : Int)) / (U : Int) := Int.ediv_nonneg (by omega) (by omega)
            have hq3 : ((P : Int)) / (U : Int) ≤ 1000000000001 := by have := Int.ediv_le_self (U : Int) (show 0 ≤ (P : Int) by omega); omega
            have HF : Hid (Ending.returned (.tuple #[.int .i64 (((a / q : Nat) : Int) + ((P : Int)) / (U : Int)), .int .i64 (((P : Int)) % (U : Int))]) = .returned (.tuple #[.int .i64 ((fixT a q k / 10 ^ k : Nat) : Int), .int .i64 ((fixT a q k % 10 ^ k : Nat) : Int)])) := Lib.hid (by
              obtain ⟨d1, d2⟩ := fixT_div a q k hq0
              rw [d1, d2, HC.out, ← HP.out, ← HU10.out]
              push_cast
              (try simp only [Int.add_zero])
              (try rfl))
            clear HCase HC HU

            go_wp2
            go_region
            all_goals go_wp2
            go_ret2
            refine ⟨HF.out, ?_⟩
            exact ((Below.refl _ _).alloc (Nat.le_refl _) _).drew.drew
end Go.Proofs.YtbdcmnhfmkefdaaGreatDoor
