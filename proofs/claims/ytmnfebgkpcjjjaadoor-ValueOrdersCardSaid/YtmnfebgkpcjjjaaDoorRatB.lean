/- Contracts of layer 1: reduced fractions. -/
import Derived.Test.YtmnfebgkpcjjjaaDoorRatA
namespace Go.Proofs.YtmnfebgkpcjjjaaDoor
open Go.RowKit M1

theorem tdiv_bd (a g : Int) : -(a.natAbs : Int) ≤ a.tdiv g ∧ a.tdiv g ≤ (a.natAbs : Int) := by
  have : (a.tdiv g).natAbs ≤ a.natAbs := by rw [Int.natAbs_tdiv]; exact Nat.div_le_self _ _
  omega

set_option maxHeartbeats 1000000 in
theorem reduce_any (p q : Int) (w : World) (hq : q ≠ 0) (h1 : -9223372036854775807 ≤ p) (h2 : p ≤ 9223372036854775807) (h3 : -9223372036854775807 ≤ q) (h4 : q ≤ 9223372036854775807) :
    Calls Tryd.prog 50 #[.int .i64 p, .int .i64 q] w fun e w' => e = .returned (.tuple #[.agg #[.int .i64 (oP (rat p q)), .int .i64 (oQ (rat p q))], .int .i64 (oE (rat p q))]) ∧ Below w.heap.size w w' := by
  have hgc : Int.gcd (p.natAbs : Int) (q.natAbs : Int) = Int.gcd p q := by simp [Int.gcd]
  have g1 := gcd_pos' (p := p) hq
  have g2 := gcd_le (p := p) hq
  have hn := red_num (p := p) hq
  have hd := red_den (p := p) hq
  have c := gcd_any (p.natAbs : Int) (q.natAbs : Int)
  rw [hgc] at c
  have hfit := fit_iff (r := rat p q)
  have oPf := oP_fit (r := rat p q)
  have oQf := oQ_fit (r := rat p q)
  have oEf := oE_fit (r := rat p q)
  have oPn := oP_not (r := rat p q)
  have oQn := oQ_not (r := rat p q)
  have oEn := oE_not (r := rat p q)
  have bp := tdiv_bd p (Int.gcd p q : Int) 
  have bq := tdiv_bd q (Int.gcd p q : Int)
  generalize (Int.gcd p q : Int) = g at *
  generalize oP (rat p q) = RP at *
  generalize oQ (rat p q) = RQ at *
  generalize oE (rat p q) = RE at *
  generalize ((rat p q).num : Int) = P at *
  generalize ((rat p q).den : Int) = Q at *
  have c2 : ∀ w : World, Calls Tryd.prog 57 #[.int .i64 (p.natAbs : Int), .int .i64 (q.natAbs : Int)] w fun e w' => e = .returned (.int .i64 g) ∧ ∃ k, w' = w.drewN k :=
    fun w => c w (by omega) (by omega) (by omega) (by omega)
  have C := Lib.hid c2
  clear c c2 hgc
  by_cases hneg : q < 0
  · rw [if_pos hneg, Int.neg_tdiv] at hn hd
    have e1 : wrap64 (-(p.tdiv g)) = P := by rw [hn]; exact IntWalk.wrap64_in _ ⟨by omega, by omega⟩
    have e2 : wrap64 (-(q.tdiv g)) = Q := by rw [hd]; exact IntWalk.wrap64_in _ ⟨by omega, by omega⟩
    have hP : -9223372036854775807 ≤ P ∧ P ≤ 9223372036854775807 := by omega
    have hQ : -9223372036854775807 ≤ Q ∧ Q ≤ 9223372036854775807 := by omega
    obtain ⟨hP1, hP2⟩ := hP
    obtain ⟨hQ1, hQ2⟩ := hQ
    clear hn hd bp bq
    by_cases hf : fit (rat p q) = true
    · rw [oPf hf, oQf hf, oEf hf]
      obtain ⟨k1, k2, k3⟩ := hfit.1 hf
      clear hfit oPf oQf oEf oPn oQn oEn hf
      go_enter Tryd.func50, Tryd.ntmps50
      go_wp2_with (first | (go_at_call 58; refine (abs_any _ _ (by omega) (by omega)).mono ?_; rintro e w' ⟨rfl, rfl⟩) | (go_at_call 57; refine (C.out _).mono ?_; rintro e w1 ⟨rfl, k, rfl⟩))
      go_quiet (fail)
      go_wp2_with (go_at_call 56; refine (within_yes _ _ _ k1 k2 (by omega) (by omega)).mono ?_; rintro e w' ⟨rfl, rfl⟩)
      refine bodyPost_ret (v := .tuple #[.agg #[.int .i64  P , .int .i64  Q ], .int .i64 0]) (by simp [results, Tryd.results50, go_sem]) rfl ?_
      refine ⟨rfl, ?_⟩
      repeat (first | exact Below.refl _ _ | refine below_drewN ?_ _ | refine Below.setCell ?_ (by simp) _ | refine Below.alloc ?_ (by simp) _)
    · have hf' : fit (rat p q) = false := by simpa using hf
      rw [oPn hf', oQn hf', oEn hf']
      have hno : ¬ (-2147483647 ≤ P ∧ P ≤ 2147483647 ∧ Q ≤ 2147483647) := fun h => hf (hfit.2 h)
      clear hfit oPf oQf oEf oPn oQn oEn hf hf'
      by_cases hin : -2147483647 ≤ P ∧ P ≤ 2147483647
      · obtain ⟨k1, k2⟩ := hin
        have k3 : 2147483647 < Q := by omega
        clear hno
        go_enter Tryd.func50, Tryd.ntmps50
        go_wp2_with (first | (go_at_call 58; refine (abs_any _ _ (by omega) (by omega)).mono ?_; rintro e w' ⟨rfl, rfl⟩) | (go_at_call 57; refine (C.out _).mono ?_; rintro e w1 ⟨rfl, k, rfl⟩))
        go_quiet (fail)
        go_wp2_with (go_at_call 56; refine (within_yes _ _ _ k1 k2 (by omega) (by omega)).mono ?_; rintro e w' ⟨rfl, rfl⟩)
        refine bodyPost_ret (v := .tuple #[.agg #[.int .i64 0, .int .i64 0], .int .i64 6]) (by simp [results, Tryd.results50, go_sem]) rfl ?_
        refine ⟨rfl, ?_⟩
        repeat (first | exact Below.refl _ _ | refine below_drewN ?_ _ | refine Below.setCell ?_ (by simp) _ | refine Below.alloc ?_ (by simp) _)
      · have k1 : P < -2147483647 ∨ 2147483647 < P := by omega
        clear hno hin
        go_enter Tryd.func50, Tryd.ntmps50
        go_wp2_with (first | (go_at_call 58; refine (abs_any _ _ (by omega) (by omega)).mono ?_; rintro e w' ⟨rfl, rfl⟩) | (go_at_call 57; refine (C.out _).mono ?_; rintro e w1 ⟨rfl, k, rfl⟩))
        go_quiet (fail)
        go_wp2_with (go_at_call 56; refine (within_no _ _ _ k1 (by omega) (by omega)).mono ?_; rintro e w' ⟨rfl, rfl⟩)
        refine bodyPost_ret (v := .tuple #[.agg #[.int .i64 0, .int .i64 0], .int .i64 6]) (by simp [results, Tryd.results50, go_sem]) rfl ?_
        refine ⟨rfl, ?_⟩
        repeat (first | exact Below.refl _ _ | refine below_drewN ?_ _ | refine Below.setCell ?_ (by simp) _ | refine Below.alloc ?_ (by simp) _)
  · rw [if_neg hneg] at hn hd
    rw [Int.tdiv_eq_ediv_of_nonneg (by omega)] at hd bq
    subst hn hd
    have hP : -9223372036854775807 ≤ p.tdiv g ∧ p.tdiv g ≤ 9223372036854775807 := by omega
    have hQ : -9223372036854775807 ≤ q / g ∧ q / g ≤ 9223372036854775807 := by omega
    obtain ⟨hP1, hP2⟩ := hP
    obtain ⟨hQ1, hQ2⟩ := hQ
    clear bp bq
    by_cases hf : fit (rat p q) = true
    · rw [oPf hf, oQf hf, oEf hf]
      obtain ⟨k1, k2, k3⟩ := hfit.1 hf
      clear hfit oPf oQf oEf oPn oQn oEn hf
      go_enter Tryd.func50, Tryd.ntmps50
      go_wp2_with (first | (go_at_call 58; refine (abs_any _ _ (by omega) (by omega)).mono ?_; rintro e w' ⟨rfl, rfl⟩) | (go_at_call 57; refine (C.out _).mono ?_; rintro e w1 ⟨rfl, k, rfl⟩))
      go_quiet (fail)
      go_wp2_with (go_at_call 56; refine (within_yes _ _ _ k1 k2 (by omega) (by omega)).mono ?_; rintro e w' ⟨rfl, rfl⟩)
      refine bodyPost_ret (v := .tuple #[.agg #[.int .i64  (p.tdiv g) , .int .i64  (q / g) ], .int .i64 0]) (by simp [results, Tryd.results50, go_sem]) rfl ?_
      refine ⟨rfl, ?_⟩
      repeat (first | exact Below.refl _ _ | refine below_drewN ?_ _ | refine Below.setCell ?_ (by simp) _ | refine Below.alloc ?_ (by simp) _)
    · have hf' : fit (rat p q) = false := by simpa using hf
      rw [oPn hf', oQn hf', oEn hf']
      have hno : ¬ (-2147483647 ≤ (p.tdiv g) ∧ (p.tdiv g) ≤ 2147483647 ∧ (q / g) ≤ 2147483647) := fun h => hf (hfit.2 h)
      clear hfit oPf oQf oEf oPn oQn oEn hf hf'
      by_cases hin : -2147483647 ≤ (p.tdiv g) ∧ (p.tdiv g) ≤ 2147483647
      · obtain ⟨k1, k2⟩ := hin
        have k3 : 2147483647 < (q / g) := by omega
        clear hno
        go_enter Tryd.func50, Tryd.ntmps50
        go_wp2_with (first | (go_at_call 58; refine (abs_any _ _ (by omega) (by omega)).mono ?_; rintro e w' ⟨rfl, rfl⟩) | (go_at_call 57; refine (C.out _).mono ?_; rintro e w1 ⟨rfl, k, rfl⟩))
        go_quiet (fail)
        go_wp2_with (go_at_call 56; refine (within_yes _ _ _ k1 k2 (by omega) (by omega)).mono ?_; rintro e w' ⟨rfl, rfl⟩)
        refine bodyPost_ret (v := .tuple #[.agg #[.int .i64 0, .int .i64 0], .int .i64 6]) (by simp [results, Tryd.results50, go_sem]) rfl ?_
        refine ⟨rfl, ?_⟩
        repeat (first | exact Below.refl _ _ | refine below_drewN ?_ _ | refine Below.setCell ?_ (by simp) _ | refine Below.alloc ?_ (by simp) _)
      · have k1 : (p.tdiv g) < -2147483647 ∨ 2147483647 < (p.tdiv g) := by omega
        clear hno hin
        go_enter Tryd.func50, Tryd.ntmps50
        go_wp2_with (first | (go_at_call 58; refine (abs_any _ _ (by omega) (by omega)).mono ?_; rintro e w' ⟨rfl, rfl⟩) | (go_at_call 57; refine (C.out _).mono ?_; rintro e w1 ⟨rfl, k, rfl⟩))
        go_quiet (fail)
        go_wp2_with (go_at_call 56; refine (within_no _ _ _ k1 (by omega) (by omega)).mono ?_; rintro e w' ⟨rfl, rfl⟩)
        refine bodyPost_ret (v := .tuple #[.agg #[.int .i64 0, .int .i64 0], .int .i64 6]) (by simp [results, Tryd.results50, go_sem]) rfl ?_
        refine ⟨rfl, ?_⟩
        repeat (first | exact Below.refl _ _ | refine below_drewN ?_ _ | refine Below.setCell ?_ (by simp) _ | refine Below.alloc ?_ (by simp) _)

theorem tdiv_neg' (q g : Int) (hq : q < 0) (g1 : 1 ≤ g) (g2 : g ≤ (q.natAbs : Int)) : q.tdiv g < 0 := by
  have h : (-q).tdiv g = -(q.tdiv g) := Int.neg_tdiv q g
  rw [Int.tdiv_eq_ediv_of_nonneg (by omega)] at h
  have : 1 ≤ (-q) / g := by rw [Int.le_ediv_iff_mul_le (by omega)]; omega
  omega

end Go.Proofs.YtmnfebgkpcjjjaaDoor
