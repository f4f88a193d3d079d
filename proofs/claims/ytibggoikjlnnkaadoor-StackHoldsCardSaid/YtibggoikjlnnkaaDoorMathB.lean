/- Plain mathematics of quotients, remainders and orders. -/
import Derived.Test.YtibggoikjlnnkaaDoorMath
namespace Go.Proofs.YtibggoikjlnnkaaDoor.M1

theorem rat_nonneg {a d : Int} (hd : 0 < d) : 0 ≤ rat a d ↔ 0 ≤ a := Rat.divInt_nonneg_iff_of_pos_right hd
theorem rat_le_same {a b d : Int} (hd : 0 < d) : rat a d ≤ rat b d ↔ a ≤ b := by
  rw [Rat.le_iff_sub_nonneg, rat_sub (by omega) (by omega), rat_nonneg (Int.mul_pos hd hd), ← Int.sub_mul]
  constructor
  · intro h
    have := Int.nonneg_of_mul_nonneg_left h hd
    omega
  · intro h
    exact Int.mul_nonneg (by omega) (by omega)
theorem rat_lt_same {a b d : Int} (hd : 0 < d) : rat a d < rat b d ↔ a < b := by
  rw [← Rat.not_le, rat_le_same hd]; omega
theorem rat_scale {p q k : Int} (hk : k ≠ 0) : rat (p * k) (q * k) = rat p q := Rat.divInt_mul_right hk
theorem cmp_lt {m n : Int} (h : m < n) : cmp m n = -1 := by unfold cmp; rw [if_pos h]
theorem cmp_gt {m n : Int} (h : n < m) : cmp m n = 1 := by unfold cmp; rw [if_neg (by omega), if_pos h]
theorem cmp_eq {m n : Int} (h : m = n) : cmp m n = 0 := by unfold cmp; rw [if_neg (by omega), if_neg (by omega)]
theorem ratCmp_yes {p q p' q' : Int} (h : vld p q = true) (h' : vld p' q' = true) : ratCmp p q p' q' = cmp (p * q') (p' * q) := by unfold ratCmp; rw [if_pos ⟨h, h'⟩]
/-- Cmp on numbers that exist -/
theorem ratCmp_lt {r s : Rat} (hr : fit r = true) (hs : fit s = true) (h : r < s) : ratCmp (oP r) (oQ r) (oP s) (oQ s) = -1 := by
  rw [ratCmp_yes (vld_o hr) (vld_o hs)]
  apply cmp_lt
  rw [← rat_lt (vld_o hr) (vld_o hs), rat_o hr, rat_o hs]; exact h
theorem ratCmp_gt {r s : Rat} (hr : fit r = true) (hs : fit s = true) (h : s < r) : ratCmp (oP r) (oQ r) (oP s) (oQ s) = 1 := by
  rw [ratCmp_yes (vld_o hr) (vld_o hs)]
  apply cmp_gt
  rw [← rat_lt (vld_o hs) (vld_o hr), rat_o hr, rat_o hs]; exact h
theorem ratCmp_eq {r : Rat} (hr : fit r = true) : ratCmp (oP r) (oQ r) (oP r) (oQ r) = 0 := by
  rw [ratCmp_yes (vld_o hr) (vld_o hr)]; exact cmp_eq rfl

/-- the remainder -/
def md (p q p' q' : Int) : Rat := rat ((p * q').fmod (p' * q)) (q * q')
theorem modR_yes {p q p' q' : Int} (h : vld p q = true) (h' : vld p' q' = true) (hp : p' ≠ 0) : modR p q p' q' = out (md p q p' q') := if_pos (dvE_0 h h' hp)
theorem quotR_yes {p q p' q' : Int} (h : vld p q = true) (h' : vld p' q' = true) (hp : p' ≠ 0) : quotR p q p' q' = intR (fl (p * q') (q * p')) := if_pos (dvE_0 h h' hp)
theorem md_pos {p q p' q' : Int} (h : vld p q = true) (h' : vld p' q' = true) (hp : 0 < p') : 0 ≤ md p q p' q' ∧ md p q p' q' < rat p' q' := by
  have hq := (vld_iff.1 h).1
  have hq' := (vld_iff.1 h').1
  have hY : 0 < p' * q := Int.mul_pos hp (by omega)
  have hD : 0 < q * q' := Int.mul_pos (by omega) (by omega)
  obtain ⟨a, b⟩ := fm_pos (p * q') (p' * q) hY
  refine ⟨(rat_nonneg hD).2 a, ?_⟩
  rw [← rat_scale (p := p') (q := q') (k := q) (by omega), Int.mul_comm q' q]
  exact (rat_lt_same hD).2 b
theorem md_neg {p q p' q' : Int} (h : vld p q = true) (h' : vld p' q' = true) (hp : p' < 0) : md p q p' q' ≤ 0 ∧ rat p' q' < md p q p' q' := by
  have hq := (vld_iff.1 h).1
  have hq' := (vld_iff.1 h').1
  have hY : p' * q < 0 := Int.mul_neg_of_neg_of_pos hp (by omega)
  have hD : 0 < q * q' := Int.mul_pos (by omega) (by omega)
  obtain ⟨a, b⟩ := fm_neg (p * q') (p' * q) hY
  refine ⟨?_, ?_⟩
  · have : md p q p' q' ≤ rat 0 (q * q') := (rat_le_same hD).2 a
    rwa [show rat 0 (q * q') = 0 by unfold rat; exact Rat.zero_divInt _] at this
  · rw [← rat_scale (p := p') (q := q') (k := q) (by omega), Int.mul_comm q' q]
    exact (rat_lt_same hD).2 b
theorem oP_nonneg {r : Rat} (hr : fit r = true) : 0 ≤ oP r ↔ 0 ≤ r := by rw [oP_fit hr]; exact Rat.num_nonneg
theorem oP_nonpos {r : Rat} (hr : fit r = true) (h : r ≤ 0) : oP r ≤ 0 := by
  rw [oP_fit hr]
  have := Rat.le_iff r 0
  rw [this] at h
  simpa using h
/-- the dividend again -/
theorem divides {p q p' q' : Int} (h : vld p q = true) (h' : vld p' q' = true) : rat p' q' * rat (fl (p * q') (q * p')) 1 + md p q p' q' = rat p q := by
  have hq := (vld_iff.1 h).1
  have hq' := (vld_iff.1 h').1
  have hD : q * q' ≠ 0 := mul_ne (by omega) (by omega)
  rw [rat_mul, Int.mul_one, ← rat_scale (p := p' * fl (p * q') (q * p')) (q := q') (k := q) (by omega), Int.mul_comm q' q]
  unfold md
  rw [rat_add hD hD, ← Int.add_mul, rat_scale hD, Int.mul_right_comm p' _ q, Int.mul_comm q p', fl_mul]
  rw [show p * q' = p * q' from rfl, rat_scale (by omega)]
/-- orders -/
theorem cmp_le0 {m n : Int} : cmp m n ≤ 0 ↔ m ≤ n := by
  unfold cmp
  repeat' split
  all_goals omega
theorem cmp_ge0 {m n : Int} : 0 ≤ cmp m n ↔ n ≤ m := by
  unfold cmp
  repeat' split
  all_goals omega
theorem ratCmp_le0 {p q p' q' : Int} (h : vld p q = true) (h' : vld p' q' = true) : ratCmp p q p' q' ≤ 0 ↔ rat p q ≤ rat p' q' := by
  rw [ratCmp_yes h h', cmp_le0, rat_le h h']
theorem ratCmp_ge0 {p q p' q' : Int} (h : vld p q = true) (h' : vld p' q' = true) : 0 ≤ ratCmp p q p' q' ↔ rat p' q' ≤ rat p q := by
  rw [ratCmp_yes h h', cmp_ge0, rat_le h' h]
theorem tri (r s : Rat) : r < s ∨ r = s ∨ s < r := by
  by_cases h1 : r < s
  · exact .inl h1
  · by_cases h2 : s < r
    · exact .inr (.inr h2)
    · exact .inr (.inl (Rat.le_antisymm (Rat.not_lt.1 h2) (Rat.not_lt.1 h1)))
theorem ratCmp_lt' {p q p' q' : Int} (h : vld p q = true) (h' : vld p' q' = true) (hl : rat p q < rat p' q') : ratCmp p q p' q' = -1 := by
  rw [ratCmp_yes h h']; exact cmp_lt ((rat_lt h h').1 hl)
theorem ratCmp_gt' {p q p' q' : Int} (h : vld p q = true) (h' : vld p' q' = true) (hl : rat p' q' < rat p q) : ratCmp p q p' q' = 1 := by
  rw [ratCmp_yes h h']; exact cmp_gt ((rat_lt h' h).1 hl)
/-- floor and ceiling of a number -/
theorem fl_le {p q : Int} (h : vld p q = true) : fl p q * q ≤ p ∧ p < fl p q * q + q := by
  have hq := (vld_iff.1 h).1
  have h1 := fl_mul p q
  obtain ⟨a, b⟩ := fm_pos p q (by omega)
  rw [Int.mul_comm q] at h1
  omega
theorem vld_negP {p q : Int} (h : vld p q = true) : vld (-p) q = true := by
  obtain ⟨h1, h2, h3, h4, hg⟩ := vld_iff.1 h
  exact vld_iff.2 ⟨h1, h2, by omega, by omega, by rw [Int.neg_gcd]; exact hg⟩
theorem fl_in {p q : Int} (h : vld p q = true) : -2147483647 ≤ fl p q ∧ fl p q ≤ 2147483647 := by
  obtain ⟨h1, h2, h3, h4, hg⟩ := vld_iff.1 h
  obtain ⟨a, b⟩ := fl_le h
  constructor
  · apply Int.not_lt.1; intro hc
    have : (fl p q + 1) * q ≤ (-2147483647) * q := Int.mul_le_mul_of_nonneg_right (by omega) (by omega)
    rw [Int.add_mul] at this
    have h5 : (-2147483647) * q ≤ -2147483647 := by omega
    omega
  · apply Int.not_lt.1; intro hc
    have : 2147483648 * q ≤ fl p q * q := Int.mul_le_mul_of_nonneg_right (by omega) (by omega)
    omega
/-- w - z of the law -/
theorem ceil_floor {p q : Int} (h : vld p q = true) : -(fl (-p) q) - fl p q ≤ 1 ∧ fl p q ≤ -(fl (-p) q) ∧ (-(fl (-p) q) = fl p q ↔ q = 1) := by
  have hq := (vld_iff.1 h).1
  have hg := (vld_iff.1 h).2.2.2.2
  obtain ⟨a1, a2⟩ := fl_le h
  obtain ⟨b1, b2⟩ := fl_le (vld_negP h)
  generalize fl p q = z at *
  generalize fl (-p) q = y at *
  have hs : (z + y) * q ≤ 0 := by rw [Int.add_mul]; omega
  have hs2 : -2 * q < (z + y) * q := by rw [Int.add_mul]; omega
  have c1 : z + y ≤ 0 := by
    apply Int.not_lt.1; intro hc
    have : 1 * q ≤ (z + y) * q := Int.mul_le_mul_of_nonneg_right (by omega) (by omega)
    omega
  have c2 : -2 < z + y := by
    apply Int.not_le.1; intro hc
    have : (z + y) * q ≤ (-2) * q := Int.mul_le_mul_of_nonneg_right (by omega) (by omega)
    omega
  refine ⟨by omega, by omega, ?_, ?_⟩
  · intro he
    have hz : z * q = p := by
      have : y = -z := by omega
      rw [this, Int.neg_mul] at b1; omega
    have hd : q ∣ p := ⟨z, by rw [Int.mul_comm]; exact hz.symm⟩
    have := Int.gcd_eq_natAbs_right hd
    omega
  · intro he
    subst he
    omega
end Go.Proofs.YtibggoikjlnnkaaDoor.M1
