/- Plain mathematics of exact numbers: no Go in sight. -/
namespace Go.Proofs.Ytdgdpckjcpgoaaa.M1

/-- The number p/q is valid. -/
def vld (p q : Int) : Bool := decide (1 ≤ q ∧ q ≤ 2147483647 ∧ -2147483647 ≤ p ∧ p ≤ 2147483647 ∧ Int.gcd p q = 1)
def fit (r : Rat) : Bool := decide (-2147483647 ≤ r.num ∧ r.num ≤ 2147483647 ∧ (r.den : Int) ≤ 2147483647)
def oP (r : Rat) : Int := if fit r = true then r.num else 0
def oQ (r : Rat) : Int := if fit r = true then (r.den : Int) else 0
def oE (r : Rat) : Int := if fit r = true then 0 else 6
/-- The number of the fraction p/q. -/
def rat (p q : Int) : Rat := Rat.divInt p q

theorem vld_iff {p q : Int} : vld p q = true ↔ 1 ≤ q ∧ q ≤ 2147483647 ∧ -2147483647 ≤ p ∧ p ≤ 2147483647 ∧ Int.gcd p q = 1 := by
  unfold vld; exact decide_eq_true_iff
theorem fit_iff {r : Rat} : fit r = true ↔ -2147483647 ≤ r.num ∧ r.num ≤ 2147483647 ∧ (r.den : Int) ≤ 2147483647 := by
  unfold fit; exact decide_eq_true_iff

theorem oP_fit {r : Rat} (h : fit r = true) : oP r = r.num := by unfold oP; rw [if_pos h]
theorem oQ_fit {r : Rat} (h : fit r = true) : oQ r = r.den := by unfold oQ; rw [if_pos h]
theorem oE_fit {r : Rat} (h : fit r = true) : oE r = 0 := by unfold oE; rw [if_pos h]
theorem oP_not {r : Rat} (h : fit r = false) : oP r = 0 := by unfold oP; rw [if_neg (by simp [h])]
theorem oQ_not {r : Rat} (h : fit r = false) : oQ r = 0 := by unfold oQ; rw [if_neg (by simp [h])]
theorem oE_not {r : Rat} (h : fit r = false) : oE r = 6 := by unfold oE; rw [if_neg (by simp [h])]
theorem oE_01 (r : Rat) : oE r = 0 ∨ oE r = 6 := by unfold oE; split <;> simp
theorem fit_of_oE {r : Rat} (h : oE r = 0) : fit r = true := by
  unfold oE at h; split at h
  · assumption
  · omega

theorem rat_num {p q : Int} (h : vld p q = true) : (rat p q).num = p := by
  obtain ⟨h1, _, _, _, hg⟩ := vld_iff.1 h
  unfold rat; rw [Rat.num_divInt, Int.gcd_comm, hg, Int.sign_eq_one_of_pos (by omega)]; simp
theorem rat_den {p q : Int} (h : vld p q = true) : ((rat p q).den : Int) = q := by
  obtain ⟨h1, _, _, _, hg⟩ := vld_iff.1 h
  unfold rat; rw [Rat.den_divInt, if_neg (by omega), Int.gcd_comm, hg]; simp; omega
theorem rat_fit {p q : Int} (h : vld p q = true) : fit (rat p q) = true := by
  have a := rat_num h; have b := rat_den h
  obtain ⟨h1, h2, h3, h4, hg⟩ := vld_iff.1 h
  rw [fit_iff, a, b]; exact ⟨h3, h4, h2⟩
theorem oP_rat {p q : Int} (h : vld p q = true) : oP (rat p q) = p := by rw [oP_fit (rat_fit h), rat_num h]
theorem oQ_rat {p q : Int} (h : vld p q = true) : oQ (rat p q) = q := by rw [oQ_fit (rat_fit h), rat_den h]
theorem rat_of (r : Rat) : rat r.num r.den = r := Rat.num_divInt_den r
theorem vld_num {r : Rat} (h : fit r = true) : vld r.num r.den = true := by
  obtain ⟨a, b, c⟩ := fit_iff.1 h
  have := r.den_pos
  have hr := r.reduced
  rw [vld_iff]; refine ⟨by omega, c, a, b, ?_⟩
  unfold Int.gcd; simpa [Nat.Coprime] using hr
theorem vld_o {r : Rat} (h : fit r = true) : vld (oP r) (oQ r) = true := by rw [oP_fit h, oQ_fit h]; exact vld_num h
theorem rat_o {r : Rat} (h : fit r = true) : rat (oP r) (oQ r) = r := by rw [oP_fit h, oQ_fit h]; exact rat_of r
theorem rat_inj {p q p' q' : Int} (h : vld p q = true) (h' : vld p' q' = true) (e : rat p q = rat p' q') : p = p' ∧ q = q' := by
  constructor
  · rw [← rat_num h, ← rat_num h', e]
  · rw [← rat_den h, ← rat_den h', e]

/-- what 'reduce' works out -/
theorem red_num {p q : Int} (hq : q ≠ 0) : (rat p q).num = (if q < 0 then -p else p).tdiv (Int.gcd p q) := by
  unfold rat; rw [Rat.num_divInt, Int.gcd_comm]
  have hd : ((Int.gcd p q : Nat) : Int) ∣ p := Int.gcd_dvd_left p q
  split
  · rw [Int.sign_eq_neg_one_of_neg (by assumption)]
    rw [Int.tdiv_eq_ediv_of_dvd (Int.dvd_neg.2 hd)]; simp
  · rw [Int.sign_eq_one_of_pos (by omega), Int.tdiv_eq_ediv_of_dvd hd]; simp
theorem red_den {p q : Int} (hq : q ≠ 0) : ((rat p q).den : Int) = (if q < 0 then -q else q).tdiv (Int.gcd p q) := by
  unfold rat; rw [Rat.den_divInt, if_neg hq, Int.gcd_comm]
  have hd : ((Int.gcd p q : Nat) : Int) ∣ q := Int.gcd_dvd_right p q
  split
  · rw [Int.tdiv_eq_ediv_of_dvd (Int.dvd_neg.2 hd)]
    rw [show -q = ((q.natAbs : Nat) : Int) by omega]; simp
  · rw [Int.tdiv_eq_ediv_of_dvd hd]
    rw [show q / ((Int.gcd p q : Nat) : Int) = ((q.natAbs : Nat) : Int) / ((Int.gcd p q : Nat) : Int) by rw [show ((q.natAbs : Nat) : Int) = q by omega]]
    simp
theorem gcd_pos' {p q : Int} (hq : q ≠ 0) : 1 ≤ (Int.gcd p q : Int) := by
  have := Int.gcd_pos_of_ne_zero_right p hq; omega
theorem gcd_le {p q : Int} (hq : q ≠ 0) : (Int.gcd p q : Int) ≤ q.natAbs := by
  have := Nat.gcd_le_right p.natAbs (n := q.natAbs) (by omega); unfold Int.gcd; omega

theorem rat_add {p q p' q' : Int} (h : q ≠ 0) (h' : q' ≠ 0) : rat p q + rat p' q' = rat (p * q' + p' * q) (q * q') := Rat.divInt_add_divInt p p' h h'
theorem rat_sub {p q p' q' : Int} (h : q ≠ 0) (h' : q' ≠ 0) : rat p q - rat p' q' = rat (p * q' - p' * q) (q * q') := Rat.divInt_sub_divInt p p' h h'
theorem rat_mul {p q p' q' : Int} : rat p q * rat p' q' = rat (p * p') (q * q') := Rat.divInt_mul_divInt p p'
theorem rat_div {p q p' q' : Int} : rat p q / rat p' q' = rat (p * q') (q * p') := by
  rw [Rat.div_def]; unfold rat; rw [Rat.inv_divInt]; exact Rat.divInt_mul_divInt p q'
theorem rat_neg {p q : Int} : - rat p q = rat (-p) q := Rat.neg_divInt p q
theorem rat_zero {p q : Int} (h : vld p q = true) : rat p q = 0 ↔ p = 0 := by
  rw [← Rat.num_eq_zero, rat_num h]

theorem rat_lt {p q p' q' : Int} (h : vld p q = true) (h' : vld p' q' = true) : rat p q < rat p' q' ↔ p * q' < p' * q := by
  rw [Rat.lt_iff, rat_num h, rat_num h', rat_den h, rat_den h']
theorem rat_le {p q p' q' : Int} (h : vld p q = true) (h' : vld p' q' = true) : rat p q ≤ rat p' q' ↔ p * q' ≤ p' * q := by
  rw [Rat.le_iff, rat_num h, rat_num h', rat_den h, rat_den h']

/-- -1, 0 or 1 -/
def cmp (m n : Int) : Int := if m < n then -1 else if n < m then 1 else 0
theorem cmp_neg (m n : Int) : cmp n m = - cmp m n := by unfold cmp; split <;> split <;> simp <;> omega
def ratCmp (p q p' q' : Int) : Int := if vld p q = true ∧ vld p' q' = true then cmp (p * q') (p' * q) else if p = p' then cmp q q' else cmp p p'

/-- The product of two integers of 31 bits and a sign. -/
theorem mul_in {a b : Int} (h1 : -2147483647 ≤ a) (h2 : a ≤ 2147483647) (h3 : -2147483647 ≤ b) (h4 : b ≤ 2147483647) :
    -4611686014132420609 ≤ a * b ∧ a * b ≤ 4611686014132420609 := by
  have k1 : 0 ≤ (2147483647 - a) * (2147483647 + b) := Int.mul_nonneg (by omega) (by omega)
  have k2 : 0 ≤ (2147483647 + a) * (2147483647 - b) := Int.mul_nonneg (by omega) (by omega)
  have k3 : 0 ≤ (2147483647 - a) * (2147483647 - b) := Int.mul_nonneg (by omega) (by omega)
  have k4 : 0 ≤ (2147483647 + a) * (2147483647 + b) := Int.mul_nonneg (by omega) (by omega)
  simp only [Int.sub_mul, Int.add_mul, Int.mul_sub, Int.mul_add] at k1 k2 k3 k4
  generalize a * b = x at *
  have := Int.mul_comm 2147483647 b
  omega
theorem mul_ne {a b : Int} (h1 : a ≠ 0) (h3 : b ≠ 0) : a * b ≠ 0 := Int.mul_ne_zero h1 h3

/-- the floor of a quotient, as Go works it out -/
def fl (p q : Int) : Int := p.fdiv q
theorem fl_eq (p q : Int) (hq : q ≠ 0) : fl p q = if p.tmod q ≠ 0 ∧ (decide (p < 0) ≠ decide (q < 0)) then p.tdiv q - 1 else p.tdiv q := by
  unfold fl
  rw [Int.fdiv_eq_tdiv]
  by_cases hd : q ∣ p
  · have : p.tmod q = 0 := Int.tmod_eq_zero_of_dvd hd
    simp [hd, this]
  · have : p.tmod q ≠ 0 := fun h => hd (Int.dvd_of_tmod_eq_zero h)
    have hs : q < 0 → q.sign = -1 := Int.sign_eq_neg_one_of_neg
    have ht : 0 < q → q.sign = 1 := Int.sign_eq_one_of_pos
    simp only [hd, this, if_false, ne_eq, not_false_eq_true, true_and, decide_eq_decide]
    by_cases h1 : p < 0 <;> by_cases h2 : q < 0 <;> simp only [h1, h2, iff_self, iff_true, iff_false, not_true, not_false_eq_true, if_true, if_false] <;>
      (repeat' split) <;> omega
theorem fm_eq (p q : Int) : p.fmod q = p - q * fl p q := by unfold fl; have := Int.mul_fdiv_add_fmod p q; omega
theorem fm_tmod (p q : Int) : p.fmod q = if p.tmod q ≠ 0 ∧ (decide (p.tmod q < 0) ≠ decide (q < 0)) then p.tmod q + q else p.tmod q := by
  rw [Int.fmod_eq_tmod]
  by_cases hd : q ∣ p
  · have : p.tmod q = 0 := Int.tmod_eq_zero_of_dvd hd
    simp [hd, this]
  · have h0 : p.tmod q ≠ 0 := fun h => hd (Int.dvd_of_tmod_eq_zero h)
    have h1 : 0 ≤ p → 0 ≤ p.tmod q := fun h => Int.tmod_nonneg q h
    have h2 : p ≤ 0 → p.tmod q ≤ 0 := by
      intro h
      have := Int.tmod_nonneg (a := -p) q (by omega)
      rw [Int.neg_tmod] at this; omega
    simp only [hd, h0, if_false, ne_eq, not_false_eq_true, true_and, decide_eq_decide]
    by_cases g1 : p.tmod q < 0 <;> by_cases g2 : q < 0 <;> simp only [g1, g2, iff_self, iff_true, iff_false, not_true, not_false_eq_true, if_true, if_false] <;>
      (repeat' split) <;> omega
theorem fm_pos (p q : Int) (hq : 0 < q) : 0 ≤ p.fmod q ∧ p.fmod q < q := ⟨Int.fmod_nonneg_of_pos p hq, Int.fmod_lt_of_pos p hq⟩
theorem fm_neg (p q : Int) (hq : q < 0) : p.fmod q ≤ 0 ∧ q < p.fmod q := by
  have h := fm_tmod p q
  have hl : (p.tmod q).natAbs < q.natAbs := by rw [Int.natAbs_tmod]; exact Nat.mod_lt _ (by omega)
  by_cases g1 : p.tmod q < 0 <;> by_cases g2 : p.tmod q = 0 <;> simp [g1, g2, hq] at h <;> omega
/-- bounds of a quotient -/
theorem fl_bd (p q b : Int) (hq : q ≠ 0) (h1 : -b ≤ p) (h2 : p ≤ b) : -b - 1 ≤ fl p q ∧ fl p q ≤ b := by
  rw [fl_eq p q hq]
  have hn : (p.tdiv q).natAbs ≤ p.natAbs := by rw [Int.natAbs_tdiv]; exact Nat.div_le_self _ _
  by_cases g1 : p.tmod q = 0
  · simp only [g1, ne_eq, not_true, false_and, if_false]; omega
  · split
    · omega
    · omega
/-- powers -/
theorem rat_pow (p q : Int) (n : Nat) : rat p q ^ n = rat (p ^ n) (q ^ n) := by
  induction n with
  | zero => rw [Rat.pow_zero, Int.pow_zero, Int.pow_zero]; rfl
  | succ n ih => rw [Rat.pow_succ, ih, rat_mul, Int.pow_succ, Int.pow_succ]
theorem fit_pow {r : Rat} {n : Nat} (h : fit (r ^ (n + 1)) = true) : fit (r ^ n) = true := by
  rw [fit_iff] at h ⊢
  rw [Rat.num_pow, Rat.den_pow] at h ⊢
  have hd := r.den_pos
  have e1 : r.den ^ n ≤ r.den ^ (n + 1) := Nat.pow_le_pow_right hd (by omega)
  by_cases hz : r.num = 0
  · rw [hz]
    cases n with
    | zero => simp at e1 ⊢
    | succ n =>
      have : (0 : Int) ^ (n + 1) = 0 := by rw [Int.pow_succ]; simp
      rw [this]; refine ⟨by omega, by omega, ?_⟩
      have := h.2.2; omega
  · have e2 : (r.num ^ n).natAbs ≤ (r.num ^ (n + 1)).natAbs := by
      rw [Int.natAbs_pow, Int.natAbs_pow]; exact Nat.pow_le_pow_right (by omega) (by omega)
    refine ⟨by omega, by omega, by omega⟩
theorem fit_pow_le {r : Rat} {n m : Nat} (hm : m ≤ n) (h : fit (r ^ n) = true) : fit (r ^ m) = true := by
  induction n with
  | zero => have : m = 0 := by omega
            rw [this]; exact h
  | succ n ih =>
    by_cases e : m = n + 1
    · rw [e]; exact h
    · exact ih (by omega) (fit_pow h)
theorem fit_powZ {p q : Int} (h : vld p q = true) (n : Nat) : fit (rat p q ^ n) = true ↔ (-2147483647 ≤ p ^ n ∧ p ^ n ≤ 2147483647) ∧ q ^ n ≤ 2147483647 := by
  rw [fit_iff, Rat.num_pow, Rat.den_pow, rat_num h]
  have : ((((rat p q).den ^ n : Nat)) : Int) = q ^ n := by rw [Int.natCast_pow, rat_den h]
  rw [this]; omega
theorem fl_mul (p q : Int) : q * fl p q + p.fmod q = p := Int.mul_fdiv_add_fmod p q
theorem gcd_mod (a b : Int) (ha : 0 ≤ a) (_hb : 0 ≤ b) : Int.gcd b (a % b) = Int.gcd a b := by
  unfold Int.gcd
  rw [Int.natAbs_emod_of_nonneg ha, Nat.gcd_comm, ← Nat.gcd_rec, Nat.gcd_comm]

/-- A result: a number and an error. -/
structure R3 where
  P : Int
  Q : Int
  E : Int
def err (e : Int) : R3 := ⟨0, 0, e⟩
def out (r : Rat) : R3 := ⟨oP r, oQ r, oE r⟩
def makeR (p q : Int) : R3 := if q = 0 then err 7 else if -4611686018427387904 ≤ p ∧ p ≤ 4611686018427387904 ∧ -4611686018427387904 ≤ q ∧ q ≤ 4611686018427387904 then out (rat p q) else err 6
def intR (n : Int) : R3 := if -2147483647 ≤ n ∧ n ≤ 2147483647 then ⟨n, 1, 0⟩ else err 6
def negR (p q : Int) : R3 := if vld p q = true then ⟨-p, q, 0⟩ else err 2
def both (p q p' q' : Int) : Prop := vld p q = true ∧ vld p' q' = true
instance (p q p' q' : Int) : Decidable (both p q p' q') := inferInstanceAs (Decidable (_ ∧ _))
def addR (p q p' q' : Int) : R3 := if both p q p' q' then out (rat (p * q' + p' * q) (q * q')) else err 2
def subR (p q p' q' : Int) : R3 := if both p q p' q' then out (rat (p * q' - p' * q) (q * q')) else err 2
def mulR (p q p' q' : Int) : R3 := if both p q p' q' then out (rat (p * p') (q * q')) else err 2
def dvE (p q p' q' : Int) : Int := if both p q p' q' then if p' = 0 then 7 else 0 else 2
def divR (p q p' q' : Int) : R3 := if dvE p q p' q' = 0 then out (rat (p * q') (q * p')) else err (dvE p q p' q')
def quotR (p q p' q' : Int) : R3 := if dvE p q p' q' = 0 then intR (fl (p * q') (q * p')) else err (dvE p q p' q')
def modR (p q p' q' : Int) : R3 := if dvE p q p' q' = 0 then out (rat ((p * q').fmod (p' * q)) (q * q')) else err (dvE p q p' q')
def floorR (p q : Int) : R3 := if vld p q = true then intR (fl p q) else err 2
def ceilR (p q : Int) : R3 := if vld p q = true then intR (-(fl (-p) q)) else err 2
theorem addR_yes {p q p' q' : Int} (h : vld p q = true) (h' : vld p' q' = true) : addR p q p' q' = out (rat (p * q' + p' * q) (q * q')) := if_pos ⟨h, h'⟩
theorem subR_yes {p q p' q' : Int} (h : vld p q = true) (h' : vld p' q' = true) : subR p q p' q' = out (rat (p * q' - p' * q) (q * q')) := if_pos ⟨h, h'⟩
theorem mulR_yes {p q p' q' : Int} (h : vld p q = true) (h' : vld p' q' = true) : mulR p q p' q' = out (rat (p * p') (q * q')) := if_pos ⟨h, h'⟩
theorem addR_no {p q p' q' : Int} (h : ¬ both p q p' q') : addR p q p' q' = err 2 := if_neg h
theorem subR_no {p q p' q' : Int} (h : ¬ both p q p' q') : subR p q p' q' = err 2 := if_neg h
theorem mulR_no {p q p' q' : Int} (h : ¬ both p q p' q') : mulR p q p' q' = err 2 := if_neg h
theorem not_both {p q p' q' : Int} (h : ¬ both p q p' q') (h1 : vld p q = true) : vld p' q' = false := by
  unfold both at h; simpa [h1] using h
def whB (p q : Int) : Bool := vld p q && decide (q = 1)
def whP (p q : Int) : Int := if whB p q = true then p else 0
theorem dvE_zero {p q p' q' : Int} (h : dvE p q p' q' = 0) : vld p q = true ∧ vld p' q' = true ∧ p' ≠ 0 := by
  unfold dvE at h
  by_cases h1 : both p q p' q'
  · rw [if_pos h1] at h
    by_cases h2 : p' = 0
    · rw [if_pos h2] at h; omega
    · exact ⟨h1.1, h1.2, h2⟩
  · rw [if_neg h1] at h; omega
theorem dvE_7 {p q p' q' : Int} (h1 : vld p q = true) (h2 : vld p' q' = true) (h : p' = 0) : dvE p q p' q' = 7 := by
  unfold dvE; rw [if_pos ⟨h1, h2⟩, if_pos h]
theorem dvE_0 {p q p' q' : Int} (h1 : vld p q = true) (h2 : vld p' q' = true) (h : p' ≠ 0) : dvE p q p' q' = 0 := by
  unfold dvE; rw [if_pos ⟨h1, h2⟩, if_neg h]
theorem dvE_2 {p q p' q' : Int} (h : ¬ both p q p' q') : dvE p q p' q' = 2 := by
  unfold dvE; rw [if_neg h]

/-- powers, step by step -/
def pw (r : Rat) (i : Nat) : Rat := r ^ i
theorem pw_zero (r : Rat) : pw r 0 = 1 := Rat.pow_zero r
theorem pw_succ (r : Rat) (i : Nat) : pw r (i + 1) = pw r i * r := Rat.pow_succ r i
theorem fit_one : fit 1 = true := by decide +kernel
theorem o_one : oP 1 = 1 ∧ oQ 1 = 1 ∧ oE 1 = 0 := by decide +kernel
theorem pw_no {r : Rat} {i k : Nat} (h : i ≤ k) (hn : fit (pw r i) = false) : fit (pw r k) = false := by
  cases hk : fit (pw r k) with
  | false => rfl
  | true => have := fit_pow_le h hk; unfold pw at hn; rw [this] at hn; cases hn
def pwr (p q n : Int) : Rat := if n < 0 then pw (rat q p) n.natAbs else pw (rat p q) n.natAbs
def powOk (p q n m : Int) : Prop := vld p q = true ∧ whB n m = true ∧ -64 ≤ n ∧ n ≤ 64
instance (p q n m : Int) : Decidable (powOk p q n m) := inferInstanceAs (Decidable (_ ∧ _ ∧ _ ∧ _))
def powR (p q n m : Int) : R3 := if powOk p q n m then if n < 0 ∧ p = 0 then err 7 else out (pwr p q n) else err 2
theorem mul_o {s r : Rat} (hs : fit s = true) (hr : fit r = true) : mulR (oP s) (oQ s) (oP r) (oQ r) = out (s * r) := by
  rw [mulR_yes (vld_o hs) (vld_o hr), ← rat_mul, rat_o hs, rat_o hr]
theorem whP_yes {n m : Int} (h : whB n m = true) : whP n m = n := by unfold whP; rw [if_pos h]
/-- The inverse of a number. -/
theorem inv_vld {p q : Int} (h : vld p q = true) (hp : p ≠ 0) : ∃ a b, vld a b = true ∧ rat q p = rat a b ∧ ((a = q ∧ b = p) ∨ (a = -q ∧ b = -p)) := by
  obtain ⟨h1, h2, h3, h4, hg⟩ := vld_iff.1 h
  by_cases hn : p < 0
  · refine ⟨-q, -p, vld_iff.2 ⟨by omega, by omega, by omega, by omega, ?_⟩, ?_, .inr ⟨rfl, rfl⟩⟩
    · rw [Int.gcd_neg, Int.neg_gcd, Int.gcd_comm]; exact hg
    · unfold rat
      have : Rat.divInt (-q) (-p) = Rat.divInt q p := by
        rw [show -q = (-1) * q by omega, show -p = (-1) * p by omega]
        exact Rat.divInt_mul_left (by omega)
      exact this.symm
  · exact ⟨q, p, vld_iff.2 ⟨by omega, by omega, by omega, by omega, by rw [Int.gcd_comm]; exact hg⟩, rfl, .inl ⟨rfl, rfl⟩⟩
theorem fit_inv {p q : Int} (h : vld p q = true) (hp : p ≠ 0) : fit (rat q p) = true := by
  obtain ⟨a, b, hv, e, _⟩ := inv_vld h hp
  rw [e]; exact rat_fit hv
def inM (x : Int) : Prop := -2147483647 ≤ x ∧ x ≤ 2147483647
instance (x : Int) : Decidable (inM x) := inferInstanceAs (Decidable (_ ∧ _))
theorem inM_neg_pow (x : Int) (n : Nat) : inM ((-x) ^ n) ↔ inM (x ^ n) := by
  have h : ((-x) ^ n).natAbs = (x ^ n).natAbs := by rw [Int.natAbs_pow, Int.natAbs_pow, Int.natAbs_neg]
  unfold inM; omega
theorem fit_pw {p q : Int} (h : vld p q = true) (n : Nat) : fit (pw (rat p q) n) = true ↔ inM (p ^ n) ∧ inM (q ^ n) := by
  unfold pw inM; rw [fit_powZ h]
  have h1 := (vld_iff.1 h).1
  have : 0 ≤ q ^ n := Int.pow_nonneg (by omega)
  omega
theorem fit_pwi {p q : Int} (h : vld p q = true) (hp : p ≠ 0) (n : Nat) : fit (pw (rat q p) n) = true ↔ inM (p ^ n) ∧ inM (q ^ n) := by
  obtain ⟨a, b, hv, e, hab⟩ := inv_vld h hp
  rw [e, fit_pw hv]
  rcases hab with ⟨rfl, rfl⟩ | ⟨rfl, rfl⟩
  · exact And.comm
  · rw [inM_neg_pow, inM_neg_pow]; exact And.comm
theorem inM_pow {x : Int} {i k : Nat} (hi : i ≤ k) (h : inM (x ^ k)) : inM (x ^ i) := by
  by_cases hx : x = 0
  · subst hx
    cases i with
    | zero => decide
    | succ i => rw [Int.pow_succ]; simp; decide
  · have : (x ^ i).natAbs ≤ (x ^ k).natAbs := by rw [Int.natAbs_pow, Int.natAbs_pow]; exact Nat.pow_le_pow_right (by omega) hi
    unfold inM at *; omega
theorem pow_ne {x : Int} (h : x ≠ 0) (n : Nat) : x ^ n ≠ 0 := Int.pow_ne_zero h
end Go.Proofs.Ytdgdpckjcpgoaaa.M1
