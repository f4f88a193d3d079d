/- Plain mathematics of the texts of numbers, fifth part: rounding. -/
import Derived.Test.YtibggoikjlnnkaaDoorNumP
namespace Go.Proofs.YtibggoikjlnnkaaDoor.M2
open M1

/-- The text of a decimal that is not negative. -/
def decT (t k : Nat) : List UInt8 := Lib.decDigits (t / 10 ^ k) ++ (if k = 0 then [] else 46 :: pad k (t % 10 ^ k))
theorem fixL_eq (p : Int) (q k : Nat) : fixL p q k = (if p < 0 ∧ fixT p.natAbs q k ≠ 0 then [45] else []) ++ decT (fixT p.natAbs q k) k := rfl
theorem pow_le {k : Nat} (h : k ≤ 9) : 10 ^ k ≤ 1000000000 := by
  have := Nat.pow_le_pow_right (n := 10) (by omega) h
  exact this
theorem decT_no (t k : Nat) (ht : t < 18446744073709551616) : ∀ c ∈ decT t k, nb c := by
  have hd := dec_alld (t / 10 ^ k) (by have := Nat.div_le_self t (10 ^ k); omega)
  intro c hc
  rcases List.mem_append.1 hc with hc | hc
  · exact .inl (ten_16 (hd c hc))
  · split at hc
    · cases hc
    · rcases List.mem_cons.1 hc with rfl | hc
      · exact .inr (.inr (.inr rfl))
      · exact .inl (ten_16 (pad_alld _ _ c hc))
theorem decT_uns (t k : Nat) (ht : t ≤ 4611686018427387904) (hk : k ≤ 9) : unsR (decT t k) = makeR t (10 ^ k) := by
  have hdl := Nat.div_le_self t (10 ^ k)
  have hd := dec_alld (t / 10 ^ k) (by omega)
  have hpos := dec_pos (t / 10 ^ k) (by omega)
  have hno := decT_no t k (by omega)
  have hp : 0 < 10 ^ k := Nat.pow_pos (by omega)
  unfold unsR
  rw [cut_ten (fun c hc => (nb_no (hno c hc)).2.2)]
  show soleR _ = _
  by_cases h0 : k = 0
  · subst h0
    have e : decT t 0 = Lib.decDigits t := by unfold decT; simp
    rw [e]
    rw [Nat.pow_zero, Nat.div_one] at hd hpos
    unfold soleR
    rw [meas_ten hd, if_neg (by simp; intro he; rw [he] at hpos; simp at hpos)]
    unfold numR
    simp only [List.append_nil, List.length_nil]
    rw [if_neg (by omega), dec_jn _ (by omega)]
  · have e : decT t k = Lib.decDigits (t / 10 ^ k) ++ 46 :: pad k (t % 10 ^ k) := by unfold decT; rw [if_neg h0]
    rw [e]
    generalize hD : Lib.decDigits (t / 10 ^ k) = D at *
    have hF := pad_alld k (t % 10 ^ k)
    have hFl := pad_len k (t % 10 ^ k)
    have hc : cnt 10 (D ++ 46 :: pad k (t % 10 ^ k)) = D.length := by
      rw [cnt_app_all hd]
      have : cnt 10 (46 :: pad k (t % 10 ^ k)) = 0 := cnt_no (by decide)
      omega
    have hdr : (D ++ 46 :: pad k (t % 10 ^ k)).drop (D.length + 1) = pad k (t % 10 ^ k) := by
      rw [List.drop_append]; simp
    have hc2 : cnt 10 (pad k (t % 10 ^ k)) = k := by rw [cnt_all.2 hF, hFl]
    have hx : hexp (D ++ 46 :: pad k (t % 10 ^ k)) = false := by
      unfold hexp; rw [decide_eq_false_iff_not]; rintro ⟨_, hx, _⟩
      have h1 : ∀ c, (D ++ 46 :: pad k (t % 10 ^ k))[1]? = some c → c ≠ 120 ∧ c ≠ 88 := by
        intro c hc
        have hm := List.mem_of_getElem? hc
        rcases List.mem_append.1 hm with hm | hm
        · have := isd_ten (hd c hm)
          constructor <;> (rintro rfl; simp at this)
        · rcases List.mem_cons.1 hm with rfl | hm
          · decide
          · have := isd_ten (hF c hm)
            constructor <;> (rintro rfl; simp at this)
      rcases hx with hx | hx
      · exact (h1 _ hx).1 rfl
      · exact (h1 _ hx).2 rfl
    have hf : frac (D ++ 46 :: pad k (t % 10 ^ k)) = true := by
      unfold frac; rw [decide_eq_true_iff, hc, hdr, hc2]
      refine ⟨hpos, by simp, by omega⟩
    have hm : meas (D ++ 46 :: pad k (t % 10 ^ k)) = ⟨10, D, pad k (t % 10 ^ k), D.length + 1 + k⟩ := by
      unfold meas
      rw [if_neg (by simp [hx]), if_pos hf, hc, hdr, hc2]
      simp [List.take_of_length_le, hFl]
    unfold soleR
    rw [hm, if_neg (by simp [hFl]; omega)]
    unfold numR
    simp only [hFl]
    rw [if_neg (by omega)]
    have hj : jn 10 0 (D ++ pad k (t % 10 ^ k)) = some (t : Int) := by
      have ha : alld 10 (D ++ pad k (t % 10 ^ k)) := by
        intro c hc
        rcases List.mem_append.1 hc with hc | hc
        · exact hd c hc
        · exact hF c hc
      have hv : vl 10 0 (D ++ pad k (t % 10 ^ k)) = t := by
        rw [vl_app, ← hD, dec_vl _ (by omega), pad_vl _ _ _ (Nat.mod_lt _ hp)]
        have := Nat.div_add_mod t (10 ^ k)
        rw [Nat.mul_comm] at this
        conv => rhs; rw [← this]
        push_cast
        rfl
      rw [jn_vl (by omega) (by omega) (by omega) ha, hv, if_pos (by omega)]
    rw [hj]
/-- The number that a decimal is read as. -/
theorem parse_fix (p : Int) (q k : Nat) (hT : fixT p.natAbs q k ≤ 4611686018427387904) (hk : k ≤ 9) :
    parseR (fixL p q k) = if p < 0 ∧ fixT p.natAbs q k ≠ 0 then negM (makeR (fixT p.natAbs q k) (10 ^ k)) else makeR (fixT p.natAbs q k) (10 ^ k) := by
  have hno := decT_no (fixT p.natAbs q k) k (by omega)
  rw [fixL_eq]
  split
  · have := parse_neg (a := []) (b := []) (by simp) (by simp) (fun c hc => ⟨(nb_no (hno c hc)).1, (nb_no (hno c hc)).2.1⟩)
    rw [decT_uns _ _ hT hk] at this
    simpa using this
  · have := parse_mid (a := []) (b := []) (by simp) (by simp) (fun c hc => ⟨(nb_no (hno c hc)).1, (nb_no (hno c hc)).2.1⟩)
    rw [decT_uns _ _ hT hk] at this
    simpa using this
/-- the error of rounding -/
theorem up_err (N q : Nat) (hq : 0 < q) : 2 * ((N : Int) - (N / q + up (N / q) (N % q) q : Nat) * q) ≤ q ∧ -(q : Int) ≤ 2 * ((N : Int) - (N / q + up (N / q) (N % q) q : Nat) * q) := by
  have h := Nat.div_add_mod N q
  have hr := Nat.mod_lt N hq
  generalize N / q = d at *
  generalize N % q = r at *
  have e : ((d + up d r q : Nat) : Int) * q = (q * d : Nat) + up d r q * q := by push_cast; rw [Int.add_mul, Int.mul_comm (d : Int)]
  rw [e, ← h]
  rcases up_01 d r q with hu | hu
  · rw [hu]
    have : 2 * r ≤ q := by
      unfold up at hu; split at hu
      · omega
      · omega
    push_cast
    generalize (q : Int) * d = x
    omega
  · rw [hu]
    have : q ≤ 2 * r := by
      unfold up at hu; split at hu
      · omega
      · omega
    push_cast
    generalize (q : Int) * d = x
    omega
theorem num_rat {X Y : Int} (hY : Y ≠ 0) : (rat X Y).num * Y = X * (rat X Y).den := by
  have h := Rat.num_divInt_den (rat X Y)
  unfold rat at h ⊢
  rw [Rat.divInt_eq_divInt_iff (by have := (Rat.divInt X Y).den_pos; omega) hY] at h
  exact h
/-- 2 · |d| · 10^k ≤ 1 for d = X / (q · 10^k) and 2 · |X| ≤ q -/
theorem half_le {X q s : Int} (hq : 0 < q) (hs : 0 < s) (h1 : 2 * X ≤ q) (h2 : -q ≤ 2 * X) :
    2 * (rat X (q * s)).num * s ≤ (rat X (q * s)).den ∧ 2 * (-(rat X (q * s)).num) * s ≤ (rat X (q * s)).den := by
  have hY : q * s ≠ 0 := mul_ne (by omega) (by omega)
  have h := num_rat (X := X) hY
  have hd : 0 < ((rat X (q * s)).den : Int) := by have := (rat X (q * s)).den_pos; omega
  generalize (rat X (q * s)).num = n at *
  generalize ((rat X (q * s)).den : Int) = d at *
  constructor
  · apply Int.le_of_mul_le_mul_right (a := q) _ hq
    have e : 2 * n * s * q = (2 * X) * d := by
      rw [Int.mul_assoc, Int.mul_assoc, Int.mul_comm s q, h, Int.mul_assoc]
    rw [e, Int.mul_comm d q]
    exact Int.mul_le_mul_of_nonneg_right h1 (by omega)
  · apply Int.le_of_mul_le_mul_right (a := q) _ hq
    have e : 2 * (-n) * s * q = (-(2 * X)) * d := by
      rw [Int.mul_assoc, Int.mul_assoc, Int.mul_comm s q, Int.neg_mul, h, Int.neg_mul, Int.mul_neg, Int.mul_assoc]
    rw [e, Int.mul_comm d q]
    exact Int.mul_le_mul_of_nonneg_right (by omega) (by omega)
/-- P2.4, without the reference -/
theorem rounds {p q : Int} (h : vld p q = true) {k : Nat} (hk : k ≤ 9) (b : R3) (hb : b = parseR (fixL p q.toNat k)) (hE : b.E = 0) (d : R3) (hd : d = subR p q b.P b.Q) (hdE : d.E = 0) :
    2 * d.P * 10 ^ k ≤ d.Q ∧ 2 * (-d.P) * 10 ^ k ≤ d.Q ∧ -2147483647 ≤ d.P ∧ d.P ≤ 2147483647 := by
  obtain ⟨h1, h2, h3, h4, hg⟩ := vld_iff.1 h
  have hp10 := pow_le hk
  have hp0 : 0 < 10 ^ k := Nat.pow_pos (by omega)
  have hN : p.natAbs * 10 ^ k ≤ 2147483647 * 1000000000 := Nat.mul_le_mul (by omega) hp10
  have hT : fixT p.natAbs q.toNat k ≤ 4611686018427387904 := by
    unfold fixT
    have := up_01 (fixN p.natAbs q.toNat k) (fixR p.natAbs q.toNat k) q.toNat
    have : fixN p.natAbs q.toNat k ≤ p.natAbs * 10 ^ k := Nat.div_le_self _ _
    omega
  have hqn : 0 < q.toNat := by omega
  have hue : 2 * (((p.natAbs * 10 ^ k : Nat) : Int) - (fixT p.natAbs q.toNat k : Nat) * q) ≤ q ∧ -q ≤ 2 * (((p.natAbs * 10 ^ k : Nat) : Int) - (fixT p.natAbs q.toNat k : Nat) * q) := by
    have := up_err (p.natAbs * 10 ^ k) q.toNat hqn
    rw [show ((q.toNat : Nat) : Int) = q by omega] at this
    exact this
  generalize hTT : fixT p.natAbs q.toNat k = T at *
  have hpf := parse_fix p q.toNat k (by rw [hTT]; exact hT) hk
  rw [hTT] at hpf
  have hs : ((10 : Int) ^ k) = ((10 ^ k : Nat) : Int) := by push_cast; rfl
  generalize hS : 10 ^ k = S at *
  -- the number read
  have key : ∃ t : Int, (t = T ∨ t = -T) ∧ vld b.P b.Q = true ∧ rat b.P b.Q = rat t S ∧ 2 * (p * S - t * q) ≤ q ∧ -q ≤ 2 * (p * S - t * q) := by
    rw [← hb, hs] at hpf
    have hm : makeR (T : Int) (S : Int) = out (rat T S) := by
      unfold makeR; rw [if_neg (by omega), if_pos (by omega)]
    rw [hm] at hpf
    have ho : (out (rat (T : Int) S)).E = 0 → fit (rat T S) = true := fun he => fit_of_oE he
    push_cast at hue
    by_cases hc : p < 0 ∧ T ≠ 0
    · rw [if_pos hc] at hpf
      have hf : fit (rat T S) = true := by
        apply ho
        rw [hpf] at hE
        unfold negM at hE
        split at hE
        · assumption
        · exact hE
      have hbe : b = ⟨-(oP (rat T S)), oQ (rat T S), 0⟩ := by
        rw [hpf]; unfold negM; rw [if_pos (show (out (rat (T : Int) S)).E = 0 from oE_fit hf)]; rfl
      refine ⟨-T, .inr rfl, ?_, ?_, ?_⟩
      · rw [hbe]; exact vld_neg2 (vld_o hf)
      · rw [hbe]; show rat (-(oP (rat T S))) (oQ (rat T S)) = _
        rw [← rat_neg, rat_o hf, rat_neg]
      · have e : p * S - -(T : Int) * q = -(((p.natAbs : Int) * S) - T * q) := by
          rw [show (p.natAbs : Int) = -p by omega, Int.neg_mul, Int.neg_mul]; omega
        rw [e]
        generalize ((p.natAbs : Int) * S) - T * q = y at *
        omega
    · rw [if_neg hc] at hpf
      have hf : fit (rat T S) = true := by apply ho; rw [← hpf]; exact hE
      refine ⟨T, .inl rfl, ?_, ?_, ?_⟩
      · rw [hpf]; exact vld_o hf
      · rw [hpf]; exact rat_o hf
      · by_cases hp : p < 0
        · have h0 : T = 0 := by
            apply Decidable.byContradiction; intro h0; exact hc ⟨hp, h0⟩
          rw [h0] at hue ⊢
          have : (p.natAbs : Int) * S = -(p * S) := by rw [show (p.natAbs : Int) = -p by omega, Int.neg_mul]
          rw [this] at hue
          simp at hue ⊢
          omega
        · rw [show (p.natAbs : Int) = p by omega] at hue; exact hue
  obtain ⟨t, _, hv, hr, he1, he2⟩ := key
  obtain ⟨g1, g2, g3, g4, g5⟩ := vld_iff.1 hv
  have hsub : d = out (rat (p * S - t * q) (q * S)) := by
    rw [hd, subR_yes h hv, ← rat_sub (by omega) (by omega), hr, rat_sub (by omega) (by omega)]
  have hf2 : fit (rat (p * S - t * q) (q * S)) = true := by apply fit_of_oE; rw [hsub] at hdE; exact hdE
  have hh := half_le (X := p * S - t * q) (q := q) (s := S) (by omega) (by omega) he1 he2
  have hfi := fit_iff.1 hf2
  rw [hsub, hs]
  show 2 * oP _ * _ ≤ oQ _ ∧ 2 * (-oP _) * _ ≤ oQ _ ∧ -2147483647 ≤ oP _ ∧ oP _ ≤ 2147483647
  rw [oP_fit hf2, oQ_fit hf2]
  exact ⟨hh.1, hh.2, hfi.1, hfi.2.1⟩
end Go.Proofs.YtibggoikjlnnkaaDoor.M2
