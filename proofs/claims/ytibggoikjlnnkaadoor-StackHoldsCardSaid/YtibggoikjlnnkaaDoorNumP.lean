/- Plain mathematics of the texts of numbers, fourth part: decimals, and what the laws say. -/
import Derived.Test.YtibggoikjlnnkaaDoorNumO
import Derived.Test.YtibggoikjlnnkaaDoorMathB
namespace Go.Proofs.YtibggoikjlnnkaaDoor.M2
open M1

def fixN (a q k : Nat) : Nat := a * 10 ^ k / q
def fixR (a q k : Nat) : Nat := a * 10 ^ k % q
def up (n r q : Nat) : Nat := if q < 2 * r ∨ (2 * r = q ∧ n % 2 = 1) then 1 else 0
def fixT (a q k : Nat) : Nat := fixN a q k + up (fixN a q k) (fixR a q k) q
def fixL (p : Int) (q k : Nat) : List UInt8 :=
  (if p < 0 ∧ fixT p.natAbs q k ≠ 0 then [45] else []) ++ (Lib.decDigits (fixT p.natAbs q k / 10 ^ k) ++ (if k = 0 then [] else 46 :: pad k (fixT p.natAbs q k % 10 ^ k)))
theorem up_01 (n r q : Nat) : up n r q = 0 ∨ up n r q = 1 := by unfold up; split <;> simp
theorem div_step (x q : Nat) (hq : 0 < q) : x * 10 / q = x / q * 10 + x % q * 10 / q ∧ x * 10 % q = x % q * 10 % q := by
  have e : x * 10 = q * (x / q * 10) + x % q * 10 := by
    have := Nat.div_add_mod x q
    conv => lhs; rw [← this, Nat.add_mul, Nat.mul_assoc]
  rw [e, Nat.mul_add_div hq, Nat.mul_add_mod]
  exact ⟨rfl, rfl⟩
/-- digits of the fraction, step by step -/
theorem fixN_succ (a q i : Nat) (hq : 0 < q) : fixN a q (i + 1) = fixN a q i * 10 + fixR a q i * 10 / q ∧ fixR a q (i + 1) = fixR a q i * 10 % q := by
  unfold fixN fixR
  rw [Nat.pow_succ, ← Nat.mul_assoc]
  exact div_step _ _ hq
theorem fix_split (a q k : Nat) (hq : 0 < q) : fixN a q k = a / q * 10 ^ k + fixN (a % q) q k ∧ fixR a q k = fixR (a % q) q k := by
  unfold fixN fixR
  have e : a * 10 ^ k = q * (a / q * 10 ^ k) + a % q * 10 ^ k := by
    have := Nat.div_add_mod a q
    conv => lhs; rw [← this, Nat.add_mul, Nat.mul_assoc]
  rw [e, Nat.mul_add_div hq, Nat.mul_add_mod]
  exact ⟨rfl, rfl⟩
theorem fixR_lt (a q k : Nat) (hq : 0 < q) : fixR a q k < q := Nat.mod_lt _ hq
theorem fixN_lt (r q k : Nat) (hr : r < q) : fixN r q k < 10 ^ k := by
  unfold fixN
  rw [Nat.div_lt_iff_lt_mul (by omega), Nat.mul_comm]
  exact Nat.mul_lt_mul_of_pos_left hr (Nat.pow_pos (by omega))
theorem even_pow (x k : Nat) (hk : 0 < k) : (x * 10 ^ k) % 2 = 0 := by
  obtain ⟨j, rfl⟩ : ∃ j, k = j + 1 := ⟨k - 1, by omega⟩
  rw [Nat.pow_succ, ← Nat.mul_assoc]
  omega
/-- The parity of all digits is that of those behind the point, or of the whole. -/
theorem up_part (a q k : Nat) (hq : 0 < q) (hk : 0 < k) : up (fixN a q k) (fixR a q k) q = up (fixN (a % q) q k) (fixR (a % q) q k) q := by
  obtain ⟨h1, h2⟩ := fix_split a q k hq
  have h3 := even_pow (a / q) k hk
  rw [h2]
  unfold up
  rw [show fixN a q k % 2 = fixN (a % q) q k % 2 by omega]
theorem fixN_zero (r q : Nat) (hr : r < q) : fixN r q 0 = 0 ∧ fixR r q 0 = r := by
  unfold fixN fixR; rw [Nat.pow_zero, Nat.mul_one]; exact ⟨Nat.div_eq_of_lt hr, Nat.mod_eq_of_lt hr⟩
theorem up_whole (a q : Nat) : up (fixN a q 0) (fixR a q 0) q = up (a / q) (a % q) q := by
  unfold fixN fixR; simp
theorem fix_div (a q k : Nat) (hq : 0 < q) (c : Nat) : (fixN a q k + c) / 10 ^ k = a / q + (fixN (a % q) q k + c) / 10 ^ k ∧ (fixN a q k + c) % 10 ^ k = (fixN (a % q) q k + c) % 10 ^ k := by
  have hp : 0 < 10 ^ k := Nat.pow_pos (by omega)
  rw [(fix_split a q k hq).1, Nat.add_assoc, Nat.mul_comm (a / q), Nat.mul_add_div hp, Nat.mul_add_mod]
  exact ⟨rfl, rfl⟩
theorem fixT_div (a q k : Nat) (hq : 0 < q) : fixT a q k / 10 ^ k = a / q + (fixN (a % q) q k + up (fixN a q k) (fixR a q k) q) / 10 ^ k ∧ fixT a q k % 10 ^ k = (fixN (a % q) q k + up (fixN a q k) (fixR a q k) q) % 10 ^ k :=
  fix_div a q k hq _
theorem fixT_zero (a q k : Nat) : fixT a q k = 0 ↔ fixT a q k / 10 ^ k = 0 ∧ fixT a q k % 10 ^ k = 0 := by
  have hp : 0 < 10 ^ k := Nat.pow_pos (by omega)
  have := Nat.div_add_mod (fixT a q k) (10 ^ k)
  constructor
  · intro h; rw [h]; simp
  · rintro ⟨h1, h2⟩; rw [h1, h2] at this; omega

/-- The text of a number. -/
def textR (p q : Int) : List UInt8 := if vld p q = true then if q = 1 then Lib.itoa p else Lib.itoa p ++ 47 :: Lib.itoa q else [110, 97, 110]

theorem makeR_vld {p q : Int} (h : vld p q = true) : makeR p q = ⟨p, q, 0⟩ := by
  obtain ⟨h1, h2, h3, h4, hg⟩ := vld_iff.1 h
  unfold makeR; rw [if_neg (by omega), if_pos (by omega)]
  unfold out; rw [oP_rat h, oQ_rat h, oE_fit (rat_fit h)]
theorem vld_one {n : Int} (h1 : -2147483647 ≤ n) (h2 : n ≤ 2147483647) : vld n 1 = true := vld_iff.2 ⟨by omega, by omega, h1, h2, by simp⟩

/-- digits are no blanks, no signs, no letters -/
theorem isd_ten {c : UInt8} (h : isd 10 c = true) : 48 ≤ c.toNat ∧ c.toNat ≤ 57 := by
  obtain ⟨h1, h2⟩ := isd_yes.1 h
  unfold dgB dg at h1 h2
  repeat' split at h1
  all_goals (repeat' split at h2)
  all_goals omega
theorem isd_sixteen {c : UInt8} (h : isd 16 c = true) : (48 ≤ c.toNat ∧ c.toNat ≤ 57) ∨ (97 ≤ c.toNat ∧ c.toNat ≤ 102) ∨ (65 ≤ c.toNat ∧ c.toNat ≤ 70) := by
  obtain ⟨h1, h2⟩ := isd_yes.1 h
  unfold dgB dg at h1 h2
  repeat' split at h1
  all_goals (repeat' split at h2)
  all_goals omega
/-- a byte of a numeral -/
def nb (c : UInt8) : Prop := isd 16 c = true ∨ c = 120 ∨ c = 88 ∨ c = 46
theorem ten_16 {c : UInt8} (h : isd 10 c = true) : isd 16 c = true := by
  obtain ⟨h1, h2⟩ := isd_yes.1 h
  exact isd_yes.2 ⟨h1, by omega⟩
theorem nb_no {c : UInt8} (h : nb c) : blk c = false ∧ c ≠ 45 ∧ c ≠ 47 := by
  have hb : blk c = false ↔ ¬ (c = 32 ∨ c = 9 ∨ c = 10 ∨ c = 13) := by rw [← blk_iff]; simp
  rw [hb]
  rcases h with h | rfl | rfl | rfl
  · have := isd_sixteen h
    refine ⟨?_, ?_, ?_⟩
    · rintro (rfl | rfl | rfl | rfl) <;> simp at this
    · rintro rfl; simp at this
    · rintro rfl; simp at this
  · decide
  · decide
  · decide
theorem meas_ten {l : List UInt8} (h : alld 10 l) : meas l = ⟨10, l, [], l.length⟩ := by
  have hc := cnt_all.2 h
  have h1 : hexp l = false := by
    unfold hexp; rw [decide_eq_false_iff_not]; rintro ⟨_, hx, _⟩
    have : ∀ c, l[1]? = some c → isd 10 c = true := fun c hc => h c (List.mem_of_getElem? hc)
    rcases hx with hx | hx
    · have := isd_ten (this _ hx); simp at this
    · have := isd_ten (this _ hx); simp at this
  have h2 : frac l = false := by
    unfold frac; rw [decide_eq_false_iff_not]; rintro ⟨_, hx, _⟩
    rw [hc, List.getElem?_eq_none (Nat.le_refl _)] at hx; cases hx
  unfold meas; rw [if_neg (by simp [h1]), if_neg (by simp [h2]), hc, List.take_length]
theorem cut_ten {l : List UInt8} (h : ∀ c ∈ l, c ≠ 47) : Lib.cut l [47] = (l, [], false) :=
  cut_no fun _ hj => h _ (List.mem_of_getElem? hj) rfl
theorem cut_app {l m : List UInt8} (h : ∀ c ∈ l, c ≠ 47) : Lib.cut (l ++ 47 :: m) [47] = (l, m, true) := by
  rw [cut_yes (k := l.length) (by simp) (by simp) ?_]
  · simp [List.drop_append]
  · intro j hj hh
    rw [List.getElem?_append_left hj] at hh
    exact h _ (List.mem_of_getElem? hh) rfl
theorem trm_mid {a t b : List UInt8} (ha : ∀ c ∈ a, blk c = true) (hb : ∀ c ∈ b, blk c = true) (ht : ∀ c ∈ t, blk c = false) : trm (a ++ t ++ b) = t := by
  have h := trm_of (a ++ t ++ b) a.length (a.length + t.length) (by omega) (by simp only [List.length_append]; omega) ?_ ?_ ?_ ?_
  · rw [h]; simp
  · intro j c hj hc
    rw [List.append_assoc, List.getElem?_append_left hj] at hc
    exact ha c (List.mem_of_getElem? hc)
  · intro hl c hc
    rw [List.append_assoc, List.getElem?_append_right (by omega), List.getElem?_append_left (by omega)] at hc
    exact ht c (List.mem_of_getElem? hc)
  · intro j c hj hc
    rw [List.getElem?_append_right (by simp; omega)] at hc
    exact hb c (List.mem_of_getElem? hc)
  · intro hl c hc
    rw [List.append_assoc, List.getElem?_append_right (by omega), List.getElem?_append_left (by omega)] at hc
    exact ht c (List.mem_of_getElem? hc)
theorem trm_all {t : List UInt8} (ht : ∀ c ∈ t, blk c = false) : trm t = t := by
  have := trm_mid (a := []) (b := []) (t := t) (by simp) (by simp) ht
  simpa using this

theorem dec_alld (n : Nat) (h : n < 18446744073709551616) : alld 10 (Lib.decDigits n) := by rw [← bd_ten n h]; exact bd_alld (b := 10) n (by omega) (by omega) h
theorem dec_vl (n : Nat) (h : n < 18446744073709551616) : vl 10 0 (Lib.decDigits n) = n := by rw [← bd_ten n h]; exact bd_vl (b := 10) n (by omega) (by omega) h
theorem dec_pos (n : Nat) (h : n < 18446744073709551616) : 0 < (Lib.decDigits n).length := by rw [← bd_ten n h]; exact (bd_len (by omega) h).1
theorem dec_jn (n : Nat) (h : n ≤ 4611686018427387904) : jn 10 0 (Lib.decDigits n) = some (n : Int) := by
  rw [jn_vl (by omega) (by omega) (by omega) (dec_alld n (by omega)), dec_vl n (by omega), if_pos (by omega)]
theorem ten_no {l : List UInt8} (h : alld 10 l) : ∀ c ∈ l, blk c = false ∧ c ≠ 45 ∧ c ≠ 47 := fun c hc => nb_no (.inl (ten_16 (h c hc)))

/-- The text of a number that is not negative. -/
def posT (p q : Int) : List UInt8 := if q = 1 then Lib.decDigits p.natAbs else Lib.decDigits p.natAbs ++ 47 :: Lib.decDigits q.natAbs
theorem textR_eq {p q : Int} (h : vld p q = true) : textR p q = (if p < 0 then [45] else []) ++ posT p q := by
  obtain ⟨h1, h2, h3, h4, hg⟩ := vld_iff.1 h
  have e1 : Lib.itoa p = (if p < 0 then [45] else []) ++ Lib.decDigits p.natAbs := by
    unfold Lib.itoa; split
    · rfl
    · rw [show p.toNat = p.natAbs by omega]; rfl
  have e2 : Lib.itoa q = Lib.decDigits q.natAbs := by
    unfold Lib.itoa; rw [if_neg (by omega), show q.toNat = q.natAbs by omega]
  unfold textR posT; rw [if_pos h, e1, e2]
  split <;> simp
theorem posT_uns {p q : Int} (h : vld p q = true) (hp : 0 ≤ p) : unsR (posT p q) = ⟨p, q, 0⟩ := by
  obtain ⟨h1, h2, h3, h4, hg⟩ := vld_iff.1 h
  have hd := dec_alld p.natAbs (by omega)
  have hd2 := dec_alld q.natAbs (by omega)
  have hn := dec_pos p.natAbs (by omega)
  have hn2 := dec_pos q.natAbs (by omega)
  unfold posT
  split
  · rename_i hq
    unfold unsR
    rw [cut_ten (fun c hc => (ten_no hd c hc).2.2)]
    show soleR _ = _
    unfold soleR
    rw [meas_ten hd, if_neg (by simp; intro he; rw [he] at hn; simp at hn)]
    unfold numR
    simp only [List.append_nil, List.length_nil]
    rw [if_neg (by omega), dec_jn _ (by omega)]
    show makeR (p.natAbs : Int) (10 ^ 0) = _
    rw [show (p.natAbs : Int) = p by omega, show ((10 : Int) ^ 0) = q by rw [hq]; rfl]
    exact makeR_vld h
  · unfold unsR
    rw [cut_app (fun c hc => (ten_no hd c hc).2.2), if_pos rfl]
    unfold fracR
    rw [if_pos ⟨okd_iff.2 ⟨hn, hd⟩, okd_iff.2 ⟨hn2, hd2⟩⟩, dec_jn _ (by omega), dec_jn _ (by omega)]
    unfold fracV
    simp only
    rw [if_neg (by omega), show (p.natAbs : Int) = p by omega, show (q.natAbs : Int) = q by omega]
    exact makeR_vld h
theorem posT_no (p q : Int) (hp : p.natAbs < 18446744073709551616) (hq : q.natAbs < 18446744073709551616) : ∀ c ∈ posT p q, blk c = false ∧ c ≠ 45 := by
  have hd := dec_alld p.natAbs hp
  have hd2 := dec_alld q.natAbs hq
  intro c hc
  unfold posT at hc
  split at hc
  · exact ⟨(ten_no hd c hc).1, (ten_no hd c hc).2.1⟩
  · rcases List.mem_append.1 hc with hc | hc
    · exact ⟨(ten_no hd c hc).1, (ten_no hd c hc).2.1⟩
    · rcases List.mem_cons.1 hc with rfl | hc
      · decide
      · exact ⟨(ten_no hd2 c hc).1, (ten_no hd2 c hc).2.1⟩
theorem pre_no {l : List UInt8} (h : ∀ c ∈ l, c ≠ 45) : Lib.hasPrefix l [45] = false := by
  cases l with
  | nil => rfl
  | cons c cs =>
    unfold Lib.hasPrefix
    simp only [List.isPrefixOf, Bool.and_true, beq_eq_false_iff_ne]
    intro hh
    exact h c (List.mem_cons_self ..) hh.symm
theorem parse_mid {a t b : List UInt8} (ha : ∀ c ∈ a, blk c = true) (hb : ∀ c ∈ b, blk c = true) (ht : ∀ c ∈ t, blk c = false ∧ c ≠ 45) : parseR (a ++ t ++ b) = unsR t := by
  unfold parseR
  rw [trm_mid ha hb (fun c hc => (ht c hc).1), if_neg (by rw [pre_no (fun c hc => (ht c hc).2)]; simp)]
theorem parse_neg {a t b : List UInt8} (ha : ∀ c ∈ a, blk c = true) (hb : ∀ c ∈ b, blk c = true) (ht : ∀ c ∈ t, blk c = false ∧ c ≠ 45) : parseR (a ++ (45 :: t) ++ b) = negM (unsR t) := by
  unfold parseR
  rw [trm_mid ha hb (t := 45 :: t), if_pos (by simp [Lib.hasPrefix, List.isPrefixOf])]
  · simp
  · intro c hc
    rcases List.mem_cons.1 hc with rfl | hc
    · decide
    · exact (ht c hc).1
theorem negP_uns {p q : Int} (h : vld p q = true) (hp : p < 0) : negM (unsR (posT p q)) = ⟨p, q, 0⟩ := by
  have e : posT p q = posT (-p) q := by unfold posT; rw [Int.natAbs_neg]
  rw [e, posT_uns (vld_neg2 h) (by omega)]
  unfold negM; simp
/-- P2.6 -/
theorem returns1 {p q : Int} (h : vld p q = true) : parseR ([9] ++ textR p q ++ [32, 10]) = ⟨p, q, 0⟩ := by
  obtain ⟨h1, h2, h3, h4, hg⟩ := vld_iff.1 h
  have hn := posT_no p q (by omega) (by omega)
  have a1 : ∀ c ∈ [(9 : UInt8)], blk c = true := by decide
  have a2 : ∀ c ∈ [(32 : UInt8), 10], blk c = true := by decide
  rw [textR_eq h]
  by_cases hp : p < 0
  · rw [if_pos hp]
    have := parse_neg a1 a2 hn
    rw [negP_uns h hp] at this
    exact this
  · rw [if_neg hp, List.nil_append, parse_mid a1 a2 hn]
    exact posT_uns h (by omega)
theorem returns2 {p q : Int} (h : vld p q = true) (hp : 0 ≤ p) : parseR ([45] ++ textR p q) = ⟨-p, q, 0⟩ := by
  obtain ⟨h1, h2, h3, h4, hg⟩ := vld_iff.1 h
  have hn := posT_no p q (by omega) (by omega)
  rw [textR_eq h, if_neg (by omega)]
  have := parse_neg (a := []) (b := []) (by simp) (by simp) hn
  rw [posT_uns h hp] at this
  simpa [negM] using this
/-- P2.8 -/
theorem fix_whole (n : Int) : fixL n 1 0 = Lib.itoa n := by
  have e : fixT n.natAbs 1 0 = n.natAbs := by unfold fixT up fixN fixR; simp; omega
  unfold fixL; rw [e]; unfold Lib.itoa
  by_cases h : n < 0
  · rw [if_pos ⟨h, by omega⟩, if_pos h]; simp
  · rw [if_neg (by omega), if_neg h, show n.toNat = n.natAbs by omega]; simp
theorem text_whole {n : Int} (h1 : -2147483647 ≤ n) (h2 : n ≤ 2147483647) : textR n 1 = Lib.itoa n := by
  unfold textR; rw [if_pos (vld_one h1 h2), if_pos rfl]
theorem parse_hex {n : Nat} (h : n ≤ 2147483647) : parseR ([48, 120] ++ bd 16 n) = ⟨n, 1, 0⟩ := by
  have hd : alld 16 (bd 16 n) := bd_alld (b := 16) n (by omega) (by omega) (by omega)
  have hl := (bd_len (b := 16) (u := n) (by omega) (by omega)).1
  have hc := cnt_all.2 hd
  have hd' : alld ((16 : Nat) : Int) (bd 16 n) := hd
  have hno : ∀ c ∈ [48, 120] ++ bd 16 n, blk c = false ∧ c ≠ 45 ∧ c ≠ 47 := by
    intro c hc
    rcases List.mem_append.1 hc with hc | hc
    · rcases List.mem_cons.1 hc with rfl | hc
      · decide
      · rw [List.mem_singleton.1 hc]; decide
    · exact nb_no (.inl (hd c hc))
  have e := parse_mid (a := []) (b := []) (t := [48, 120] ++ bd 16 n) (by simp) (by simp) (fun c hc => ⟨(hno c hc).1, (hno c hc).2.1⟩)
  simp only [List.nil_append, List.append_nil] at e
  rw [e]
  unfold unsR
  rw [cut_ten (fun c hc => (hno c hc).2.2)]
  show soleR _ = _
  have hm : meas ([48, 120] ++ bd 16 n) = ⟨16, bd 16 n, [], 2 + (bd 16 n).length⟩ := by
    unfold meas
    have hx : hexp ([48, 120] ++ bd 16 n) = true := by
      unfold hexp; rw [decide_eq_true_iff]
      refine ⟨rfl, .inl rfl, ?_⟩
      show 0 < cnt 16 (bd 16 n)
      have : cnt 16 (bd 16 n) = (bd 16 n).length := hc
      omega
    rw [if_pos hx]
    show Ms.mk 16 ((bd 16 n).take (cnt 16 (bd 16 n))) [] (2 + cnt 16 (bd 16 n)) = _
    have : cnt 16 (bd 16 n) = (bd 16 n).length := hc
    rw [this, List.take_length]
  unfold soleR
  rw [hm, if_neg (by simp; omega)]
  unfold numR
  simp only [List.append_nil, List.length_nil]
  have hv := bd_vl (b := 16) n (by omega) (by omega) (by omega)
  have hj : jn 16 0 (bd 16 n) = some (n : Int) := by
    rw [jn_vl (by omega) (by omega) (by omega) hd]
    have : vl 16 0 (bd 16 n) = n := hv
    rw [this, if_pos (by omega)]
  rw [if_neg (by omega), hj]
  exact makeR_vld (vld_one (by omega) (by omega))
/-- P2.7 -/
theorem meas_nb (l : List UInt8) : ∀ c ∈ l.take (meas l).fin, nb c := by
  intro c hc
  unfold meas at hc
  split at hc
  · rename_i hx
    simp only [hexp, decide_eq_true_iff] at hx
    obtain ⟨h0, h1, h2⟩ := hx
    match l, h0, h1, h2, hc with
    | a :: b :: t, h0, h1, h2, hc =>
      simp only [List.getElem?_cons_zero, List.getElem?_cons_succ, Option.some.injEq, List.drop_succ_cons, List.drop_zero] at h0 h1 h2 hc
      rw [show 2 + cnt 16 t = cnt 16 t + 1 + 1 by omega, List.take_succ_cons, List.take_succ_cons] at hc
      rcases List.mem_cons.1 hc with rfl | hc
      · subst h0; exact .inl (by decide)
      · rcases List.mem_cons.1 hc with rfl | hc
        · rcases h1 with rfl | rfl
          · exact .inr (.inl rfl)
          · exact .inr (.inr (.inl rfl))
        · exact .inl (cnt_take 16 t c hc)
  · split at hc
    · rename_i hf
      simp only [frac, decide_eq_true_iff] at hf
      obtain ⟨h0, h1, h2⟩ := hf
      have hk : cnt 10 l < l.length := by
        rcases Nat.lt_or_ge (cnt 10 l) l.length with h | h
        · exact h
        · rw [List.getElem?_eq_none h] at h1; cases h1
      have e : l.take (cnt 10 l + 1 + cnt 10 (l.drop (cnt 10 l + 1))) = l.take (cnt 10 l) ++ 46 :: (l.drop (cnt 10 l + 1)).take (cnt 10 (l.drop (cnt 10 l + 1))) := by
        rw [List.getElem?_eq_getElem hk] at h1
        rw [List.take_add, List.take_succ_eq_append_getElem hk, Option.some.inj h1]; simp
      simp only at hc
      rw [e] at hc
      rcases List.mem_append.1 hc with hc | hc
      · exact .inl (ten_16 (cnt_take 10 l c hc))
      · rcases List.mem_cons.1 hc with rfl | hc
        · exact .inr (.inr (.inr rfl))
        · exact .inl (ten_16 (cnt_take 10 _ c hc))
    · exact .inl (ten_16 (cnt_take 10 l c hc))
theorem agrees {l : List UInt8} (h0 : (meas l).fin ≠ 0) (h : (meas l).fin = l.length) : parseR l = numR (meas l) := by
  have hn : ∀ c ∈ l, nb c := by
    have := meas_nb l
    rw [h, List.take_length] at this; exact this
  have e := parse_mid (a := []) (b := []) (t := l) (by simp) (by simp) (fun c hc => ⟨(nb_no (hn c hc)).1, (nb_no (hn c hc)).2.1⟩)
  simp only [List.nil_append, List.append_nil] at e
  rw [e]
  unfold unsR
  rw [cut_ten (fun c hc => (nb_no (hn c hc)).2.2)]
  show soleR _ = _
  unfold soleR; rw [if_neg]
  rintro (hh | hh)
  · exact h0 hh
  · exact hh h
end Go.Proofs.YtibggoikjlnnkaaDoor.M2
