/- Mathematics of layer 3: tokens at the beginning of a text, their places, two texts, joined tokens. -/
import Derived.Test.YtbcbddglgfakpaaDoorLexUc
namespace Go.Proofs.YtbcbddglgfakpaaDoor
open Go.RowKit Go.Joins M1 M2 M3
set_option linter.unusedVariables false
/-- The token at the beginning of a text. -/
def tkD (d : List UInt8) : TR := tkR d 0
theorem ne40 : (4 : Int) ≠ 0 := by decide
theorem ne30 : (3 : Int) ≠ 0 := by decide
theorem litF_shift (q : UInt8) (m : Nat) (f : Nat) : ∀ (l acc : List UInt8) (k : Nat), (litF q f l acc (k + m)).1 = (litF q f l acc k).1 ∧ (litF q f l acc (k + m)).2.2 = (litF q f l acc k).2.2 ∧ ((litF q f l acc k).2.2 = 0 → (litF q f l acc (k + m)).2.1 = (litF q f l acc k).2.1 + m) := by
  induction f with
  | zero => intro l acc k; exact ⟨rfl, rfl, fun h => absurd h ne40⟩
  | succ f ih =>
    intro l acc k
    match l with
    | [] => exact ⟨rfl, rfl, fun h => absurd h ne40⟩
    | c :: t =>
      rw [litF_step, litF_step]
      by_cases h1 : c = 10
      · rw [if_pos h1, if_pos h1]; exact ⟨rfl, rfl, fun h => absurd h ne40⟩
      rw [if_neg h1, if_neg h1]
      by_cases h2 : c = q
      · rw [if_pos h2, if_pos h2]; exact ⟨rfl, rfl, fun _ => by show k + m + 1 = k + 1 + m; omega⟩
      rw [if_neg h2, if_neg h2]
      by_cases h3 : c = 92
      · rw [if_pos h3, if_pos h3]
        by_cases h4 : (escR t).2.2 ≠ 0
        · rw [if_pos h4, if_pos h4]; exact ⟨rfl, rfl, fun h => absurd h h4⟩
        rw [if_neg h4, if_neg h4]
        by_cases h5 : 4096 ≤ acc.length
        · rw [if_pos h5, if_pos h5]; exact ⟨rfl, rfl, fun h => absurd h ne30⟩
        rw [if_neg h5, if_neg h5, show k + m + 1 + (escR t).2.1 = k + 1 + (escR t).2.1 + m by omega]
        exact ih _ _ _
      rw [if_neg h3, if_neg h3]
      by_cases h5 : 4096 ≤ acc.length
      · rw [if_pos h5, if_pos h5]; exact ⟨rfl, rfl, fun h => absurd h ne30⟩
      rw [if_neg h5, if_neg h5, show k + m + 1 = k + 1 + m by omega]
      exact ih _ _ _
theorem getD_drop0 {l : List UInt8} {a : Nat} : (l.drop a).getD 0 0 = l.getD a 0 := by
  rw [List.getD_eq_getElem?_getD, List.getD_eq_getElem?_getD, List.getElem?_drop, Nat.add_zero]
theorem scanR_form (l : List UInt8) (a : Nat) (ha : a ≤ l.length) : scanR l (a : Int) = (if (meas (l.drop a)).fin = 0 then ⟨0, 0, 0, 4⟩ else
    if (numR (meas (l.drop a))).E = 0 then ⟨(numR (meas (l.drop a))).P, (numR (meas (l.drop a))).Q, (a : Int) + (meas (l.drop a)).fin, 0⟩
    else ⟨0, 0, 0, (numR (meas (l.drop a))).E⟩) := by
  unfold scanR
  rw [if_neg (by omega), Int.toNat_natCast]
theorem numL_shift (l : List UInt8) (a : Nat) (ha : a ≤ l.length) : (numL l a).1 = (numL (l.drop a) 0).1 ∧ (numL l a).2.1 = (numL (l.drop a) 0).2.1 ∧ ((numL l a).2.1 = 0 → (numL l a).2.2 = a + (numL (l.drop a) 0).2.2) := by
  unfold numL
  rw [scanR_form l a ha, scanR_form (l.drop a) 0 (Nat.zero_le _), List.drop_zero]
  generalize meas (l.drop a) = m
  by_cases h0 : m.fin = 0
  · simp only [if_pos h0]
    rw [if_pos ne40, if_pos ne40]
    exact ⟨rfl, rfl, fun h => absurd h ne40⟩
  simp only [if_neg h0]
  by_cases h1 : (numR m).E = 0
  · simp only [if_pos h1]
    have e1 : ((a : Int) + (m.fin : Int)).toNat = a + m.fin := by omega
    have e2 : (((0 : Nat) : Int) + (m.fin : Int)).toNat = m.fin := by omega
    simp only [ne_eq, not_true_eq_false, if_false, e1, e2, List.drop_drop]
    split
    · exact ⟨rfl, rfl, fun h => absurd h ne40⟩
    · refine ⟨?_, rfl, fun _ => rfl⟩
      show ((l.drop a).take (a + m.fin - a)) = ((l.drop a).take (m.fin - 0))
      rw [show a + m.fin - a = m.fin - 0 by omega]
  · simp only [if_neg h1]
    rw [if_pos h1, if_pos h1]
    exact ⟨rfl, rfl, fun h => absurd h h1⟩
theorem tkR_shift {l : List UInt8} {a : Nat} (ha : a < l.length) : (tkR l a).K = (tkD (l.drop a)).K ∧ (tkR l a).x = (tkD (l.drop a)).x ∧ (tkR l a).E = (tkD (l.drop a)).E ∧ ((tkR l a).E = 0 → (tkR l a).nx = a + (tkD (l.drop a)).nx) := by
  unfold tkD tkR
  rw [getD_drop0]
  generalize l.getD a 0 = c
  by_cases hq : c = 34 ∨ c = 39
  · rw [if_pos hq, if_pos hq]
    have e : litR (l.drop a) 0 c = litF c (l.length + 1) (l.drop (a + 1)) [] (0 + 1) := by
      unfold litR
      rw [List.drop_drop]
      exact litF_fuel c _ _ _ _ _ (by simp; omega) (by simp; omega)
    have s := litF_shift c a (l.length + 1) (l.drop (a + 1)) [] (0 + 1)
    rw [← e, show 0 + 1 + a = a + 1 by omega] at s
    refine ⟨rfl, s.1, s.2.1, fun h => ?_⟩
    have := s.2.2 (s.2.1.symm.trans h)
    show (litR l a c).2.1 = a + (litR (l.drop a) 0 c).2.1
    rw [Nat.add_comm]; exact this
  · rw [if_neg hq, if_neg hq]
    unfold tokP
    by_cases h1 : dgt c = true
    · rw [if_pos h1, if_pos h1]
      have s := numL_shift l a (by omega)
      exact ⟨rfl, s.1, s.2.1, s.2.2⟩
    rw [if_neg h1, if_neg h1]
    by_cases h2 : wrd c = true
    · rw [if_pos h2, if_pos h2]
      unfold namR
      rw [List.drop_zero]
      split
      · exact ⟨rfl, rfl, rfl, fun h => absurd h ne30⟩
      · exact ⟨rfl, rfl, rfl, fun _ => by simp⟩
    rw [if_neg h2, if_neg h2]
    unfold symR
    rw [List.drop_zero]
    exact ⟨rfl, rfl, rfl, fun _ => by simp⟩
theorem tkD_nx {d : List UInt8} (hd : d ≠ []) (h : (tkD d).E = 0) : 0 < (tkD d).nx ∧ (tkD d).nx ≤ d.length := tkR_progress (List.length_pos_iff.2 hd) h
/- A byte behind which no token goes on. -/
structure Sep (z : UInt8) : Prop where
  w : wrd z = false
  i : isd 16 z = false
  j : isd 10 z = false
  p : z ≠ 46
  x1 : z ≠ 120
  x2 : z ≠ 88
  x0 : z ≠ 48
  s : (symsL.all fun k => !k.contains z) = true
theorem sep10 : Sep 10 := ⟨by decide, by decide, by decide, by decide, by decide, by decide, by decide, by decide⟩
theorem sep32 : Sep 32 := ⟨by decide, by decide, by decide, by decide, by decide, by decide, by decide, by decide⟩
theorem cntP_sep {P : UInt8 → Bool} {z : UInt8} (hz : P z = false) (x r : List UInt8) : cntP P (x ++ z :: r) = cntP P x := by
  induction x with
  | nil => exact cntP_no hz
  | cons c t ih =>
    rw [List.cons_append]
    cases h : P c with
    | true => rw [cntP_yes h, cntP_yes h, ih]
    | false => rw [cntP_no h, cntP_no h]
theorem cnt_sep {b : Int} {z : UInt8} (hz : isd b z = false) (x r : List UInt8) : cnt b (x ++ z :: r) = cnt b x := by
  induction x with
  | nil => exact cnt_no hz
  | cons c t ih =>
    rw [List.cons_append]
    cases h : isd b c with
    | true => rw [cnt_yes h, cnt_yes h, ih]
    | false => rw [cnt_no h, cnt_no h]
theorem hexp_sep {z : UInt8} (hz : Sep z) (x r : List UInt8) : hexp (x ++ z :: r) = hexp x := by
  unfold hexp
  match x with
  | [] => 
    rw [decide_eq_false (fun h => hz.x0 (by simpa using h.1)), decide_eq_false (fun h => by simp at h)]
  | [a] =>
    rw [decide_eq_false (fun h => by rcases h.2.1 with h | h; exact hz.x1 (by simpa using h); exact hz.x2 (by simpa using h)), decide_eq_false (fun h => by rcases h.2.1 with h | h <;> simp at h)]
  | a :: b :: t =>
    have : cnt 16 ((a :: b :: t ++ z :: r).drop 2) = cnt 16 ((a :: b :: t).drop 2) := cnt_sep hz.i t r
    rw [this]
    rfl
theorem hexp_len {x : List UInt8} (h : hexp x = true) : 2 ≤ x.length := by
  obtain ⟨_, h, _⟩ := of_decide_eq_true h
  match x, h with
  | [], h => simp at h
  | [a], h => simp at h
  | a :: b :: t, _ => simp
theorem frac_sep {z : UInt8} (hz : Sep z) (x r : List UInt8) : frac (x ++ z :: r) = frac x := by
  unfold frac
  rw [cnt_sep hz.j]
  have hl := cnt_le 10 x
  generalize cnt 10 x = n at *
  by_cases hn : n < x.length
  · rw [List.getElem?_append_left hn, List.drop_append_of_le_length hn, cnt_sep hz.j]
  · have e : n = x.length := by omega
    rw [decide_eq_false (fun h => by rw [e, List.getElem?_append_right (Nat.le_refl _), Nat.sub_self] at h; exact hz.p (by simpa using h.2.1)), decide_eq_false (fun h => by rw [e, List.getElem?_eq_none (Nat.le_refl _)] at h; cases h.2.1)]
theorem frac_len {x : List UInt8} (h : frac x = true) : cnt 10 x + 1 ≤ x.length := by
  obtain ⟨_, h, _⟩ := of_decide_eq_true h
  by_cases hn : cnt 10 x < x.length
  · exact hn
  · rw [List.getElem?_eq_none (by omega)] at h; cases h
theorem meas_sep {z : UInt8} (hz : Sep z) (x r : List UInt8) : meas (x ++ z :: r) = meas x := by
  unfold meas
  rw [hexp_sep hz, frac_sep hz, cnt_sep hz.j]
  by_cases h1 : hexp x = true
  · rw [if_pos h1, if_pos h1, List.drop_append_of_le_length (hexp_len h1), cnt_sep hz.i, List.take_append_of_le_length (cnt_le _ _)]
  rw [if_neg h1, if_neg h1]
  by_cases h2 : frac x = true
  · rw [if_pos h2, if_pos h2, List.drop_append_of_le_length (frac_len h2), cnt_sep hz.j, List.take_append_of_le_length (cnt_le _ _), List.take_append_of_le_length (cnt_le _ _)]
  rw [if_neg h2, if_neg h2, List.take_append_of_le_length (cnt_le _ _)]
theorem numL_sep {z : UInt8} (hz : Sep z) (x r : List UInt8) : numL (x ++ z :: r) 0 = numL x 0 := by
  unfold numL
  rw [scanR_form _ 0 (Nat.zero_le _), scanR_form _ 0 (Nat.zero_le _), List.drop_zero, List.drop_zero, meas_sep hz]
  have hf := (meas_wf x).2.2.2
  generalize meas x = m at *
  by_cases h0 : m.fin = 0
  · simp only [if_pos h0]
    rw [if_pos ne40, if_pos ne40]
  simp only [if_neg h0]
  by_cases h1 : (numR m).E = 0
  · simp only [if_pos h1]
    have e2 : (((0 : Nat) : Int) + (m.fin : Int)).toNat = m.fin := by omega
    simp only [ne_eq, not_true_eq_false, if_false, e2]
    rw [List.drop_append_of_le_length hf, cntP_sep hz.w, List.take_append_of_le_length (by omega)]
  · simp only [if_neg h1]
    rw [if_pos h1, if_pos h1]
theorem sym_not {z : UInt8} (hz : Sep z) {l : List UInt8} (h : z ∈ l) : sym l = false := by
  cases hs : sym l with
  | false => rfl
  | true =>
    unfold sym at hs
    obtain ⟨k, hk, e⟩ := List.any_eq_true.1 hs
    have := List.all_eq_true.1 hz.s k hk
    rw [← eq_of_beq e] at this
    simp at this
    exact absurd h this
theorem symD_sep {z : UInt8} (hz : Sep z) (x r : List UInt8) (j : Nat) : symD (x ++ z :: r) j = symD x (min j x.length) := by
  induction j with
  | zero => simp [symD]
  | succ j ih =>
    by_cases hj : j + 1 ≤ x.length
    · rw [show min (j + 1) x.length = j + 1 by omega, symD, symD, List.take_append_of_le_length hj, ih, show min j x.length = j by omega]
    · rw [symD_no (sym_not hz (by
        rw [List.take_append, List.take_of_length_le (by omega)]
        obtain ⟨i, hi⟩ : ∃ i, j + 1 - x.length = i + 1 := ⟨j - x.length, by omega⟩
        rw [hi, List.take_succ_cons]; simp)), ih]
      congr 1; omega
theorem symN_sep {z : UInt8} (hz : Sep z) (x r : List UInt8) : symN (x ++ z :: r) = symN x := by
  unfold symN
  rw [symD_sep hz]
  congr 1; simp only [List.length_append, List.length_cons]; omega
theorem tokP_sep {z : UInt8} (hz : Sep z) (x r : List UInt8) (c : UInt8) : tokP (x ++ z :: r) 0 c = tokP x 0 c := by
  unfold tokP nuR namR symR symE
  simp only [List.drop_zero]
  rw [numL_sep hz, cntP_sep hz.w, symN_sep hz, List.take_append_of_le_length (cntP_le _ _), List.take_append_of_le_length (by
    unfold symN; have := symD_le x (min 3 x.length); omega)]
theorem hexR_sep (x r : List UInt8) : hexR (x ++ 10 :: r) = hexR x := by
  match x with
  | [] =>
    match r with
    | [] => rfl
    | e :: r => show pH 0 [10, e] = none; exact pH_none (by decide)
  | [b] =>
    show pH 0 [b, 10] = none
    cases h : hxv b with
    | none => exact pH_none h
    | some v => rw [pH_some h]; exact pH_none (by decide)
  | a :: b :: t =>
    unfold hexR
    rw [if_neg (by simp), if_neg (by simp)]
    rfl
theorem dn_sep (x r : List UInt8) : dn (x ++ 10 :: r) = dn x := by
  unfold dn
  rw [List.take_append]
  by_cases h : 3 ≤ x.length
  · rw [show 3 - x.length = 0 by omega, List.take_zero, List.append_nil]
  · obtain ⟨i, hi⟩ : ∃ i, 3 - x.length = i + 1 := ⟨2 - x.length, by omega⟩
    rw [hi, List.take_succ_cons, cntP_sep (by decide)]
theorem decV_sep (x r : List UInt8) : decV (x ++ 10 :: r) = decV x := by
  unfold decV
  rw [dn_sep, List.take_append_of_le_length (dn_le x)]
theorem escR_sep (x r : List UInt8) : (escR (x ++ 10 :: r)).2.2 = (escR x).2.2 ∧ ((escR x).2.2 = 0 → escR (x ++ 10 :: r) = escR x) := by
  match x with
  | [] => exact ⟨rfl, fun h => absurd h ne40⟩
  | c :: t =>
    have e : escR (c :: t ++ 10 :: r) = escR (c :: t) := by
      have h1 := dn_sep (c :: t) r
      have h2 := decV_sep (c :: t) r
      rw [List.cons_append] at h1 h2 ⊢
      unfold escR
      simp only []
      rw [h1, h2, hexR_sep]
    exact ⟨by rw [e], fun _ => e⟩
theorem litF_sep (q : UInt8) (r : List UInt8) (f : Nat) : ∀ (x acc : List UInt8) (k : Nat), litF q f (x ++ 10 :: r) acc k = litF q f x acc k := by
  induction f with
  | zero => intro x acc k; rfl
  | succ f ih =>
    intro x acc k
    match x with
    | [] => rw [List.nil_append, litF_step, if_pos rfl]; rfl
    | c :: t =>
      rw [List.cons_append, litF_step, litF_step]
      obtain ⟨e1, e2⟩ := escR_sep t r
      by_cases h4 : (escR t).2.2 ≠ 0
      · rw [e1, if_pos h4, if_pos h4, ih]
      · have e3 := e2 (by simpa using h4)
        rw [e3, List.drop_append_of_le_length (escR_bd t).2, ih, ih]
theorem tkD_sep {z : UInt8} (hz : Sep z) {x : List UInt8} (r : List UInt8) (hx : x ≠ []) (h : ¬ (x.getD 0 0 = 34 ∨ x.getD 0 0 = 39)) : tkD (x ++ z :: r) = tkD x := by
  have hg : (x ++ z :: r).getD 0 0 = x.getD 0 0 := by
    match x, hx with
    | c :: t, _ => rfl
  unfold tkD tkR
  rw [hg, if_neg h, if_neg h, tokP_sep hz]
theorem tkD_lf {x : List UInt8} (r : List UInt8) (hx : x ≠ []) : tkD (x ++ 10 :: r) = tkD x := by
  by_cases h : x.getD 0 0 = 34 ∨ x.getD 0 0 = 39
  · match x, hx with
    | c :: t, _ =>
      have hg : (c :: t ++ 10 :: r).getD 0 0 = c := rfl
      have hg' : (c :: t).getD 0 0 = c := rfl
      unfold tkD tkR
      rw [hg, hg']
      rw [hg'] at h
      have e : litR (c :: t ++ 10 :: r) 0 c = litR (c :: t) 0 c := by
        unfold litR
        have : (c :: t ++ 10 :: r).drop (0 + 1) = t ++ 10 :: r := rfl
        rw [this, litF_sep]
        exact litF_fuel c _ _ _ _ _ (by simp only [List.length_append, List.length_cons]; omega) (by simp only [List.length_cons]; omega)
      rw [if_pos h, if_pos h, e]
  · exact tkD_sep sep10 r hx h
theorem tkD_10 (r : List UInt8) : (tkD (10 :: r)).E = 4 := by
  have hg : (10 :: r : List UInt8).getD 0 0 = 10 := rfl
  unfold tkD tkR
  rw [hg, if_neg (by decide)]
  have := tokP_sep sep10 [] r 10
  rw [List.nil_append] at this
  rw [this]
  decide
theorem count_no {l : List UInt8} (h : ∀ c ∈ l, c ≠ 10) : Lib.countByte l 10 = 0 := List.count_eq_zero.2 fun hc => h _ hc rfl
/-- No token holds a line feed. -/
theorem tkD_no10 {d : List UInt8} (hd : d ≠ []) (h : (tkD d).E = 0) : ∀ c ∈ d.take (tkD d).nx, c ≠ 10 := by
  have hn := cntP_take (nah [10]) d
  have hle := cntP_le (nah [10]) d
  obtain ⟨n, hc⟩ : ∃ n, cntP (nah [10]) d = n := ⟨_, rfl⟩
  have na : ∀ c, nah [10] c = true → c ≠ 10 := by
    intro c h e; rw [e] at h; exact absurd h (by decide)
  by_cases hl : n = d.length
  · intro c hcd
    rw [hc, hl, List.take_length] at hn
    exact na c (hn c (List.mem_of_mem_take hcd))
  · have hst := cntP_stop (P := nah [10]) (l := d) (by omega)
    rw [hc] at hst hn hle
    have hd10 : d = d.take n ++ 10 :: d.drop (n + 1) := by
      have : d[n] = 10 := by
        rw [List.getD_eq_getElem?_getD, List.getElem?_eq_getElem (by omega)] at hst
        simpa [nah, has] using hst
      rw [← this, ← List.drop_eq_getElem_cons (by omega), List.take_append_drop]
    by_cases h0 : n = 0
    · rw [h0, List.take_zero, List.nil_append] at hd10
      rw [hd10, tkD_10] at h
      exact absurd h ne40
    have hx : d.take n ≠ [] := by
      intro e
      have := congrArg List.length e
      rw [List.length_take, List.length_nil] at this
      omega
    have e := tkD_lf (d.drop (n + 1)) hx
    rw [← hd10] at e
    have hb := tkD_nx hx (by rw [← e]; exact h)
    rw [← e, List.length_take] at hb
    intro c hcd
    refine na c (hn c ?_)
    rw [show (tkD d).nx = min (tkD d).nx n by omega, ← List.take_take] at hcd
    exact List.mem_of_mem_take hcd
theorem count_cons (c : UInt8) (l : List UInt8) : Lib.countByte (c :: l) 10 = (if c = 10 then 1 else 0) + Lib.countByte l 10 := by
  unfold Lib.countByte
  rw [List.count_cons]
  by_cases h : c = 10
  · subst h; simp; omega
  · rw [if_neg h, if_neg (by simpa using h)]; omega
theorem count_app (l m : List UInt8) : Lib.countByte (l ++ m) 10 = Lib.countByte l 10 + Lib.countByte m 10 := List.count_append
theorem sk_bl {c : UInt8} (t : List UInt8) (h : has blL c = true) : sk (c :: t) = (1 + (sk t).1, (if c = 10 then 1 else 0) + (sk t).2) := by
  have e : cntP (has blL) (c :: t) = cntP (has blL) t + 1 := cntP_yes h
  cases hp : Lib.hasPrefix (t.drop (cntP (has blL) t)) [45, 45] with
  | true =>
    have hp' : Lib.hasPrefix ((c :: t).drop (cntP (has blL) (c :: t))) [45, 45] = true := by rw [e, List.drop_succ_cons]; exact hp
    rw [sk_yes hp', sk_yes hp, e]
    generalize cntP (has blL) t = n
    simp only [List.drop_succ_cons, List.take_succ_cons, count_cons]
    generalize cntP (nah [10]) (t.drop n) = m
    rw [show n + 1 + m = (n + m) + 1 by omega, List.drop_succ_cons]
    refine Prod.ext ?_ ?_
    · show n + m + 1 + _ = 1 + (n + m + _); omega
    · show _ + _ + _ = _ + (_ + _); omega
  | false =>
    have hp' : Lib.hasPrefix ((c :: t).drop (cntP (has blL) (c :: t))) [45, 45] = false := by rw [e, List.drop_succ_cons]; exact hp
    rw [sk_no hp', sk_no hp, e, List.take_succ_cons, count_cons]
    refine Prod.ext ?_ rfl
    show _ + 1 = 1 + _; omega
theorem sk_non {c : UInt8} {t : List UInt8} (h1 : has blL c = false) (h2 : Lib.hasPrefix (c :: t) [45, 45] = false) : sk (c :: t) = (0, 0) := by
  have h0 : cntP (has blL) (c :: t) = 0 := cntP_no h1
  rw [sk_no (by rw [h0, List.drop_zero]; exact h2), h0]
  rfl
theorem sk_rem (t : List UInt8) : sk (45 :: 45 :: t) = (cntP (nah [10]) (45 :: 45 :: t) + (sk ((45 :: 45 :: t).drop (cntP (nah [10]) (45 :: 45 :: t)))).1, (sk ((45 :: 45 :: t).drop (cntP (nah [10]) (45 :: 45 :: t)))).2) := by
  have h0 : cntP (has blL) (45 :: 45 :: t) = 0 := cntP_no (by decide)
  have hp : Lib.hasPrefix ((45 :: 45 :: t).drop (cntP (has blL) (45 :: 45 :: t))) [45, 45] = true := by
    rw [h0, List.drop_zero]; unfold Lib.hasPrefix; simp [List.isPrefixOf]
  rw [sk_yes hp, h0, List.drop_zero, List.take_zero, Nat.zero_add]
  refine Prod.ext rfl ?_
  show Lib.countByte [] 10 + _ = _
  rw [show Lib.countByte [] 10 = 0 from rfl, Nat.zero_add]
theorem nah_take (x : List UInt8) : Lib.countByte (x.take (cntP (nah [10]) x)) 10 = 0 := count_no fun c hc e => by
  have := cntP_take (nah [10]) x c hc
  rw [e] at this
  exact absurd this (by decide)
theorem count_split (x : List UInt8) (n : Nat) : Lib.countByte x 10 = Lib.countByte (x.take n) 10 + Lib.countByte (x.drop n) 10 := by
  rw [← count_app, List.take_append_drop]
/-- What a text begins with. -/
theorem text_cases (x : List UInt8) : x = [] ∨ (∃ c t, x = c :: t ∧ has blL c = true) ∨ (∃ t, x = 45 :: 45 :: t) ∨ (∃ c t, x = c :: t ∧ has blL c = false ∧ Lib.hasPrefix x [45, 45] = false) := by
  match x with
  | [] => exact .inl rfl
  | c :: t =>
    cases h : has blL c with
    | true => exact .inr (.inl ⟨c, t, rfl, h⟩)
    | false =>
      cases hp : Lib.hasPrefix (c :: t) [45, 45] with
      | true => obtain ⟨u, hu⟩ := M3.pre2 hp; exact .inr (.inr (.inl ⟨u, hu⟩))
      | false => exact .inr (.inr (.inr ⟨c, t, rfl, h, rfl⟩))
theorem pre_sep {x r : List UInt8} (hx : x ≠ []) (h : Lib.hasPrefix x [45, 45] = false) (z : UInt8) (hz : z ≠ 45) : Lib.hasPrefix (x ++ z :: r) [45, 45] = false := by
  unfold Lib.hasPrefix at h ⊢
  match x, hx with
  | [a], _ => simp [List.isPrefixOf]; intro _ e; exact hz e.symm
  | a :: b :: t, _ => simpa [List.isPrefixOf] using h
theorem sk_sep (r : List UInt8) (n : Nat) : ∀ x : List UInt8, x.length < n →
    ((sk x).1 < x.length → sk (x ++ 10 :: r) = sk x) ∧ ((sk x).1 = x.length → sk (x ++ 10 :: r) = (x.length + 1 + (sk r).1, Lib.countByte x 10 + 1 + (sk r).2)) := by
  induction n with
  | zero => intro x h; omega
  | succ n ih =>
    intro x hx
    rcases text_cases x with rfl | ⟨c, t, rfl, hc⟩ | ⟨t, rfl⟩ | ⟨c, t, rfl, hc, hp⟩
    · refine ⟨fun h => by simp at h, fun _ => ?_⟩
      rw [List.nil_append, sk_bl r (by decide), if_pos rfl]
      refine Prod.ext ?_ ?_
      · show 1 + _ = 0 + 1 + _; omega
      · show 1 + _ = 0 + 1 + _; omega
    · obtain ⟨i1, i2⟩ := ih t (by simp at hx; omega)
      rw [List.cons_append, sk_bl t hc, sk_bl _ hc, List.length_cons, count_cons]
      refine ⟨fun h => by rw [i1 (by simp only [] at h; omega)], fun h => ?_⟩
      rw [i2 (by simp only [] at h; omega)]
      refine Prod.ext ?_ ?_
      · show 1 + (_ + 1 + _) = _ + 1 + 1 + _; omega
      · show _ + (_ + 1 + _) = _ + _ + 1 + _; omega
    · have hm := cntP_sep (P := nah [10]) (z := 10) (by decide) (45 :: 45 :: t) r
      have h2 : 2 ≤ cntP (nah [10]) (45 :: 45 :: t) := by rw [cntP_yes (by decide), cntP_yes (by decide)]; omega
      have hle := cntP_le (nah [10]) (45 :: 45 :: t)
      have h0 := nah_take (45 :: 45 :: t)
      have hsp := count_split (45 :: 45 :: t) (cntP (nah [10]) (45 :: 45 :: t))
      obtain ⟨i1, i2⟩ := ih ((45 :: 45 :: t).drop (cntP (nah [10]) (45 :: 45 :: t))) (by rw [List.length_drop]; omega)
      rw [List.length_drop] at i1 i2
      have hr := sk_rem t
      have hr' := sk_rem (t ++ 10 :: r)
      have ea : (45 :: 45 :: t) ++ 10 :: r = 45 :: 45 :: (t ++ 10 :: r) := rfl
      rw [← ea, hm, List.drop_append_of_le_length hle] at hr'
      rw [hr, hr']
      generalize cntP (nah [10]) (45 :: 45 :: t) = m at *
      refine ⟨fun h => by rw [i1 (by simp only [] at h; omega)], fun h => ?_⟩
      rw [i2 (by simp only [] at h; omega)]
      refine Prod.ext ?_ ?_
      · show m + (_ - m + 1 + _) = _ + 1 + _; omega
      · show _ + 1 + _ = _ + 1 + _; omega
    · rw [sk_non hc hp, List.cons_append]
      have hp2 : Lib.hasPrefix (c :: (t ++ 10 :: r)) [45, 45] = false := pre_sep (r := r) (by simp) hp 10 (by decide)
      rw [sk_non hc hp2]
      exact ⟨fun _ => rfl, fun h => by simp at h⟩
theorem sk_lines (n : Nat) : ∀ x : List UInt8, x.length < n → (sk x).2 = Lib.countByte (x.take (sk x).1) 10 := by
  induction n with
  | zero => intro x h; omega
  | succ n ih =>
    intro x hx
    rcases text_cases x with rfl | ⟨c, t, rfl, hc⟩ | ⟨t, rfl⟩ | ⟨c, t, rfl, hc, hp⟩
    · rfl
    · have i := ih t (by simp at hx; omega)
      rw [sk_bl t hc]
      show _ + _ = Lib.countByte ((c :: t).take (1 + (sk t).1)) 10
      rw [Nat.add_comm 1, List.take_succ_cons, count_cons, i]
    · have h2 : 2 ≤ cntP (nah [10]) (45 :: 45 :: t) := by rw [cntP_yes (by decide), cntP_yes (by decide)]; omega
      have hle := cntP_le (nah [10]) (45 :: 45 :: t)
      have h0 := nah_take (45 :: 45 :: t)
      have i := ih ((45 :: 45 :: t).drop (cntP (nah [10]) (45 :: 45 :: t))) (by rw [List.length_drop]; omega)
      rw [sk_rem t]
      generalize 45 :: 45 :: t = x at *
      generalize cntP (nah [10]) x = m at *
      show (sk (x.drop m)).2 = Lib.countByte (x.take (m + (sk (x.drop m)).1)) 10
      rw [List.take_add, count_app, h0, i, Nat.zero_add]
    · rw [sk_non hc hp]; rfl
def cmb (t : Tok) (r : List Tok × Nat × Int) : List Tok × Nat × Int := if r.2.2 = 0 then (t :: r.1, r.2) else ([], r.2)
def app (acc : List Tok) (r : List Tok × Nat × Int) : List Tok × Nat × Int := if r.2.2 = 0 then (acc ++ r.1, r.2) else ([], r.2)
/-- The token behind the gap. -/
def tkE (d : List UInt8) : TR := tkD (d.drop (sk d).1)
/-- The tokens of a text: it begins at the place a, in the line ln. -/
def lxF : Nat → List UInt8 → Nat → Nat → List Tok × Nat × Int
  | 0, _, _, _ => ([], 0, 0)
  | f + 1, d, a, ln =>
    if (sk d).1 = d.length then ([], 0, 0)
    else if (tkE d).E = 0 then cmb ⟨(tkE d).K, (tkE d).x, ln + (sk d).2, a + (sk d).1⟩ (lxF f ((d.drop (sk d).1).drop (tkE d).nx) (a + (sk d).1 + (tkE d).nx) (ln + (sk d).2))
    else ([], ln + (sk d).2, (tkE d).E)
def lx (d : List UInt8) (a ln : Nat) : List Tok × Nat × Int := lxF (d.length + 1) d a ln
theorem tkE_nx {d : List UInt8} (h : (sk d).1 ≠ d.length) (hE : (tkE d).E = 0) : 0 < (tkE d).nx ∧ (sk d).1 + (tkE d).nx ≤ d.length := by
  have hs := (sk_le d).2
  have := tkD_nx (d := d.drop (sk d).1) (by intro e; have := congrArg List.length e; rw [List.length_drop] at this; simp at this; omega) hE
  rw [List.length_drop] at this
  exact ⟨this.1, by have := this.2; unfold tkE; omega⟩
theorem lxF_fuel (f : Nat) : ∀ (g : Nat) (d : List UInt8) (a ln : Nat), d.length < f → d.length < g → lxF f d a ln = lxF g d a ln := by
  induction f with
  | zero => intro g d a ln h; omega
  | succ f ih =>
    intro g d a ln hf hg
    obtain ⟨g, rfl⟩ : ∃ g', g = g' + 1 := ⟨g - 1, by omega⟩
    unfold lxF
    by_cases h0 : (sk d).1 = d.length
    · rw [if_pos h0, if_pos h0]
    rw [if_neg h0, if_neg h0]
    by_cases h1 : (tkE d).E = 0
    · have hb := tkE_nx h0 h1
      rw [if_pos h1, if_pos h1, ih g _ _ _ (by simp only [List.length_drop]; omega) (by simp only [List.length_drop]; omega)]
    · rw [if_neg h1, if_neg h1]
theorem lx_eq (d : List UInt8) (a ln : Nat) : lx d a ln = if (sk d).1 = d.length then ([], 0, 0)
    else if (tkE d).E = 0 then cmb ⟨(tkE d).K, (tkE d).x, ln + (sk d).2, a + (sk d).1⟩ (lx ((d.drop (sk d).1).drop (tkE d).nx) (a + (sk d).1 + (tkE d).nx) (ln + (sk d).2))
    else ([], ln + (sk d).2, (tkE d).E) := by
  unfold lx
  rw [lxF]
  by_cases h0 : (sk d).1 = d.length
  · rw [if_pos h0, if_pos h0]
  rw [if_neg h0, if_neg h0]
  by_cases h1 : (tkE d).E = 0
  · have hb := tkE_nx h0 h1
    rw [if_pos h1, if_pos h1, lxF_fuel d.length _ _ _ _ (by simp only [List.length_drop]; omega) (Nat.lt_succ_self _)]
  · rw [if_neg h1, if_neg h1]
theorem app_cmb (acc : List Tok) (t : Tok) (r : List Tok × Nat × Int) : app acc (cmb t r) = app (acc ++ [t]) r := by
  unfold app cmb
  by_cases h : r.2.2 = 0
  · simp only [if_pos h, List.append_assoc]; rfl
  · simp only [if_neg h]
theorem scF_lx (l : List UInt8) (f : Nat) : ∀ (a ln : Nat) (acc : List Tok), a ≤ l.length → l.length - a < f →
    scF (tkR l) l f (a + (sk (l.drop a)).1) (ln + (sk (l.drop a)).2) acc = app acc (lx (l.drop a) a ln) := by
  induction f with
  | zero => intro a ln acc _ h; omega
  | succ f ih =>
    intro a ln acc ha hf
    have hs := (sk_le (l.drop a)).2
    rw [List.length_drop] at hs
    rw [scF, lx_eq, List.length_drop]
    by_cases h0 : (sk (l.drop a)).1 = l.length - a
    · rw [if_neg (by omega), if_pos h0]
      simp [app]
    have hp : a + (sk (l.drop a)).1 < l.length := by omega
    obtain ⟨e1, e2, e3, e4⟩ := tkR_shift hp
    have eT : tkD (l.drop (a + (sk (l.drop a)).1)) = tkE (l.drop a) := by unfold tkE; rw [List.drop_drop]
    rw [eT] at e1 e2 e3 e4
    have hb0 : (tkE (l.drop a)).E = 0 → 0 < (tkE (l.drop a)).nx ∧ (sk (l.drop a)).1 + (tkE (l.drop a)).nx ≤ l.length - a := fun h => by
      have := tkE_nx (d := l.drop a) (by rw [List.length_drop]; exact h0) h
      rwa [List.length_drop] at this
    rw [if_pos hp, if_neg h0, e1, e2, e3]
    clear e1 e2 eT
    generalize sk (l.drop a) = g at *
    generalize tkE (l.drop a) = T at *
    by_cases h1 : T.E = 0
    · have hb := hb0 h1
      have ed : ((l.drop a).drop g.1).drop T.nx = l.drop (a + g.1 + T.nx) := by rw [List.drop_drop, List.drop_drop]; congr 1; omega
      rw [if_pos h1, if_pos h1, app_cmb, e4 (e3.trans h1), ed]
      exact ih (a + g.1 + T.nx) (ln + g.2) (acc ++ [⟨T.K, T.x, ln + g.2, a + g.1⟩]) (by omega) (by omega)
    · rw [if_neg h1, if_neg h1]
      exact (if_neg h1).symm
theorem cmb_bad (t : Tok) (r : List Tok × Nat × Int) (h : (cmb t r).2.2 ≠ 0) : (cmb t r).1 = [] := by
  unfold cmb at h ⊢
  by_cases h0 : r.2.2 = 0
  · rw [if_pos h0] at h; exact absurd h0 h
  · rw [if_neg h0]
theorem cmb_snd (t : Tok) (r : List Tok × Nat × Int) : (cmb t r).2 = r.2 := by unfold cmb; split <;> rfl
theorem lx_bad (d : List UInt8) (a ln : Nat) (h : (lx d a ln).2.2 ≠ 0) : (lx d a ln).1 = [] := by
  rw [lx_eq] at h ⊢
  split
  · rfl
  · rename_i h0
    rw [if_neg h0] at h
    split
    · rename_i h1; rw [if_pos h1] at h; exact cmb_bad _ _ h
    · rfl
theorem app_nil (d : List UInt8) (a ln : Nat) : app [] (lx d a ln) = lx d a ln := by
  unfold app
  by_cases h : (lx d a ln).2.2 = 0
  · rw [if_pos h]; rfl
  · rw [if_neg h, ← lx_bad d a ln h]
theorem lexR_lx (l : List UInt8) : lexR l = lx l 0 1 := by
  have h := scF_lx l (l.length + 1) 0 1 [] (Nat.zero_le _) (by omega)
  rw [List.drop_zero, app_nil, Nat.zero_add] at h
  exact h
theorem lx_line0 (n : Nat) : ∀ (d : List UInt8) (a ln : Nat), d.length < n → (lx d a ln).2.2 = 0 → (lx d a ln).2.1 = 0 := by
  induction n with
  | zero => intro d a ln h; omega
  | succ n ih =>
    intro d a ln hn h
    rw [lx_eq] at h ⊢
    by_cases h0 : (sk d).1 = d.length
    · rw [if_pos h0]
    rw [if_neg h0] at h ⊢
    by_cases h1 : (tkE d).E = 0
    · have hb := tkE_nx h0 h1
      rw [if_pos h1] at h ⊢
      rw [cmb_snd] at h ⊢
      exact ih _ _ _ (by simp only [List.length_drop]; omega) h
    · rw [if_neg h1] at h; exact absurd h h1
/-- The same text at another place. -/
theorem lx_shift (m k n : Nat) : ∀ (d : List UInt8) (a ln : Nat), d.length < n → lx d (a + m) (ln + k) = ((lx d a ln).1.map (fun t => ⟨t.k, t.x, t.ln + k, t.a + m⟩), (if (lx d a ln).2.2 = 0 then (lx d a ln).2.1 else (lx d a ln).2.1 + k), (lx d a ln).2.2) := by
  induction n with
  | zero => intro d a ln h; omega
  | succ n ih =>
    intro d a ln hn
    rw [lx_eq d (a + m), lx_eq d a]
    by_cases h0 : (sk d).1 = d.length
    · rw [if_pos h0, if_pos h0]; rfl
    rw [if_neg h0, if_neg h0]
    by_cases h1 : (tkE d).E = 0
    · have hb := tkE_nx h0 h1
      rw [if_pos h1, if_pos h1, show a + m + (sk d).1 + (tkE d).nx = a + (sk d).1 + (tkE d).nx + m by omega, show ln + k + (sk d).2 = ln + (sk d).2 + k by omega, ih _ _ _ (by simp only [List.length_drop]; omega), show a + m + (sk d).1 = a + (sk d).1 + m by omega]
      generalize lx ((d.drop (sk d).1).drop (tkE d).nx) (a + (sk d).1 + (tkE d).nx) (ln + (sk d).2) = r
      unfold cmb
      by_cases h : r.2.2 = 0
      · simp only [if_pos h, List.map_cons]
      · simp only [if_neg h, List.map_nil]
    · rw [if_neg h1, if_neg h1]
      simp only [List.map_nil, if_neg h1]
      rw [show ln + k + (sk d).2 = ln + (sk d).2 + k by omega]
theorem lf_count {d : List UInt8} (h : (sk d).1 ≠ d.length) (hE : (tkE d).E = 0) : Lib.countByte (d.take ((sk d).1 + (tkE d).nx)) 10 = (sk d).2 := by
  have hs := (sk_le d).2
  have h0 : Lib.countByte ((d.drop (sk d).1).take (tkE d).nx) 10 = 0 := count_no (tkD_no10 (by intro e; have := congrArg List.length e; rw [List.length_drop, List.length_nil] at this; omega) hE)
  rw [List.take_add, count_app, ← sk_lines _ d (Nat.lt_succ_self _), h0]
  rfl
/-- Two texts with a line feed between them. -/
theorem lx_sep (r : List UInt8) (n : Nat) : ∀ (x : List UInt8) (a ln : Nat), x.length < n →
    lx (x ++ 10 :: r) a ln = if (lx x a ln).2.2 = 0 then app (lx x a ln).1 (lx r (a + x.length + 1) (ln + 1 + Lib.countByte x 10)) else ([], (lx x a ln).2) := by
  induction n with
  | zero => intro x a ln h; omega
  | succ n ih =>
    intro x a ln hn
    have hs := (sk_le x).2
    obtain ⟨s1, s2⟩ := sk_sep r _ x (Nat.lt_succ_self _)
    rw [lx_eq x]
    by_cases h0 : (sk x).1 = x.length
    · rw [if_pos h0, if_pos rfl, app_nil, lx_eq, lx_eq r]
      unfold tkE
      have s := s2 h0
      rw [s]
      have ed : (x ++ 10 :: r).drop (x.length + 1 + (sk r).1) = r.drop (sk r).1 := by
        rw [← List.drop_drop, ← List.drop_drop, List.drop_left]; rfl
      simp only [ed, List.length_append, List.length_cons]
      by_cases h1 : (sk r).1 = r.length
      · rw [if_pos (by omega), if_pos h1]
      rw [if_neg (by omega), if_neg h1]
      rw [show ln + (Lib.countByte x 10 + 1 + (sk r).2) = ln + 1 + Lib.countByte x 10 + (sk r).2 by omega, show a + (x.length + 1 + (sk r).1) = a + x.length + 1 + (sk r).1 by omega]
    · have hne : x.drop (sk x).1 ≠ [] := by intro e; have := congrArg List.length e; rw [List.length_drop] at this; simp at this; omega
      have s := s1 (by omega)
      have ed : (x ++ 10 :: r).drop (sk x).1 = x.drop (sk x).1 ++ 10 :: r := List.drop_append_of_le_length hs
      have et : tkE (x ++ 10 :: r) = tkE x := by unfold tkE; rw [s, ed, tkD_lf r hne]
      rw [if_neg h0, lx_eq (x ++ 10 :: r), et, s, if_neg (by simp; omega)]
      by_cases h1 : (tkE x).E = 0
      · have hb := tkE_nx h0 h1
        have hc := lf_count h0 h1
        have hsp := count_split x ((sk x).1 + (tkE x).nx)
        rw [if_pos h1, if_pos h1, ed, List.drop_append_of_le_length (by rw [List.length_drop]; omega), ih _ _ _ (by simp only [List.length_drop]; omega)]
        have ea : a + (sk x).1 + (tkE x).nx + ((x.drop (sk x).1).drop (tkE x).nx).length + 1 = a + x.length + 1 := by simp only [List.length_drop]; omega
        have el : ln + (sk x).2 + 1 + Lib.countByte ((x.drop (sk x).1).drop (tkE x).nx) 10 = ln + 1 + Lib.countByte x 10 := by rw [List.drop_drop]; omega
        rw [ea, el]
        generalize lx r (a + x.length + 1) (ln + 1 + Lib.countByte x 10) = R
        generalize lx ((x.drop (sk x).1).drop (tkE x).nx) (a + (sk x).1 + (tkE x).nx) (ln + (sk x).2) = r1
        unfold cmb app
        by_cases h : r1.2.2 = 0
        · simp only [if_pos h]
          by_cases hR : R.2.2 = 0
          · simp only [if_pos hR, List.cons_append]
          · simp only [if_neg hR]
        · simp only [if_neg h]
      · rw [if_neg h1, if_neg h1, if_neg h1]
theorem ne41 : (4 : Int) ≠ 1 := by decide
theorem ne31 : (3 : Int) ≠ 1 := by decide
theorem ne01 : (0 : Int) ≠ 1 := by decide
theorem ne61 : (6 : Int) ≠ 1 := by decide
theorem numR_E1 (m : Ms) : (numR m).E ≠ 1 := by
  unfold numR
  split
  · exact ne61
  split
  · exact ne61
  unfold makeR
  split
  · show (7 : Int) ≠ 1; decide
  split
  · show oE _ ≠ 1; unfold oE; split <;> decide
  · exact ne61
theorem escR_E1 (l : List UInt8) : (escR l).2.2 ≠ 1 := by
  match l with
  | [] => exact ne41
  | c :: t =>
    unfold escR
    simp only []
    repeat' split
    all_goals first | exact ne01 | exact ne61 | exact ne41
theorem litF_E1 (q : UInt8) (f : Nat) : ∀ (l acc : List UInt8) (k : Nat), (litF q f l acc k).2.2 ≠ 1 := by
  induction f with
  | zero => intro l acc k; exact ne41
  | succ f ih =>
    intro l acc k
    match l with
    | [] => exact ne41
    | c :: t =>
      rw [litF_step]
      by_cases h1 : c = 10
      · rw [if_pos h1]; exact ne41
      rw [if_neg h1]
      by_cases h2 : c = q
      · rw [if_pos h2]; exact ne01
      rw [if_neg h2]
      by_cases h3 : c = 92
      · rw [if_pos h3]
        by_cases h4 : (escR t).2.2 ≠ 0
        · rw [if_pos h4]; exact escR_E1 t
        rw [if_neg h4]
        by_cases h5 : 4096 ≤ acc.length
        · rw [if_pos h5]; exact ne31
        rw [if_neg h5]; exact ih _ _ _
      rw [if_neg h3]
      by_cases h5 : 4096 ≤ acc.length
      · rw [if_pos h5]; exact ne31
      rw [if_neg h5]; exact ih _ _ _
theorem tkD_E1 (d : List UInt8) : (tkD d).E ≠ 1 := by
  unfold tkD tkR
  split
  · exact litF_E1 _ _ _ _ _
  unfold tokP
  split
  · show (numL d 0).2.1 ≠ 1
    unfold numL
    rw [scanR_form d 0 (Nat.zero_le _)]
    generalize meas (d.drop 0) = m
    by_cases h0 : m.fin = 0
    · simp only [if_pos h0]; rw [if_pos ne40]; exact ne41
    simp only [if_neg h0]
    by_cases h1 : (numR m).E = 0
    · simp only [if_pos h1]
      simp only [ne_eq, not_true_eq_false, if_false]
      split
      · exact ne41
      · exact ne01
    · simp only [if_neg h1]; rw [if_pos h1]; exact numR_E1 m
  split
  · unfold namR
    split
    · exact ne31
    · exact ne01
  · show symE _ ≠ 1
    unfold symE
    split
    · exact ne41
    · exact ne01
theorem lx_E1 (n : Nat) : ∀ (d : List UInt8) (a ln : Nat), d.length < n → (lx d a ln).2.2 ≠ 1 := by
  induction n with
  | zero => intro d a ln h; omega
  | succ n ih =>
    intro d a ln hn
    rw [lx_eq]
    by_cases h0 : (sk d).1 = d.length
    · rw [if_pos h0]; exact ne01
    rw [if_neg h0]
    by_cases h1 : (tkE d).E = 0
    · have hb := tkE_nx h0 h1
      rw [if_pos h1, cmb_snd]
      exact ih _ _ _ (by simp only [List.length_drop]; omega)
    · rw [if_neg h1]; exact tkD_E1 _
theorem tkD_text {d : List UInt8} (h : (tkD d).E = 0) (hk : (tkD d).K ≠ 4) : (tkD d).x = d.take (tkD d).nx := by
  unfold tkD tkR at h hk ⊢
  by_cases hq : d.getD 0 0 = 34 ∨ d.getD 0 0 = 39
  · rw [if_pos hq] at hk; exact absurd rfl hk
  rw [if_neg hq] at h hk ⊢
  unfold tokP at h hk ⊢
  by_cases h1 : dgt (d.getD 0 0) = true
  · rw [if_pos h1] at h ⊢
    have h' : (numL d 0).2.1 = 0 := h
    show (numL d 0).1 = d.take (numL d 0).2.2
    unfold numL at h' ⊢
    by_cases e1 : (scanR d ((0 : Nat) : Int)).E ≠ 0
    · rw [if_pos e1] at h'; exact absurd h' e1
    rw [if_neg e1] at h' ⊢
    by_cases e2 : 0 < cntP wrd (d.drop (scanR d ((0 : Nat) : Int)).N.toNat)
    · rw [if_pos e2] at h'; exact absurd h' ne40
    rw [if_neg e2, List.drop_zero, Nat.sub_zero]
  rw [if_neg h1] at h ⊢
  by_cases h2 : wrd (d.getD 0 0) = true
  · rw [if_pos h2] at h ⊢
    unfold namR at h ⊢
    rw [List.drop_zero] at h ⊢
    by_cases h3 : 40 < cntP wrd d
    · rw [if_pos h3] at h; exact absurd h ne30
    rw [if_neg h3, Nat.zero_add]
  rw [if_neg h2]
  show (d.drop 0).take (symN (d.drop 0)) = d.take (0 + symN (d.drop 0))
  rw [List.drop_zero, Nat.zero_add]
/-- Where the tokens of a text are. -/
def Placed (l : List UInt8) : Nat → List Tok → Prop
  | _, [] => True
  | e, t :: ts => e ≤ t.a ∧ t.a < l.length ∧ t.ln = 1 + Lib.countByte (l.take t.a) 10 ∧ (t.k ≠ 4 → t.x ≠ [] ∧ Lib.hasPrefix (l.drop t.a) t.x = true) ∧ Placed l (if t.k = 4 then t.a + 1 else t.a + t.x.length) ts
theorem Placed.mono {l : List UInt8} {e e' : Nat} {ts : List Tok} (h : Placed l e ts) (he : e' ≤ e) : Placed l e' ts := by
  match ts, h with
  | [], _ => trivial
  | t :: ts, h => exact ⟨Nat.le_trans he h.1, h.2⟩
theorem lx_placed (l : List UInt8) (n : Nat) : ∀ (a ln : Nat), a ≤ l.length → l.length - a < n → ln = 1 + Lib.countByte (l.take a) 10 → Placed l a (lx (l.drop a) a ln).1 := by
  induction n with
  | zero => intro a ln _ h; omega
  | succ n ih =>
    intro a ln ha hn hl
    have hs := (sk_le (l.drop a)).2
    rw [List.length_drop] at hs
    rw [lx_eq, List.length_drop]
    by_cases h0 : (sk (l.drop a)).1 = l.length - a
    · rw [if_pos h0]; trivial
    rw [if_neg h0]
    by_cases h1 : (tkE (l.drop a)).E = 0
    · have h0' : (sk (l.drop a)).1 ≠ (l.drop a).length := by rw [List.length_drop]; exact h0
      have hb := tkE_nx h0' h1
      have hc := lf_count h0' h1
      have hL := sk_lines _ (l.drop a) (Nat.lt_succ_self _)
      rw [List.length_drop] at hb
      have hx : (tkE (l.drop a)).K ≠ 4 → (tkE (l.drop a)).x = ((l.drop a).drop (sk (l.drop a)).1).take (tkE (l.drop a)).nx := tkD_text (d := (l.drop a).drop (sk (l.drop a)).1) h1
      rw [if_pos h1]
      generalize sk (l.drop a) = g at *
      generalize tkE (l.drop a) = T at *
      have ed : ((l.drop a).drop g.1).drop T.nx = l.drop (a + g.1 + T.nx) := by rw [List.drop_drop, List.drop_drop]; congr 1; omega
      have hi := ih (a + g.1 + T.nx) (ln + g.2) (by omega) (by omega) (by
        rw [show a + g.1 + T.nx = a + (g.1 + T.nx) by omega, List.take_add, count_app, hc, hl]; omega)
      rw [ed]
      unfold cmb
      split
      · refine ⟨by show a ≤ a + _; omega, by show a + _ < _; omega, ?_, fun hk => ?_, ?_⟩
        · show ln + g.2 = 1 + Lib.countByte (l.take (a + g.1)) 10
          rw [List.take_add, count_app, ← hL, hl]; omega
        · have e : T.x = ((l.drop a).drop g.1).take T.nx := hx hk
          have hlen : T.x.length = T.nx := by rw [e, List.length_take, List.length_drop, List.length_drop]; omega
          refine ⟨fun e0 => by rw [show T.x = [] from e0, List.length_nil] at hlen; omega, ?_⟩
          show Lib.hasPrefix (l.drop (a + g.1)) T.x = true
          unfold Lib.hasPrefix
          rw [e, List.drop_drop, List.isPrefixOf_iff_prefix]
          exact List.take_prefix _ _
        · refine hi.mono ?_
          show (if T.K = 4 then a + g.1 + 1 else a + g.1 + T.x.length) ≤ _
          by_cases hk : T.K = 4
          · rw [if_pos hk]; omega
          · rw [if_neg hk, hx hk, List.length_take]; omega
      · trivial
    · rw [if_neg h1]; trivial
theorem lexR_placed (l : List UInt8) : Placed l 0 (lexR l).1 := by
  rw [lexR_lx]
  have := lx_placed l _ 0 1 (Nat.zero_le _) (Nat.lt_succ_self _) rfl
  rwa [List.drop_zero] at this
theorem lexR_E1 (l : List UInt8) : (lexR l).2.2 ≠ 1 := by
  rw [lexR_lx]; exact lx_E1 _ _ _ _ (Nat.lt_succ_self _)
theorem cnt_tk (b : Int) (l : List UInt8) (k : Nat) : cnt b (l.take k) = min k (cnt b l) := by
  induction l generalizing k with
  | nil => simp [cnt]
  | cons c t ih =>
    match k with
    | 0 => simp [cnt]
    | k + 1 =>
      rw [List.take_succ_cons]
      cases h : isd b c with
      | true => rw [cnt_yes h, cnt_yes h, ih]; omega
      | false => rw [cnt_no h, cnt_no h]; simp
theorem cntP_tk (P : UInt8 → Bool) (l : List UInt8) (k : Nat) : cntP P (l.take k) = min k (cntP P l) := by
  induction l generalizing k with
  | nil => simp [cntP]
  | cons c t ih =>
    match k with
    | 0 => simp [cntP]
    | k + 1 =>
      rw [List.take_succ_cons]
      cases h : P c with
      | true => rw [cntP_yes h, cntP_yes h, ih]; omega
      | false => rw [cntP_no h, cntP_no h]; simp
theorem hexp_tk {d : List UInt8} {k : Nat} (h : hexp (d.take k) = true) : hexp d = true := by
  have hl := hexp_len h
  rw [List.length_take] at hl
  obtain ⟨h0, h1, h2⟩ := of_decide_eq_true h
  rw [List.getElem?_take_of_lt (by omega)] at h0
  rw [List.getElem?_take_of_lt (by omega)] at h1
  rw [List.drop_take, cnt_tk] at h2
  exact decide_eq_true ⟨h0, h1, by omega⟩
theorem meas_tk (d : List UInt8) : meas (d.take (meas d).fin) = meas d := by
  have hf := (meas_wf d).2.2.2
  by_cases h1 : hexp d = true
  · have e : meas d = ⟨16, (d.drop 2).take (cnt 16 (d.drop 2)), [], 2 + cnt 16 (d.drop 2)⟩ := by unfold meas; rw [if_pos h1]
    have hk := hexp_len h1
    have hh : hexp (d.take (2 + cnt 16 (d.drop 2))) = true := by
      obtain ⟨h0, h1, h2⟩ := of_decide_eq_true h1
      refine decide_eq_true ⟨by rw [List.getElem?_take_of_lt (by omega)]; exact h0, by rw [List.getElem?_take_of_lt (by omega)]; exact h1, ?_⟩
      rw [List.drop_take, cnt_tk]; omega
    rw [e]
    show meas (d.take (2 + cnt 16 (d.drop 2))) = _
    unfold meas
    rw [if_pos hh, List.drop_take, cnt_tk, show 2 + cnt 16 (d.drop 2) - 2 = cnt 16 (d.drop 2) by omega, List.take_take, Nat.min_self, Nat.min_self]
  have h1f : ∀ k, ¬ hexp (d.take k) = true := fun k h => h1 (hexp_tk h)
  by_cases h2 : frac d = true
  · have hn := frac_len h2
    obtain ⟨g0, g1, g2⟩ := of_decide_eq_true h2
    have e : meas d = ⟨10, d.take (cnt 10 d), (d.drop (cnt 10 d + 1)).take (cnt 10 (d.drop (cnt 10 d + 1))), cnt 10 d + 1 + cnt 10 (d.drop (cnt 10 d + 1))⟩ := by unfold meas; rw [if_neg h1, if_pos h2]
    rw [e]
    show meas (d.take (cnt 10 d + 1 + cnt 10 (d.drop (cnt 10 d + 1)))) = _
    have hc : cnt 10 (d.take (cnt 10 d + 1 + cnt 10 (d.drop (cnt 10 d + 1)))) = cnt 10 d := by rw [cnt_tk]; omega
    have hd : (d.take (cnt 10 d + 1 + cnt 10 (d.drop (cnt 10 d + 1)))).drop (cnt 10 d + 1) = (d.drop (cnt 10 d + 1)).take (cnt 10 (d.drop (cnt 10 d + 1))) := by
      rw [List.drop_take]; congr 1; omega
    have hh : frac (d.take (cnt 10 d + 1 + cnt 10 (d.drop (cnt 10 d + 1)))) = true := by
      refine decide_eq_true ?_
      rw [hc, hd, cnt_tk, Nat.min_self]
      exact ⟨g0, by rw [List.getElem?_take_of_lt (by omega)]; exact g1, g2⟩
    unfold meas
    rw [if_neg (h1f _), if_pos hh, hc, hd, cnt_tk, Nat.min_self, List.take_take, List.take_take, Nat.min_self, show min (cnt 10 d) (cnt 10 d + 1 + cnt 10 (d.drop (cnt 10 d + 1))) = cnt 10 d by omega]
  · have e : meas d = ⟨10, d.take (cnt 10 d), [], cnt 10 d⟩ := by unfold meas; rw [if_neg h1, if_neg h2]
    rw [e]
    show meas (d.take (cnt 10 d)) = _
    have hc : cnt 10 (d.take (cnt 10 d)) = cnt 10 d := by rw [cnt_tk]; omega
    have hh : ¬ frac (d.take (cnt 10 d)) = true := fun h => by
      have := frac_len h
      rw [hc, List.length_take] at this; omega
    unfold meas
    rw [if_neg (h1f _), if_neg hh, hc, List.take_take, Nat.min_self]
theorem numL_tk {d : List UInt8} (h : (numL d 0).2.1 = 0) : numL (d.take (numL d 0).2.2) 0 = numL d 0 ∧ 0 < (numL d 0).2.2 ∧ (numL d 0).2.2 ≤ d.length ∧ (numL d 0).1 = d.take (numL d 0).2.2 := by
  have hf := (meas_wf d).2.2.2
  have key : (meas d).fin ≠ 0 ∧ numL d 0 = (d.take (meas d).fin, 0, (meas d).fin) ∧ (numR (meas d)).E = 0 := by
    unfold numL at h ⊢
    rw [scanR_form d 0 (Nat.zero_le _), List.drop_zero] at h ⊢
    generalize meas d = m at *
    by_cases h0 : m.fin = 0
    · simp only [if_pos h0] at h; rw [if_pos ne40] at h; exact absurd h ne40
    simp only [if_neg h0] at h ⊢
    by_cases h1 : (numR m).E = 0
    · simp only [if_pos h1] at h ⊢
      have e2 : (((0 : Nat) : Int) + (m.fin : Int)).toNat = m.fin := by omega
      simp only [ne_eq, not_true_eq_false, if_false, e2] at h ⊢
      by_cases h2 : 0 < cntP wrd (d.drop m.fin)
      · rw [if_pos h2] at h; exact absurd h ne40
      · rw [if_neg h2]; exact ⟨h0, rfl, h1⟩
    · simp only [if_neg h1] at h; rw [if_pos h1] at h; exact absurd h h1
  obtain ⟨k0, k1, k2⟩ := key
  rw [k1]
  refine ⟨?_, by show 0 < (meas d).fin; omega, hf, rfl⟩
  show numL (d.take (meas d).fin) 0 = _
  unfold numL
  rw [scanR_form _ 0 (Nat.zero_le _), List.drop_zero, meas_tk]
  have e2 : (((0 : Nat) : Int) + ((meas d).fin : Int)).toNat = (meas d).fin := by omega
  simp only [if_neg k0, if_pos k2, ne_eq, not_true_eq_false, if_false, e2]
  rw [List.drop_eq_nil_of_le (by rw [List.length_take]; omega), if_neg (by simp [cntP]), List.take_take, Nat.sub_zero, Nat.min_self]
theorem symD_sym {l : List UInt8} {j : Nat} (h : 0 < symD l j) : sym (l.take (symD l j)) = true := by
  induction j with
  | zero => simp [symD] at h
  | succ j ih =>
    unfold symD at h ⊢
    by_cases hs : sym (l.take (j + 1)) = true
    · rw [if_pos hs]; exact hs
    · rw [if_neg hs] at h ⊢; exact ih h
theorem symN_tk {d : List UInt8} (h : 0 < symN d) : symN (d.take (symN d)) = symN d := by
  have h1 := symD_sym (l := d) (j := min 3 d.length) h
  have h2 : symN d ≤ min 3 d.length := symD_le d _
  have h1' : sym (d.take (symN d)) = true := h1
  generalize symN d = n at *
  unfold symN
  rw [List.length_take, show min 3 (min n d.length) = n by omega]
  exact symD_yes h (by rw [List.take_take, Nat.min_self]; exact h1')
/-- A kind and a text of a token. -/
def VT (K : Int) (x : List UInt8) : Prop := (K = 4 ∧ x.length ≤ 4096) ∨ (K ≠ 4 ∧ x ≠ [] ∧ ¬ (x.getD 0 0 = 34 ∨ x.getD 0 0 = 39) ∧ tkD x = ⟨K, x, 0, x.length⟩)
theorem litF_len (q : UInt8) (f : Nat) : ∀ (l acc : List UInt8) (k : Nat), acc.length ≤ 4096 → (litF q f l acc k).1.length ≤ 4096 := by
  induction f with
  | zero => intro l acc k h; exact Nat.zero_le _
  | succ f ih =>
    intro l acc k h
    match l with
    | [] => exact Nat.zero_le _
    | c :: t =>
      rw [litF_step]
      split
      · exact Nat.zero_le _
      split
      · exact h
      split
      · split
        · exact Nat.zero_le _
        split
        · exact Nat.zero_le _
        · exact ih _ _ _ (by simp; omega)
      · split
        · exact Nat.zero_le _
        · exact ih _ _ _ (by simp; omega)
theorem getD_take0 {d : List UInt8} {n : Nat} (hn : 0 < n) : (d.take n).getD 0 0 = d.getD 0 0 := by
  rw [List.getD_eq_getElem?_getD, List.getD_eq_getElem?_getD, List.getElem?_take_of_lt hn]
theorem tkD_VT {d : List UInt8} (hd : d ≠ []) (h : (tkD d).E = 0) : VT (tkD d).K (tkD d).x := by
  have hb := tkD_nx hd h
  by_cases hq : d.getD 0 0 = 34 ∨ d.getD 0 0 = 39
  · left
    unfold tkD tkR
    rw [if_pos hq]
    exact ⟨rfl, litF_len _ _ _ _ _ (Nat.zero_le _)⟩
  right
  have e : tkD d = tokP d 0 (d.getD 0 0) := by unfold tkD tkR; rw [if_neg hq]
  rw [e] at h hb ⊢
  have main : ∀ (K : Int) (n : Nat), 0 < n → n ≤ d.length → K ≠ 4 → tokP d 0 (d.getD 0 0) = ⟨K, d.take n, 0, n⟩ → tokP (d.take n) 0 (d.getD 0 0) = ⟨K, d.take n, 0, n⟩ → 
      (tokP d 0 (d.getD 0 0)).K ≠ 4 ∧ (tokP d 0 (d.getD 0 0)).x ≠ [] ∧ ¬ ((tokP d 0 (d.getD 0 0)).x.getD 0 0 = 34 ∨ (tokP d 0 (d.getD 0 0)).x.getD 0 0 = 39) ∧ tkD (tokP d 0 (d.getD 0 0)).x = ⟨(tokP d 0 (d.getD 0 0)).K, (tokP d 0 (d.getD 0 0)).x, 0, (tokP d 0 (d.getD 0 0)).x.length⟩ := by
    intro K n hn hnl hK e1 e2
    rw [e1]
    have hl : (d.take n).length = n := by rw [List.length_take]; omega
    refine ⟨hK, fun e0 => ?_, ?_, ?_⟩
    · rw [show d.take n = [] from e0] at hl; simp at hl; omega
    · show ¬ ((d.take n).getD 0 0 = 34 ∨ (d.take n).getD 0 0 = 39)
      rw [getD_take0 hn]; exact hq
    · show tkD (d.take n) = ⟨K, d.take n, 0, (d.take n).length⟩
      unfold tkD tkR
      rw [getD_take0 hn, if_neg hq, e2, hl]
  unfold tokP at h hb
  by_cases h1 : dgt (d.getD 0 0) = true
  · rw [if_pos h1] at h hb
    obtain ⟨a1, a2, a3, a4⟩ := numL_tk (d := d) h
    refine main 3 (numL d 0).2.2 a2 a3 (by decide) ?_ ?_
    · unfold tokP; rw [if_pos h1]; unfold nuR; rw [← a4, show (numL d 0).2.1 = 0 from h]
    · unfold tokP; rw [if_pos h1]; unfold nuR; rw [a1, ← a4, show (numL d 0).2.1 = 0 from h]
  rw [if_neg h1] at h hb
  by_cases h2 : wrd (d.getD 0 0) = true
  · rw [if_pos h2] at h hb
    unfold namR at h hb
    rw [List.drop_zero] at h hb
    by_cases h3 : 40 < cntP wrd d
    · rw [if_pos h3] at h; exact absurd h ne30
    rw [if_neg h3] at hb
    refine main (if key (d.take (cntP wrd d)) = true then 2 else 1) (cntP wrd d) (by simpa using hb.1) (by simpa using hb.2) (by split <;> decide) ?_ ?_
    · unfold tokP; rw [if_neg h1, if_pos h2]; unfold namR; rw [List.drop_zero, if_neg h3, Nat.zero_add]
    · unfold tokP; rw [if_neg h1, if_pos h2]; unfold namR; rw [List.drop_zero, cntP_tk, Nat.min_self, if_neg h3, Nat.zero_add, List.take_take, Nat.min_self]
  rw [if_neg h2] at h hb
  have h4 : symE (d.drop 0) = 0 := h
  rw [List.drop_zero] at h4
  have h5 : 0 < symN d := by
    unfold symE at h4
    by_cases h0 : symN d = 0
    · rw [if_pos h0] at h4; exact absurd h4 ne40
    · omega
  have h6 : symN d ≤ d.length := by have := symD_le d (min 3 d.length); unfold symN; omega
  refine main 5 (symN d) h5 h6 (by decide) ?_ ?_
  · unfold tokP; rw [if_neg h1, if_neg h2]; unfold symR; rw [List.drop_zero, h4, Nat.zero_add]
  · unfold tokP; rw [if_neg h1, if_neg h2]; unfold symR symE; rw [List.drop_zero, symN_tk h5, if_neg (by omega), Nat.zero_add, List.take_take, Nat.min_self]
theorem lx_VT (n : Nat) : ∀ (d : List UInt8) (a ln : Nat), d.length < n → ∀ t ∈ (lx d a ln).1, VT t.k t.x := by
  induction n with
  | zero => intro d a ln h; omega
  | succ n ih =>
    intro d a ln hn
    rw [lx_eq]
    by_cases h0 : (sk d).1 = d.length
    · rw [if_pos h0]; intro t ht; cases ht
    rw [if_neg h0]
    by_cases h1 : (tkE d).E = 0
    · have hb := tkE_nx h0 h1
      have hs := (sk_le d).2
      rw [if_pos h1]
      unfold cmb
      split
      · intro t ht
        rcases List.mem_cons.1 ht with rfl | ht
        · exact tkD_VT (by intro e; have := congrArg List.length e; rw [List.length_drop] at this; simp at this; omega) h1
        · exact ih _ _ _ (by simp only [List.length_drop]; omega) t ht
      · intro t ht; cases ht
    · rw [if_neg h1]; intro t ht; cases ht
def txt (K : Int) (x : List UInt8) : List UInt8 := if K = 4 then qt x else x
/-- What stands behind a token in a joined text. -/
def Rest (r : List UInt8) : Prop := r = [] ∨ ∃ y, r = 32 :: y
theorem VT_tk {K : Int} {x r : List UInt8} (h : VT K x) (hr : Rest r) : tkD (txt K x ++ r) = ⟨K, x, 0, (txt K x).length⟩ := by
  rcases h with ⟨rfl, hl⟩ | ⟨hK, hx, hq, e⟩
  · have : txt 4 x = qt x := if_pos rfl
    rw [this]
    have hg : (qt x ++ r).getD 0 0 = 34 := rfl
    unfold tkD tkR
    rw [hg, if_pos (Or.inl rfl)]
    have e : litR (qt x ++ r) 0 34 = (x, (qt x).length, 0) := by
      unfold litR
      have hd : (qt x ++ r).drop (0 + 1) = x.flatMap qb ++ 34 :: r := by simp [qt]
      rw [hd, lit_qt x r [] (0 + 1) _ (by simp [qt]; omega) (by simpa using hl)]
      simp only [List.nil_append, qt, List.length_cons, List.length_append, List.length_nil]
      congr 2; omega
    rw [e]
  · have : txt K x = x := if_neg hK
    rw [this]
    rcases hr with rfl | ⟨y, rfl⟩
    · rw [List.append_nil]; exact e
    · rw [tkD_sep sep32 y hx hq]; exact e
theorem blank_E (c : UInt8) (t : List UInt8) (h : has blL c = true) : (tkD (c :: t)).E = 4 := by
  have hc : c = 32 ∨ c = 9 ∨ c = 10 ∨ c = 13 := by
    unfold has blL at h; simpa using h
  have hs : symN (c :: t) = 0 := by
    unfold symN
    have key : ∀ j, symD (c :: t) j = 0 := by
      intro j
      induction j with
      | zero => rfl
      | succ j ih =>
        rw [symD_no, ih]
        rw [List.take_succ_cons]
        cases hs : sym (c :: t.take j) with
        | false => rfl
        | true =>
          unfold sym at hs
          obtain ⟨k, hk, e⟩ := List.any_eq_true.1 hs
          have hh : k.headD 0 = c := by rw [← eq_of_beq e]; rfl
          have : ((symsL.map fun k => k.headD 0).contains c) = true := by
            rw [List.contains_iff_mem]; rw [← hh]; exact List.mem_map_of_mem hk
          rcases hc with rfl | rfl | rfl | rfl <;> exact absurd this (by decide)
    exact key _
  unfold tkD tkR
  have hg : (c :: t).getD 0 0 = c := rfl
  rw [hg, if_neg (by rcases hc with rfl | rfl | rfl | rfl <;> decide)]
  unfold tokP
  rw [if_neg (by rcases hc with rfl | rfl | rfl | rfl <;> decide), if_neg (by rcases hc with rfl | rfl | rfl | rfl <;> decide)]
  show symE ((c :: t).drop 0) = 4
  unfold symE
  rw [List.drop_zero, if_pos hs]
theorem minus_tk (t : List UInt8) : (tkD (45 :: 45 :: t)).nx = 1 := by
  have hs : symN (45 :: 45 :: t) = 1 := by
    unfold symN
    match t with
    | [] => decide
    | e :: t =>
      show symD (45 :: 45 :: e :: t) (min 3 (t.length + 3)) = 1
      rw [show min 3 (t.length + 3) = 3 by omega, symD_no, symD_no (by show sym [45, 45] = false; decide)]
      · exact symD_yes (by decide) (by show sym [45] = true; decide)
      · show sym [45, 45, e] = false
        cases h : sym [45, 45, e] with
        | false => rfl
        | true =>
          unfold sym at h
          obtain ⟨k, hk, e'⟩ := List.any_eq_true.1 h
          have : (symsL.any fun k => k.take 2 == [45, 45]) = true := List.any_eq_true.2 ⟨k, hk, by rw [← eq_of_beq e']; rfl⟩
          exact absurd this (by decide)
  unfold tkD tkR
  have hg : (45 :: 45 :: t).getD 0 0 = 45 := rfl
  rw [hg, if_neg (by decide)]
  unfold tokP
  rw [if_neg (by decide), if_neg (by decide)]
  show 0 + symN ((45 :: 45 :: t).drop 0) = 1
  rw [List.drop_zero, hs]
theorem VT_sk {K : Int} {x r : List UInt8} (h : VT K x) (hr : Rest r) : sk (txt K x ++ r) = (0, 0) ∧ 0 < (txt K x).length := by
  have e := VT_tk h hr
  rcases h with ⟨rfl, hl⟩ | ⟨hK, hx, hq, e0⟩
  · have : txt 4 x = qt x := if_pos rfl
    rw [this]
    exact ⟨sk_zero (by decide) (by decide), by simp [qt]⟩
  · have : txt K x = x := if_neg hK
    rw [this] at e ⊢
    refine ⟨?_, List.length_pos_iff.2 hx⟩
    rcases text_cases (x ++ r) with h | ⟨c, t, h, hc⟩ | ⟨t, h⟩ | ⟨c, t, h, hc, hp⟩
    · exact absurd (List.append_eq_nil_iff.1 h).1 hx
    · have := blank_E c t hc
      rw [← h, e] at this
      exact absurd this (by show (0 : Int) ≠ 4; decide)
    · exfalso
      have hn := minus_tk t
      rw [← h, e] at hn
      have hn' : x.length = 1 := hn
      match x, hn' with
      | [a], _ =>
        rcases hr with rfl | ⟨y, rfl⟩
        · cases h
        · have := congrArg (fun l => l.getD 1 0) h
          exact absurd this (by show (32 : UInt8) ≠ 45; decide)
    · rw [h] at hp ⊢
      exact sk_non hc hp
/-- The joined text of tokens. -/
def jnT : List Tok → List UInt8
  | [] => []
  | [t] => txt t.k t.x
  | t :: u :: ts => txt t.k t.x ++ 32 :: jnT (u :: ts)
theorem lx_nil (a ln : Nat) : lx [] a ln = ([], 0, 0) := by rw [lx_eq, if_pos (by rw [sk_nil]; rfl)]
theorem lx_sp (y : List UInt8) (a ln : Nat) : lx (32 :: y) a ln = lx y (a + 1) ln := by
  rw [lx_eq, lx_eq y]
  have hs := sk_bl (c := 32) y (by decide)
  rw [if_neg (by decide), Nat.zero_add] at hs
  have et : tkE (32 :: y) = tkE y := by unfold tkE; rw [hs]; show tkD ((32 :: y).drop (1 + _)) = _; rw [Nat.add_comm, List.drop_succ_cons]
  rw [et, hs, List.length_cons]
  by_cases h0 : (sk y).1 = y.length
  · rw [if_pos (by show 1 + _ = _; omega), if_pos h0]
  rw [if_neg (by show ¬ 1 + _ = _; omega), if_neg h0]
  have ed : (32 :: y).drop (1 + (sk y).1) = y.drop (sk y).1 := by rw [Nat.add_comm, List.drop_succ_cons]
  show (if (tkE y).E = 0 then cmb ⟨_, _, _, a + (1 + (sk y).1)⟩ (lx (((32 :: y).drop (1 + (sk y).1)).drop _) (a + (1 + (sk y).1) + _) _) else _) = _
  rw [ed, show a + (1 + (sk y).1) = a + 1 + (sk y).1 by omega]
theorem lx_one {K : Int} {x r : List UInt8} (h : VT K x) (hr : Rest r) (a ln : Nat) : lx (txt K x ++ r) a ln = cmb ⟨K, x, ln, a⟩ (lx r (a + (txt K x).length) ln) := by
  obtain ⟨hs, hp⟩ := VT_sk h hr
  have e : tkE (txt K x ++ r) = ⟨K, x, 0, (txt K x).length⟩ := by unfold tkE; rw [hs]; exact VT_tk h hr
  rw [lx_eq, hs, e, if_neg (by simp; omega), if_pos rfl]
  show cmb ⟨K, x, ln + 0, a + 0⟩ (lx (((txt K x ++ r).drop 0).drop (txt K x).length) (a + 0 + _) (ln + 0)) = _
  rw [List.drop_zero, List.drop_left]; rfl
def kx (t : Tok) : Int × List UInt8 := (t.k, t.x)
/-- Joined tokens are read again. -/
theorem lx_join (ts : List Tok) : ∀ (a ln : Nat), (∀ t ∈ ts, VT t.k t.x) → ∃ us, lx (jnT ts) a ln = (us, 0, 0) ∧ us.map kx = ts.map kx ∧ ∀ u ∈ us, u.ln = ln := by
  induction ts with
  | nil => intro a ln _; exact ⟨[], lx_nil a ln, rfl, fun u h => by cases h⟩
  | cons t ts ih =>
    intro a ln h
    have ht := h t (List.mem_cons_self ..)
    match ts, ih with
    | [], _ =>
      have e := lx_one ht (.inl rfl) a ln
      rw [List.append_nil, lx_nil] at e
      refine ⟨[⟨t.k, t.x, ln, a⟩], ?_, rfl, fun u hu => ?_⟩
      · show lx (txt t.k t.x) a ln = _
        rw [e]; rfl
      · rw [List.mem_singleton.1 hu]
    | u :: ts, ih =>
      obtain ⟨us, e1, e2, e3⟩ := ih (a + (txt t.k t.x).length + 1) ln (fun v hv => h v (List.mem_cons_of_mem _ hv))
      have e := lx_one ht (.inr ⟨jnT (u :: ts), rfl⟩) a ln
      rw [lx_sp, e1] at e
      refine ⟨⟨t.k, t.x, ln, a⟩ :: us, ?_, ?_, fun v hv => ?_⟩
      · show lx (txt t.k t.x ++ 32 :: jnT (u :: ts)) a ln = _
        rw [e]; rfl
      · rw [List.map_cons, e2]; rfl
      · rcases List.mem_cons.1 hv with rfl | hv
        · rfl
        · exact e3 v hv
end Go.Proofs.YtbcbddglgfakpaaDoor
