/- Plain mathematics of the texts of numbers: no Go in sight. -/
import Derived.Test.YtibggoikjlnnkaaDoorMath
import Derived.Lib.ItoaNum
namespace Go.Proofs.YtibggoikjlnnkaaDoor.M2
open M1

/-- The value of a digit, or -1. -/
def dg (n : Int) : Int := if 48 ≤ n ∧ n ≤ 57 then n - 48 else if 97 ≤ n ∧ n ≤ 102 then n - 87 else if 65 ≤ n ∧ n ≤ 70 then n - 55 else -1
def dgB (c : UInt8) : Int := dg (c.toNat : Int)
def rdg (n : Int) : Int := if dg n < 0 then 99 else dg n
theorem dg_lo (n : Int) : -1 ≤ dg n := by unfold dg; repeat' split
                                          all_goals omega
theorem dg_hi (n : Int) : dg n ≤ 15 := by unfold dg; repeat' split
                                          all_goals omega
theorem dg_a {n : Int} (h : 48 ≤ n ∧ n ≤ 57) : dg n = n - 48 := by unfold dg; rw [if_pos h]
theorem dg_b {n : Int} (h : 97 ≤ n ∧ n ≤ 102) : dg n = n - 87 := by unfold dg; rw [if_neg (by omega), if_pos h]
theorem dg_c {n : Int} (h : 65 ≤ n ∧ n ≤ 70) : dg n = n - 55 := by unfold dg; rw [if_neg (by omega), if_neg (by omega), if_pos h]
theorem dg_d {n : Int} (h1 : ¬ (48 ≤ n ∧ n ≤ 57)) (h2 : ¬ (97 ≤ n ∧ n ≤ 102)) (h3 : ¬ (65 ≤ n ∧ n ≤ 70)) : dg n = -1 := by unfold dg; rw [if_neg h1, if_neg h2, if_neg h3]
theorem rdg_neg {n : Int} (h : dg n < 0) : rdg n = 99 := if_pos h
theorem rdg_pos {n : Int} (h : 0 ≤ dg n) : rdg n = dg n := if_neg (by omega)
theorem rdg_lo (n : Int) : 0 ≤ rdg n := by unfold rdg; split <;> omega
theorem rdg_hi (n : Int) : rdg n ≤ 99 := by have := dg_hi n; unfold rdg; split <;> omega

/-- A digit of a base. -/
def isd (b : Int) (c : UInt8) : Bool := decide (0 ≤ dgB c ∧ dgB c < b)
theorem isd_yes {b : Int} {c : UInt8} : isd b c = true ↔ 0 ≤ dgB c ∧ dgB c < b := by unfold isd; exact decide_eq_true_iff
theorem isd_no {b : Int} {c : UInt8} : isd b c = false ↔ dgB c < 0 ∨ b ≤ dgB c := by unfold isd; rw [decide_eq_false_iff_not]; omega
/-- The number of digits with which a text begins. -/
def cnt (b : Int) : List UInt8 → Nat
  | [] => 0
  | c :: cs => if isd b c = true then cnt b cs + 1 else 0
theorem cnt_le (b : Int) (l : List UInt8) : cnt b l ≤ l.length := by
  induction l with
  | nil => exact Nat.le_refl _
  | cons c cs ih => unfold cnt; split <;> simp <;> omega
theorem cnt_yes {b : Int} {c : UInt8} {cs : List UInt8} (h : isd b c = true) : cnt b (c :: cs) = cnt b cs + 1 := if_pos h
theorem cnt_no {b : Int} {c : UInt8} {cs : List UInt8} (h : isd b c = false) : cnt b (c :: cs) = 0 := if_neg (by simp [h])
def alld (b : Int) (l : List UInt8) : Prop := ∀ c ∈ l, isd b c = true
theorem cnt_all {b : Int} {l : List UInt8} : cnt b l = l.length ↔ alld b l := by
  induction l with
  | nil => simp [cnt, alld]
  | cons c cs ih =>
    have hl := cnt_le b cs
    cases h : isd b c with
    | true => rw [cnt_yes h]; simp only [List.length_cons, Nat.add_right_cancel_iff, ih, alld, List.mem_cons, forall_eq_or_imp, h, true_and]
    | false => rw [cnt_no h]; simp [alld, h]
theorem cnt_take (b : Int) (l : List UInt8) : alld b (l.take (cnt b l)) := by
  induction l with
  | nil => simp [alld]
  | cons c cs ih =>
    cases h : isd b c with
    | true =>
      rw [cnt_yes h, List.take_succ_cons]
      intro x hx
      rcases List.mem_cons.1 hx with rfl | hx
      · exact h
      · exact ih x hx
    | false => rw [cnt_no h]; simp [alld]
theorem cnt_app_all {b : Int} {l m : List UInt8} (h : alld b l) : cnt b (l ++ m) = l.length + cnt b m := by
  induction l with
  | nil => simp
  | cons c cs ih =>
    have h1 : isd b c = true := h c (List.mem_cons_self ..)
    rw [List.cons_append, cnt_yes h1, ih (fun x hx => h x (List.mem_cons_of_mem _ hx)), List.length_cons]; omega
theorem cnt_at {b : Int} {l : List UInt8} (k : Nat) (h : k = cnt b l) (hk : k < l.length) : isd b l[k] = false := by
  induction l generalizing k with
  | nil => simp at hk
  | cons c cs ih =>
    cases hc : isd b c with
    | true =>
      rw [cnt_yes hc] at h
      obtain ⟨j, rfl⟩ : ∃ j, k = j + 1 := ⟨k - 1, by omega⟩
      simp only [List.getElem_cons_succ]
      exact ih j (by omega) (by simpa using hk)
    | false =>
      rw [cnt_no hc] at h; subst h; exact hc

/-- The integer with these digits put behind n, if it is at most 2^62. -/
def jn (b : Int) : Int → List UInt8 → Option Int
  | n, [] => some n
  | n, c :: cs => if (4611686018427387904 - dgB c).tdiv b < n then none else jn b (n * b + dgB c) cs
theorem jn_no {b n : Int} {c : UInt8} {cs : List UInt8} (h : (4611686018427387904 - dgB c).tdiv b < n) : jn b n (c :: cs) = none := if_pos h
theorem jn_yes {b n : Int} {c : UInt8} {cs : List UInt8} (h : ¬ (4611686018427387904 - dgB c).tdiv b < n) : jn b n (c :: cs) = jn b (n * b + dgB c) cs := if_neg h
theorem jn_app (b n : Int) (l m : List UInt8) : jn b n (l ++ m) = (jn b n l).bind fun k => jn b k m := by
  induction l generalizing n with
  | nil => rfl
  | cons c cs ih =>
    rw [List.cons_append]
    by_cases h : (4611686018427387904 - dgB c).tdiv b < n
    · rw [jn_no h, jn_no h]; rfl
    · rw [jn_yes h, jn_yes h, ih]
theorem jn_step {b n d : Int} (hb : 2 ≤ b) (hd : 0 ≤ d) (hd2 : d ≤ 4611686018427387904) : ¬ (4611686018427387904 - d).tdiv b < n ↔ n * b + d ≤ 4611686018427387904 := by
  rw [Int.tdiv_eq_ediv_of_nonneg (by omega), Int.not_lt, Int.le_ediv_iff_mul_le (by omega)]; omega
/-- the value of digits -/
def vl (b : Int) : Int → List UInt8 → Int
  | n, [] => n
  | n, c :: cs => vl b (n * b + dgB c) cs
theorem vl_app (b n : Int) (l m : List UInt8) : vl b n (l ++ m) = vl b (vl b n l) m := by
  induction l generalizing n with
  | nil => rfl
  | cons c cs ih => exact ih _
theorem vl_ge {b n : Int} {l : List UInt8} (hb : 2 ≤ b) (hn : 0 ≤ n) (h : alld b l) : n ≤ vl b n l := by
  induction l generalizing n with
  | nil => exact Int.le_refl _
  | cons c cs ih =>
    have hd := (isd_yes.1 (h c (List.mem_cons_self ..))).1
    have h1 : n * 2 ≤ n * b := Int.mul_le_mul_of_nonneg_left hb hn
    have := ih (n := n * b + dgB c) (by omega) (fun x hx => h x (List.mem_cons_of_mem _ hx))
    unfold vl; omega
/-- What join works out. -/
theorem jn_vl {b n : Int} {l : List UInt8} (hb : 2 ≤ b) (hn : 0 ≤ n) (hn2 : n ≤ 4611686018427387904) (h : alld b l) : jn b n l = if vl b n l ≤ 4611686018427387904 then some (vl b n l) else none := by
  induction l generalizing n with
  | nil => unfold jn vl; rw [if_pos hn2]
  | cons c cs ih =>
    have hd := isd_yes.1 (h c (List.mem_cons_self ..))
    have hd3 := dg_hi (c.toNat : Int)
    have h' : alld b cs := fun x hx => h x (List.mem_cons_of_mem _ hx)
    have h1 : n * 2 ≤ n * b := Int.mul_le_mul_of_nonneg_left hb hn
    have hs := jn_step (n := n) (d := dgB c) hb hd.1 (by unfold dgB; omega)
    by_cases hc : (4611686018427387904 - dgB c).tdiv b < n
    · rw [jn_no hc]
      have : ¬ n * b + dgB c ≤ 4611686018427387904 := fun hh => hs.2 hh hc
      have := vl_ge (n := n * b + dgB c) hb (by omega) h'
      unfold vl; rw [if_neg (by omega)]
    · rw [jn_yes hc, ih (by omega) (hs.1 hc) h']; rfl
theorem jn_bd {b n m : Int} {l : List UInt8} (hb : 2 ≤ b) (hn : 0 ≤ n) (hn2 : n ≤ 4611686018427387904) (h : alld b l) (hm : jn b n l = some m) : 0 ≤ m ∧ m ≤ 4611686018427387904 := by
  rw [jn_vl hb hn hn2 h] at hm
  have := vl_ge hb hn h
  split at hm
  · cases hm; omega
  · cases hm

/-- A numeral that was recognised. -/
structure Ms where
  B : Int
  whole : List UInt8
  behind : List UInt8
  fin : Nat
def hexp (l : List UInt8) : Bool := decide (l[0]? = some 48 ∧ (l[1]? = some 120 ∨ l[1]? = some 88) ∧ 0 < cnt 16 (l.drop 2))
def frac (l : List UInt8) : Bool := decide (0 < cnt 10 l ∧ l[cnt 10 l]? = some 46 ∧ 0 < cnt 10 (l.drop (cnt 10 l + 1)))
def meas (l : List UInt8) : Ms :=
  if hexp l = true then ⟨16, (l.drop 2).take (cnt 16 (l.drop 2)), [], 2 + cnt 16 (l.drop 2)⟩
  else if frac l = true then ⟨10, l.take (cnt 10 l), (l.drop (cnt 10 l + 1)).take (cnt 10 (l.drop (cnt 10 l + 1))), cnt 10 l + 1 + cnt 10 (l.drop (cnt 10 l + 1))⟩
  else ⟨10, l.take (cnt 10 l), [], cnt 10 l⟩
def numR (m : Ms) : R3 :=
  if 9 < m.behind.length then err 6 else
  match jn m.B 0 (m.whole ++ m.behind) with
  | none => err 6
  | some p => makeR p (10 ^ m.behind.length)
theorem meas_wf (l : List UInt8) : ((meas l).B = 10 ∨ (meas l).B = 16) ∧ alld (meas l).B (meas l).whole ∧ alld (meas l).B (meas l).behind ∧ (meas l).fin ≤ l.length := by
  unfold meas
  split
  · refine ⟨.inr rfl, cnt_take _ _, by simp [alld], ?_⟩
    rename_i h
    simp only [hexp, decide_eq_true_iff] at h
    have := cnt_le 16 (l.drop 2)
    simp at this ⊢; omega
  · split
    · refine ⟨.inl rfl, cnt_take _ _, cnt_take _ _, ?_⟩
      rename_i h
      simp only [frac, decide_eq_true_iff] at h
      have := cnt_le 10 (l.drop (cnt 10 l + 1))
      simp at this ⊢; omega
    · exact ⟨.inl rfl, cnt_take _ _, by simp [alld], cnt_le _ _⟩
end Go.Proofs.YtibggoikjlnnkaaDoor.M2
