/- The literal of a text is read as this text. -/
import Derived.Test.YtbcbddglgfakpaaDoorLexUb
import Derived.Test.YtbcbddglgfakpaaDoorLexQ
namespace Go.Proofs.YtbcbddglgfakpaaDoor
open Go.RowKit Go.Joins M1 M2 M3
set_option linter.unusedVariables false
theorem esc_dig (c : UInt8) (t : List UInt8) : escR ((48 + c / 100) :: (48 + c / 10 % 10) :: (48 + c % 10) :: t) = (c.toNat, 3, 0) := by
  have h1 := dq1 c
  have h2 := dq2 c
  have h3 := dq3 c
  have hc : c.toNat < 256 := c.toNat_lt
  generalize 48 + c / 100 = a at *
  generalize 48 + c / 10 % 10 = b at *
  generalize 48 + c % 10 = d at *
  have da : dgt a = true := decide_eq_true (by omega)
  have db : dgt b = true := decide_eq_true (by omega)
  have dd : dgt d = true := decide_eq_true (by omega)
  have hn : dn (a :: b :: d :: t) = 3 := by
    unfold dn
    show cntP dgt [a, b, d] = 3
    rw [cntP_yes da, cntP_yes db, cntP_yes dd]; rfl
  have hv : decV (a :: b :: d :: t) = c.toNat := by
    unfold decV
    rw [hn]
    show ((0 * 10 + (a.toNat - 48)) * 10 + (b.toNat - 48)) * 10 + (d.toNat - 48) = c.toNat
    omega
  unfold escR
  simp only []
  rw [if_pos da, hv, hn, if_pos (by omega)]
theorem of_to (c : UInt8) : UInt8.ofNat c.toNat = c := by simp
/-- An element of a literal is read as its byte. -/
theorem lit_el (c : UInt8) (t acc : List UInt8) (k f : Nat) (hf : (qb c ++ t).length < f) (ha : acc.length < 4096) :
    ∃ g, t.length < g ∧ litF 34 f (qb c ++ t) acc k = litF 34 g t (acc ++ [c]) (k + (qb c).length) := by
  obtain ⟨f, rfl⟩ : ∃ f', f = f' + 1 := ⟨f - 1, by omega⟩
  have n4 : ¬ 4096 ≤ acc.length := by omega
  have esc : ∀ (e : List UInt8) (m : Nat), escR (e ++ t) = (c.toNat, m, 0) → m = e.length → qb c = 92 :: e → ∃ g, t.length < g ∧ litF 34 (f + 1) (qb c ++ t) acc k = litF 34 g t (acc ++ [c]) (k + (qb c).length) := by
    intro e m he hm hq
    rw [hq, List.cons_append] at hf ⊢
    refine ⟨f, by simp at hf; omega, ?_⟩
    rw [litF_step, if_neg (by decide), if_neg (by decide), if_pos rfl, he]
    simp only [ne_eq, not_true_eq_false, if_false]
    rw [if_neg n4, hm, List.drop_left, of_to, List.length_cons]
    congr 1; omega
  by_cases h1 : c = 10
  · subst h1; exact esc [110] 1 rfl rfl rfl
  by_cases h2 : c = 9
  · subst h2; exact esc [116] 1 rfl rfl rfl
  by_cases h3 : c = 92
  · subst h3; exact esc [92] 1 rfl rfl rfl
  by_cases h4 : c = 34
  · subst h4; exact esc [34] 1 rfl rfl rfl
  by_cases h5 : c.toNat < 32 ∨ 126 < c.toNat
  · exact esc [48 + c / 100, 48 + c / 10 % 10, 48 + c % 10] 3 (esc_dig c t) rfl (by unfold qb; rw [if_neg h1, if_neg h2, if_neg (by rintro (h | h); exact h3 h; exact h4 h), if_pos h5])
  · have hq : qb c = [c] := by unfold qb; rw [if_neg h1, if_neg h2, if_neg (by rintro (h | h); exact h3 h; exact h4 h), if_neg h5]
    rw [hq] at hf ⊢
    refine ⟨f, by simp at hf; omega, ?_⟩
    show litF 34 (f + 1) (c :: t) acc k = _
    rw [litF_step, if_neg h1, if_neg h4, if_neg h3, if_neg n4]
    rfl
theorem lit_qt (l : List UInt8) : ∀ (r acc : List UInt8) (k f : Nat), (l.flatMap qb ++ 34 :: r).length < f → acc.length + l.length ≤ 4096 →
    litF 34 f (l.flatMap qb ++ 34 :: r) acc k = (acc ++ l, k + (l.flatMap qb).length + 1, 0) := by
  induction l with
  | nil =>
    intro r acc k f hf ha
    obtain ⟨f, rfl⟩ : ∃ f', f = f' + 1 := ⟨f - 1, by omega⟩
    show litF 34 (f + 1) (34 :: r) acc k = _
    rw [litF_step, if_neg (by decide), if_pos rfl]
    simp
  | cons c t ih =>
    intro r acc k f hf ha
    rw [List.length_cons] at ha
    rw [List.flatMap_cons, List.append_assoc] at hf ⊢
    obtain ⟨g, hg, e⟩ := lit_el c (t.flatMap qb ++ 34 :: r) acc k f hf (by omega)
    rw [e, ih r (acc ++ [c]) _ g hg (by simp; omega)]
    rw [List.append_assoc, List.length_append]
    simp only [List.cons_append, List.nil_append]
    congr 2; omega
theorem lit_quote (l : List UInt8) (h : l.length ≤ 4096) : tkR (qt l) 0 = ⟨4, l, 0, (qt l).length⟩ := by
  have hg : (qt l).getD 0 0 = 34 := rfl
  unfold tkR
  rw [hg, if_pos (Or.inl rfl)]
  have e : litR (qt l) 0 34 = (l, (qt l).length, 0) := by
    unfold litR
    have hd : (qt l).drop (0 + 1) = l.flatMap qb ++ 34 :: [] := rfl
    rw [hd, lit_qt l [] [] (0 + 1) _ (by simp [qt]) (by simpa using h)]
    simp only [List.nil_append, qt, List.length_cons, List.length_append, List.length_nil]
    congr 2; omega
  rw [e]
theorem lex_quote (l : List UInt8) (h : l.length ≤ 4096) : lexR (qt l) = ([⟨4, l, 1, 0⟩], 0, 0) :=
  lex_one (by simp [qt]) (sk_zero (by decide) (by decide)) (lit_quote l h)
end Go.Proofs.YtbcbddglgfakpaaDoor
