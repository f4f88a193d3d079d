/- Names, keywords and literals as texts. -/
import Derived.Test.YtbcbddglgfakpaaDoorLexTa
import Derived.Test.YtbcbddglgfakpaaDoorLexV
namespace Go.Proofs.YtbcbddglgfakpaaDoor
open Go.RowKit Go.Joins M1 M2 M3
set_option linter.unusedVariables false
theorem sk_nil : sk [] = (0, 0) := by decide
/-- A text that begins with neither a blank nor a remark. -/
theorem sk_zero {c : UInt8} {t : List UInt8} (h1 : has blL c = false) (h2 : c ≠ 45) : sk (c :: t) = (0, 0) := by
  have h0 : cntP (has blL) (c :: t) = 0 := cntP_no h1
  rw [sk_no (by rw [h0, List.drop_zero]; unfold Lib.hasPrefix; simp [List.isPrefixOf]; intro h; exact absurd h.symm h2), h0]
  rfl
/-- A text that is one token. -/
theorem lex_one {l : List UInt8} {K : Int} {x : List UInt8} (h0 : 0 < l.length) (hs : sk l = (0, 0)) (ht : tkR l 0 = ⟨K, x, 0, l.length⟩) : lexR l = ([⟨K, x, 1, 0⟩], 0, 0) := by
  unfold lexR scT
  rw [hs]
  show scF (tkR l) l (l.length + 1) 0 (1 + 0) [] = _
  rw [scF, if_pos h0, ht]
  simp only [if_true]
  rw [List.drop_eq_nil_of_le (Nat.le_refl _), sk_nil]
  obtain ⟨f, hf⟩ : ∃ f, l.length = f + 1 := ⟨l.length - 1, by omega⟩
  rw [hf, scF, if_neg (by omega)]
  rfl
theorem word_props {c : UInt8} (h : wrd c = true) : has blL c = false ∧ c ≠ 45 ∧ c ≠ 34 ∧ c ≠ 39 := by
  have hw := of_decide_eq_true h
  have key : ∀ n : Nat, c.toNat ≠ n → n < 256 → c ≠ UInt8.ofNat n := fun n hn hl e => hn (by rw [e]; simp; omega)
  refine ⟨?_, key 45 (by omega) (by omega), key 34 (by omega) (by omega), key 39 (by omega) (by omega)⟩
  have k1 := key 32 (by omega) (by omega)
  have k2 := key 9 (by omega) (by omega)
  have k3 := key 10 (by omega) (by omega)
  have k4 := key 13 (by omega) (by omega)
  unfold has blL
  simp only [List.contains_cons, List.contains_nil, Bool.or_false, Bool.or_eq_false_iff, beq_eq_false_iff_ne]
  exact ⟨k1, k2, k3, k4⟩
theorem lex_word {l : List UInt8} (h0 : 0 < l.length) (h1 : l.length ≤ 40) (hd : dgt (l.headD 0) = false) (hc : cntP wrd l = l.length) : lexR l = ([⟨if key l = true then 2 else 1, l, 1, 0⟩], 0, 0) := by
  match l, h0 with
  | c :: t, _ =>
    have hw : wrd c = true := cntP_all.1 hc c (List.mem_cons_self ..)
    obtain ⟨p1, p2, p3, p4⟩ := word_props hw
    have hd' : dgt c = false := hd
    refine lex_one (by simp) (sk_zero p1 p2) ?_
    have hg : (c :: t).getD 0 0 = c := rfl
    unfold tkR
    rw [hg, if_neg (by rintro (h | h); exact p3 h; exact p4 h)]
    unfold tokP
    rw [if_neg (by simp [hd']), if_pos hw]
    unfold namR
    rw [List.drop_zero, hc, if_neg (by omega), List.take_length, Nat.zero_add]
theorem keys_all : (keysL.all fun k => decide (0 < k.length ∧ k.length ≤ 40 ∧ dgt (k.headD 0) = false ∧ cntP wrd k = k.length)) = true := by decide
theorem key_mem {l : List UInt8} (h : key l = true) : l ∈ keysL := by
  unfold key at h
  obtain ⟨k, hk, e⟩ := List.any_eq_true.1 h
  rw [eq_of_beq e]; exact hk
theorem lex_key {l : List UInt8} (h : key l = true) : lexR l = ([⟨2, l, 1, 0⟩], 0, 0) := by
  obtain ⟨h0, h1, h2, h3⟩ := of_decide_eq_true (List.all_eq_true.1 keys_all l (key_mem h))
  have := lex_word h0 h1 h2 h3
  rw [if_pos h] at this
  exact this
theorem lex_name {l : List UInt8} (h : nameB l = true) : lexR l = ([⟨1, l, 1, 0⟩], 0, 0) := by
  obtain ⟨h0, h1, h2, h3, h4⟩ := of_decide_eq_true h
  have := lex_word h0 h1 h2 h3
  rw [if_neg (by simp [h4])] at this
  exact this
end Go.Proofs.YtbcbddglgfakpaaDoor
