/- Layer 17: rotations of lists. -/
import Derived.Test.YtibggoikjlnnkaaDoorStV
namespace Go.Proofs.YtibggoikjlnnkaaDoor
set_option linter.unusedVariables false
/-- By how many places, from 0 on. -/
def rotN (n : Int) (m : Nat) : Nat := (n % (m : Int)).toNat
theorem rotN_lt {n : Int} {m : Nat} (hm : 0 < m) : rotN n m < m := by
  unfold rotN
  have h1 := Int.emod_nonneg n (show (m : Int) ≠ 0 by omega)
  have h2 := Int.emod_lt_of_pos n (show (0 : Int) < (m : Int) by omega)
  omega
theorem rotN_eq {n : Int} {m : Nat} (hm : 0 < m) : ((rotN n m : Nat) : Int) = n % (m : Int) := by
  unfold rotN
  have h1 := Int.emod_nonneg n (show (m : Int) ≠ 0 by omega)
  omega
theorem tmod_fix (n m : Int) (hm : 0 < m) : (if n.tmod m < 0 then n.tmod m + m else n.tmod m) = n % m := by
  have h1 : n.tmod m = n - m * n.tdiv m := by have := Int.tmod_add_mul_tdiv n m; omega
  have hlt : n.tmod m < m := Int.tmod_lt_of_pos n hm
  have hgt : -m < n.tmod m := by
    have := Int.tmod_lt_of_pos (-n) hm
    rw [Int.neg_tmod] at this; omega
  split
  · rename_i h
    have : (n.tmod m + m) % m = n % m := by
      rw [h1, show n - m * n.tdiv m + m = n + m * (1 - n.tdiv m) by rw [Int.mul_sub, Int.mul_one]; omega, Int.add_mul_emod_self_left]
    rw [← this, Int.emod_eq_of_lt (by omega) (by omega)]
  · rename_i h
    have : (n.tmod m) % m = n % m := by
      rw [h1, show n - m * n.tdiv m = n + m * (- n.tdiv m) by rw [Int.mul_neg]; omega, Int.add_mul_emod_self_left]
    rw [← this, Int.emod_eq_of_lt (by omega) (by omega)]
/-- The list from place k on, rotated. -/
def rotL {α : Type} (l : List α) (k : Nat) (n : Int) : List α := l.take k ++ ((l.drop k).drop (l.length - k - rotN n (l.length - k)) ++ (l.drop k).take (l.length - k - rotN n (l.length - k)))
theorem rotL_len {α : Type} (l : List α) (k : Nat) (n : Int) : (rotL l k n).length = l.length := by
  unfold rotL
  simp only [List.length_append, List.length_take, List.length_drop]
  omega
/-- Stored one after the other: what the document's loop does. -/
def rotS {α : Type} (l : List α) (k r m : Nat) : Nat → List α
  | 0 => l
  | j + 1 => match l[k + j]? with
    | some x => (rotS l k r m j).set (k + (j + r) % m) x
    | none => rotS l k r m j
theorem rotS_len {α : Type} (l : List α) (k r m : Nat) : ∀ j, (rotS l k r m j).length = l.length
  | 0 => rfl
  | j + 1 => by
    unfold rotS
    split
    · rw [List.length_set]; exact rotS_len l k r m j
    · exact rotS_len l k r m j
theorem mod2 {a m : Nat} (h : a < 2 * m) : a % m = if a < m then a else a - m := by
  split
  · rename_i h1; exact Nat.mod_eq_of_lt h1
  · rename_i h1
    rw [Nat.mod_eq_sub_mod (by omega), Nat.mod_eq_of_lt (by omega)]
theorem rotS_get {α : Type} (l : List α) (k r m : Nat) (hm : k + m = l.length) (hr : r < m) : ∀ j, j ≤ m → ∀ i, (rotS l k r m j)[i]? = if k ≤ i ∧ i < l.length ∧ (if i - k < r then i - k + m - r else i - k - r) < j then l[k + (if i - k < r then i - k + m - r else i - k - r)]? else l[i]?
  | 0, _, i => by
    rw [if_neg (by omega)]; rfl
  | j + 1, hj, i => by
    have ih := rotS_get l k r m hm hr j (by omega)
    have hlt : k + j < l.length := by omega
    unfold rotS
    rw [List.getElem?_eq_getElem hlt]
    simp only
    rw [List.getElem?_set, rotS_len, ih i, mod2 (show j + r < 2 * m by omega)]
    by_cases hc : k + (if j + r < m then j + r else j + r - m) = i
    · rw [if_pos hc, if_pos (by rw [hc]; split at hc <;> omega)]
      have he : (if i - k < r then i - k + m - r else i - k - r) = j := by
        split at hc <;> split <;> omega
      rw [if_pos (show k ≤ i ∧ i < l.length ∧ (if i - k < r then i - k + m - r else i - k - r) < j + 1 from ⟨by split at hc <;> omega, by split at hc <;> omega, by omega⟩), he, List.getElem?_eq_getElem hlt]
    · rw [if_neg hc]
      have he : k ≤ i → i < l.length → (if i - k < r then i - k + m - r else i - k - r) ≠ j := by
        intro h1 h2
        split at hc <;> split <;> omega
      by_cases hd : k ≤ i ∧ i < l.length ∧ (if i - k < r then i - k + m - r else i - k - r) < j
      · rw [if_pos hd, if_pos (show k ≤ i ∧ i < l.length ∧ (if i - k < r then i - k + m - r else i - k - r) < j + 1 from ⟨hd.1, hd.2.1, by omega⟩)]
      · rw [if_neg hd, if_neg (fun hq => hd ⟨hq.1, hq.2.1, by have := he hq.1 hq.2.1; omega⟩)]
theorem rotL_get {α : Type} (l : List α) (k : Nat) (n : Int) (hk : k < l.length) (i : Nat) : (rotL l k n)[i]? = if k ≤ i ∧ i < l.length then l[k + (if i - k < rotN n (l.length - k) then i - k + (l.length - k) - rotN n (l.length - k) else i - k - rotN n (l.length - k))]? else l[i]? := by
  have hr := rotN_lt (n := n) (m := l.length - k) (by omega)
  unfold rotL
  generalize rotN n (l.length - k) = r at *
  by_cases h1 : i < k
  · rw [List.getElem?_append_left (by simp; omega), if_neg (by omega), List.getElem?_take_of_lt h1]
  · by_cases h2 : i < l.length
    · rw [if_pos ⟨by omega, h2⟩, List.getElem?_append_right (by simp; omega)]
      have e1 : (l.take k).length = k := by simp; omega
      rw [e1]
      by_cases h3 : i - k < r
      · rw [if_pos h3, List.getElem?_append_left (by simp; omega), List.getElem?_drop, List.getElem?_drop]
        congr 1; omega
      · rw [if_neg h3, List.getElem?_append_right (by simp; omega)]
        have e2 : ((l.drop k).drop (l.length - k - r)).length = r := by simp; omega
        rw [e2, List.getElem?_take_of_lt (by omega), List.getElem?_drop]
    · rw [if_neg (by omega), List.getElem?_eq_none (by simp; omega), List.getElem?_eq_none (by omega)]
theorem rotS_rotL {α : Type} (l : List α) (k : Nat) (n : Int) (hk : k < l.length) : rotS l k (rotN n (l.length - k)) (l.length - k) (l.length - k) = rotL l k n := by
  have hr := rotN_lt (n := n) (m := l.length - k) (by omega)
  apply List.ext_getElem?
  intro i
  rw [rotS_get l k _ _ (by omega) hr _ (Nat.le_refl _) i, rotL_get l k n hk i]
  by_cases h : k ≤ i ∧ i < l.length
  · rw [if_pos h, if_pos ⟨h.1, h.2, by split <;> omega⟩]
  · rw [if_neg h, if_neg (fun q => h ⟨q.1, q.2.1⟩)]
/-- The opposite rotation. -/
theorem rotN_neg {n : Int} {m : Nat} (hm : 0 < m) : rotN (-n) m = if rotN n m = 0 then 0 else m - rotN n m := by
  have h1 := rotN_eq (n := n) hm
  have h2 := rotN_lt (n := n) hm
  have h3 := rotN_eq (n := -n) hm
  have h4 := rotN_lt (n := -n) hm
  have h5 : ((rotN n m : Int) + (rotN (-n) m : Int)) % (m : Int) = 0 := by
    rw [h1, h3, ← Int.add_emod, Int.add_right_neg, Int.zero_emod]
  have h6 : ((rotN n m + rotN (-n) m : Nat) : Int) % (m : Int) = 0 := by rw [Int.natCast_add]; exact h5
  have h7 : (rotN n m + rotN (-n) m) % m = 0 := by omega
  rw [mod2 (by omega)] at h7
  split at h7 <;> split <;> omega
theorem rotL_back {α : Type} (l : List α) (k : Nat) (n : Int) (hk : k < l.length) : rotL (rotL l k n) k (-n) = l := by
  have hr := rotN_lt (n := n) (m := l.length - k) (by omega)
  apply List.ext_getElem?
  intro i
  rw [rotL_get _ k _ (by rw [rotL_len]; exact hk), rotL_len, rotN_neg (by omega)]
  by_cases h : k ≤ i ∧ i < l.length
  · rw [if_pos h, rotL_get l k n hk]
    generalize rotN n (l.length - k) = r at *
    rw [if_pos ⟨by omega, by split <;> split <;> omega⟩]
    congr 1
    split <;> split <;> split <;> omega
  · rw [if_neg h, rotL_get l k n hk, if_neg h]
theorem rotL_at {α : Type} (l : List α) (k : Nat) (n : Int) (hk : k < l.length) : (rotL l k n)[k + rotN n (l.length - k)]? = l[k]? := by
  have hr := rotN_lt (n := n) (m := l.length - k) (by omega)
  rw [rotL_get l k n hk, if_pos ⟨by omega, by omega⟩, if_neg (by omega)]
  congr 1; omega
theorem rotN_one {m : Nat} (hm : 0 < m) : rotN 1 m = if m = 1 then 0 else 1 := by
  unfold rotN
  split
  · rename_i h; subst h; rfl
  · rw [Int.emod_eq_of_lt (by omega) (by omega)]; rfl
theorem rotN_m1 {m : Nat} (hm : 0 < m) : rotN (-1) m = m - 1 := by
  rw [rotN_neg hm, rotN_one hm]
  split <;> split <;> omega
theorem rotL_remove {α : Type} (l : List α) (k : Nat) (hk : k < l.length) : (rotL l k (-1)).take (l.length - 1) = l.take k ++ l.drop (k + 1) := by
  apply List.ext_getElem?
  intro i
  rw [List.getElem?_take, rotL_get l k _ hk, rotN_m1 (by omega)]
  by_cases h1 : i < k
  · rw [if_pos (by omega), if_neg (by omega), List.getElem?_append_left (by simp; omega), List.getElem?_take_of_lt h1]
  · rw [List.getElem?_append_right (by simp; omega), List.getElem?_drop]
    have e1 : (l.take k).length = k := by simp; omega
    rw [e1]
    by_cases h2 : i < l.length - 1
    · rw [if_pos h2, if_pos ⟨by omega, by omega⟩]
      congr 1
      split <;> omega
    · rw [if_neg h2, List.getElem?_eq_none (by omega)]
/-- A value is pushed and moved down. -/
theorem rotL_insert {α : Type} (l : List α) (v : α) (k : Nat) (hk : k ≤ l.length) : rotL (l ++ [v]) k 1 = l.take k ++ v :: l.drop k := by
  have hlen : (l ++ [v]).length = l.length + 1 := by simp
  apply List.ext_getElem?
  intro i
  rw [rotL_get _ k _ (by omega), hlen, rotN_one (by omega)]
  by_cases h1 : i < k
  · rw [if_neg (by omega), List.getElem?_append_left (by omega), List.getElem?_append_left (by simp; omega), List.getElem?_take_of_lt h1]
  · rw [List.getElem?_append_right (l₁ := l.take k) (by simp; omega)]
    have e1 : (l.take k).length = k := by simp; omega
    rw [e1]
    by_cases h2 : i < l.length + 1
    · rw [if_pos ⟨by omega, h2⟩]
      by_cases h3 : i = k
      · subst h3
        rw [Nat.sub_self, List.getElem?_cons_zero]
        have : i + (if 0 < (if l.length + 1 - i = 1 then 0 else 1) then 0 + (l.length + 1 - i) - (if l.length + 1 - i = 1 then 0 else 1) else 0 - (if l.length + 1 - i = 1 then 0 else 1)) = l.length := by
          by_cases hq : l.length + 1 - i = 1
          · rw [if_pos hq]; simp; omega
          · rw [if_neg hq]; simp; omega
        rw [this, List.getElem?_append_right (Nat.le_refl _)]
        simp
      · have hne : l.length + 1 - k ≠ 1 := by omega
        rw [if_neg hne, if_neg (by omega), List.getElem?_append_left (by omega)]
        obtain ⟨d, hd⟩ : ∃ d, i - k = d + 1 := ⟨i - k - 1, by omega⟩
        rw [hd, List.getElem?_cons_succ, List.getElem?_drop]
        congr 1
    · rw [if_neg (by omega), List.getElem?_eq_none (by simp; omega), List.getElem?_eq_none (by simp; omega)]
end Go.Proofs.YtibggoikjlnnkaaDoor
