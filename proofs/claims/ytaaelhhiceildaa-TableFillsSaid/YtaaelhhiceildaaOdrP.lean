/- Layer 12: what a Set does to the numbers of slots and keys. -/
import Derived.Test.YtaaelhhiceildaaOdrM
namespace Go.Proofs.Ytaaelhhiceildaa
set_option linter.unusedVariables false
/-- Slots in use hold a value. -/
def Good (R : List Rs) : Prop := ∀ s ∈ R, s.gone = false → s.val.k ≠ 0
def lv (s : Rs) : Nat := if s.gone then 0 else 1
theorem lenR_nil : lenR [] = 0 := rfl
theorem lenR_cons (s : Rs) (R : List Rs) : lenR (s :: R) = lv s + lenR R := by
  unfold lenR lv aliveR
  cases h : s.gone <;> simp [h]; omega
theorem lenR_app (R : List Rs) (s : Rs) : lenR (R ++ [s]) = lenR R + lv s := by
  induction R with
  | nil => rw [List.nil_append, lenR_cons, lenR_nil]; omega
  | cons a R ih => rw [List.cons_append, lenR_cons, lenR_cons, ih]; omega
theorem lenR_le (R : List Rs) : lenR R ≤ R.length := List.length_filter_le _ _
theorem lenR_fil (R : List Rs) : lenR (R.filter aliveR) = lenR R := by
  unfold lenR; rw [List.filter_filter]; simp
theorem lenR_set : ∀ (R : List Rs) (i : Nat) (h : i < R.length) (s : Rs), lenR (R.set i s) + lv R[i] = lenR R + lv s
  | [], i, h, s => by simp at h
  | a :: R, 0, h, s => by
    rw [List.set_cons_zero, lenR_cons, lenR_cons]; simp; omega
  | a :: R, i + 1, h, s => by
    have := lenR_set R i (by simpa using h) s
    rw [List.set_cons_succ, lenR_cons, lenR_cons]; simp; omega
theorem Good.set {R : List Rs} (h : Good R) (i : Nat) (s : Rs) (hs : s.gone = false → s.val.k ≠ 0) : Good (R.set i s) := fun t ht => by
  rcases List.mem_or_eq_of_mem_set ht with h1 | rfl
  · exact h t h1
  · exact hs
theorem Good.app {R : List Rs} (h : Good R) (s : Rs) (hs : s.gone = false → s.val.k ≠ 0) : Good (R ++ [s]) := fun t ht => by
  rcases List.mem_append.1 ht with h1 | h1
  · exact h t h1
  · rw [List.mem_singleton] at h1; subst h1; exact hs
theorem Good.fil {R : List Rs} (h : Good R) : Good (R.filter aliveR) := fun t ht => h t (List.mem_filter.1 ht).1
theorem Good.nil : Good [] := fun s h => by cases h
theorem setR_err {R : List Rs} {k v : V5} (h : errR k v ≠ 0) : setR R k v = R := by unfold setR; rw [if_pos h]
theorem getR_at {R : List Rs} {k : V5} {i : Nat} (hf : fnd R k = some i) (hi : i < R.length) : getR R k = if R[i].gone then v5z else R[i].val := by
  unfold getR; rw [hf]; unfold valAt; simp [List.getElem?_eq_getElem hi]
theorem getR_none {R : List Rs} {k : V5} (hf : fnd R k = none) : getR R k = v5z := by unfold getR; rw [hf]
/-- The numbers after a Set that returned no error. -/
def Nums (R R' : List Rs) (k v : V5) : Prop :=
  (v.k = 0 → (getR R k).k ≠ 0 → R'.length = R.length ∧ lenR R' + 1 = lenR R) ∧
  (v.k = 0 → (getR R k).k = 0 → R'.length = R.length ∧ lenR R' = lenR R) ∧
  (v.k ≠ 0 → (getR R k).k ≠ 0 → R'.length = R.length ∧ lenR R' = lenR R) ∧
  (v.k ≠ 0 → (getR R k).k = 0 → lenR R' = lenR R + 1 ∧ R'.length ≤ 2 * lenR R' + 7 ∧ (R'.length + lenR R = R.length + lenR R' ∨ R'.length = lenR R'))
theorem insR_nums (R : List Rs) (hg : Good R) (k v : V5) (hv : v.k ≠ 0) : Good (insR R k v) ∧ (insR R k v).length ≤ R.length + 1 ∧ lenR (insR R k v) = lenR R + 1 ∧ (insR R k v).length ≤ 2 * lenR (insR R k v) + 7 ∧ ((insR R k v).length + lenR R = R.length + lenR (insR R k v) ∨ (insR R k v).length = lenR (insR R k v)) := by
  have hle := lenR_le R
  unfold insR
  split
  · rename_i hd
    have h1 : lenR (R.filter aliveR ++ [(⟨k, v, false⟩ : Rs)]) = lenR R + 1 := by rw [lenR_app, lenR_fil]; rfl
    have h2 : (R.filter aliveR ++ [(⟨k, v, false⟩ : Rs)]).length = lenR R + 1 := by rw [List.length_append]; rfl
    refine ⟨hg.fil.app _ fun _ => hv, ?_, h1, ?_, .inr ?_⟩ <;> rw [h2] <;> omega
  · rename_i hd
    have h1 : lenR (R ++ [(⟨k, v, false⟩ : Rs)]) = lenR R + 1 := by rw [lenR_app]; rfl
    have h2 : (R ++ [(⟨k, v, false⟩ : Rs)]).length = R.length + 1 := by rw [List.length_append]; rfl
    refine ⟨hg.app _ fun _ => hv, ?_, h1, ?_, .inl ?_⟩ <;> rw [h2] <;> omega
theorem set_nums (R : List Rs) (hg : Good R) (k v : V5) (he : errR k v = 0) : Good (setR R k v) ∧ (setR R k v).length ≤ R.length + 1 ∧ Nums R (setR R k v) k v := by
  unfold setR
  rw [if_neg (by simpa using he)]
  cases hf : fnd R k with
  | none =>
    have hn := getR_none hf
    have hn0 : (getR R k).k = 0 := by rw [hn]; rfl
    simp only
    split
    · rename_i h0
      exact ⟨hg, by omega, fun _ h => absurd hn0 h, fun _ _ => ⟨rfl, rfl⟩, fun h => absurd h0 h, fun h => absurd h0 h⟩
    · rename_i h0
      obtain ⟨a, b, c, d, e⟩ := insR_nums R hg k v h0
      exact ⟨a, b, fun h => absurd h h0, fun h => absurd h h0, fun _ h => absurd hn0 h, fun _ _ => ⟨c, d, e⟩⟩
  | some i =>
    obtain ⟨hi, hk⟩ := fnd_lt hf
    have hn := getR_at hf hi
    simp only [List.getElem?_eq_getElem hi, Option.map_some]
    cases hgi : R[i].gone with
    | true =>
      have hn0 : (getR R k).k = 0 := by rw [hn, if_pos hgi]; rfl
      split
      · rename_i h0
        have hl := lenR_set R i hi ⟨k, v5z, true⟩
        simp only [lv, hgi, if_true] at hl
        exact ⟨hg.set _ _ (fun h => by cases h), by rw [List.length_set]; omega, fun _ h => absurd hn0 h, fun _ _ => ⟨List.length_set .., by omega⟩, fun h => absurd h0 h, fun h => absurd h0 h⟩
      · rename_i h0
        rw [if_neg (by simp)]
        obtain ⟨a, b, c, d, e⟩ := insR_nums R hg k v h0
        exact ⟨a, b, fun h => absurd h h0, fun h => absurd h h0, fun _ h => absurd hn0 h, fun _ _ => ⟨c, d, e⟩⟩
    | false =>
      have hn0 : (getR R k).k ≠ 0 := by rw [hn, if_neg (by rw [hgi]; simp)]; exact hg _ (List.getElem_mem hi) hgi
      split
      · rename_i h0
        have hl := lenR_set R i hi ⟨k, v5z, true⟩
        simp [lv, hgi] at hl
        exact ⟨hg.set _ _ (fun h => by cases h), by rw [List.length_set]; omega, fun _ _ => ⟨List.length_set .., by omega⟩, fun _ h => absurd h hn0, fun h => absurd h0 h, fun h => absurd h0 h⟩
      · rename_i h0
        rw [if_pos rfl]
        have hl := lenR_set R i hi ⟨k, v, false⟩
        simp [lv, hgi] at hl
        exact ⟨hg.set _ _ (fun _ => h0), by rw [List.length_set]; omega, fun h => absurd h h0, fun h => absurd h h0, fun _ _ => ⟨List.length_set .., by omega⟩, fun _ h => absurd h hn0⟩
end Go.Proofs.Ytaaelhhiceildaa
