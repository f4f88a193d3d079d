/- Layer 12: going through a list of slots from key to key. -/
import Derived.Test.YthgkbjiclghfkaaOdrMd
namespace Go.Proofs.Ythgkbjiclghfkaa
open Go.RowKit Go.Joins M1
set_option linter.unusedVariables false
/-- The slot that is found is the last one of its key, and a slot in use is found. -/
structure Un (R : List Rs) : Prop where
  last : ∀ k i, fnd R k = some i → ∀ j (hj : j < R.length), i < j → R[j].key ≠ k
  none : ∀ k, fnd R k = .none → ∀ s ∈ R, s.key ≠ k
  live : ∀ i (h : i < R.length), R[i].gone = false → fnd R R[i].key = some i
theorem OmR.un {B b : Nat} {v m : Value} {R : List Rs} {w : World} (h : OmR B b v m R w) : Un R := by
  obtain ⟨L, h1, rfl⟩ := h
  have hI := h1.inv
  refine ⟨fun k i hf j hj hij => ?_, fun k hf s hs => ?_, fun i hi hg => ?_⟩
  · rw [fnd_abs hI] at hf
    obtain ⟨_, _, h3⟩ := lastI_some hf
    rw [rabs_len] at hj
    rw [rabs_at L j hj]
    exact h3 j hj hij
  · rw [fnd_abs hI] at hf
    obtain ⟨t, ht, rfl⟩ := List.mem_map.1 hs
    exact lastI_none hf t ht
  · rw [rabs_len] at hi
    rw [rabs_at L i hi] at hg ⊢
    rw [fnd_abs hI]
    refine hI.live i hi ?_
    by_cases hb : L[i].bh = 0
    · exact hb
    · rw [rab_gone hb] at hg; cases hg
/-- Slots hold keys; those in use, values. -/
def Ok (R : List Rs) : Prop := Good R ∧ ∀ s ∈ R, s.key.k ≠ 0
theorem ok_set {R : List Rs} (h : Ok R) (k v : V5) : Ok (setR R k v) := by
  by_cases he : errR k v = 0
  · refine ⟨(set_nums R h.1 k v he).1, ?_⟩
    have hk : k.k ≠ 0 := fun e => by unfold errR at he; rw [if_pos (.inl e)] at he; cases he
    have hins : ∀ s ∈ insR R k v, s.key.k ≠ 0 := by
      intro s hs
      unfold insR at hs
      rcases List.mem_append.1 hs with h1 | h1
      · split at h1
        · exact h.2 s (List.mem_filter.1 h1).1
        · exact h.2 s h1
      · rw [List.mem_singleton] at h1; subst h1; exact hk
    have hset : ∀ (i : Nat) (t : Rs), t.key = k → ∀ s ∈ R.set i t, s.key.k ≠ 0 := by
      intro i t ht s hs
      rcases List.mem_or_eq_of_mem_set hs with h1 | rfl
      · exact h.2 s h1
      · rw [ht]; exact hk
    unfold setR
    rw [if_neg (by simpa using he)]
    split
    · split
      · exact hset _ _ rfl
      · split
        · exact hset _ _ rfl
        · exact hins
    · split
      · exact h.2
      · exact hins
  · rw [setR_err he]; exact h
theorem ok_step {R : List Rs} (h : Ok R) (x : OpA) : Ok (stepR R x) := by
  unfold stepR
  split
  · exact ok_set h _ _
  · split
    · exact ok_set h _ _
    · exact h
theorem ok_play (l : List OpA) : ∀ R, Ok R → Ok (playR R l) := by
  induction l with
  | nil => intro R h; exact h
  | cons x l ih => intro R h; exact ih _ (ok_step h x)
theorem ok_nil : Ok [] := ⟨Good.nil, fun s h => by cases h⟩
theorem keysR_len (R : List Rs) : (keysR R).length = lenR R := by unfold keysR lenR; rw [List.length_map]
theorem lenR_gone {R : List Rs} {a : Nat} : ∀ {b : Nat}, a ≤ b → b ≤ R.length → (∀ j (hj : j < R.length), a ≤ j → j < b → R[j].gone = true) → lenR (R.take b) = lenR (R.take a) := by
  intro b
  induction b with
  | zero => intro hab _ _; rw [show a = 0 by omega]
  | succ b ih =>
    intro hab hb h
    by_cases e : a = b + 1
    · rw [e]
    · rw [lenR_take (by omega), ih (by omega) (by omega) (fun j hj h1 h2 => h j hj h1 (by omega)), lv, if_pos (h b (by omega) (by omega) (by omega))]; rfl
theorem keys_at {R : List Rs} {j : Nat} (hj : j < R.length) (hg : R[j].gone = false) : (keysR R)[lenR (R.take j)]? = some R[j].key := by
  have e : keysR R = keysR (R.take j) ++ (R[j].key :: keysR (R.drop (j + 1))) := by
    unfold keysR
    conv => lhs; rw [← List.take_append_drop j R, List.drop_eq_getElem_cons hj]
    rw [List.filter_append, List.filter_cons, if_pos (by simp [aliveR, hg]), List.map_append, List.map_cons]
  rw [e, ← keysR_len, List.getElem?_append_right (Nat.le_refl _)]
  simp
/-- The i-th slot in use comes next. -/
def At (R : List Rs) (i : Nat) (k : V5) : Prop := ∃ a, a ≤ R.length ∧ lenR (R.take a) = i ∧ nextR R k = nxAt R a
theorem at_zero (R : List Rs) : At R 0 v5z := ⟨0, Nat.zero_le _, rfl, by unfold nextR; rw [if_pos rfl]⟩
theorem nx_more {R : List Rs} {a : Nat} (ha : a ≤ R.length) (h : lenR (R.take a) < lenR R) : ∃ j, ∃ hj : j < R.length, a ≤ j ∧ R[j].gone = false ∧ lenR (R.take j) = lenR (R.take a) ∧ nxAt R a = ⟨R[j].key, R[j].val, true, 0⟩ := by
  cases hf : firstL R a with
  | none =>
    have h1 := lenR_gone (a := a) (b := R.length) ha (Nat.le_refl _) (fun j hj h1 _ => firstL_none hf j hj h1)
    rw [List.take_length] at h1
    omega
  | some j =>
    obtain ⟨h1, h2, h3, h4⟩ := firstL_some hf
    refine ⟨j, h2, h1, h3, lenR_gone h1 (by omega) h4, ?_⟩
    unfold nxAt
    rw [hf]
    simp [List.getElem?_eq_getElem h2]
theorem nx_end {R : List Rs} {a : Nat} (h : lenR (R.take a) = lenR R) : nxAt R a = ⟨v5z, v5z, false, 0⟩ := by
  cases hf : firstL R a with
  | none => unfold nxAt; rw [hf]
  | some j =>
    obtain ⟨h1, h2, h3, h4⟩ := firstL_some hf
    have e1 := lenR_gone h1 (by omega) h4
    have e2 := lenR_take h2
    rw [lv, h3] at e2
    have e3 : lenR (R.take (j + 1)) ≤ lenR R := by
      conv => rhs; rw [← List.take_append_drop (j + 1) R]
      unfold lenR
      rw [List.filter_append, List.length_append]
      omega
    simp at e2
    omega
theorem next_of {R : List Rs} (hO : Ok R) (hU : Un R) {j : Nat} (hj : j < R.length) (hg : R[j].gone = false) : nextR R R[j].key = nxAt R (j + 1) := by
  have hz : R[j].key ≠ v5z := fun e => hO.2 _ (List.getElem_mem hj) (by rw [e]; rfl)
  unfold nextR
  rw [if_neg hz, hU.live j hj hg]
theorem at_step {R : List Rs} (hO : Ok R) (hU : Un R) {i : Nat} {k : V5} (h : At R i k) (hi : i < lenR R) : ∃ hi' : i < (keysR R).length, ∃ v, nextR R k = ⟨(keysR R)[i], v, true, 0⟩ ∧ getR R (keysR R)[i] = v ∧ v.k ≠ 0 ∧ At R (i + 1) (keysR R)[i] := by
  obtain ⟨a, ha, h1, h2⟩ := h
  subst h1
  obtain ⟨j, hj, haj, hg, hl, hn⟩ := nx_more ha hi
  have hi' : lenR (R.take a) < (keysR R).length := by rw [keysR_len]; exact hi
  have hk : (keysR R)[lenR (R.take a)] = R[j].key := by
    have := keys_at hj hg
    rw [hl, List.getElem?_eq_getElem hi'] at this
    exact Option.some.inj this
  refine ⟨hi', R[j].val, by rw [h2, hn, hk], ?_, hO.1 _ (List.getElem_mem hj) hg, ?_⟩
  · rw [hk, getR_at (hU.live j hj hg) hj, if_neg (by rw [hg]; simp)]
  · refine ⟨j + 1, by omega, ?_, by rw [hk]; exact next_of hO hU hj hg⟩
    rw [lenR_take hj, hl, lv, hg]; simp
theorem at_end {R : List Rs} {k : V5} (h : At R (lenR R) k) : nextR R k = ⟨v5z, v5z, false, 0⟩ := by
  obtain ⟨a, ha, h1, h2⟩ := h
  rw [h2, nx_end h1]
end Go.Proofs.Ythgkbjiclghfkaa
