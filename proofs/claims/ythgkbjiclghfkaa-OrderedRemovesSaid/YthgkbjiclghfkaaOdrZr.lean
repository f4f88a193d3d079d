/- Layer 12: keys removed while one goes through a list of slots. -/
import Derived.Test.YthgkbjiclghfkaaOdrZm
namespace Go.Proofs.Ythgkbjiclghfkaa
open Go.RowKit Go.Joins M1
set_option linter.unusedVariables false
/-- Keys are values. -/
def Vk (R : List Rs) : Prop := ∀ s ∈ R, okV s.key = true
theorem vk_set {R : List Rs} (h : Vk R) (k v : V5) : Vk (setR R k v) := by
  by_cases he : errR k v = 0
  · have hk : okV k = true := by
      cases hq : okV k with
      | true => rfl
      | false => unfold errR at he; rw [if_pos (.inr hq)] at he; cases he
    have hins : ∀ s ∈ insR R k v, okV s.key = true := by
      intro s hs
      unfold insR at hs
      rcases List.mem_append.1 hs with h1 | h1
      · split at h1
        · exact h s (List.mem_filter.1 h1).1
        · exact h s h1
      · rw [List.mem_singleton] at h1; subst h1; exact hk
    have hset : ∀ (i : Nat) (t : Rs), t.key = k → ∀ s ∈ R.set i t, okV s.key = true := by
      intro i t ht s hs
      rcases List.mem_or_eq_of_mem_set hs with h1 | rfl
      · exact h s h1
      · rw [ht]; exact hk
    unfold setR
    rw [if_neg (by simpa using he)]
    split
    · split
      · exact hset _ _ rfl
      · split
        · exact hset _ _ rfl
        · exact hins
    · split
      · exact h
      · exact hins
  · rw [setR_err he]; exact h
theorem vk_step {R : List Rs} (h : Vk R) (x : OpA) : Vk (stepR R x) := by
  unfold stepR
  split
  · exact vk_set h _ _
  · split
    · exact vk_set h _ _
    · exact h
theorem vk_play (l : List OpA) : ∀ R, Vk R → Vk (playR R l) := by
  induction l with
  | nil => intro R h; exact h
  | cons x l ih => intro R h; exact ih _ (vk_step h x)
theorem vk_nil : Vk [] := fun s h => by cases h
theorem un_fnd {R R' : List Rs} (h : Un R) (h' : Un R') (hl : R'.length = R.length) (hk : ∀ p (h1 : p < R'.length) (h2 : p < R.length), R'[p].key = R[p].key) (k : V5) : fnd R' k = fnd R k := by
  cases hf : fnd R k with
  | none =>
    refine fnd_none (fun s hs e => ?_)
    obtain ⟨p, hp, rfl⟩ := List.getElem_of_mem hs
    rw [hk p hp (by omega)] at e
    exact h.none k hf _ (List.getElem_mem (by omega)) e
  | some i =>
    obtain ⟨hi, hik⟩ := fnd_lt hf
    cases hf' : fnd R' k with
    | none =>
      exact absurd ((hk i (by omega) hi).trans hik) (h'.none k hf' _ (List.getElem_mem (by omega)))
    | some j =>
      obtain ⟨hj, hjk⟩ := fnd_lt hf'
      rcases Nat.lt_trichotomy i j with q | q | q
      · exact absurd ((hk j hj (by omega)).symm.trans hjk) (h.last k i hf j (by omega) q)
      · rw [q]
      · exact absurd ((hk i (by omega) hi).trans hik) (h'.last k j hf' i (by omega) q)
def rmv (mask : List Bool) (i : Nat) : Bool := mask[i]?.getD false
/-- The slots when the first i keys have been gone through. -/
structure Gd (R : List Rs) (mask : List Bool) (i : Nat) (R' : List Rs) : Prop where
  len : R'.length = R.length
  key : ∀ p (h1 : p < R'.length) (h2 : p < R.length), R'[p].key = R[p].key
  out : ∀ p (h1 : p < R'.length) (h2 : p < R.length), R[p].gone = false → lenR (R.take p) < i → rmv mask (lenR (R.take p)) = true → R'[p].gone = true
  keep : ∀ p (h1 : p < R'.length) (h2 : p < R.length), R[p].gone = false → ¬ (lenR (R.take p) < i ∧ rmv mask (lenR (R.take p)) = true) → R'[p] = R[p]
  gone : ∀ p (h1 : p < R'.length) (h2 : p < R.length), R[p].gone = true → R'[p].gone = true
theorem gd_zero (R : List Rs) (mask : List Bool) : Gd R mask 0 R :=
  ⟨rfl, fun _ _ _ => rfl, fun _ _ _ _ h => absurd h (by omega), fun _ _ _ _ _ => rfl, fun _ _ _ h => h⟩
def At2 (R R' : List Rs) (i : Nat) (k : V5) : Prop := ∃ a, a ≤ R.length ∧ lenR (R.take a) = i ∧ nextR R' k = nxAt R' a
theorem at2_zero (R R' : List Rs) : At2 R R' 0 v5z := ⟨0, Nat.zero_le _, rfl, by unfold nextR; rw [if_pos rfl]⟩
theorem lenR_mono {R : List Rs} {a b : Nat} (h : a ≤ b) : lenR (R.take a) ≤ lenR (R.take b) := by
  rw [show R.take a = (R.take b).take a by rw [List.take_take, Nat.min_eq_left h]]
  conv => rhs; rw [← List.take_append_drop a (R.take b)]
  unfold lenR
  rw [List.filter_append, List.length_append]
  omega
theorem rank_inj {R : List Rs} {p q : Nat} (hp : p < R.length) (hq : q < R.length) (gp : R[p].gone = false) (gq : R[q].gone = false) (h : lenR (R.take p) = lenR (R.take q)) : p = q := by
  rcases Nat.lt_trichotomy p q with x | x | x
  · have h1 := lenR_mono (R := R) (show p + 1 ≤ q from x)
    rw [lenR_take hp, lv, gp] at h1
    simp at h1; omega
  · exact x
  · have h1 := lenR_mono (R := R) (show q + 1 ≤ p from x)
    rw [lenR_take hq, lv, gq] at h1
    simp at h1; omega
theorem gd_next {R R' : List Rs} {mask : List Bool} {i : Nat} {k : V5} (hO : Ok R) (hU : Un R) (hU' : Un R') (hG : Gd R mask i R') (hA : At2 R R' i k) (hi : i < lenR R) :
    ∃ j, ∃ hj : j < R.length, R[j].gone = false ∧ lenR (R.take j) = i ∧ ∃ hi' : i < (keysR R).length, (keysR R)[i] = R[j].key ∧ fnd R' (keysR R)[i] = some j ∧ nextR R' k = ⟨(keysR R)[i], R[j].val, true, 0⟩ := by
  obtain ⟨a, ha, h1, h2⟩ := hA
  subst h1
  obtain ⟨j, hj, haj, hg, hl, hn⟩ := nx_more ha hi
  have hi' : lenR (R.take a) < (keysR R).length := by rw [keysR_len]; exact hi
  have hk : (keysR R)[lenR (R.take a)] = R[j].key := by
    have := keys_at hj hg
    rw [hl, List.getElem?_eq_getElem hi'] at this
    exact Option.some.inj this
  have hlen := hG.len
  have e : ∀ p (q1 : p < R'.length) (q2 : p < R.length), a ≤ p → R[p].gone = false → R'[p] = R[p] := fun p q1 q2 q3 q4 => hG.keep p q1 q2 q4 (fun q => by have := lenR_mono (R := R) q3; omega)
  refine ⟨j, hj, hg, hl, hi', hk, ?_, ?_⟩
  · rw [un_fnd hU hU' hlen hG.key, hk]; exact hU.live j hj hg
  · rw [h2, hk]
    have hf : firstL R' a = some j := by
      have e1 := e j (by omega) hj haj hg
      refine firstL_mk haj (by omega) (by rw [e1]; exact hg) (fun p q1 q2 q3 => ?_)
      by_cases hp : R[p].gone = true
      · exact hG.gone p q1 (by omega) hp
      · have hp' : R[p].gone = false := by simpa using hp
        have r1 := lenR_mono (R := R) (show p + 1 ≤ j from q3)
        have r2 := lenR_mono (R := R) q2
        rw [lenR_take (by omega), lv, hp'] at r1
        simp at r1
        omega
    unfold nxAt
    rw [hf]
    simp only [List.getElem?_eq_getElem (show j < R'.length by omega)]
    rw [e j (by omega) hj haj hg]
theorem gd_skip {R R' : List Rs} {mask : List Bool} {i : Nat} (hG : Gd R mask i R') (hm : rmv mask i = false) : Gd R mask (i + 1) R' := by
  refine ⟨hG.len, hG.key, fun p h1 h2 hg hl hr => ?_, fun p h1 h2 hg hn => ?_, hG.gone⟩
  · refine hG.out p h1 h2 hg ?_ hr
    rcases Nat.lt_or_eq_of_le (Nat.le_of_lt_succ hl) with q | q
    · exact q
    · rw [q, hm] at hr; cases hr
  · exact hG.keep p h1 h2 hg (fun q => hn ⟨by omega, q.2⟩)
theorem gd_del {R R' : List Rs} {mask : List Bool} {i j : Nat} (hO : Ok R) (hV : Vk R) (hG : Gd R mask i R') (hj : j < R.length) (hg : R[j].gone = false) (hl : lenR (R.take j) = i) (hf : fnd R' R[j].key = some j) (hm : rmv mask i = true) :
    errR R[j].key v5z = 0 ∧ Gd R mask (i + 1) (setR R' R[j].key v5z) := by
  have he : errR R[j].key v5z = 0 := by
    unfold errR
    have h1 := hO.2 _ (List.getElem_mem hj)
    have h2 := hV _ (List.getElem_mem hj)
    rw [if_neg (by simp [h1, h2]), if_neg (by decide +kernel)]
  have hlen := hG.len
  have hs : setR R' R[j].key v5z = R'.set j ⟨R[j].key, v5z, true⟩ := by
    unfold setR
    rw [if_neg (by simpa using he), hf]
    simp [v5z]
  refine ⟨he, ?_⟩
  rw [hs]
  have hget : ∀ p (h1 : p < (R'.set j ⟨R[j].key, v5z, true⟩).length), (R'.set j ⟨R[j].key, v5z, true⟩)[p] = if j = p then ⟨R[j].key, v5z, true⟩ else R'[p]'(by rw [List.length_set] at h1; exact h1) := fun p h1 => List.getElem_set ..
  refine ⟨by rw [List.length_set]; exact hlen, fun p h1 h2 => ?_, fun p h1 h2 q1 q2 q3 => ?_, fun p h1 h2 q1 q2 => ?_, fun p h1 h2 q1 => ?_⟩
  · rw [hget p h1]
    by_cases e : j = p
    · subst e; rw [if_pos rfl]
    · rw [if_neg e]; exact hG.key p _ h2
  · rw [hget p h1]
    by_cases e : j = p
    · rw [if_pos e]
    · rw [if_neg e]
      refine hG.out p _ h2 q1 ?_ q3
      rcases Nat.lt_or_eq_of_le (Nat.le_of_lt_succ q2) with q | q
      · exact q
      · exact absurd (rank_inj hj h2 hg q1 (by rw [hl, q])) e
  · rw [hget p h1]
    by_cases e : j = p
    · subst e
      exact absurd ⟨by omega, by rw [hl]; exact hm⟩ q2
    · rw [if_neg e]
      exact hG.keep p _ h2 q1 (fun q => q2 ⟨by omega, q.2⟩)
  · rw [hget p h1]
    by_cases e : j = p
    · rw [if_pos e]
    · rw [if_neg e]; exact hG.gone p _ h2 q1
theorem gd_at {R R' : List Rs} {i j : Nat} (hO : Ok R) (hj : j < R.length) (hg : R[j].gone = false) (hl : lenR (R.take j) = i) (hf : fnd R' R[j].key = some j) : At2 R R' (i + 1) R[j].key := by
  have hz : R[j].key ≠ v5z := fun e => hO.2 _ (List.getElem_mem hj) (by rw [e]; rfl)
  refine ⟨j + 1, by omega, ?_, ?_⟩
  · rw [lenR_take hj, hl, lv, hg]; simp
  · unfold nextR; rw [if_neg hz, hf]
theorem gd_end {R R' : List Rs} {mask : List Bool} {k : V5} (hG : Gd R mask (lenR R) R') (hA : At2 R R' (lenR R) k) : nextR R' k = ⟨v5z, v5z, false, 0⟩ := by
  obtain ⟨a, ha, h1, h2⟩ := hA
  rw [h2]
  have hlen := hG.len
  have hf : firstL R' a = none := by
    refine firstL_no (fun p hp hap => ?_)
    by_cases hq : R[p].gone = true
    · exact hG.gone p hp (by omega) hq
    · exfalso
      have hq' : R[p].gone = false := by simpa using hq
      have r1 := lenR_mono (R := R) hap
      have r2 := lenR_mono (R := R) (show p + 1 ≤ R.length by omega)
      rw [lenR_take (by omega), lv, hq', List.take_length] at r2
      simp at r2
      omega
  unfold nxAt
  rw [hf]
theorem rank_ex {R : List Rs} : ∀ {i : Nat}, i < lenR R → ∃ j, ∃ hj : j < R.length, R[j].gone = false ∧ lenR (R.take j) = i := by
  intro i
  induction i with
  | zero =>
    intro h
    obtain ⟨j, hj, _, hg, hl, _⟩ := nx_more (R := R) (a := 0) (Nat.zero_le _) (by rw [List.take_zero, lenR_nil]; exact h)
    exact ⟨j, hj, hg, by rw [hl]; simp [lenR_nil]⟩
  | succ i ih =>
    intro h
    obtain ⟨j0, hj0, hg0, hl0⟩ := ih (by omega)
    have e : lenR (R.take (j0 + 1)) = i + 1 := by rw [lenR_take hj0, hl0, lv, hg0]; simp
    obtain ⟨j, hj, _, hg, hl, _⟩ := nx_more (R := R) (a := j0 + 1) (by omega) (by rw [e]; exact h)
    exact ⟨j, hj, hg, by rw [hl, e]⟩
theorem gd_get {R R' : List Rs} {mask : List Bool} (hO : Ok R) (hU : Un R) (hU' : Un R') (hG : Gd R mask (lenR R) R') {i : Nat} (hi : i < (keysR R).length) : (getR R' (keysR R)[i]).k = 0 ↔ rmv mask i = true := by
  have hi2 : i < lenR R := by rw [← keysR_len]; exact hi
  obtain ⟨j, hj, hg, hl⟩ := rank_ex hi2
  have hk : (keysR R)[i] = R[j].key := by
    have := keys_at hj hg
    rw [hl, List.getElem?_eq_getElem hi] at this
    exact Option.some.inj this
  have hlen := hG.len
  have hf : fnd R' (keysR R)[i] = some j := by rw [un_fnd hU hU' hlen hG.key, hk]; exact hU.live j hj hg
  rw [getR_at hf (by omega)]
  cases hm : rmv mask i with
  | true =>
    rw [hG.out j (by omega) hj hg (by omega) (by rw [hl]; exact hm)]
    simp [v5z]
  | false =>
    rw [hG.keep j (by omega) hj hg (fun q => by rw [hl, hm] at q; cases q.2), hg]
    have := hO.1 _ (List.getElem_mem hj) hg
    simp [this]
end Go.Proofs.Ythgkbjiclghfkaa
