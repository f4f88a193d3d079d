/- Layer 12: what is found after a Set. -/
import Derived.Test.YthgkbjiclghfkaaOdrZm
namespace Go.Proofs.Ythgkbjiclghfkaa
open Go.RowKit Go.Joins M1
set_option linter.unusedVariables false
theorem getR_mem {R : List Rs} (hU : Un R) {s : Rs} (hs : s ∈ R) (hg : s.gone = false) : getR R s.key = s.val := by
  obtain ⟨i, hi, rfl⟩ := List.getElem_of_mem hs
  rw [getR_at (hU.live i hi hg) hi, if_neg (by rw [hg]; simp)]
theorem getR_dead {R : List Rs} {k : V5} (h : ∀ s ∈ R, s.key = k → s.gone = true) : getR R k = v5z := by
  cases hf : fnd R k with
  | none => exact getR_none hf
  | some i =>
    obtain ⟨hi, hk⟩ := fnd_lt hf
    rw [getR_at hf hi, if_pos (h _ (List.getElem_mem hi) hk)]
theorem ins_mem (R : List Rs) (k v : V5) (s : Rs) (hg : s.gone = false) (hk : s.key ≠ k) : s ∈ insR R k v ↔ s ∈ R := by
  unfold insR
  rw [List.mem_append, List.mem_singleton]
  constructor
  · rintro (h | h)
    · split at h
      · exact (List.mem_filter.1 h).1
      · exact h
    · rw [h] at hk; exact absurd rfl hk
  · intro h
    left
    split
    · exact List.mem_filter.2 ⟨h, by simp [aliveR, hg]⟩
    · exact h
theorem set_mem {R : List Rs} {i : Nat} (hi : i < R.length) (t s : Rs) (k : V5) (ht : t.key = k) (hk : R[i].key = k) (hs : s.key ≠ k) : s ∈ R.set i t ↔ s ∈ R := by
  constructor
  · intro h
    rcases List.mem_or_eq_of_mem_set h with h1 | rfl
    · exact h1
    · exact absurd ht hs
  · intro h
    obtain ⟨j, hj, rfl⟩ := List.getElem_of_mem h
    have hne : i ≠ j := fun e => by subst e; exact hs hk
    have e : (R.set i t)[j]'(by rw [List.length_set]; exact hj) = R[j] := List.getElem_set_ne hne _
    rw [← e]
    exact List.getElem_mem _
theorem setR_mem (R : List Rs) (k v : V5) (s : Rs) (hg : s.gone = false) (hk : s.key ≠ k) : s ∈ setR R k v ↔ s ∈ R := by
  unfold setR
  split
  · exact Iff.rfl
  · cases hf : fnd R k with
    | none =>
      simp only
      split
      · exact Iff.rfl
      · exact ins_mem R k v s hg hk
    | some i =>
      obtain ⟨hi, hik⟩ := fnd_lt hf
      simp only
      split
      · exact set_mem hi _ s k rfl hik hk
      · split
        · exact set_mem hi _ s k rfl hik hk
        · exact ins_mem R k v s hg hk
theorem get_other {R : List Rs} {k v x : V5} (hU : Un R) (hU' : Un (setR R k v)) (hx : x ≠ k) : getR (setR R k v) x = getR R x := by
  by_cases h : ∃ s ∈ R, s.gone = false ∧ s.key = x
  · obtain ⟨s, hs, hg, rfl⟩ := h
    rw [getR_mem hU hs hg, getR_mem hU' ((setR_mem R k v s hg hx).2 hs) hg]
  · have h1 : ∀ s ∈ R, s.key = x → s.gone = true := fun s hs e => by
      cases hg : s.gone with
      | true => rfl
      | false => exact absurd ⟨s, hs, hg, e⟩ h
    have h2 : ∀ s ∈ setR R k v, s.key = x → s.gone = true := fun s hs e => by
      cases hg : s.gone with
      | true => rfl
      | false =>
        have := (setR_mem R k v s hg (by rw [e]; exact hx)).1 hs
        have := h1 s this e
        rw [hg] at this; cases this
    rw [getR_dead h1, getR_dead h2]
theorem okV_nil {v : V5} (h : okV v = true) (h0 : v.k = 0) : v = v5z := by
  unfold okV validF at h
  rw [if_pos h0] at h
  unfold eqV at h
  obtain ⟨k, p, q, s, r⟩ := v
  simp at h
  obtain ⟨a, b, c, d, e⟩ := h
  subst a b c d e
  rfl
theorem errR_zero {k v : V5} (h : errR k v = 0) : k.k ≠ 0 ∧ okV k = true ∧ okV v = true := by
  unfold errR at h
  split at h
  · cases h
  · rename_i h1
    split at h
    · cases h
    · rename_i h2
      refine ⟨fun e => h1 (.inl e), ?_, by simpa using h2⟩
      cases hk : okV k with
      | true => rfl
      | false => exact absurd (.inr hk) h1
theorem get_self {R : List Rs} {k v : V5} (hU : Un R) (hU' : Un (setR R k v)) (he : errR k v = 0) : getR (setR R k v) k = v := by
  obtain ⟨hk, ok, ov⟩ := errR_zero he
  by_cases h0 : v.k = 0
  · have hz := okV_nil ov h0
    subst hz
    refine getR_dead (fun s hs e => ?_)
    unfold setR at hs
    rw [if_neg (by simpa using he)] at hs
    cases hf : fnd R k with
    | none =>
      rw [hf] at hs
      simp only [h0, if_true] at hs
      cases hg : s.gone with
      | true => rfl
      | false =>
        obtain ⟨i, hi, rfl⟩ := List.getElem_of_mem hs
        have := hU.live i hi hg
        rw [e, hf] at this; cases this
    | some i =>
      rw [hf] at hs
      simp only [h0, if_true] at hs
      obtain ⟨hi, hik⟩ := fnd_lt hf
      obtain ⟨j, hj, rfl⟩ := List.getElem_of_mem hs
      rw [List.getElem_set] at e ⊢
      by_cases hij : i = j
      · rw [if_pos hij]
      · rw [if_neg hij] at e ⊢
        cases hg : (R[j]'(by rw [List.length_set] at hj; exact hj)).gone with
        | true => rfl
        | false =>
          have := hU.live j _ hg
          rw [e, hf] at this
          exact absurd (Option.some.inj this) hij
  · have hm : (⟨k, v, false⟩ : Rs) ∈ setR R k v := by
      unfold setR
      rw [if_neg (by simpa using he)]
      have hins : (⟨k, v, false⟩ : Rs) ∈ insR R k v := by unfold insR; exact List.mem_append.2 (.inr (List.mem_singleton.2 rfl))
      cases hf : fnd R k with
      | none => simp only; rw [if_neg h0]; exact hins
      | some i =>
        obtain ⟨hi, hik⟩ := fnd_lt hf
        simp only
        rw [if_neg h0]
        split
        · have e : (R.set i ⟨k, v, false⟩)[i]'(by rw [List.length_set]; exact hi) = ⟨k, v, false⟩ := List.getElem_set_self _
          have := List.getElem_mem (l := R.set i ⟨k, v, false⟩) (n := i) (by rw [List.length_set]; exact hi)
          rw [e] at this
          exact this
        · exact hins
    exact getR_mem hU' hm rfl
end Go.Proofs.Ythgkbjiclghfkaa
