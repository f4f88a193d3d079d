/- Layer 18: references kept and released, as lists. -/
import Derived.Test.YtbfeahafogbbhaaStV
namespace Go.Proofs.Ytbfeahafogbbhaa
set_option linter.unusedVariables false
def cz : List V5 → Nat
  | [] => 0
  | x :: K => (if x.k = 0 then 1 else 0) + cz K
theorem cz_le : ∀ K : List V5, cz K ≤ K.length
  | [] => Nat.le_refl _
  | x :: K => by have := cz_le K; unfold cz; simp only [List.length_cons]; split <;> omega
theorem cz_snoc (v : V5) : ∀ K : List V5, cz (K ++ [v]) = cz K + (if v.k = 0 then 1 else 0)
  | [] => by simp [cz]
  | x :: K => by simp only [List.cons_append, cz]; rw [cz_snoc v K]; omega
theorem cz_set (v : V5) : ∀ (K : List V5) (i : Nat) (h : i < K.length), cz (K.set i v) + (if K[i].k = 0 then 1 else 0) = cz K + (if v.k = 0 then 1 else 0)
  | [], i, h => by simp at h
  | x :: K, 0, h => by simp only [List.set_cons_zero, cz, List.getElem_cons_zero]; omega
  | x :: K, i + 1, h => by
    have := cz_set v K i (by simpa using h)
    simp only [List.set_cons_succ, cz, List.getElem_cons_succ]; omega
/-- What always holds of references. -/
structure Gd (K : List V5) (F : List Int) : Prop where
  top : K.length ≤ 1000
  cnt : F.length = cz K
  rel : ∀ f ∈ F, 1 ≤ f ∧ f ≤ (K.length : Int) ∧ ∀ x, K[f.toNat - 1]? = some x → x.k = 0
  nd : F.Nodup
theorem gd_nil : Gd [] [] := ⟨by decide, rfl, fun f hf => by simp at hf, List.nodup_nil⟩
theorem Gd.len {K : List V5} {F : List Int} (h : Gd K F) : F.length ≤ K.length := by rw [h.cnt]; exact cz_le K
def refK (K : List V5) (F : List Int) (v : V5) : List V5 := match F.getLast? with
  | none => K ++ [v]
  | some r => K.set (r.toNat - 1) v
def refR (K : List V5) (F : List Int) : Int := match F.getLast? with
  | none => (K.length : Int) + 1
  | some r => r
theorem last_mem {F : List Int} {r : Int} (h : F.getLast? = some r) : r ∈ F := List.mem_of_getLast? h
theorem last_split {F : List Int} {r : Int} (h : F.getLast? = some r) : F = F.dropLast ++ [r] := by
  obtain ⟨h1, h2⟩ := List.getLast?_eq_some_iff.1 h
  rw [h2]; simp
theorem gd_ref {K : List V5} {F : List Int} {v : V5} (h : Gd K F) (hv : v.k ≠ 0) (hu : K.length - F.length < 1000) : Gd (refK K F v) F.dropLast := by
  unfold refK
  cases hl : F.getLast? with
  | none =>
    have hF : F = [] := by simpa using hl
    subst hF
    refine ⟨by simp; have := h.top; simp at hu; omega, ?_, fun f hf => by simp at hf, List.nodup_nil⟩
    simp only [cz_snoc, if_neg hv]
    have := h.cnt; simpa using this
  | some r =>
    have hr := h.rel r (last_mem hl)
    have hi : r.toNat - 1 < K.length := by omega
    have hz : K[r.toNat - 1].k = 0 := hr.2.2 _ (List.getElem?_eq_getElem hi)
    have hs := last_split hl
    have hnd := h.nd
    rw [hs] at hnd
    have hn2 := List.nodup_append.1 hnd
    refine ⟨by simpa using h.top, ?_, fun f hf => ?_, hn2.1⟩
    · have h1 := cz_set v K _ hi
      rw [if_pos hz, if_neg hv] at h1
      have h2 := h.cnt
      simp only [List.length_dropLast]
      omega
    · have hm : f ∈ F := by rw [hs]; simp [hf]
      have hf2 := h.rel f hm
      have hne : f ≠ r := fun e => by
        have := hn2.2.2 f hf r (by simp)
        exact this e
      refine ⟨hf2.1, by simpa using hf2.2.1, fun x hx => ?_⟩
      rw [List.getElem?_set_ne (by omega)] at hx
      exact hf2.2.2 x hx
/-- A reference that is in use. -/
def heldB (K : List V5) (r : Int) : Bool := decide (1 ≤ r) && (decide (r ≤ (K.length : Int)) && match K[r.toNat - 1]? with
  | some x => decide (x.k ≠ 0)
  | none => false)
theorem held_some {K : List V5} {r : Int} (h : heldB K r = true) : 1 ≤ r ∧ r ≤ (K.length : Int) ∧ ∃ (hi : r.toNat - 1 < K.length), K[r.toNat - 1].k ≠ 0 := by
  unfold heldB at h
  simp only [Bool.and_eq_true, decide_eq_true_eq] at h
  obtain ⟨h1, h2, h3⟩ := h
  have hi : r.toNat - 1 < K.length := by omega
  rw [List.getElem?_eq_getElem hi] at h3
  exact ⟨h1, h2, hi, by simpa using h3⟩
theorem held_none {K : List V5} {r : Int} (h : heldB K r = false) : r < 1 ∨ (K.length : Int) < r ∨ ∃ (hi : r.toNat - 1 < K.length), 1 ≤ r ∧ r ≤ (K.length : Int) ∧ K[r.toNat - 1].k = 0 := by
  by_cases h1 : 1 ≤ r
  · by_cases h2 : r ≤ (K.length : Int)
    · have hi : r.toNat - 1 < K.length := by omega
      unfold heldB at h
      rw [List.getElem?_eq_getElem hi] at h
      simp [h1, h2] at h
      exact .inr (.inr ⟨hi, h1, h2, h⟩)
    · exact .inr (.inl (by omega))
  · exact .inl (by omega)
def unK (K : List V5) (r : Int) : List V5 := K.set (r.toNat - 1) v5z
theorem gd_un {K : List V5} {F : List Int} {r : Int} (h : Gd K F) (hr : heldB K r = true) : Gd (unK K r) (F ++ [r]) := by
  obtain ⟨h1, h2, hi, h3⟩ := held_some hr
  unfold unK
  refine ⟨by simpa using h.top, ?_, fun f hf => ?_, ?_⟩
  · have h4 := cz_set v5z K _ hi
    rw [if_neg h3, if_pos (show v5z.k = 0 from rfl)] at h4
    have h5 := h.cnt
    simp only [List.length_append, List.length_singleton]
    omega
  · rw [List.mem_append] at hf
    rcases hf with hf | hf
    · have hf2 := h.rel f hf
      refine ⟨hf2.1, by simpa using hf2.2.1, fun x hx => ?_⟩
      by_cases he : r.toNat - 1 = f.toNat - 1
      · rw [← he, List.getElem?_set_self hi] at hx
        injection hx with hx; rw [← hx]; rfl
      · rw [List.getElem?_set_ne he] at hx
        exact hf2.2.2 x hx
    · simp only [List.mem_singleton] at hf
      subst hf
      refine ⟨h1, by simpa using h2, fun x hx => ?_⟩
      rw [List.getElem?_set_self hi] at hx
      injection hx with hx; rw [← hx]; rfl
  · rw [List.nodup_append]
    refine ⟨h.nd, by simp, fun a ha b hb => ?_⟩
    simp only [List.mem_singleton] at hb
    subst hb
    intro e; subst e
    exact h3 ((h.rel a ha).2.2 _ (List.getElem?_eq_getElem hi))
end Go.Proofs.Ytbfeahafogbbhaa
