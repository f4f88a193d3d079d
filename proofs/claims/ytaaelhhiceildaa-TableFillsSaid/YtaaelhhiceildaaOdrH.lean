/- Layer 12: the functions of ordered maps (6). -/
import Derived.Test.YtaaelhhiceildaaOdrG
import Derived.Deep.DeepCutAuto
import Derived.Deep.CutBlock
import Derived.BigQuiet
import Derived.Maps.AppendAt
import Derived.Laws.MakeOwn
import Derived.OwnWalk
import Derived.RegionTactic
import Derived.Deep.RegionLaw
import Derived.Lib.ItoaWalk
import Derived.StillTailTactics
namespace Go.Proofs.Ytaaelhhiceildaa
open Go.RowKit Go.Joins M1
set_option linter.unusedVariables false
theorem liveB_iff (s : Sl) : liveB s = true ↔ s.bh = 0 := by unfold liveB; exact decide_eq_true_iff
/-- The slots that stay. -/
def kept (L : List Sl) : List Sl := L.filter liveB
theorem kept_step {L : List Sl} {k : Nat} (hk : k < L.length) : kept (L.take (k + 1)) = if liveB L[k] then kept (L.take k) ++ [L[k]] else kept (L.take k) := by
  unfold kept
  rw [List.take_succ_eq_append_getElem hk, List.filter_append]
  by_cases h : liveB L[k] = true <;> simp [h]
theorem kept_len (L : List Sl) (k : Nat) : (kept (L.take k)).length ≤ cnt L ∧ (kept (L.take k)).length ≤ k := by
  unfold kept cnt
  refine ⟨?_, Nat.le_trans (List.length_filter_le _ _) (by rw [List.length_take]; omega)⟩
  exact (List.Sublist.filter _ (List.take_sublist k L)).length_le
theorem kept_live {L : List Sl} : ∀ s ∈ kept L, s.bh = 0 := fun s hs => (liveB_iff s).1 (List.mem_filter.1 hs).2
/-- Every live slot is the last one of its key. -/
def Last (L : List Sl) : Prop := ∀ i (h : i < L.length), L[i].bh = 0 → ∀ j (hj : j < L.length), i < j → L[j].key ≠ L[i].key
theorem Inv.last {L : List Sl} (h : Inv L) : Last L := fun i hi hb j hj hij => by
  obtain ⟨_, _, h3⟩ := lastI_some (h.live i hi hb)
  exact h3 j hj hij
theorem keys_apart {L : List Sl} (h : Last L) : ∀ i j (hi : i < L.length) (hj : j < L.length), L[i].bh = 0 → L[j].bh = 0 → L[i].key = L[j].key → i = j := by
  intro i j hi hj bi bj e
  rcases Nat.lt_trichotomy i j with h' | h' | h'
  · exact absurd e.symm (h i hi bi j hj h')
  · exact h'
  · exact absurd e (h j hj bj i hi h')
theorem last_take {L : List Sl} (h : Last L) (k : Nat) : Last (L.take k) := fun i hi hb j hj hij => by
  rw [List.length_take] at hi hj
  simp only [List.getElem_take] at *
  exact h i (by omega) hb j (by omega) hij
theorem pair_keys {L : List Sl} (h : Last L) : (kept L).Pairwise (fun a b => b.key ≠ a.key) := by
  unfold kept
  rw [List.pairwise_filter]
  rw [List.pairwise_iff_getElem]
  intro i j hi hj hij h1 h2
  exact h i hi ((liveB_iff _).1 h1) j hj hij
theorem lastI_kept {L : List Sl} (hp : L.Pairwise (fun a b => b.key ≠ a.key)) (i : Nat) (hi : i < L.length) : lastI L L[i].key = some i :=
  lastI_mk hi rfl (fun j hj hij => (List.pairwise_iff_getElem.1 hp) i j hi hj hij)
theorem inv_kept {L : List Sl} (h : Inv L) : Inv (kept L) := by
  refine ⟨fun i hi hb => ?_, fun i hi hb => lastI_kept (pair_keys h.last) i hi, fun s hs hb => absurd (kept_live s hs) hb⟩
  exact absurd (kept_live _ (List.getElem_mem hi)) hb
theorem cnt_kept (L : List Sl) : cnt (kept L) = cnt L := by
  unfold cnt kept
  rw [List.filter_filter]
  congr 1
  apply List.filter_congr
  intro s _
  simp
theorem inv_app {L : List Sl} (h : Inv L) (k v : V5) (hk : ∀ i, lastI L k = some i → ∃ hi : i < L.length, L[i].bh ≠ 0) : Inv (L ++ [⟨k, v, 0⟩]) := by
  refine ⟨fun i hi hb => ?_, fun i hi hb => ?_, fun s hs hb => ?_⟩
  · by_cases hiL : i < L.length
    · rw [List.getElem_append_left hiL] at hb ⊢
      obtain ⟨q1, q2, q3⟩ := h.jump i hiL hb
      refine ⟨q1, by simp; omega, fun j hj hij hja => ?_⟩
      rw [List.getElem_append_left (by omega)]
      exact q3 j (by omega) hij hja
    · exfalso
      apply hb
      rw [List.getElem_append_right (by omega)]
      simp
  · rw [lastI_app]
    by_cases hiL : i < L.length
    · rw [List.getElem_append_left hiL] at hb ⊢
      have := h.live i hiL hb
      by_cases e : L[i].key = k
      · exfalso
        rw [e] at this
        obtain ⟨hi', hb'⟩ := hk i this
        exact hb' hb
      · rw [if_neg e]; exact this
    · have : i = L.length := by simp at hi; omega
      subst this
      simp
  · rcases List.mem_append.1 hs with hs | hs
    · exact h.gone s hs hb
    · simp at hs; subst hs; exact absurd rfl hb
theorem cnt_app (L : List Sl) (k v : V5) : cnt (L ++ [⟨k, v, 0⟩]) = cnt L + 1 := by
  unfold cnt; simp [liveB]
theorem last_none_of_kept {L : List Sl} (k : V5) (h : Inv L) (hk : ∀ i, lastI L k = some i → ∃ hi : i < L.length, L[i].bh ≠ 0) : lastI (kept L) k = none := by
  refine lastI_no (fun s hs e => ?_)
  obtain ⟨hs1, hs2⟩ := List.mem_filter.1 hs
  obtain ⟨i, hi, rfl⟩ := List.getElem_of_mem hs1
  have hb := (liveB_iff _).1 hs2
  have := h.live i hi hb
  rw [e] at this
  obtain ⟨_, h2⟩ := hk i this
  exact h2 hb
/-- The slots after an insertion. -/
def insL (L : List Sl) (k v : V5) : List Sl := (if L.length - cnt L > cnt L + 8 then kept L else L) ++ [⟨k, v, 0⟩]
theorem insL_R (L : List Sl) (k v : V5) : rabs (insL L k v) = insR (rabs L) k v := by
  unfold insL insR
  rw [rabs_len, lenR_abs, fil_abs]
  unfold rabs kept
  split <;> simp [rab, liveB]
theorem inv_del {L : List Sl} (h : Inv L) {i : Nat} (hi : i < L.length) (hb : L[i].bh = 0) (k : V5) (hk : L[i].key = k) : Inv (L.set i ⟨k, v5z, i + 1⟩) ∧ cnt L = cnt (L.set i ⟨k, v5z, i + 1⟩) + 1 := by
  refine ⟨⟨fun a ha hab => ?_, fun a ha hab => ?_, fun s hs hbs => ?_⟩, ?_⟩
  · have ha' : a < L.length := by simpa using ha
    rw [set_getD] at hab
    by_cases e : i = a
    · subst e
      rw [set_getD]
      simp only [if_true, List.length_set]
      refine ⟨by omega, by omega, fun j hj hij hja => ?_⟩
      have : j = i := by omega
      subst this
      rw [set_getD, if_pos rfl]; simp
    · rw [if_neg e] at hab
      rw [set_getD, if_neg e]
      obtain ⟨q1, q2, q3⟩ := h.jump a ha' hab
      refine ⟨q1, by simpa using q2, fun j hj hij hja => ?_⟩
      have hj' : j < L.length := by simpa using hj
      rw [set_getD]
      by_cases e2 : i = j
      · rw [if_pos e2]; simp
      · rw [if_neg e2]; exact q3 j hj' hij hja
  · have ha' : a < L.length := by simpa using ha
    rw [set_getD] at hab ⊢
    by_cases e : i = a
    · subst e; rw [if_pos rfl] at hab; simp at hab
    · rw [if_neg e] at hab ⊢
      rw [lastI_set _ _ _ _ (fun _ => hk.symm)]
      exact h.live a ha' hab
  · obtain ⟨a, ha, rfl⟩ := List.getElem_of_mem hs
    have ha' : a < L.length := by simpa using ha
    rw [set_getD] at hbs ⊢
    by_cases e : i = a
    · subst e; rw [if_pos rfl]
    · rw [if_neg e] at hbs ⊢; exact h.gone _ (List.getElem_mem ha') hbs
  · have key : ∀ (M : List Sl) (a : Nat) (ha : a < M.length), M[a].bh = 0 → ∀ t : Sl, t.bh ≠ 0 → cnt M = cnt (M.set a t) + 1 := by
      intro M
      induction M with
      | nil => intro a ha; simp at ha
      | cons s M ih =>
        intro a ha hb t ht
        unfold cnt at *
        cases a with
        | zero =>
          simp only [List.getElem_cons_zero] at hb
          have h1 : liveB s = true := (liveB_iff s).2 hb
          have h2 : liveB t = false := by cases hh : liveB t with
            | false => rfl
            | true => exact absurd ((liveB_iff t).1 hh) ht
          simp [h1, h2]
        | succ a =>
          have := ih a (by simpa using ha) (by simpa using hb) t ht
          simp only [List.set_cons_succ, List.filter_cons]
          split <;> simp [this] <;> omega
    exact key L i hi hb _ (by simp)
theorem inv_val {L : List Sl} (h : Inv L) {i : Nat} (hi : i < L.length) (hb : L[i].bh = 0) (v : V5) : Inv (L.set i ⟨L[i].key, v, 0⟩) ∧ cnt (L.set i ⟨L[i].key, v, 0⟩) = cnt L := by
  have hbh : ∀ a (ha : a < L.length), ((L.set i ⟨L[i].key, v, 0⟩)[a]'(by simpa using ha)).bh = L[a].bh ∧ ((L.set i ⟨L[i].key, v, 0⟩)[a]'(by simpa using ha)).key = L[a].key := by
    intro a ha
    rw [set_getD]
    by_cases e : i = a
    · subst e; rw [if_pos rfl]; exact ⟨hb.symm, rfl⟩
    · rw [if_neg e]; exact ⟨rfl, rfl⟩
  refine ⟨⟨fun a ha hab => ?_, fun a ha hab => ?_, fun s hs hbs => ?_⟩, ?_⟩
  · have ha' : a < L.length := by simpa using ha
    rw [(hbh a ha').1] at hab ⊢
    obtain ⟨q1, q2, q3⟩ := h.jump a ha' hab
    refine ⟨q1, by simpa using q2, fun j hj hij hja => ?_⟩
    have hj' : j < L.length := by simpa using hj
    rw [(hbh j hj').1]; exact q3 j hj' hij hja
  · have ha' : a < L.length := by simpa using ha
    rw [(hbh a ha').1] at hab
    rw [(hbh a ha').2, lastI_set _ _ _ _ (fun _ => rfl)]
    exact h.live a ha' hab
  · obtain ⟨a, ha, rfl⟩ := List.getElem_of_mem hs
    have ha' : a < L.length := by simpa using ha
    rw [(hbh a ha').1] at hbs
    rw [set_getD]
    by_cases e : i = a
    · subst e; exact absurd hb hbs
    · rw [if_neg e]; exact h.gone _ (List.getElem_mem ha') hbs
  · have key : ∀ (M : List Sl) (a : Nat) (t : Sl), (∀ ha : a < M.length, liveB t = liveB M[a]) → cnt (M.set a t) = cnt M := by
      intro M
      induction M with
      | nil => intro a t _; rfl
      | cons s M ih =>
        intro a t ht
        unfold cnt at *
        cases a with
        | zero =>
          have := ht (by simp)
          simp only [List.getElem_cons_zero] at this
          simp only [List.set_cons_zero, List.filter_cons, this]
          split <;> simp
        | succ a =>
          have := ih a t (fun ha => (ht (by simpa using ha)).trans (by simp))
          simp only [List.set_cons_succ, List.filter_cons]
          split <;> simp [this]
    exact key L i _ (fun ha => by unfold liveB; simp [hb])
end Go.Proofs.Ytaaelhhiceildaa
