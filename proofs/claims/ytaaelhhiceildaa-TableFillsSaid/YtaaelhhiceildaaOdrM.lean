/- Layer 12: what the chapter says of slots. -/
import Derived.Test.YtaaelhhiceildaaOdrB
namespace Go.Proofs.Ytaaelhhiceildaa
open Go.RowKit M1
set_option linter.unusedVariables false
structure Rs where
  key : V5
  val : V5
  gone : Bool
def rab (s : Sl) : Rs := ⟨s.key, s.val, !liveB s⟩
def rabs (L : List Sl) : List Rs := L.map rab
theorem rab_live {s : Sl} (h : s.bh = 0) : (rab s).gone = false := by unfold rab liveB; simp [h]
theorem rab_gone {s : Sl} (h : s.bh ≠ 0) : (rab s).gone = true := by unfold rab liveB; simp [h]
theorem rabs_len (L : List Sl) : (rabs L).length = L.length := by simp [rabs]
theorem rabs_at (L : List Sl) (i : Nat) (h : i < L.length) : (rabs L)[i]'(by rw [rabs_len]; exact h) = rab L[i] := by simp [rabs]
/-- The slot of a key. -/
def fnd : List Rs → V5 → Option Nat
  | [], _ => none
  | s :: R, k => if s.key = k ∧ s.gone = false then some 0 else match fnd R k with
    | some i => some (i + 1)
    | none => if s.key = k then some 0 else none
theorem fnd_lt : ∀ {R : List Rs} {k : V5} {i : Nat}, fnd R k = some i → ∃ h : i < R.length, R[i].key = k
  | [], _, _, h => by cases h
  | s :: R, k, i, h => by
    unfold fnd at h
    split at h
    · rename_i hc
      simp only [Option.some.injEq] at h; subst h
      exact ⟨by simp, by simpa using hc.1⟩
    · cases hf : fnd R k with
      | some j =>
        rw [hf] at h
        simp only [Option.some.injEq] at h; subst h
        obtain ⟨h1, h2⟩ := fnd_lt hf
        exact ⟨by simpa using h1, by simpa using h2⟩
      | none =>
        rw [hf] at h
        simp only at h
        split at h
        · rename_i hk
          simp only [Option.some.injEq] at h; subst h
          exact ⟨by simp, by simpa using hk⟩
        · cases h
theorem fnd_none : ∀ {R : List Rs} {k : V5}, (∀ s ∈ R, s.key ≠ k) → fnd R k = none
  | [], _, _ => rfl
  | s :: R, k, h => by
    unfold fnd
    have h1 := h s (by simp)
    rw [if_neg (fun e => h1 e.1), fnd_none (fun t ht => h t (by simp [ht]))]
    simp [h1]
theorem fnd_live : ∀ {R : List Rs} {k : V5} {i : Nat} (hi : i < R.length), R[i].key = k → R[i].gone = false → (∀ j (hj : j < R.length), j < i → R[j].key = k → R[j].gone = true) → fnd R k = some i
  | [], _, i, hi, _, _, _ => by simp at hi
  | s :: R, k, 0, hi, hk, hg, _ => by
    unfold fnd
    rw [if_pos ⟨by simpa using hk, by simpa using hg⟩]
  | s :: R, k, i + 1, hi, hk, hg, h => by
    unfold fnd
    have h0 : ¬ (s.key = k ∧ s.gone = false) := fun e => by
      have := h 0 (by simp) (by omega) (by simpa using e.1)
      simp [e.2] at this
    rw [if_neg h0, fnd_live (R := R) (i := i) (by simpa using hi) (by simpa using hk) (by simpa using hg) (fun j hj hji he => by
      have := h (j + 1) (by simpa using hj) (by omega) (by simpa using he)
      simpa using this)]
theorem fnd_dead : ∀ {R : List Rs} {k : V5} {i : Nat} (hi : i < R.length), R[i].key = k → (∀ j (hj : j < R.length), R[j].key = k → R[j].gone = true) → (∀ j (hj : j < R.length), i < j → R[j].key ≠ k) → fnd R k = some i
  | [], _, i, hi, _, _, _ => by simp at hi
  | s :: R, k, 0, hi, hk, hd, hl => by
    unfold fnd
    have h0 : ¬ (s.key = k ∧ s.gone = false) := fun e => by
      have := hd 0 (by simp) (by simpa using e.1)
      simp [e.2] at this
    rw [if_neg h0, fnd_none (fun t ht e => by
      obtain ⟨j, hj, rfl⟩ := List.getElem_of_mem ht
      exact hl (j + 1) (by simpa using hj) (by omega) (by simpa using e))]
    simp only
    rw [if_pos (by simpa using hk)]
  | s :: R, k, i + 1, hi, hk, hd, hl => by
    unfold fnd
    have h0 : ¬ (s.key = k ∧ s.gone = false) := fun e => by
      have := hd 0 (by simp) (by simpa using e.1)
      simp [e.2] at this
    rw [if_neg h0, fnd_dead (R := R) (i := i) (by simpa using hi) (by simpa using hk) (fun j hj he => by
      have := hd (j + 1) (by simpa using hj) (by simpa using he)
      simpa using this) (fun j hj hji => by
      have := hl (j + 1) (by simpa using hj) (by omega)
      simpa using this)]
theorem fnd_abs {L : List Sl} (hI : Inv L) (k : V5) : fnd (rabs L) k = lastI L k := by
  cases hl : lastI L k with
  | none =>
    refine fnd_none (fun s hs => ?_)
    obtain ⟨t, ht, rfl⟩ := List.mem_map.1 hs
    exact lastI_none hl t ht
  | some i =>
    obtain ⟨hi, hk, hlast⟩ := lastI_some hl
    by_cases hb : L[i].bh = 0
    · refine fnd_live (by rw [rabs_len]; exact hi) (by rw [rabs_at L i hi]; exact hk) (by rw [rabs_at L i hi]; exact rab_live hb) (fun j hj hji he => ?_)
      rw [rabs_len] at hj
      rw [rabs_at L j hj] at *
      by_cases hbj : L[j].bh = 0
      · have := hI.live j hj hbj
        rw [show L[j].key = k from he, hl] at this
        have := Option.some.inj this
        omega
      · exact rab_gone hbj
    · refine fnd_dead (by rw [rabs_len]; exact hi) (by rw [rabs_at L i hi]; exact hk) (fun j hj he => ?_) (fun j hj hij => ?_)
      · rw [rabs_len] at hj
        rw [rabs_at L j hj] at *
        by_cases hbj : L[j].bh = 0
        · have := hI.live j hj hbj
          rw [show L[j].key = k from he, hl] at this
          have := Option.some.inj this
          subst this
          exact absurd hbj hb
        · exact rab_gone hbj
      · rw [rabs_len] at hj
        rw [rabs_at L j hj]
        exact hlast j hj hij
def aliveR (s : Rs) : Bool := !s.gone
def lenR (R : List Rs) : Nat := (R.filter aliveR).length
def keysR (R : List Rs) : List V5 := (R.filter aliveR).map (·.key)
def valAt (R : List Rs) (i : Nat) : V5 := match R[i]? with
  | some s => if s.gone then v5z else s.val
  | none => v5z
def getR (R : List Rs) (k : V5) : V5 := match fnd R k with
  | some i => valAt R i
  | none => v5z
def okV (v : V5) : Bool := validF v.k v.p v.q v.s v.r
def errR (k v : V5) : Int := if k.k = 0 ∨ okV k = false then 13 else if okV v = false then 2 else 0
def insR (R : List Rs) (k v : V5) : List Rs := (if R.length - lenR R > lenR R + 8 then R.filter aliveR else R) ++ [⟨k, v, false⟩]
def setR (R : List Rs) (k v : V5) : List Rs :=
  if errR k v ≠ 0 then R else
  match fnd R k with
  | some i => if v.k = 0 then R.set i ⟨k, v5z, true⟩ else if (R[i]?.map (·.gone)) = some false then R.set i ⟨k, v, false⟩ else insR R k v
  | none => if v.k = 0 then R else insR R k v
def firstL : List Rs → Nat → Option Nat
  | [], _ => none
  | s :: R, 0 => if s.gone then (firstL R 0).map (· + 1) else some 0
  | s :: R, n + 1 => (firstL R n).map (· + 1)
theorem firstL_some : ∀ {R : List Rs} {a i : Nat}, firstL R a = some i → a ≤ i ∧ ∃ h : i < R.length, R[i].gone = false ∧ ∀ j (hj : j < R.length), a ≤ j → j < i → R[j].gone = true
  | [], _, _, h => by cases h
  | s :: R, 0, i, h => by
    unfold firstL at h
    split at h
    · rename_i hg
      obtain ⟨j, hj, rfl⟩ := Option.map_eq_some_iff.1 h
      obtain ⟨h1, h2, h3, h4⟩ := firstL_some hj
      refine ⟨by omega, by simpa using h2, by simpa using h3, fun n hn h0 hni => ?_⟩
      cases n with
      | zero => simpa using hg
      | succ n => simpa using h4 n (by simpa using hn) (by omega) (by omega)
    · rename_i hg
      simp only [Option.some.injEq] at h; subst h
      exact ⟨by omega, by simp, by simpa using hg, fun n hn h0 hni => by omega⟩
  | s :: R, a + 1, i, h => by
    unfold firstL at h
    obtain ⟨j, hj, rfl⟩ := Option.map_eq_some_iff.1 h
    obtain ⟨h1, h2, h3, h4⟩ := firstL_some hj
    refine ⟨by omega, by simpa using h2, by simpa using h3, fun n hn h0 hni => ?_⟩
    cases n with
    | zero => omega
    | succ n => simpa using h4 n (by simpa using hn) (by omega) (by omega)
theorem firstL_none : ∀ {R : List Rs} {a : Nat}, firstL R a = none → ∀ j (hj : j < R.length), a ≤ j → R[j].gone = true
  | [], _, _, j, hj, _ => by simp at hj
  | s :: R, 0, h, j, hj, ha => by
    unfold firstL at h
    split at h
    · rename_i hg
      cases j with
      | zero => simpa using hg
      | succ j => simpa using firstL_none (Option.map_eq_none_iff.1 h) j (by simpa using hj) (by omega)
    · cases h
  | s :: R, a + 1, h, j, hj, ha => by
    unfold firstL at h
    cases j with
    | zero => omega
    | succ j => simpa using firstL_none (Option.map_eq_none_iff.1 h) j (by simpa using hj) (by omega)
theorem firstL_mk {R : List Rs} {a i : Nat} (ha : a ≤ i) (hi : i < R.length) (hg : R[i].gone = false) (h : ∀ j (hj : j < R.length), a ≤ j → j < i → R[j].gone = true) : firstL R a = some i := by
  cases hf : firstL R a with
  | none => have := firstL_none hf i hi ha; rw [hg] at this; cases this
  | some m =>
    obtain ⟨h1, h2, h3, h4⟩ := firstL_some hf
    rcases Nat.lt_trichotomy i m with h' | h' | h'
    · have := h4 i hi ha h'; rw [hg] at this; cases this
    · rw [h']
    · have := h m h2 h1 h'; rw [h3] at this; cases this
theorem firstL_no {R : List Rs} {a : Nat} (h : ∀ j (hj : j < R.length), a ≤ j → R[j].gone = true) : firstL R a = none := by
  cases hf : firstL R a with
  | none => rfl
  | some m => obtain ⟨h1, h2, h3, _⟩ := firstL_some hf; have := h m h2 h1; rw [h3] at this; cases this
/-- The key, the value, whether there is one, the error. -/
structure Nx where
  key : V5
  val : V5
  ok : Bool
  err : Int
def nxAt (R : List Rs) (a : Nat) : Nx := match firstL R a with
  | some i => match R[i]? with
    | some s => ⟨s.key, s.val, true, 0⟩
    | none => ⟨v5z, v5z, false, 0⟩
  | none => ⟨v5z, v5z, false, 0⟩
def nextR (R : List Rs) (k : V5) : Nx := if k = v5z then nxAt R 0 else match fnd R k with
  | some i => nxAt R (i + 1)
  | none => ⟨v5z, v5z, false, 13⟩
theorem lenR_abs (L : List Sl) : lenR (rabs L) = cnt L := by
  unfold lenR rabs cnt
  rw [List.filter_map, List.length_map]
  congr 1
  apply List.filter_congr
  intro s _
  simp [rab, aliveR]
theorem keysR_abs (L : List Sl) : keysR (rabs L) = (L.filter liveB).map (·.key) := by
  unfold keysR rabs
  rw [List.filter_map, List.map_map]
  congr 1
  apply List.filter_congr
  intro s _
  simp [rab, aliveR]
theorem fil_abs (L : List Sl) : (rabs L).filter aliveR = rabs (L.filter liveB) := by
  unfold rabs
  rw [List.filter_map]
  congr 1
  apply List.filter_congr
  intro s _
  simp [rab, aliveR]
end Go.Proofs.Ytaaelhhiceildaa
