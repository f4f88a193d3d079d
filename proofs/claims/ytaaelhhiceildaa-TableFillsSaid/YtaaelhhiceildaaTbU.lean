/- Layer 13: lists of slots. -/
import Derived.Test.YtaaelhhiceildaaTbE
import Derived.Test.YtaaelhhiceildaaOdrP
import Derived.Test.YtaaelhhiceildaaOdrR
import Derived.Test.YtaaelhhiceildaaTbF
namespace Go.Proofs.Ytaaelhhiceildaa
open Go.RowKit Go.Joins M1
set_option linter.unusedVariables false
/-- The slot that is found is the last one of its key, and a slot in use is found. -/
structure Un (R : List Rs) : Prop where
  last : ∀ k i, fnd R k = some i → ∀ j (hj : j < R.length), i < j → R[j].key ≠ k
  none : ∀ k, fnd R k = .none → ∀ s ∈ R, s.key ≠ k
  live : ∀ i (h : i < R.length), R[i].gone = false → fnd R R[i].key = some i
theorem OmR.un {B b : Nat} {v m : Value} {R : List Rs} {w : World} (h : OmR B b v m R w) : Un R := by
  obtain ⟨L, h1, rfl⟩ := h
  have hI := h1.inv
  refine ⟨fun k i hf j hj hij => ?_, fun k hf s hs => ?_, fun i hi hg => ?_⟩
  · rw [fnd_abs hI] at hf
    obtain ⟨_, _, h3⟩ := lastI_some hf
    rw [rabs_len] at hj
    rw [rabs_at L j hj]
    exact h3 j hj hij
  · rw [fnd_abs hI] at hf
    obtain ⟨t, ht, rfl⟩ := List.mem_map.1 hs
    exact lastI_none hf t ht
  · rw [rabs_len] at hi
    rw [rabs_at L i hi] at hg ⊢
    rw [fnd_abs hI]
    refine hI.live i hi ?_
    by_cases hb : L[i].bh = 0
    · exact hb
    · rw [rab_gone hb] at hg; cases hg
/-- Slots hold keys; those in use, values. -/
def Ok (R : List Rs) : Prop := Good R ∧ ∀ s ∈ R, s.key.k ≠ 0
theorem ok_set {R : List Rs} (h : Ok R) (k v : V5) : Ok (setR R k v) := by
  by_cases he : errR k v = 0
  · refine ⟨(set_nums R h.1 k v he).1, ?_⟩
    have hk : k.k ≠ 0 := fun e => by unfold errR at he; rw [if_pos (.inl e)] at he; cases he
    have hins : ∀ s ∈ insR R k v, s.key.k ≠ 0 := by
      intro s hs
      unfold insR at hs
      rcases List.mem_append.1 hs with h1 | h1
      · split at h1
        · exact h.2 s (List.mem_filter.1 h1).1
        · exact h.2 s h1
      · rw [List.mem_singleton] at h1; subst h1; exact hk
    have hset : ∀ (i : Nat) (t : Rs), t.key = k → ∀ s ∈ R.set i t, s.key.k ≠ 0 := by
      intro i t ht s hs
      rcases List.mem_or_eq_of_mem_set hs with h1 | rfl
      · exact h.2 s h1
      · rw [ht]; exact hk
    unfold setR
    rw [if_neg (by simpa using he)]
    split
    · split
      · exact hset _ _ rfl
      · split
        · exact hset _ _ rfl
        · exact hins
    · split
      · exact h.2
      · exact hins
  · rw [setR_err he]; exact h
theorem ok_nil : Ok [] := ⟨Good.nil, fun s h => by cases h⟩
theorem lenR_gone {R : List Rs} {a : Nat} : ∀ {b : Nat}, a ≤ b → b ≤ R.length → (∀ j (hj : j < R.length), a ≤ j → j < b → R[j].gone = true) → lenR (R.take b) = lenR (R.take a) := by
  intro b
  induction b with
  | zero => intro hab _ _; rw [show a = 0 by omega]
  | succ b ih =>
    intro hab hb h
    by_cases e : a = b + 1
    · rw [e]
    · rw [lenR_take (by omega), ih (by omega) (by omega) (fun j hj h1 h2 => h j hj h1 (by omega)), lv, if_pos (h b (by omega) (by omega) (by omega))]; rfl
theorem keys_at {R : List Rs} {j : Nat} (hj : j < R.length) (hg : R[j].gone = false) : (keysR R)[lenR (R.take j)]? = some R[j].key := by
  have e : keysR R = keysR (R.take j) ++ (R[j].key :: keysR (R.drop (j + 1))) := by
    unfold keysR
    conv => lhs; rw [← List.take_append_drop j R, List.drop_eq_getElem_cons hj]
    rw [List.filter_append, List.filter_cons, if_pos (by simp [aliveR, hg]), List.map_append, List.map_cons]
  rw [e, ← keysR_len, List.getElem?_append_right (Nat.le_refl _)]
  simp
/-- The i-th slot in use comes next. -/
def At (R : List Rs) (i : Nat) (k : V5) : Prop := ∃ a, a ≤ R.length ∧ lenR (R.take a) = i ∧ nextR R k = nxAt R a
theorem at_zero (R : List Rs) : At R 0 v5z := ⟨0, Nat.zero_le _, rfl, by unfold nextR; rw [if_pos rfl]⟩
theorem nx_more {R : List Rs} {a : Nat} (ha : a ≤ R.length) (h : lenR (R.take a) < lenR R) : ∃ j, ∃ hj : j < R.length, a ≤ j ∧ R[j].gone = false ∧ lenR (R.take j) = lenR (R.take a) ∧ nxAt R a = ⟨R[j].key, R[j].val, true, 0⟩ := by
  cases hf : firstL R a with
  | none =>
    have h1 := lenR_gone (a := a) (b := R.length) ha (Nat.le_refl _) (fun j hj h1 _ => firstL_none hf j hj h1)
    rw [List.take_length] at h1
    omega
  | some j =>
    obtain ⟨h1, h2, h3, h4⟩ := firstL_some hf
    refine ⟨j, h2, h1, h3, lenR_gone h1 (by omega) h4, ?_⟩
    unfold nxAt
    rw [hf]
    simp [List.getElem?_eq_getElem h2]
theorem nx_end {R : List Rs} {a : Nat} (h : lenR (R.take a) = lenR R) : nxAt R a = ⟨v5z, v5z, false, 0⟩ := by
  cases hf : firstL R a with
  | none => unfold nxAt; rw [hf]
  | some j =>
    obtain ⟨h1, h2, h3, h4⟩ := firstL_some hf
    have e1 := lenR_gone h1 (by omega) h4
    have e2 := lenR_take h2
    rw [lv, h3] at e2
    have e3 : lenR (R.take (j + 1)) ≤ lenR R := by
      conv => rhs; rw [← List.take_append_drop (j + 1) R]
      unfold lenR
      rw [List.filter_append, List.length_append]
      omega
    simp at e2
    omega
theorem next_of {R : List Rs} (hO : Ok R) (hU : Un R) {j : Nat} (hj : j < R.length) (hg : R[j].gone = false) : nextR R R[j].key = nxAt R (j + 1) := by
  have hz : R[j].key ≠ v5z := fun e => hO.2 _ (List.getElem_mem hj) (by rw [e]; rfl)
  unfold nextR
  rw [if_neg hz, hU.live j hj hg]
theorem at_step {R : List Rs} (hO : Ok R) (hU : Un R) {i : Nat} {k : V5} (h : At R i k) (hi : i < lenR R) : ∃ hi' : i < (keysR R).length, ∃ v, nextR R k = ⟨(keysR R)[i], v, true, 0⟩ ∧ getR R (keysR R)[i] = v ∧ v.k ≠ 0 ∧ At R (i + 1) (keysR R)[i] := by
  obtain ⟨a, ha, h1, h2⟩ := h
  subst h1
  obtain ⟨j, hj, haj, hg, hl, hn⟩ := nx_more ha hi
  have hi' : lenR (R.take a) < (keysR R).length := by rw [keysR_len]; exact hi
  have hk : (keysR R)[lenR (R.take a)] = R[j].key := by
    have := keys_at hj hg
    rw [hl, List.getElem?_eq_getElem hi'] at this
    exact Option.some.inj this
  refine ⟨hi', R[j].val, by rw [h2, hn, hk], ?_, hO.1 _ (List.getElem_mem hj) hg, ?_⟩
  · rw [hk, getR_at (hU.live j hj hg) hj, if_neg (by rw [hg]; simp)]
  · refine ⟨j + 1, by omega, ?_, by rw [hk]; exact next_of hO hU hj hg⟩
    rw [lenR_take hj, hl, lv, hg]; simp
theorem at_end {R : List Rs} {k : V5} (h : At R (lenR R) k) : nextR R k = ⟨v5z, v5z, false, 0⟩ := by
  obtain ⟨a, ha, h1, h2⟩ := h
  rw [h2, nx_end h1]
/-- Keys are values. -/
def Vk (R : List Rs) : Prop := ∀ s ∈ R, okV s.key = true
theorem vk_set {R : List Rs} (h : Vk R) (k v : V5) : Vk (setR R k v) := by
  by_cases he : errR k v = 0
  · have hk : okV k = true := by
      cases hq : okV k with
      | true => rfl
      | false => unfold errR at he; rw [if_pos (.inr hq)] at he; cases he
    have hins : ∀ s ∈ insR R k v, okV s.key = true := by
      intro s hs
      unfold insR at hs
      rcases List.mem_append.1 hs with h1 | h1
      · split at h1
        · exact h s (List.mem_filter.1 h1).1
        · exact h s h1
      · rw [List.mem_singleton] at h1; subst h1; exact hk
    have hset : ∀ (i : Nat) (t : Rs), t.key = k → ∀ s ∈ R.set i t, okV s.key = true := by
      intro i t ht s hs
      rcases List.mem_or_eq_of_mem_set hs with h1 | rfl
      · exact h s h1
      · rw [ht]; exact hk
    unfold setR
    rw [if_neg (by simpa using he)]
    split
    · split
      · exact hset _ _ rfl
      · split
        · exact hset _ _ rfl
        · exact hins
    · split
      · exact h
      · exact hins
  · rw [setR_err he]; exact h
theorem vk_nil : Vk [] := fun s h => by cases h
theorem getR_mem {R : List Rs} (hU : Un R) {s : Rs} (hs : s ∈ R) (hg : s.gone = false) : getR R s.key = s.val := by
  obtain ⟨i, hi, rfl⟩ := List.getElem_of_mem hs
  rw [getR_at (hU.live i hi hg) hi, if_neg (by rw [hg]; simp)]
theorem getR_dead {R : List Rs} {k : V5} (h : ∀ s ∈ R, s.key = k → s.gone = true) : getR R k = v5z := by
  cases hf : fnd R k with
  | none => exact getR_none hf
  | some i =>
    obtain ⟨hi, hk⟩ := fnd_lt hf
    rw [getR_at hf hi, if_pos (h _ (List.getElem_mem hi) hk)]
theorem ins_mem (R : List Rs) (k v : V5) (s : Rs) (hg : s.gone = false) (hk : s.key ≠ k) : s ∈ insR R k v ↔ s ∈ R := by
  unfold insR
  rw [List.mem_append, List.mem_singleton]
  constructor
  · rintro (h | h)
    · split at h
      · exact (List.mem_filter.1 h).1
      · exact h
    · rw [h] at hk; exact absurd rfl hk
  · intro h
    left
    split
    · exact List.mem_filter.2 ⟨h, by simp [aliveR, hg]⟩
    · exact h
theorem set_mem {R : List Rs} {i : Nat} (hi : i < R.length) (t s : Rs) (k : V5) (ht : t.key = k) (hk : R[i].key = k) (hs : s.key ≠ k) : s ∈ R.set i t ↔ s ∈ R := by
  constructor
  · intro h
    rcases List.mem_or_eq_of_mem_set h with h1 | rfl
    · exact h1
    · exact absurd ht hs
  · intro h
    obtain ⟨j, hj, rfl⟩ := List.getElem_of_mem h
    have hne : i ≠ j := fun e => by subst e; exact hs hk
    have e : (R.set i t)[j]'(by rw [List.length_set]; exact hj) = R[j] := List.getElem_set_ne hne _
    rw [← e]
    exact List.getElem_mem _
theorem setR_mem (R : List Rs) (k v : V5) (s : Rs) (hg : s.gone = false) (hk : s.key ≠ k) : s ∈ setR R k v ↔ s ∈ R := by
  unfold setR
  split
  · exact Iff.rfl
  · cases hf : fnd R k with
    | none =>
      simp only
      split
      · exact Iff.rfl
      · exact ins_mem R k v s hg hk
    | some i =>
      obtain ⟨hi, hik⟩ := fnd_lt hf
      simp only
      split
      · exact set_mem hi _ s k rfl hik hk
      · split
        · exact set_mem hi _ s k rfl hik hk
        · exact ins_mem R k v s hg hk
theorem get_other {R : List Rs} {k v x : V5} (hU : Un R) (hU' : Un (setR R k v)) (hx : x ≠ k) : getR (setR R k v) x = getR R x := by
  by_cases h : ∃ s ∈ R, s.gone = false ∧ s.key = x
  · obtain ⟨s, hs, hg, rfl⟩ := h
    rw [getR_mem hU hs hg, getR_mem hU' ((setR_mem R k v s hg hx).2 hs) hg]
  · have h1 : ∀ s ∈ R, s.key = x → s.gone = true := fun s hs e => by
      cases hg : s.gone with
      | true => rfl
      | false => exact absurd ⟨s, hs, hg, e⟩ h
    have h2 : ∀ s ∈ setR R k v, s.key = x → s.gone = true := fun s hs e => by
      cases hg : s.gone with
      | true => rfl
      | false =>
        have := (setR_mem R k v s hg (by rw [e]; exact hx)).1 hs
        have := h1 s this e
        rw [hg] at this; cases this
    rw [getR_dead h1, getR_dead h2]
theorem okV_nil {v : V5} (h : okV v = true) (h0 : v.k = 0) : v = v5z := by
  unfold okV validF at h
  rw [if_pos h0] at h
  unfold eqV at h
  obtain ⟨k, p, q, s, r⟩ := v
  simp at h
  obtain ⟨a, b, c, d, e⟩ := h
  subst a b c d e
  rfl
theorem errR_zero {k v : V5} (h : errR k v = 0) : k.k ≠ 0 ∧ okV k = true ∧ okV v = true := by
  unfold errR at h
  split at h
  · cases h
  · rename_i h1
    split at h
    · cases h
    · rename_i h2
      refine ⟨fun e => h1 (.inl e), ?_, by simpa using h2⟩
      cases hk : okV k with
      | true => rfl
      | false => exact absurd (.inr hk) h1
theorem get_self {R : List Rs} {k v : V5} (hU : Un R) (hU' : Un (setR R k v)) (he : errR k v = 0) : getR (setR R k v) k = v := by
  obtain ⟨hk, ok, ov⟩ := errR_zero he
  by_cases h0 : v.k = 0
  · have hz := okV_nil ov h0
    subst hz
    refine getR_dead (fun s hs e => ?_)
    unfold setR at hs
    rw [if_neg (by simpa using he)] at hs
    cases hf : fnd R k with
    | none =>
      rw [hf] at hs
      simp only [h0, if_true] at hs
      cases hg : s.gone with
      | true => rfl
      | false =>
        obtain ⟨i, hi, rfl⟩ := List.getElem_of_mem hs
        have := hU.live i hi hg
        rw [e, hf] at this; cases this
    | some i =>
      rw [hf] at hs
      simp only [h0, if_true] at hs
      obtain ⟨hi, hik⟩ := fnd_lt hf
      obtain ⟨j, hj, rfl⟩ := List.getElem_of_mem hs
      rw [List.getElem_set] at e ⊢
      by_cases hij : i = j
      · rw [if_pos hij]
      · rw [if_neg hij] at e ⊢
        cases hg : (R[j]'(by rw [List.length_set] at hj; exact hj)).gone with
        | true => rfl
        | false =>
          have := hU.live j _ hg
          rw [e, hf] at this
          exact absurd (Option.some.inj this) hij
  · have hm : (⟨k, v, false⟩ : Rs) ∈ setR R k v := by
      unfold setR
      rw [if_neg (by simpa using he)]
      have hins : (⟨k, v, false⟩ : Rs) ∈ insR R k v := by unfold insR; exact List.mem_append.2 (.inr (List.mem_singleton.2 rfl))
      cases hf : fnd R k with
      | none => simp only; rw [if_neg h0]; exact hins
      | some i =>
        obtain ⟨hi, hik⟩ := fnd_lt hf
        simp only
        rw [if_neg h0]
        split
        · have e : (R.set i ⟨k, v, false⟩)[i]'(by rw [List.length_set]; exact hi) = ⟨k, v, false⟩ := List.getElem_set_self _
          have := List.getElem_mem (l := R.set i ⟨k, v, false⟩) (n := i) (by rw [List.length_set]; exact hi)
          rw [e] at this
          exact this
        · exact hins
    exact getR_mem hU' hm rfl
end Go.Proofs.Ytaaelhhiceildaa
namespace Go.Proofs.Ytaaelhhiceildaa
open Go.RowKit Go.Joins M1
set_option linter.unusedVariables false
def Iv (R : List Rs) : Prop := ∃ L, Inv L ∧ rabs L = R
theorem Iv.nil : Iv [] := ⟨[], Inv.nil, rfl⟩
theorem OmR.iv {B b : Nat} {v m : Value} {R : List Rs} {w : World} (h : OmR B b v m R w) : Iv R := by
  obtain ⟨L, h1, h2⟩ := h
  exact ⟨L, h1.inv, h2⟩
theorem Iv.un {R : List Rs} (h : Iv R) : Un R := by
  obtain ⟨L, hI, rfl⟩ := h
  refine ⟨fun k i hf j hj hij => ?_, fun k hf s hs => ?_, fun i hi hg => ?_⟩
  · rw [fnd_abs hI] at hf
    obtain ⟨_, _, h3⟩ := lastI_some hf
    rw [rabs_len] at hj
    rw [rabs_at L j hj]
    exact h3 j hj hij
  · rw [fnd_abs hI] at hf
    obtain ⟨t, ht, rfl⟩ := List.mem_map.1 hs
    exact lastI_none hf t ht
  · rw [rabs_len] at hi
    rw [rabs_at L i hi] at hg ⊢
    rw [fnd_abs hI]
    refine hI.live i hi ?_
    by_cases hb : L[i].bh = 0
    · exact hb
    · rw [rab_gone hb] at hg; cases hg
theorem Iv.set {R : List Rs} (h : Iv R) (k v : V5) : Iv (setR R k v) := by
  by_cases he : errR k v = 0
  · obtain ⟨L, hI, rfl⟩ := h
    by_cases hk : ∃ i, lastI L k = some i ∧ ∃ hi : i < L.length, L[i].bh = 0
    · obtain ⟨i, hl, hi, hb⟩ := hk
      by_cases hx : v.k = 0
      · rw [setR_del hI he hx hl]
        obtain ⟨_, h2, _⟩ := lastI_some hl
        exact ⟨_, (inv_del hI hi hb k h2).1, rfl⟩
      · rw [setR_val hI he hx hl hi hb]
        exact ⟨_, (inv_val hI hi hb v).1, rfl⟩
    · have hnk : ∀ i, lastI L k = some i → ∃ hi : i < L.length, L[i].bh ≠ 0 := fun i hl => by
        obtain ⟨hi, _, _⟩ := lastI_some hl
        exact ⟨hi, fun hb => hk ⟨i, hl, hi, hb⟩⟩
      by_cases hx : v.k = 0
      · rw [setR_none hI he hx hnk]; exact ⟨L, hI, rfl⟩
      · rw [setR_ins hI he hx hnk]
        refine ⟨_, ?_, rfl⟩
        unfold insL
        split
        · exact inv_app (inv_kept hI) k v (fun i hl => by rw [last_none_of_kept k hI hnk] at hl; cases hl)
        · exact inv_app hI k v hnk
  · rw [setR_err he]; exact h
/-- What a Set in the slots leaves. -/
theorem get_set {R : List Rs} (h : Iv R) (k v x : V5) (he : errR k v = 0) : getR (setR R k v) x = if x = k then v else getR R x := by
  by_cases hx : x = k
  · subst hx
    rw [if_pos rfl]
    exact get_self h.un (h.set _ _).un he
  · rw [if_neg hx]
    exact get_other h.un (h.set _ _).un hx
theorem getR_bad {R : List Rs} (h : Ok R) (hv : Vk R) {k : V5} (hk : k.k = 0 ∨ okV k = false) : getR R k = v5z := by
  refine getR_dead (fun s hs e => ?_)
  rcases hk with hk | hk
  · exact absurd (by rw [e]; exact hk) (h.2 s hs)
  · have := hv s hs; rw [e, hk] at this; cases this
theorem Ok.val {R : List Rs} (h : Ok R) {k : V5} (hk : (getR R k).k = 0) : getR R k = v5z := by
  cases hf : fnd R k with
  | none => exact getR_none hf
  | some i =>
    obtain ⟨hi, _⟩ := fnd_lt hf
    rw [getR_at hf hi] at hk ⊢
    split
    · rfl
    · rename_i hg
      rw [if_neg hg] at hk
      exact absurd hk (h.1 _ (List.getElem_mem hi) (by simpa using hg))
/-- A map without its removed slots. -/
theorem fold_get {R : List Rs} (hO : Ok R) (hV : Vk R) (hW : ∀ k, okV (getR R k) = true) : ∀ (l : List V5) (F : List Rs), Iv F → (∀ k ∈ l, k.k ≠ 0 ∧ okV k = true) → Iv (l.foldl (fun F k => setR F k (getR R k)) F) ∧ ∀ x, getR (l.foldl (fun F k => setR F k (getR R k)) F) x = if x ∈ l then getR R x else getR F x
  | [], F, hF, _ => ⟨hF, fun x => by simp⟩
  | k :: l, F, hF, hl => by
    have hk := hl k (by simp)
    have he : errR k (getR R k) = 0 := by
      unfold errR
      rw [if_neg (by simp [hk.1, hk.2]), if_neg (by rw [hW k]; simp)]
    obtain ⟨h1, h2⟩ := fold_get hO hV hW l (setR F k (getR R k)) (hF.set _ _) (fun y hy => hl y (by simp [hy]))
    refine ⟨h1, fun x => ?_⟩
    rw [List.foldl_cons, h2 x, get_set hF k _ x he]
    by_cases hx : x ∈ l
    · simp [hx]
    · by_cases hxk : x = k
      · simp [hxk]
      · simp [hx, hxk]
theorem keysR_mem {R : List Rs} {k : V5} : k ∈ keysR R ↔ ∃ s ∈ R, s.gone = false ∧ s.key = k := by
  unfold keysR aliveR
  simp [List.mem_map, List.mem_filter, and_assoc]
theorem renR_iv {R : List Rs} (hO : Ok R) (hV : Vk R) (hW : ∀ k, okV (getR R k) = true) : Iv (renR R) ∧ ∀ x, getR (renR R) x = getR R x := by
  obtain ⟨h1, h2⟩ := fold_get hO hV hW (keysR R) [] Iv.nil (fun k hk => by
    obtain ⟨s, hs, _, rfl⟩ := keysR_mem.1 hk
    exact ⟨hO.2 s hs, hV s hs⟩)
  refine ⟨h1, fun x => ?_⟩
  show getR ((keysR R).foldl _ []) x = _
  rw [h2 x]
  split
  · rfl
  · rename_i hx
    rw [getR_dead (R := R) (k := x) (fun s hs e => ?_)]
    · exact getR_none rfl
    · cases hg : s.gone with
      | true => rfl
      | false => exact absurd (keysR_mem.2 ⟨s, hs, hg, e⟩) hx
end Go.Proofs.Ytaaelhhiceildaa
namespace Go.Proofs.Ytaaelhhiceildaa
open Go.RowKit Go.Joins M1
set_option linter.unusedVariables false
theorem keyS {i : Nat} (h : i ≤ 3000000) : keyV (i : Int) = ⟨2, i, 1, ⟨#[]⟩, 0⟩ := keyV_ok (vld_small (by omega) (by omega))
theorem keyS_inj {i j : Nat} (hi : i ≤ 3000000) (hj : j ≤ 3000000) (h : keyV (i : Int) = keyV (j : Int)) : i = j := by
  rw [keyS hi, keyS hj] at h
  injection h with _ h2
  omega
theorem keyS_k {i : Nat} (h : i ≤ 3000000) : (keyV (i : Int)).k = 2 := by rw [keyS h]
theorem elF_key {n i : Nat} (h1 : 1 ≤ i) (h2 : i ≤ n) (hn : n ≤ 3000000) : elF n (keyV (i : Int)) = some i := by
  unfold elF isInt
  rw [keyS (by omega)]
  rw [if_pos ⟨by rw [decide_eq_true_eq]; exact (keyS (by omega)).symm, by show 1 ≤ (i : Int); omega, by show (i : Int) ≤ _; omega⟩]
  simp
theorem elF_no {n : Nat} {k : V5} (h : ∀ i : Nat, 1 ≤ i → i ≤ n → k ≠ keyV (i : Int)) : elF n k = none := by
  cases he : elF n k with
  | none => rfl
  | some i =>
    obtain ⟨h1, h2, h3⟩ := elF_some he
    exact absurd h3 (h i h1 h2)
theorem getT_at (s : TS) {i : Nat} (h1 : 1 ≤ i) (h2 : i ≤ s.arr.length) (hn : s.arr.length ≤ 3000000) : getT s (keyV (i : Int)) = (s.arr[i - 1]?).getD v5z := by
  unfold getT; rw [elF_key h1 h2 hn]
theorem getT_no (s : TS) {k : V5} (h : ∀ i : Nat, 1 ≤ i → i ≤ s.arr.length → k ≠ keyV (i : Int)) : getT s k = getR s.R k := by
  unfold getT; rw [elF_no h]
/-- Every key is a place of the array part, or none. -/
theorem key_cases (n : Nat) (k : V5) : (∃ i : Nat, 1 ≤ i ∧ i ≤ n ∧ k = keyV (i : Int)) ∨ ∀ i : Nat, 1 ≤ i → i ≤ n → k ≠ keyV (i : Int) := by
  by_cases h : ∃ i : Nat, 1 ≤ i ∧ i ≤ n ∧ k = keyV (i : Int)
  · exact .inl h
  · exact .inr fun i h1 h2 e => h ⟨i, h1, h2, e⟩
/-- What always holds of a table while values are taken over. -/
structure Tj (s : TS) : Prop where
  iv : Iv s.R
  ok : Ok s.R
  vk : Vk s.R
  vv : ∀ k, okV (getR s.R k) = true
  av : ∀ x ∈ s.arr, okV x = true
  low : ∀ n : Nat, 1 ≤ n → n ≤ s.arr.length → getR s.R (keyV (n : Int)) = v5z
  blk : ∀ j (h : j < s.arr.length), j < s.bl → s.arr[j] = v5z
  bll : s.bl ≤ s.arr.length
/-- What always holds of a table. -/
structure Ti (s : TS) : Prop extends Tj s where
  top : getR s.R (keyV ((s.arr.length : Int) + 1)) = v5z
  last : ∀ h : s.arr ≠ [], (s.arr.getLast h).k ≠ 0
theorem Ti.new (st : Bool) : Ti ⟨[], 0, [], st⟩ := ⟨⟨Iv.nil, ok_nil, vk_nil, fun k => by show okV (getR [] k) = true; rw [getR_none rfl]; decide +kernel, fun x hx => (by cases hx), fun n _ _ => getR_none rfl, fun j h => (by cases h), Nat.zero_le _⟩, getR_none rfl, fun h => absurd rfl h⟩
theorem Tj.setR {s : TS} (h : Tj s) (k v : V5) (he : errR k v = 0) (hk : ∀ n : Nat, 1 ≤ n → n ≤ s.arr.length → k = keyV (n : Int) → v = v5z) (st : Bool) : Tj ⟨s.arr, s.bl, Go.Proofs.Ytaaelhhiceildaa.setR s.R k v, st⟩ := by
  have hv := (errR_zero he).2.2
  refine ⟨h.iv.set k v, ok_set h.ok k v, vk_set h.vk k v, fun y => ?_, h.av, fun n h1 h2 => ?_, h.blk, h.bll⟩
  · show okV (getR (Go.Proofs.Ytaaelhhiceildaa.setR s.R k v) y) = true
    rw [get_set h.iv k v y he]
    split
    · exact hv
    · exact h.vv y
  · show getR (Go.Proofs.Ytaaelhhiceildaa.setR s.R k v) _ = v5z
    rw [get_set h.iv k v _ he]
    split
    · rename_i e
      exact hk n h1 h2 e.symm
    · exact h.low n h1 h2
theorem extA_arr (s : TS) (x : V5) : (extA s x).arr = s.arr ++ [x] := by simp only [extA]
theorem snoc_last (l : List V5) (x : V5) : ∀ h, (l ++ [x]).getLast h = x := fun h => by simp
theorem extA_last (s : TS) (x : V5) (hz : x.k ≠ 0) (h : (extA s x).arr ≠ []) : ((extA s x).arr.getLast h).k ≠ 0 := by
  have : (extA s x).arr.getLast h = x := snoc_last s.arr x h
  rw [this]; exact hz
theorem extA_len (s : TS) (x : V5) : (extA s x).arr.length = s.arr.length + 1 := by simp [extA]
/-- The entries while values are taken over. -/
def valX (s : TS) (x : V5) (k : V5) : V5 := if k = extK s then x else getT s k
theorem errK {s : TS} (hl : s.arr.length + 2 ≤ 3000000) : errR (extK s) v5z = 0 := keyV_err (vld_small (by omega) (by omega))
theorem extK_eq (s : TS) : extK s = keyV ((s.arr.length + 1 : Nat) : Int) := by unfold extK; rw [show ((s.arr.length : Int) + 1) = ((s.arr.length + 1 : Nat) : Int) by omega]
theorem extL_eq (s : TS) : extL s = keyV ((s.arr.length + 2 : Nat) : Int) := by unfold extL; rw [show ((s.arr.length : Int) + 1 + 1) = ((s.arr.length + 2 : Nat) : Int) by omega]
theorem tj_extA {s : TS} (h : Tj s) (x : V5) (hx : okV x = true) (hl : s.arr.length + 2 ≤ 3000000) : Tj (extA s x) := by
  have h1 := h.setR (extK s) v5z (errK hl) (fun _ _ _ _ => rfl) false
  refine ⟨h1.iv, h1.ok, h1.vk, h1.vv, fun y hy => ?_, fun n a b => ?_, fun j hj hb => ?_, ?_⟩
  · rcases List.mem_append.1 (show y ∈ s.arr ++ [x] from hy) with q | q
    · exact h.av y q
    · rw [List.mem_singleton] at q; subst q; exact hx
  · rw [extA_len] at b
    by_cases hn : n ≤ s.arr.length
    · exact h1.low n a hn
    · have : n = s.arr.length + 1 := by omega
      subst this
      rw [extA_R, get_set h.iv _ _ _ (errK hl), extK_eq, if_pos rfl]
  · have hb' : j < s.bl := hb
    have hj' : j < s.arr.length := Nat.lt_of_lt_of_le hb' h.bll
    have h4 : (s.arr ++ [x])[j]'(by simp; omega) = s.arr[j] := List.getElem_append_left hj'
    exact h4.trans (h.blk j hj' hb')
  · rw [extA_len]; exact Nat.le_succ_of_le h.bll
theorem valX_step {s : TS} (h : Tj s) (x : V5) (hl : s.arr.length + 2 ≤ 3000000) (k : V5) : valX (extA s x) (extV s) k = valX s x k := by
  have hLK : extL s ≠ extK s := by
    rw [extL_eq, extK_eq]
    intro e
    have := keyS_inj (by omega) (by omega) e
    omega
  have hKL : extK (extA s x) = extL s := by rw [extK_eq, extL_eq, extA_len]
  unfold valX
  rw [hKL]
  have hR : ∀ y, getR (extA s x).R y = if y = extK s then v5z else getR s.R y := fun y => by rw [extA_R]; exact get_set h.iv _ _ y (errK hl)
  rcases key_cases (s.arr.length + 1) k with ⟨i, h1, h2, rfl⟩ | hno
  · have hnL : keyV (i : Int) ≠ extL s := by
      rw [extL_eq]; intro e
      have := keyS_inj (by omega) (by omega) e
      omega
    rw [if_neg hnL, getT_at (extA s x) h1 (by rw [extA_len]; exact h2) (by rw [extA_len]; omega)]
    show ((s.arr ++ [x])[i - 1]?).getD v5z = _
    by_cases hi : i ≤ s.arr.length
    · rw [if_neg (by rw [extK_eq]; intro e; have := keyS_inj (by omega) (by omega) e; omega), getT_at s h1 hi (by omega), List.getElem?_append_left (by omega)]
    · have : i = s.arr.length + 1 := by omega
      subst this
      rw [extK_eq, if_pos rfl]
      simp
  · have hnK : k ≠ extK s := by rw [extK_eq]; exact hno _ (by omega) (Nat.le_refl _)
    rw [if_neg hnK, getT_no s (fun i a b => hno i a (by omega))]
    by_cases hL : k = extL s
    · rw [if_pos hL, hL]
      unfold extV
      rw [get_set h.iv _ _ _ (errK hl), if_neg hLK]
    · rw [if_neg hL, getT_no (extA s x) (fun i a b => hno i a (by rw [extA_len] at b; exact b)), hR k, if_neg hnK]
/-- At the end of the values that are taken over. -/
theorem ext_go {s0 : TS} {x0 : V5} (h0 : s0.arr.length + lenR s0.R + 4 ≤ 3000000) : ∀ (f : Nat) (s : TS) (x : V5), Ex s0 x0 f s x → Tj s → okV x = true → (x.k ≠ 0 ∨ (getR s.R (extK s) = v5z ∧ s.arr ≠ [] ∧ ∀ h : s.arr ≠ [], (s.arr.getLast h).k ≠ 0)) → Ti (extE s0 x0) ∧ (∀ k, getT (extE s0 x0) k = valX s x k) ∧ s.arr <+: (extE s0 x0).arr ∧ (extE s0 x0).R.length = s0.R.length ∧ (extE s0 x0).bl = s0.bl ∧ (extE s0 x0).arr.length + lenR (extE s0 x0).R ≤ max (s0.arr.length + lenR s0.R + 1) (s.arr.length + lenR s.R)
  | f, s, x, hE, hT, hx, hc => by
    by_cases hz : x.k = 0
    · rw [ex_end hE hz]
      rcases hc with hc | ⟨h1, h2, h3⟩
      · exact absurd hz hc
      · refine ⟨⟨hT, h1, h3⟩, fun k => ?_, List.prefix_refl _, hE.len, hE.bl, Nat.le_max_right _ _⟩
        unfold valX
        split
        · rename_i e
          rw [e, okV_nil hx hz, getT_no s (fun i a b e2 => by
            have hf := hE.fuel
            rw [extK_eq] at e2
            have := keyS_inj (by omega) (by omega) e2
            omega), h1]
        · rfl
    · have hb := hE.bnd hz
      have hf := hE.fuel
      have hv1 : vld ((s.arr.length : Int) + 1) 1 = true := vld_small (by omega) (by omega)
      have hv2 : vld ((s.arr.length : Int) + 1 + 1) 1 = true := vld_small (by omega) (by omega)
      obtain ⟨f2, hE2⟩ := ex_step hE hz hv1 hv2
      have hf2 := hE2.fuel
      rw [extA_len] at hf2
      have hlt : f2 < f := by omega
      have hl : s.arr.length + 2 ≤ 3000000 := by omega
      have hT2 := tj_extA hT x hx hl
      have hKL : extK (extA s x) = extL s := by rw [extK_eq, extL_eq, extA_len]
      obtain ⟨a1, a2, a3, a4, a5, a6⟩ := ext_go h0 f2 (extA s x) (extV s) hE2 hT2 (by have := hT2.vv (extL s); rw [extA_R] at this; exact this) (by
        by_cases hz2 : (extV s).k = 0
        · right
          refine ⟨?_, by simp [extA], fun hne => ?_⟩
          · rw [hKL]
            have h4 := hT2.ok.val (k := extL s)
            rw [extA_R] at h4 ⊢
            exact h4 hz2
          · exact extA_last s x hz hne
        · exact .inl hz2)
      refine ⟨a1, fun k => by rw [a2 k, valX_step hT x hl], List.IsPrefix.trans ⟨[x], (extA_arr s x).symm⟩ a3, a4, a5, Nat.le_trans a6 ?_⟩
      rw [extA_len]
      have h3 : lenR (extA s x).R = lenR (Go.Proofs.Ytaaelhhiceildaa.setR s.R (extK s) v5z) := by rw [extA_R]
      rw [h3]
      exact Nat.max_le.2 ⟨Nat.le_max_left _ _, Nat.le_trans hb (Nat.le_max_left _ _)⟩
  termination_by f => f
/-- A value is appended to a table. -/
theorem ext_all {s : TS} (h : Ti s) (x : V5) (hx : okV x = true) (hz : x.k ≠ 0) (hl : s.arr.length + lenR s.R + 4 ≤ 3000000) : Ti (extE s x) ∧ (∀ k, getT (extE s x) k = if k = extK s then x else getT s k) ∧ s.arr ++ [x] <+: (extE s x).arr ∧ (extE s x).R.length = s.R.length ∧ (extE s x).bl = s.bl ∧ (extE s x).arr.length + lenR (extE s x).R ≤ s.arr.length + lenR s.R + 1 := by
  have hE := ex_zero s x h.ok.1 (vld_small (by omega) (by omega))
  obtain ⟨a1, a2, a3, a4, a5, a6⟩ := ext_go hl _ s x hE h.toTj hx (.inl hz)
  have hv1 : vld ((s.arr.length : Int) + 1) 1 = true := vld_small (by omega) (by omega)
  have hv2 : vld ((s.arr.length : Int) + 1 + 1) 1 = true := vld_small (by omega) (by omega)
  obtain ⟨f2, hE2⟩ := ex_step hE hz hv1 hv2
  have hT2 := tj_extA h.toTj x hx (by omega)
  have hKL : extK (extA s x) = extL s := by rw [extK_eq, extL_eq, extA_len]
  obtain ⟨b1, b2, b3, b4, b5, b6⟩ := ext_go hl f2 _ _ hE2 hT2 (by have := hT2.vv (extL s); rw [extA_R] at this; exact this) (by
    by_cases hz2 : (extV s).k = 0
    · right
      refine ⟨?_, by simp [extA], fun hne => ?_⟩
      · rw [hKL]
        have h4 := hT2.ok.val (k := extL s)
        rw [extA_R] at h4 ⊢
        exact h4 hz2
      · exact extA_last s x hz hne
    · exact .inl hz2)
  refine ⟨a1, a2, b3, a4, a5, Nat.le_trans a6 (by omega)⟩
/-- A map part without removed slots. -/
theorem ti_renew {s : TS} (h : Ti s) : Ti (renewS s) ∧ ∀ k, getT (renewS s) k = getT s k := by
  obtain ⟨h1, h2⟩ := renR_iv h.ok h.vk h.vv
  have hg : ∀ k, getT (renewS s) k = getT s k := fun k => by
    rcases key_cases s.arr.length k with ⟨i, a, b, rfl⟩ | hno
    · unfold getT renewS
      cases elF s.arr.length (keyV (i : Int)) with
      | none => exact h2 _
      | some j => rfl
    · unfold getT renewS
      cases elF s.arr.length k with
      | none => exact h2 _
      | some j => rfl
  have hOV : Ok (renR s.R) ∧ Vk (renR s.R) := by
    unfold renR
    have : ∀ (l : List V5) (F : List Rs), Ok F ∧ Vk F → Ok (l.foldl (fun F k => Go.Proofs.Ytaaelhhiceildaa.setR F k (getR s.R k)) F) ∧ Vk (l.foldl (fun F k => Go.Proofs.Ytaaelhhiceildaa.setR F k (getR s.R k)) F) := by
      intro l
      induction l with
      | nil => intro F hF; exact hF
      | cons a l ih => intro F hF; exact ih _ ⟨ok_set hF.1 _ _, vk_set hF.2 _ _⟩
    exact this _ _ ⟨ok_nil, vk_nil⟩
  exact ⟨⟨⟨h1, hOV.1, hOV.2, fun k => by show okV (getR (renR s.R) k) = true; rw [h2 k]; exact h.vv k, h.av, fun n a b => by show getR (renR s.R) _ = _; rw [h2 _]; exact h.low n a b, h.blk, h.bll⟩, by show getR (renR s.R) _ = _; rw [h2 _]; exact h.top, h.last⟩, hg⟩
end Go.Proofs.Ytaaelhhiceildaa
