/- Layer 13: what put and Set do to the entries, on lists. -/
import Derived.Test.YtaaelhhiceildaaTbU
import Derived.Test.YtaaelhhiceildaaTbD
namespace Go.Proofs.Ytaaelhhiceildaa
open Go.RowKit Go.Joins M1
set_option linter.unusedVariables false
theorem trimN_nil (arr : List V5) : ∀ n, n ≤ arr.length → ∀ j (h : j < arr.length), trimN arr n ≤ j → j < n → arr[j].k = 0
  | 0, _, j, h, h1, h2 => by omega
  | n + 1, hn, j, h, h1, h2 => by
    unfold trimN at h1
    rw [List.getElem?_eq_getElem (by omega)] at h1
    split at h1
    · rename_i hz
      by_cases hj : j = n
      · subst hj; exact hz
      · exact trimN_nil arr n (by omega) j h h1 (by omega)
    · omega
theorem trimN_last (arr : List V5) : ∀ n, n ≤ arr.length → 0 < trimN arr n → ((arr[trimN arr n - 1]?).getD v5z).k ≠ 0
  | 0, _, h => by simp [trimN] at h
  | n + 1, hn, h => by
    by_cases hz : ((arr[n]?).getD v5z).k = 0
    · have e : trimN arr (n + 1) = trimN arr n := by
        conv => lhs; unfold trimN
        rw [if_pos hz]
      rw [e] at h ⊢
      exact trimN_last arr n (by omega) h
    · have e : trimN arr (n + 1) = n + 1 := by
        conv => lhs; unfold trimN
        rw [if_neg hz]
      rw [e]
      exact hz
theorem last_get {l : List V5} (h : l ≠ []) : l.getLast h = (l[l.length - 1]?).getD v5z := by
  have h0 := List.length_pos_iff.2 h
  rw [List.getLast_eq_getElem, List.getElem?_eq_getElem (by omega)]
  rfl
theorem take_get (l : List V5) (n j : Nat) (h : j < (l.take n).length) : (l.take n)[j] = l[j]'(by rw [List.length_take] at h; omega) := List.getElem_take
/-- A place of the array part is set. -/
theorem ti_set {s : TS} (h : Ti s) (j : Nat) (x : V5) (hj : j < s.arr.length) (hx : okV x = true) (b : Nat) (hb : b ≤ s.bl) (hbj : x.k ≠ 0 → b ≤ j) (hl : s.arr.length ≤ 3000000) : Tj ⟨s.arr.set j x, b, s.R, s.st⟩ ∧ ∀ k, getT ⟨s.arr.set j x, b, s.R, s.st⟩ k = if k = keyV ((j : Int) + 1) then x else getT s k := by
  have hj1 : ((j : Int) + 1) = ((j + 1 : Nat) : Int) := by omega
  refine ⟨⟨h.iv, h.ok, h.vk, h.vv, fun y hy => ?_, fun n a c => h.low n a (by simpa using c), fun i hi hib => ?_, ?_⟩, fun k => ?_⟩
  · rcases List.mem_or_eq_of_mem_set hy with q | q
    · exact h.av y q
    · rw [q]; exact hx
  · show (s.arr.set j x)[i] = v5z
    have hi' : i < s.arr.length := by simpa using hi
    have hib' : i < b := hib
    rw [List.getElem_set]
    split
    · rename_i e
      by_cases hz : x.k = 0
      · exact okV_nil hx hz
      · have := hbj hz; omega
    · exact h.blk i hi' (by omega)
  · show b ≤ (s.arr.set j x).length
    rw [List.length_set]; exact Nat.le_trans hb h.bll
  · rw [hj1]
    rcases key_cases s.arr.length k with ⟨i, a, c, rfl⟩ | hno
    · rw [getT_at _ a (by simpa using c) (by simpa using hl), getT_at s a c hl]
      show ((s.arr.set j x)[i - 1]?).getD v5z = _
      by_cases hij : i = j + 1
      · subst hij
        rw [if_pos rfl, List.getElem?_eq_getElem (by simpa using hj)]
        simp
      · rw [if_neg (fun e => hij (keyS_inj (by omega) (by omega) e)), List.getElem?_set_ne (by omega)]
    · rw [if_neg (hno _ (by omega) (by omega)), getT_no s hno, getT_no _ (fun i a c => hno i a (by simpa using c))]
theorem ti_trim {s : TS} (h : Tj s) (hl : s.arr.length + 1 ≤ 3000000) (ht : getR s.R (keyV ((s.arr.length : Int) + 1)) = v5z) : Ti (trimS s) ∧ ∀ k, getT (trimS s) k = getT s k := by
  have hle := trimN_le s.arr s.arr.length
  have hlen : (trimS s).arr.length = trimN s.arr s.arr.length := by show (s.arr.take _).length = _; rw [List.length_take]; omega
  have hz : ∀ i, trimN s.arr s.arr.length < i → i ≤ s.arr.length → (s.arr[i - 1]?).getD v5z = v5z := fun i a b => by
    rw [List.getElem?_eq_getElem (by omega)]
    exact okV_nil (h.av _ (List.getElem_mem _)) (trimN_nil s.arr s.arr.length (Nat.le_refl _) (i - 1) (by omega) (by omega) (by omega))
  have hlow : ∀ i : Nat, 1 ≤ i → i ≤ s.arr.length + 1 → getR s.R (keyV (i : Int)) = v5z := fun i a b => by
    by_cases hi : i ≤ s.arr.length
    · exact h.low i a hi
    · rw [show ((i : Nat) : Int) = (s.arr.length : Int) + 1 by omega]; exact ht
  refine ⟨⟨⟨h.iv, h.ok, h.vk, h.vv, fun x hx => h.av x (List.mem_of_mem_take hx), fun n a b => h.low n a (by rw [hlen] at b; omega), fun j hj hb => ?_, ?_⟩, ?_, fun hne => ?_⟩, fun k => ?_⟩
  · exact (take_get s.arr _ j hj).trans (h.blk j _ (Nat.lt_of_lt_of_le hb (Nat.min_le_left _ _)))
  · rw [hlen]; exact Nat.min_le_right _ _
  · rw [hlen, show ((trimN s.arr s.arr.length : Nat) : Int) + 1 = ((trimN s.arr s.arr.length + 1 : Nat) : Int) by omega]
    exact hlow _ (by omega) (by omega)
  · rw [last_get]
    have hp : 0 < (trimS s).arr.length := List.length_pos_iff.2 hne
    rw [hlen] at hp ⊢
    have h2 := trimN_last s.arr s.arr.length (Nat.le_refl _) hp
    show (((s.arr.take _)[_]?).getD v5z).k ≠ 0
    rw [List.getElem?_take, if_pos (by omega)]
    exact h2
  · rcases key_cases s.arr.length k with ⟨i, a, b, rfl⟩ | hno
    · rw [getT_at s a b (by omega)]
      by_cases hi : i ≤ trimN s.arr s.arr.length
      · rw [getT_at _ a (by rw [hlen]; exact hi) (by omega)]
        show ((s.arr.take _)[i - 1]?).getD v5z = _
        rw [List.getElem?_take, if_pos (by omega)]
      · rw [hz i (by omega) b, getT_no _ (fun j c d e => by
          rw [hlen] at d
          have := keyS_inj (by omega) (by omega) e
          omega)]
        exact h.low i a b
    · rw [getT_no s hno, getT_no _ (fun i a b => hno i a (by rw [hlen] at b; omega))]
      rfl
theorem ti_put {s : TS} (h : Ti s) (j : Nat) (x : V5) (hj : j < s.arr.length) (hx : okV x = true) (hl : s.arr.length + 1 ≤ 3000000) : Ti (putS s j x) ∧ (∀ k, getT (putS s j x) k = if k = keyV ((j : Int) + 1) then x else getT s k) ∧ (putS s j x).R = s.R ∧ (putS s j x).arr.length ≤ s.arr.length := by
  unfold putS
  have hset : ∀ (b : Nat), (s.arr.set j x).length = s.arr.length := fun _ => List.length_set
  split
  · rename_i hz
    obtain ⟨h1, h2⟩ := ti_set h j x hj hx (min s.bl j) (Nat.min_le_left _ _) (fun _ => Nat.min_le_right _ _) (by omega)
    refine ⟨⟨h1, by show getR s.R (keyV (((s.arr.set j x).length : Int) + 1)) = _; rw [List.length_set]; exact h.top, fun hne => ?_⟩, h2, rfl, by show (s.arr.set j x).length ≤ _; rw [List.length_set]; omega⟩
    rw [last_get]
    show (((s.arr.set j x)[(s.arr.set j x).length - 1]?).getD v5z).k ≠ 0
    rw [List.length_set, List.getElem?_set]
    split
    · exact hz
    · have h4 := h.last (List.ne_nil_of_length_pos (by omega))
      rw [last_get] at h4
      exact h4
  · rename_i hz
    have hz' : x.k = 0 := Decidable.not_not.1 hz
    split
    · rename_i he
      obtain ⟨h1, h2⟩ := ti_set h j x hj hx s.bl (Nat.le_refl _) (fun q => absurd hz' q) (by omega)
      obtain ⟨h3, h4⟩ := ti_trim h1 (by show (s.arr.set j x).length + 1 ≤ _; rw [List.length_set]; exact hl) (by show getR s.R (keyV (((s.arr.set j x).length : Int) + 1)) = _; rw [List.length_set]; exact h.top)
      refine ⟨h3, fun k => by rw [h4 k, h2 k], rfl, ?_⟩
      have := trimN_le (s.arr.set j x) (s.arr.set j x).length
      show ((s.arr.set j x).take _).length ≤ _
      rw [List.length_take, List.length_set]; omega
    · rename_i he
      obtain ⟨h1, h2⟩ := ti_set h j x hj hx s.bl (Nat.le_refl _) (fun q => absurd hz' q) (by omega)
      refine ⟨⟨h1, by show getR s.R (keyV (((s.arr.set j x).length : Int) + 1)) = _; rw [List.length_set]; exact h.top, fun hne => ?_⟩, h2, rfl, by show (s.arr.set j x).length ≤ _; rw [List.length_set]; omega⟩
      rw [last_get]
      show (((s.arr.set j x)[(s.arr.set j x).length - 1]?).getD v5z).k ≠ 0
      rw [List.length_set, List.getElem?_set]
      split
      · exfalso; omega
      · have h4 := h.last (List.ne_nil_of_length_pos (by omega))
        rw [last_get] at h4
        exact h4
theorem lenR_set_le {R : List Rs} (hg : Good R) (k v : V5) (he : errR k v = 0) : lenR (setR R k v) ≤ lenR R + 1 := by
  obtain ⟨_, _, n1, n2, n3, n4⟩ := set_nums R hg k v he
  by_cases h1 : v.k = 0 <;> by_cases h2 : (getR R k).k = 0
  · have := n2 h1 h2; omega
  · have := n1 h1 h2; omega
  · have := n4 h1 h2; omega
  · have := n3 h1 h2; omega
theorem lenR_renR (R : List Rs) : lenR (renR R) ≤ lenR R := by
  have := renP_len R (keysR R).length (Nat.le_refl _)
  unfold renP at this
  rw [List.take_length] at this
  have h2 := keysR_len R
  have h3 := lenR_le (renR R)
  unfold renR at h3 ⊢
  omega
/-- What a Set leaves. -/
def setT (s : TS) (k v : V5) : TS := if errR k v ≠ 0 then s else match elF s.arr.length k with
  | some i => putS s (i - 1) v
  | none => if v.k ≠ 0 ∧ k = extK s then extS s v else restS s k v
theorem ti_extS {s : TS} (h : Ti s) (x : V5) (hx : okV x = true) (hz : x.k ≠ 0) (hl : s.arr.length + lenR s.R + 4 ≤ 3000000) : Ti (extS s x) ∧ (∀ k, getT (extS s x) k = if k = extK s then x else getT s k) ∧ s.arr ++ [x] <+: (extS s x).arr ∧ (extS s x).R.length ≤ s.R.length ∧ (extS s x).arr.length + lenR (extS s x).R ≤ s.arr.length + lenR s.R + 1 := by
  obtain ⟨a1, a2, a3, a4, a5, a6⟩ := ext_all h x hx hz hl
  unfold extS
  split
  · obtain ⟨b1, b2⟩ := ti_renew a1
    exact ⟨b1, fun k => by rw [b2 k, a2 k], a3, by have := renR_len (extE s x).R; show (renR _).length ≤ _; omega, by have := lenR_renR (extE s x).R; show (extE s x).arr.length + lenR (renR _) ≤ _; omega⟩
  · exact ⟨a1, a2, a3, by omega, by omega⟩
theorem ti_rest {s : TS} (h : Ti s) (k v : V5) (he : errR k v = 0) (hk : elF s.arr.length k = none) (hv : k = extK s → v = v5z) (hl : s.arr.length + 1 ≤ 3000000) : Ti (restS s k v) ∧ (∀ y, getT (restS s k v) y = if y = k then v else getT s y) ∧ (restS s k v).arr = s.arr ∧ (restS s k v).R.length ≤ s.R.length + 1 ∧ lenR (restS s k v).R ≤ lenR s.R + 1 := by
  have hno : ∀ i : Nat, 1 ≤ i → i ≤ s.arr.length → k ≠ keyV (i : Int) := fun i a b e => by
    rw [e, elF_key a b (by omega)] at hk; cases hk
  have main : ∀ (q : TS), Ti q → q.arr = s.arr → (∀ y, getT q y = getT s y) → ∀ st, Ti ⟨q.arr, q.bl, setR q.R k v, st⟩ ∧ ∀ y, getT ⟨q.arr, q.bl, setR q.R k v, st⟩ y = if y = k then v else getT s y := fun q hq ha hg st => by
    have hT := hq.toTj.setR k v he (fun n a b e => absurd e (hno n a (by rw [ha] at b; exact b))) st
    refine ⟨⟨hT, ?_, hq.last⟩, fun y => ?_⟩
    · show getR (setR q.R k v) (keyV ((q.arr.length : Int) + 1)) = v5z
      rw [get_set hq.iv k v _ he]
      split
      · rename_i e
        exact hv (by rw [← e, ha]; rfl)
      · exact hq.top
    · rw [← hg y]
      rcases key_cases q.arr.length y with ⟨i, a, b, rfl⟩ | hny
      · rw [if_neg (fun e => hno i a (by rw [ha] at b; exact b) e.symm), getT_at q a b (by rw [ha]; omega), getT_at _ a (by exact b) (by show q.arr.length ≤ _; rw [ha]; omega)]
      · rw [getT_no q hny, getT_no ⟨q.arr, q.bl, setR q.R k v, st⟩ hny]
        exact get_set hq.iv k v y he
  unfold restS
  split
  · obtain ⟨b1, b2⟩ := ti_renew h
    obtain ⟨c1, c2⟩ := main (renewS s) b1 rfl b2 false
    exact ⟨c1, c2, rfl, by have := setR_len (renR s.R) k v; have := renR_len s.R; show (setR (renR s.R) k v).length ≤ _; omega, by have h1 := lenR_set_le b1.ok.1 k v he; have h2 := lenR_renR s.R; show lenR (setR (renR s.R) k v) ≤ _; have h3 : lenR (setR (renR s.R) k v) ≤ lenR (renR s.R) + 1 := h1; omega⟩
  · obtain ⟨c1, c2⟩ := main s h rfl (fun _ => rfl) s.st
    exact ⟨c1, c2, rfl, setR_len _ _ _, lenR_set_le h.ok.1 k v he⟩
/-- What a Set does: the entries, and how many there may be. -/
theorem ti_setT {s : TS} (h : Ti s) (k v : V5) (hl : s.arr.length + lenR s.R + 4 ≤ 3000000) : Ti (setT s k v) ∧ (∀ y, getT (setT s k v) y = if errR k v = 0 ∧ y = k then v else getT s y) ∧ (setT s k v).R.length ≤ s.R.length + 1 ∧ (setT s k v).arr.length + lenR (setT s k v).R ≤ s.arr.length + lenR s.R + 1 := by
  unfold setT
  by_cases he : errR k v = 0
  · rw [if_neg (by simpa using he)]
    obtain ⟨hk0, hkv, hvv⟩ := errR_zero he
    cases hf : elF s.arr.length k with
    | some i =>
      obtain ⟨h1, h2, h3⟩ := elF_some hf
      obtain ⟨a1, a2, a3, a4⟩ := ti_put h (i - 1) v (by omega) hvv (by omega)
      refine ⟨a1, fun y => ?_, by show (putS s (i - 1) v).R.length ≤ _; rw [a3]; omega, by show (putS s (i - 1) v).arr.length + lenR (putS s (i - 1) v).R ≤ _; rw [a3]; omega⟩
      show getT (putS s (i - 1) v) y = _
      rw [a2 y, show (((i - 1 : Nat) : Int) + 1) = (i : Int) by omega, ← h3]
      by_cases hy : y = k
      · rw [if_pos hy, if_pos ⟨he, hy⟩]
      · rw [if_neg hy, if_neg (fun q => hy q.2)]
    | none =>
      show Ti (if _ then _ else _) ∧ _
      dsimp only
      split
      · rename_i hc
        obtain ⟨a1, a2, a3, a4, a5⟩ := ti_extS h v hvv hc.1 hl
        refine ⟨a1, fun y => ?_, by omega, a5⟩
        rw [a2 y, ← hc.2]
        by_cases hy : y = k
        · rw [if_pos hy, if_pos ⟨he, hy⟩]
        · rw [if_neg hy, if_neg (fun q => hy q.2)]
      · rename_i hc
        obtain ⟨a1, a2, a3, a4, a5⟩ := ti_rest h k v he hf (fun e => by
          by_cases hz : v.k = 0
          · exact okV_nil hvv hz
          · exact absurd ⟨hz, e⟩ hc) (by omega)
        refine ⟨a1, fun y => ?_, a4, by rw [a3]; omega⟩
        rw [a2 y]
        by_cases hy : y = k
        · rw [if_pos hy, if_pos ⟨he, hy⟩]
        · rw [if_neg hy, if_neg (fun q => hy q.2)]
  · rw [if_pos he]
    exact ⟨h, fun y => by rw [if_neg (fun q => he q.1)], by omega, by omega⟩
end Go.Proofs.Ytaaelhhiceildaa
