/- Mathematics of layer 4: how a pattern matches, and how many steps that takes. -/
import Derived.Test.YtkbcaklleiapdaaDoorPatM
namespace Go.Proofs.YtkbcaklleiapdaaDoor.M4
/-- An item of a pattern that was read. kind: 0 a single, 1 (, 2 ), 3 (), 4 balance, 5 frontier, 6 again; q: the quantifier or 0. -/
structure Itm where
  kind : Nat
  P : UInt8 → Bool
  q : UInt8
  x : UInt8
  y : UInt8
  cap : Nat
def belongs (s : List UInt8) (P : UInt8 → Bool) (i : Nat) : Bool := match s[i]? with
  | some c => P c
  | none => false
/-- The number of bytes from i on that belong to a single. -/
def runB (s : List UInt8) (P : UInt8 → Bool) (i : Nat) : Nat := ((s.drop i).takeWhile P).length
def at0 (s : List UInt8) (i : Int) : UInt8 := if i < 0 then 0 else s.getD i.toNat 0
/-- The depth behind a byte. -/
def balD (x y c : UInt8) (d : Nat) : Nat := if c = y then d - 1 else if c = x then d + 1 else d
/-- The index behind the y that belongs to an x before these bytes, and the bytes that are examined. -/
def balL (x y : UInt8) : List UInt8 → Nat → Nat → Option Nat × Nat
  | [], _, _ => (none, 0)
  | c :: cs, d, k =>
    if balD x y c d = 0 then (some (k + 1), 1) else ((balL x y cs (balD x y c d) (k + 1)).1, (balL x y cs (balD x y c d) (k + 1)).2 + 1)
/-- An item without a quantifier: the next index and the captures, and the steps. -/
def onceM (s : List UInt8) (it : Itm) (i : Nat) (c : List (Int × Int)) : Option (Nat × List (Int × Int)) × Nat :=
  match it.kind with
  | 1 => (some (i, c.set it.cap ((i : Int), (c.getD it.cap (0, 0)).2)), 0)
  | 2 => (some (i, c.set it.cap ((c.getD it.cap (0, 0)).1, (i : Int))), 0)
  | 3 => (some (i, c.set it.cap ((i : Int), -1)), 0)
  | 4 => if s[i]? = some it.x then ((balL it.x it.y (s.drop (i + 1)) 1 (i + 1)).1.map fun k => (k, c), (balL it.x it.y (s.drop (i + 1)) 1 (i + 1)).2) else (none, 0)
  | 5 => if (!it.P (at0 s ((i : Int) - 1)) && it.P (at0 s (i : Int))) = true then (some (i, c), 0) else (none, 0)
  | 6 =>
    let t := (s.drop (c.getD it.cap (0, 0)).1.toNat).take ((c.getD it.cap (0, 0)).2.toNat - (c.getD it.cap (0, 0)).1.toNat)
    if t.isPrefixOf (s.drop i) = true then (some (i + t.length, c), 0) else (none, 0)
  | _ => if belongs s it.P i = true then (some (i + 1, c), 0) else (none, 0)
/-- One way or else another. -/
def orM {α : Type} (a b : Option α × Nat) : Option α × Nat := match a.1 with
  | some _ => a
  | none => (b.1, a.2 + b.2)
/-- The ways of an item that is repeated, the longest first. -/
def downM {α : Type} (go : Nat → Option α × Nat) (i least : Nat) : Nat → Option α × Nat
  | 0 => if least = 0 then go i else (none, 0)
  | n + 1 => orM (go (i + (n + 1))) (downM go i least n)
/-- The ways of an item that is repeated as seldom as possible. -/
def upM {α : Type} (go : Nat → Option α × Nat) : Nat → Nat → Option α × Nat
  | 0, i => go i
  | m + 1, i => orM (go i) ((upM go m (i + 1)).1, (upM go m (i + 1)).2 + 1)
def more {α : Type} (k : Nat) (r : Option α × Nat) : Option α × Nat := (r.1, k + r.2)
/-- The items at an index: the end and the captures, if they match; and the steps. -/
def Mu (s : List UInt8) (fin : Bool) : List Itm → Nat → List (Int × Int) → Option (Nat × List (Int × Int)) × Nat
  | [], i, c => (if (!fin || decide (i = s.length)) = true then some (i, c) else none, 1)
  | it :: its, i, c =>
    if it.q = 63 then
      if belongs s it.P i = true then more 1 (orM (Mu s fin its (i + 1) c) (Mu s fin its i c))
      else more 1 (Mu s fin its i c)
    else if it.q = 42 then more (1 + runB s it.P i) (downM (fun k => Mu s fin its k c) i 0 (runB s it.P i))
    else if it.q = 43 then more (1 + runB s it.P i) (downM (fun k => Mu s fin its k c) i 1 (runB s it.P i))
    else if it.q = 45 then more 1 (upM (fun k => Mu s fin its k c) (runB s it.P i) i)
    else match onceM s it i c with
      | (some (k, c'), n) => more (1 + n) (Mu s fin its k c')
      | (none, n) => (none, 1 + n)
/-- What an item makes of the states of the captures: 0 not begun, 1 begun, 2 ended, 3 a position. -/
def stI (it : Itm) (st : List Nat) : Option (List Nat) :=
  match it.kind with
  | 1 => if st[it.cap]? = some 0 then some (st.set it.cap 1) else none
  | 2 => if st[it.cap]? = some 1 then some (st.set it.cap 2) else none
  | 3 => if st[it.cap]? = some 0 then some (st.set it.cap 3) else none
  | 6 => if st[it.cap]? = some 2 then some st else none
  | _ => some st
def stL : List Itm → List Nat → Option (List Nat)
  | [], st => some st
  | it :: its, st => match stI it st with
    | some st' => stL its st'
    | none => none
/-- Items whose captures begin, end and are asked for in order. -/
def WF (its : List Itm) (st : List Nat) : Prop := ∃ r, stL its st = some r ∧ ∀ x ∈ r, 2 ≤ x
/-- Only a single has a quantifier. -/
def Qd (its : List Itm) : Prop := ∀ it ∈ its, it.q ≠ 0 → it.kind = 0
/-- Captures that are the same as far as they are set. -/
structure Agr (st : List Nat) (a b : List (Int × Int)) : Prop where
  la : a.length = st.length
  lb : b.length = st.length
  f : ∀ k v, st[k]? = some v → 1 ≤ v → (a.getD k (0, 0)).1 = (b.getD k (0, 0)).1
  t : ∀ k v, st[k]? = some v → 2 ≤ v → (a.getD k (0, 0)).2 = (b.getD k (0, 0)).2
/-- Captures that lie between two indices, as far as they are set. -/
structure Cok (st : List Nat) (c : List (Int × Int)) (lo i : Nat) : Prop where
  l : c.length = st.length
  le : lo ≤ i
  v1 : ∀ k v, st[k]? = some v → 1 ≤ v → (lo : Int) ≤ (c.getD k (0, 0)).1 ∧ (c.getD k (0, 0)).1 ≤ (i : Int)
  v2 : ∀ k, st[k]? = some 2 → (c.getD k (0, 0)).1 ≤ (c.getD k (0, 0)).2 ∧ (c.getD k (0, 0)).2 ≤ (i : Int)
  v3 : ∀ k, st[k]? = some 3 → (c.getD k (0, 0)).2 = -1
theorem Agr.refl (st : List Nat) (c : List (Int × Int)) (h : c.length = st.length) : Agr st c c := ⟨h, h, fun _ _ _ _ => rfl, fun _ _ _ _ => rfl⟩
theorem Agr.symm {st : List Nat} {a b : List (Int × Int)} (h : Agr st a b) : Agr st b a := ⟨h.lb, h.la, fun k v h1 h2 => (h.f k v h1 h2).symm, fun k v h1 h2 => (h.t k v h1 h2).symm⟩
theorem Agr.trans {st : List Nat} {a b c : List (Int × Int)} (h : Agr st a b) (g : Agr st b c) : Agr st a c := ⟨h.la, g.lb, fun k v h1 h2 => (h.f k v h1 h2).trans (g.f k v h1 h2), fun k v h1 h2 => (h.t k v h1 h2).trans (g.t k v h1 h2)⟩
theorem Cok.up {st : List Nat} {c : List (Int × Int)} {lo i j : Nat} (h : Cok st c lo i) (hij : i ≤ j) : Cok st c lo j :=
  ⟨h.l, by have := h.le; omega, fun k v h1 h2 => by have := h.v1 k v h1 h2; omega, fun k h1 => by have := h.v2 k h1; omega, h.v3⟩
theorem Cok.of_agr {st : List Nat} {a b : List (Int × Int)} {lo i : Nat} (h : Cok st b lo i) (g : Agr st a b) : Cok st a lo i :=
  ⟨g.la, h.le, fun k v h1 h2 => by rw [g.f k v h1 h2]; exact h.v1 k v h1 h2, fun k h1 => by rw [g.f k 2 h1 (by decide), g.t k 2 h1 (by decide)]; exact h.v2 k h1, fun k h1 => by rw [g.t k 3 h1 (by decide)]; exact h.v3 k h1⟩
theorem agr_full {st : List Nat} {a b : List (Int × Int)} (h : Agr st a b) (hs : ∀ x ∈ st, 2 ≤ x) : a = b := by
  apply List.ext_getElem (by rw [h.la, h.lb])
  intro k h1 h2
  have hk : k < st.length := by have := h.la; omega
  have h3 : st[k]? = some st[k] := List.getElem?_eq_getElem hk
  have h4 := hs st[k] (List.getElem_mem hk)
  have e1 := h.f k _ h3 (by omega)
  have e2 := h.t k _ h3 h4
  rw [List.getD_eq_getElem?_getD, List.getD_eq_getElem?_getD, List.getElem?_eq_getElem h1, List.getElem?_eq_getElem h2] at e1 e2
  exact Prod.ext e1 e2
theorem getD_set (c : List (Int × Int)) (k j : Nat) (x : Int × Int) (hk : k < c.length) : (c.set k x).getD j (0, 0) = if j = k then x else c.getD j (0, 0) := by
  by_cases h : j = k
  · subst h; simp [hk]
  · rw [if_neg h]; simp [Ne.symm h]
theorem st_set (st : List Nat) (k j x v : Nat) (hk : k < st.length) (h : (st.set k x)[j]? = some v) : (j = k ∧ v = x) ∨ (j ≠ k ∧ st[j]? = some v) := by
  by_cases e : j = k
  · subst e; simp [hk] at h; exact Or.inl ⟨rfl, h.symm⟩
  · right; refine ⟨e, ?_⟩; simpa [List.getElem?_set, Ne.symm e] using h
theorem st_lt {st : List Nat} {k v : Nat} (h : st[k]? = some v) : k < st.length := (List.getElem?_eq_some_iff.1 h).1
/-- A capture is set on one side: what was set before stays the same. -/
theorem agr_set {st : List Nat} {a b : List (Int × Int)} (h : Agr st a b) (k : Nat) (x : Int × Int) (h0 : st[k]? = some 0) : Agr st (a.set k x) b := by
  have hk := st_lt h0
  refine ⟨by rw [List.length_set]; exact h.la, h.lb, fun j v h1 h2 => ?_, fun j v h1 h2 => ?_⟩
  · rw [getD_set _ _ _ _ (by rw [h.la]; exact hk), if_neg (fun e => by rw [e, h0] at h1; cases h1; omega)]; exact h.f j v h1 h2
  · rw [getD_set _ _ _ _ (by rw [h.la]; exact hk), if_neg (fun e => by rw [e, h0] at h1; cases h1; omega)]; exact h.t j v h1 h2
theorem runB_step (s : List UInt8) (P : UInt8 → Bool) (i : Nat) (h : belongs s P i = true) : runB s P i = runB s P (i + 1) + 1 := by
  unfold belongs at h; unfold runB
  cases hc : s[i]? with
  | none => rw [hc] at h; cases h
  | some c =>
    rw [hc] at h
    obtain ⟨hi, he⟩ := List.getElem?_eq_some_iff.1 hc
    rw [List.drop_eq_getElem_cons hi, he, List.takeWhile_cons, if_pos h, List.length_cons]
theorem runB_stop (s : List UInt8) (P : UInt8 → Bool) (i : Nat) (h : belongs s P i = false) : runB s P i = 0 := by
  unfold belongs at h; unfold runB
  cases hc : s[i]? with
  | none => rw [List.drop_eq_nil_of_le (List.getElem?_eq_none_iff.1 hc)]; rfl
  | some c =>
    rw [hc] at h
    obtain ⟨hi, he⟩ := List.getElem?_eq_some_iff.1 hc
    rw [List.drop_eq_getElem_cons hi, he, List.takeWhile_cons, if_neg (by simp [h])]; rfl
theorem belongs_lt {s : List UInt8} {P : UInt8 → Bool} {i : Nat} (h : belongs s P i = true) : i < s.length := by
  unfold belongs at h
  cases hc : s[i]? with
  | none => rw [hc] at h; cases h
  | some c => exact (List.getElem?_eq_some_iff.1 hc).1
theorem runB_le (s : List UInt8) (P : UInt8 → Bool) (i : Nat) (h : i ≤ s.length) : i + runB s P i ≤ s.length := by
  have h1 : ∀ l : List UInt8, (l.takeWhile P).length ≤ l.length := fun l => by
    induction l with
    | nil => exact Nat.le_refl _
    | cons a l ih => rw [List.takeWhile_cons]; split <;> simp <;> omega
  have := h1 (s.drop i)
  rw [List.length_drop] at this
  unfold runB; omega
theorem balL_le (x y : UInt8) : ∀ (l : List UInt8) (d k e : Nat), (balL x y l d k).1 = some e → k < e ∧ e ≤ k + l.length
  | [], d, k, e, h => by unfold balL at h; cases h
  | c :: cs, d, k, e, h => by
    unfold balL at h
    split at h
    · have h' : k + 1 = e := Option.some.inj h
      rw [List.length_cons]; omega
    · have := balL_le x y cs _ (k + 1) e h
      rw [List.length_cons]; omega
/-- What an item without a quantifier does to the captures. -/
theorem once_ok {s : List UInt8} {it : Itm} {i lo : Nat} {c c' : List (Int × Int)} {st st' : List Nat} {k n : Nat} (h : onceM s it i c = (some (k, c'), n)) (hs : stI it st = some st') (hc : Cok st c lo i) (hi : i ≤ s.length) :
    Cok st' c' lo k ∧ i ≤ k ∧ k ≤ s.length := by
  have hl := hc.l
  have hle := hc.le
  unfold onceM at h
  unfold stI at hs
  split at h
  · rename_i e
    rw [e] at hs
    simp only [] at hs
    split at hs
    · rename_i h0
      have hk := st_lt h0
      simp only [Option.some.injEq, Prod.mk.injEq] at h hs
      obtain ⟨⟨rfl, rfl⟩, rfl⟩ := h
      subst hs
      refine ⟨⟨by simp [hl], hle, fun j v h1 h2 => ?_, fun j h1 => ?_, fun j h1 => ?_⟩, Nat.le_refl _, hi⟩
      · rw [getD_set _ _ _ _ (by omega)]
        rcases st_set _ _ _ _ _ hk h1 with ⟨rfl, rfl⟩ | ⟨h3, h4⟩
        · rw [if_pos rfl]; simp only []; omega
        · rw [if_neg h3]; exact hc.v1 j v h4 h2
      · rw [getD_set _ _ _ _ (by omega)]
        rcases st_set _ _ _ _ _ hk h1 with ⟨rfl, h5⟩ | ⟨h3, h4⟩
        · omega
        · rw [if_neg h3]; exact hc.v2 j h4
      · rw [getD_set _ _ _ _ (by omega)]
        rcases st_set _ _ _ _ _ hk h1 with ⟨rfl, h5⟩ | ⟨h3, h4⟩
        · omega
        · rw [if_neg h3]; exact hc.v3 j h4
    · cases hs
  · rename_i e
    rw [e] at hs
    simp only [] at hs
    split at hs
    · rename_i h0
      have hk := st_lt h0
      simp only [Option.some.injEq, Prod.mk.injEq] at h hs
      obtain ⟨⟨rfl, rfl⟩, rfl⟩ := h
      subst hs
      have hf := hc.v1 _ _ h0 (Nat.le_refl _)
      refine ⟨⟨by simp [hl], hle, fun j v h1 h2 => ?_, fun j h1 => ?_, fun j h1 => ?_⟩, Nat.le_refl _, hi⟩
      · rw [getD_set _ _ _ _ (by omega)]
        rcases st_set _ _ _ _ _ hk h1 with ⟨rfl, rfl⟩ | ⟨h3, h4⟩
        · rw [if_pos rfl]; exact hf
        · rw [if_neg h3]; exact hc.v1 j v h4 h2
      · rw [getD_set _ _ _ _ (by omega)]
        rcases st_set _ _ _ _ _ hk h1 with ⟨rfl, h5⟩ | ⟨h3, h4⟩
        · rw [if_pos rfl]; simp only []; omega
        · rw [if_neg h3]; exact hc.v2 j h4
      · rw [getD_set _ _ _ _ (by omega)]
        rcases st_set _ _ _ _ _ hk h1 with ⟨rfl, h5⟩ | ⟨h3, h4⟩
        · omega
        · rw [if_neg h3]; exact hc.v3 j h4
    · cases hs
  · rename_i e
    rw [e] at hs
    simp only [] at hs
    split at hs
    · rename_i h0
      have hk := st_lt h0
      simp only [Option.some.injEq, Prod.mk.injEq] at h hs
      obtain ⟨⟨rfl, rfl⟩, rfl⟩ := h
      subst hs
      refine ⟨⟨by simp [hl], hle, fun j v h1 h2 => ?_, fun j h1 => ?_, fun j h1 => ?_⟩, Nat.le_refl _, hi⟩
      · rw [getD_set _ _ _ _ (by omega)]
        rcases st_set _ _ _ _ _ hk h1 with ⟨rfl, rfl⟩ | ⟨h3, h4⟩
        · rw [if_pos rfl]; simp only []; omega
        · rw [if_neg h3]; exact hc.v1 j v h4 h2
      · rw [getD_set _ _ _ _ (by omega)]
        rcases st_set _ _ _ _ _ hk h1 with ⟨rfl, h5⟩ | ⟨h3, h4⟩
        · omega
        · rw [if_neg h3]; exact hc.v2 j h4
      · rw [getD_set _ _ _ _ (by omega)]
        rcases st_set _ _ _ _ _ hk h1 with ⟨rfl, h5⟩ | ⟨h3, h4⟩
        · rw [if_pos rfl]
        · rw [if_neg h3]; exact hc.v3 j h4
    · cases hs
  · rename_i e
    rw [e] at hs
    simp only [Option.some.injEq] at hs
    subst hs
    split at h
    · rename_i hx
      have h1 := congrArg Prod.fst h
      simp only [Option.map_eq_some_iff, Prod.mk.injEq] at h1
      obtain ⟨a, ha, rfl, rfl⟩ := h1
      have := balL_le _ _ _ _ _ _ ha
      have hil := (List.getElem?_eq_some_iff.1 hx).1
      rw [List.length_drop] at this
      exact ⟨hc.up (by omega), by omega, by omega⟩
    · cases h
  · rename_i e
    rw [e] at hs
    simp only [Option.some.injEq] at hs
    subst hs
    split at h
    · simp only [Option.some.injEq, Prod.mk.injEq] at h
      obtain ⟨⟨rfl, rfl⟩, rfl⟩ := h
      exact ⟨hc, Nat.le_refl _, hi⟩
    · cases h
  · rename_i e
    rw [e] at hs
    simp only [] at hs
    split at hs
    · simp only [Option.some.injEq] at hs
      subst hs
      dsimp only at h
      split at h
      · rename_i hp
        simp only [Option.some.injEq, Prod.mk.injEq] at h
        obtain ⟨⟨rfl, rfl⟩, rfl⟩ := h
        have hpl := (List.isPrefixOf_iff_prefix.1 hp).length_le
        rw [List.length_drop] at hpl
        exact ⟨hc.up (by omega), by omega, by omega⟩
      · cases h
    · cases hs
  · rename_i e1 e2 e3 e4 e5 e6
    split at hs
    · exact absurd ‹_› e1
    · exact absurd ‹_› e2
    · exact absurd ‹_› e3
    · exact absurd ‹_› e6
    · simp only [Option.some.injEq] at hs
      subst hs
      split at h
      · rename_i hb
        simp only [Option.some.injEq, Prod.mk.injEq] at h
        obtain ⟨⟨rfl, rfl⟩, rfl⟩ := h
        have := belongs_lt hb
        exact ⟨hc.up (by omega), by omega, by omega⟩
      · cases h
theorem stL_cons (it : Itm) (its : List Itm) (st : List Nat) : stL (it :: its) st = match stI it st with | some st' => stL its st' | none => none := rfl
theorem stL_append (a b : List Itm) (st : List Nat) : stL (a ++ b) st = match stL a st with | some st' => stL b st' | none => none := by
  induction a generalizing st with
  | nil => rfl
  | cons it its ih => rw [List.cons_append, stL_cons, stL_cons]; cases stI it st with | none => rfl | some st' => exact ih st'
theorem WF.head {it : Itm} {its : List Itm} {st : List Nat} (h : WF (it :: its) st) : ∃ st', stI it st = some st' ∧ WF its st' := by
  obtain ⟨r, h1, h2⟩ := h
  rw [stL_cons] at h1
  cases h3 : stI it st with
  | none => rw [h3] at h1; cases h1
  | some st' => rw [h3] at h1; exact ⟨st', rfl, r, h1, h2⟩
theorem Qd.head {it : Itm} {its : List Itm} (h : Qd (it :: its)) : (it.q ≠ 0 → it.kind = 0) ∧ Qd its := ⟨h it (by simp), fun x hx => h x (by simp [hx])⟩
theorem stI_single {it : Itm} (h : it.kind = 0) (st : List Nat) : stI it st = some st := by unfold stI; rw [h]; rfl
theorem stI_len {it : Itm} {st st' : List Nat} (h : stI it st = some st') : st'.length = st.length := by
  unfold stI at h
  split at h <;> (try split at h) <;> (first | (cases h; done) | (simp only [Option.some.injEq] at h; subst h; simp))
theorem once6 {s : List UInt8} {it : Itm} (e : it.kind = 6) (i : Nat) (c : List (Int × Int)) : onceM s it i c =
    if ((s.drop (c.getD it.cap (0, 0)).1.toNat).take ((c.getD it.cap (0, 0)).2.toNat - (c.getD it.cap (0, 0)).1.toNat)).isPrefixOf (s.drop i) = true then (some (i + ((s.drop (c.getD it.cap (0, 0)).1.toNat).take ((c.getD it.cap (0, 0)).2.toNat - (c.getD it.cap (0, 0)).1.toNat)).length, c), 0) else (none, 0) := by
  unfold onceM; rw [e]; rfl
/-- An item without a quantifier on captures that agree. -/
theorem once_agr {s : List UInt8} {it : Itm} {i : Nat} {a b : List (Int × Int)} {st st' : List Nat} (h : Agr st a b) (hs : stI it st = some st') :
    (onceM s it i a).2 = (onceM s it i b).2 ∧ (((onceM s it i a).1 = none ∧ (onceM s it i b).1 = none) ∨ ∃ k a' b', (onceM s it i a).1 = some (k, a') ∧ (onceM s it i b).1 = some (k, b') ∧ Agr st' a' b') := by
  have ha := h.la
  have hb := h.lb
  unfold stI at hs
  split at hs
  · rename_i e
    unfold onceM
    rw [e]
    split at hs
    · rename_i h0
      have hk := st_lt h0
      simp only [Option.some.injEq] at hs
      subst hs
      refine ⟨rfl, Or.inr ⟨_, _, _, rfl, rfl, by simp [ha], by simp [hb], fun j v h1 h2 => ?_, fun j v h1 h2 => ?_⟩⟩
      · rw [getD_set _ _ _ _ (by omega), getD_set _ _ _ _ (by omega)]
        rcases st_set _ _ _ _ _ hk h1 with ⟨rfl, rfl⟩ | ⟨h3, h4⟩
        · rw [if_pos rfl, if_pos rfl]
        · rw [if_neg h3, if_neg h3]; exact h.f j v h4 h2
      · rw [getD_set _ _ _ _ (by omega), getD_set _ _ _ _ (by omega)]
        rcases st_set _ _ _ _ _ hk h1 with ⟨rfl, rfl⟩ | ⟨h3, h4⟩
        · omega
        · rw [if_neg h3, if_neg h3]; exact h.t j v h4 h2
    · cases hs
  · rename_i e
    unfold onceM
    rw [e]
    split at hs
    · rename_i h0
      have hk := st_lt h0
      simp only [Option.some.injEq] at hs
      subst hs
      refine ⟨rfl, Or.inr ⟨_, _, _, rfl, rfl, by simp [ha], by simp [hb], fun j v h1 h2 => ?_, fun j v h1 h2 => ?_⟩⟩
      · rw [getD_set _ _ _ _ (by omega), getD_set _ _ _ _ (by omega)]
        rcases st_set _ _ _ _ _ hk h1 with ⟨rfl, rfl⟩ | ⟨h3, h4⟩
        · rw [if_pos rfl, if_pos rfl]; exact h.f _ _ h0 (Nat.le_refl _)
        · rw [if_neg h3, if_neg h3]; exact h.f j v h4 h2
      · rw [getD_set _ _ _ _ (by omega), getD_set _ _ _ _ (by omega)]
        rcases st_set _ _ _ _ _ hk h1 with ⟨rfl, rfl⟩ | ⟨h3, h4⟩
        · rw [if_pos rfl, if_pos rfl]
        · rw [if_neg h3, if_neg h3]; exact h.t j v h4 h2
    · cases hs
  · rename_i e
    unfold onceM
    rw [e]
    split at hs
    · rename_i h0
      have hk := st_lt h0
      simp only [Option.some.injEq] at hs
      subst hs
      refine ⟨rfl, Or.inr ⟨_, _, _, rfl, rfl, by simp [ha], by simp [hb], fun j v h1 h2 => ?_, fun j v h1 h2 => ?_⟩⟩
      · rw [getD_set _ _ _ _ (by omega), getD_set _ _ _ _ (by omega)]
        rcases st_set _ _ _ _ _ hk h1 with ⟨rfl, rfl⟩ | ⟨h3, h4⟩
        · rw [if_pos rfl, if_pos rfl]
        · rw [if_neg h3, if_neg h3]; exact h.f j v h4 h2
      · rw [getD_set _ _ _ _ (by omega), getD_set _ _ _ _ (by omega)]
        rcases st_set _ _ _ _ _ hk h1 with ⟨rfl, rfl⟩ | ⟨h3, h4⟩
        · rw [if_pos rfl, if_pos rfl]
        · rw [if_neg h3, if_neg h3]; exact h.t j v h4 h2
    · cases hs
  · rename_i e
    rw [once6 e, once6 e]
    split at hs
    · rename_i h0
      simp only [Option.some.injEq] at hs
      subst hs
      rw [h.f _ _ h0 (by decide), h.t _ _ h0 (by decide)]
      split
      · exact ⟨rfl, Or.inr ⟨_, _, _, rfl, rfl, h⟩⟩
      · exact ⟨rfl, Or.inl ⟨rfl, rfl⟩⟩
    · cases hs
  · rename_i e1 e2 e3 e6
    simp only [Option.some.injEq] at hs
    subst hs
    unfold onceM
    split
    · exact absurd ‹_› e1
    · exact absurd ‹_› e2
    · exact absurd ‹_› e3
    · split
      · dsimp only
        cases (balL it.x it.y (s.drop (i + 1)) 1 (i + 1)).1 with
        | none => exact ⟨rfl, Or.inl ⟨rfl, rfl⟩⟩
        | some k => exact ⟨rfl, Or.inr ⟨_, _, _, rfl, rfl, h⟩⟩
      · exact ⟨rfl, Or.inl ⟨rfl, rfl⟩⟩
    · split
      · exact ⟨rfl, Or.inr ⟨_, _, _, rfl, rfl, h⟩⟩
      · exact ⟨rfl, Or.inl ⟨rfl, rfl⟩⟩
    · exact absurd ‹_› e6
    · split
      · exact ⟨rfl, Or.inr ⟨_, _, _, rfl, rfl, h⟩⟩
      · exact ⟨rfl, Or.inl ⟨rfl, rfl⟩⟩
/-- What a later way leaves agrees as far as was set before the item. -/
theorem once_back {s : List UInt8} {it : Itm} {i k n : Nat} {a c c' : List (Int × Int)} {st st' : List Nat} (hs : stI it st = some st') (h : onceM s it i c = (some (k, c'), n)) (hl : c.length = st.length) (hg : Agr st' a c') : Agr st a c := by
  have hla := hg.la
  rw [stI_len hs] at hla
  unfold onceM at h
  unfold stI at hs
  have key : ∀ (j0 v0 : Nat) (x : Int × Int), st[j0]? = some v0 → v0 < 2 → (1 ≤ v0 → x.1 = (c.getD j0 (0, 0)).1) → (∀ v', 1 ≤ v' → c' = c.set j0 x → st' = st.set j0 v' → Agr st a c) := by
    intro j0 v0 x h0 h2 h3 v' hv' e1 e2
    have hk := st_lt h0
    subst e1 e2
    refine ⟨hla, hl, fun j v h4 h5 => ?_, fun j v h4 h5 => ?_⟩
    · by_cases e : j = j0
      · subst e
        have hv : v = v0 := by rw [h0] at h4; exact (Option.some.inj h4).symm
        subst hv
        have := hg.f j v' (by simp [hk]) hv'
        rw [this, getD_set _ _ _ _ (by omega), if_pos rfl, h3 h5]
      · have := hg.f j v (by simpa [List.getElem?_set, Ne.symm e] using h4) h5
        rw [this, getD_set _ _ _ _ (by omega), if_neg e]
    · by_cases e : j = j0
      · subst e
        have hv : v = v0 := by rw [h0] at h4; exact (Option.some.inj h4).symm
        omega
      · have := hg.t j v (by simpa [List.getElem?_set, Ne.symm e] using h4) h5
        rw [this, getD_set _ _ _ _ (by omega), if_neg e]
  split at h
  · rename_i e
    rw [e] at hs
    simp only [] at hs
    split at hs
    · rename_i h0
      simp only [Option.some.injEq, Prod.mk.injEq] at h hs
      exact key _ 0 _ h0 (by omega) (by omega) 1 (by omega) h.1.2.symm hs.symm
    · cases hs
  · rename_i e
    rw [e] at hs
    simp only [] at hs
    split at hs
    · rename_i h0
      simp only [Option.some.injEq, Prod.mk.injEq] at h hs
      exact key _ 1 ((c.getD it.cap (0, 0)).1, (i : Int)) h0 (by omega) (fun _ => rfl) 2 (by omega) h.1.2.symm hs.symm
    · cases hs
  · rename_i e
    rw [e] at hs
    simp only [] at hs
    split at hs
    · rename_i h0
      simp only [Option.some.injEq, Prod.mk.injEq] at h hs
      exact key _ 0 _ h0 (by omega) (by omega) 3 (by omega) h.1.2.symm hs.symm
    · cases hs
  · rename_i e
    rw [e] at hs
    simp only [Option.some.injEq] at hs
    subst hs
    split at h
    · have h1 := congrArg Prod.fst h
      simp only [Option.map_eq_some_iff, Prod.mk.injEq] at h1
      obtain ⟨_, _, _, rfl⟩ := h1
      exact hg
    · cases h
  · rename_i e
    rw [e] at hs
    simp only [Option.some.injEq] at hs
    subst hs
    split at h
    · simp only [Option.some.injEq, Prod.mk.injEq] at h
      rw [h.1.2]; exact hg
    · cases h
  · rename_i e
    rw [e] at hs
    simp only [] at hs
    split at hs
    · simp only [Option.some.injEq] at hs
      subst hs
      dsimp only at h
      split at h
      · simp only [Option.some.injEq, Prod.mk.injEq] at h
        rw [h.1.2]; exact hg
      · cases h
    · cases hs
  · rename_i e1 e2 e3 e4 e5 e6
    split at hs
    · exact absurd ‹_› e1
    · exact absurd ‹_› e2
    · exact absurd ‹_› e3
    · exact absurd ‹_› e6
    · simp only [Option.some.injEq] at hs
      subst hs
      split at h
      · simp only [Option.some.injEq, Prod.mk.injEq] at h
        rw [h.1.2]; exact hg
      · cases h
theorem orM_some {α : Type} {a b : Option α × Nat} {x : α} (h : (orM a b).1 = some x) : a.1 = some x ∨ b.1 = some x := by
  unfold orM at h
  split at h
  · exact Or.inl h
  · exact Or.inr h
theorem down_some {α : Type} {go : Nat → Option α × Nat} {i least : Nat} : ∀ {n : Nat} {x : α}, (downM go i least n).1 = some x → ∃ m, m ≤ n ∧ (go (i + m)).1 = some x
  | 0, x, h => by unfold downM at h; split at h; exact ⟨0, Nat.le_refl _, h⟩; cases h
  | n + 1, x, h => by
    unfold downM at h
    rcases orM_some h with h | h
    · exact ⟨n + 1, Nat.le_refl _, h⟩
    · obtain ⟨m, h1, h2⟩ := down_some h; exact ⟨m, by omega, h2⟩
theorem up_some {α : Type} {go : Nat → Option α × Nat} : ∀ {m i : Nat} {x : α}, (upM go m i).1 = some x → ∃ j, j ≤ m ∧ (go (i + j)).1 = some x
  | 0, i, x, h => ⟨0, Nat.le_refl _, h⟩
  | m + 1, i, x, h => by
    unfold upM at h
    rcases orM_some h with h | h
    · exact ⟨0, by omega, h⟩
    · obtain ⟨j, h1, h2⟩ := up_some h; exact ⟨j + 1, by omega, by rw [show i + (j + 1) = i + 1 + j by omega]; exact h2⟩
/-- What a match of items is. -/
theorem Mu_ok (s : List UInt8) (fin : Bool) : ∀ (its : List Itm) (i lo : Nat) (c : List (Int × Int)) (st : List Nat) (e : Nat) (c' : List (Int × Int)), Qd its → (Mu s fin its i c).1 = some (e, c') → Cok st c lo i → i ≤ s.length → WF its st →
    ∃ r, stL its st = some r ∧ (∀ x ∈ r, 2 ≤ x) ∧ Cok r c' lo e ∧ i ≤ e ∧ e ≤ s.length
  | [], i, lo, c, st, e, c', _, h, hc, hi, hw => by
    unfold Mu at h
    split at h
    · cases h
      obtain ⟨r, h1, h2⟩ := hw
      cases h1
      exact ⟨_, rfl, h2, hc, Nat.le_refl _, hi⟩
    · cases h
  | it :: its, i, lo, c, st, e, c', hq, h, hc, hi, hw => by
    obtain ⟨st', hs, hw'⟩ := hw.head
    obtain ⟨hq0, hq'⟩ := hq.head
    have go : ∀ k, it.q ≠ 0 → i ≤ k → k ≤ s.length → (Mu s fin its k c).1 = some (e, c') → ∃ r, stL (it :: its) st = some r ∧ (∀ x ∈ r, 2 ≤ x) ∧ Cok r c' lo e ∧ i ≤ e ∧ e ≤ s.length := by
      intro k hq1 h1 h2 h3
      have e1 := stI_single (hq0 hq1) st
      rw [e1] at hs
      cases hs
      obtain ⟨r, h4, h5, h6, h7, h8⟩ := Mu_ok s fin its k lo c st e c' hq' h3 (hc.up h1) h2 hw'
      exact ⟨r, by rw [stL_cons, e1]; exact h4, h5, h6, by omega, h8⟩
    have hrun := runB_le s it.P i hi
    unfold Mu at h
    split at h
    · rename_i hq1
      split at h
      · rename_i hb
        have := belongs_lt hb
        rcases orM_some (show (orM _ _).1 = _ from h) with h | h
        · exact go _ (by rw [hq1]; decide) (by omega) (by omega) h
        · exact go _ (by rw [hq1]; decide) (Nat.le_refl _) hi h
      · exact go _ (by rw [hq1]; decide) (Nat.le_refl _) hi h
    · split at h
      · rename_i hq1
        obtain ⟨m, h1, h2⟩ := down_some (show (downM _ _ _ _).1 = _ from h)
        exact go _ (by rw [hq1]; decide) (by omega) (by omega) h2
      · split at h
        · rename_i hq1
          obtain ⟨m, h1, h2⟩ := down_some (show (downM _ _ _ _).1 = _ from h)
          exact go _ (by rw [hq1]; decide) (by omega) (by omega) h2
        · split at h
          · rename_i hq1
            obtain ⟨m, h1, h2⟩ := up_some (show (upM _ _ _).1 = _ from h)
            exact go _ (by rw [hq1]; decide) (by omega) (by omega) h2
          · split at h
            · rename_i k c1 n ho
              obtain ⟨h1, h2, h3⟩ := once_ok ho hs hc hi
              obtain ⟨r, h4, h5, h6, h7, h8⟩ := Mu_ok s fin its k lo c1 st' e c' hq' h h1 h3 hw'
              exact ⟨r, by rw [stL_cons, hs]; exact h4, h5, h6, by omega, h8⟩
            · cases h
end Go.Proofs.YtkbcaklleiapdaaDoor.M4
