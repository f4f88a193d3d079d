/- Mathematics of layer 4: the first match, all matches, escaped strings. -/
import Derived.Test.YtkbcaklleiapdaaDoorPatO
namespace Go.Proofs.YtkbcaklleiapdaaDoor.M4
abbrev Caps := List (Int × Int)
/-- A match: from, to, captures. -/
structure Mt where
  fr : Nat
  to : Nat
  caps : Caps
def zc (n : Nat) : Caps := List.replicate n (0, 0)
def atM (s : List UInt8) (g : Pg) (i : Nat) : Option (Nat × Caps) × Nat := Mu s g.fin g.its i (zc g.caps)
/-- The first match at one of so many indices, with so many steps; none: more steps are needed. -/
def firstM (s : List UInt8) (g : Pg) : Nat → Nat → Nat → Option (Option Mt)
  | 0, _, _ => some none
  | n + 1, i, left =>
    if (atM s g i).2 ≤ left then
      match (atM s g i).1 with
      | some r => some (some ⟨i, r.1, r.2⟩)
      | none => firstM s g n (i + 1) (left - (atM s g i).2)
    else none
/-- The last index at which a match may begin. -/
def lastA (s : List UInt8) (g : Pg) : Nat := if g.start = true then 0 else s.length
theorem lastA_le (s : List UInt8) (g : Pg) : lastA s g ≤ s.length := by unfold lastA; split <;> omega
/-- All matches from an index on, the end of the last one before; the first number bounds the rounds. -/
def allM (s : List UInt8) (g : Pg) : Nat → Nat → Option Nat → Nat → Option (List Mt)
  | 0, _, _, _ => some []
  | f + 1, i, last, left =>
    if lastA s g < i then some []
    else if (atM s g i).2 ≤ left then
      match (atM s g i).1 with
      | some r =>
        if last = some r.1 then allM s g f (i + 1) last (left - (atM s g i).2)
        else if g.start = true then some [⟨i, r.1, r.2⟩]
        else (allM s g f r.1 (some r.1) (left - (atM s g i).2)).map fun l => ⟨i, r.1, r.2⟩ :: l
      | none => allM s g f (i + 1) last (left - (atM s g i).2)
    else none
/-- The rounds that are left at most. -/
def fuelA (s : List UInt8) (i : Nat) (last : Option Nat) : Nat := 2 * (s.length + 1 - i) + (if last = some i then 0 else 1)
/-- What a match of a pattern that was read is. -/
structure Mok (s : List UInt8) (n : Nat) (m : Mt) : Prop where
  le : m.fr ≤ m.to
  hi : m.to ≤ s.length
  len : m.caps.length = n
  caps : ∀ c ∈ m.caps, (m.fr : Int) ≤ c.1 ∧ c.1 ≤ (m.to : Int) ∧ (c.2 = -1 ∨ (c.1 ≤ c.2 ∧ c.2 ≤ (m.to : Int)))
theorem Cok.zero (n i : Nat) : Cok (List.replicate n 0) (zc n) i i := by
  refine ⟨by simp [zc], Nat.le_refl _, fun k v h1 h2 => ?_, fun k h1 => ?_, fun k h1 => ?_⟩
  all_goals (
    rw [List.getElem?_replicate] at h1
    split at h1
    · cases h1; try omega
    · cases h1)
def Gok (g : Pg) : Prop := WF g.its (List.replicate g.caps 0) ∧ Qd g.its ∧ g.caps ≤ 16
theorem stL_len : ∀ (its : List Itm) (st r : List Nat), stL its st = some r → r.length = st.length
  | [], st, r, h => by cases h; rfl
  | it :: its, st, r, h => by
    rw [stL_cons] at h
    cases h1 : stI it st with
    | none => rw [h1] at h; cases h
    | some st' => rw [h1] at h; rw [stL_len its st' r h, stI_len h1]
/-- The states in which captures can be. -/
def St3 (st : List Nat) : Prop := ∀ x ∈ st, x ≤ 3
theorem stI_3 {it : Itm} {st st' : List Nat} (h : stI it st = some st') (h3 : St3 st) : St3 st' := by
  unfold stI at h
  split at h <;> (try split at h) <;> (first | (cases h; done) | skip) <;> (simp only [Option.some.injEq] at h; subst h)
  all_goals first
    | exact h3
    | (intro x hx
       rcases List.mem_or_eq_of_mem_set hx with h5 | h5
       · exact h3 x h5
       · omega)
theorem stL_3 : ∀ (its : List Itm) (st r : List Nat), stL its st = some r → St3 st → St3 r
  | [], st, r, h, h3 => by cases h; exact h3
  | it :: its, st, r, h, h3 => by
    rw [stL_cons] at h
    cases h1 : stI it st with
    | none => rw [h1] at h; cases h
    | some st' => rw [h1] at h; exact stL_3 its st' r h (stI_3 h1 h3)
theorem atM_ok {s : List UInt8} {g : Pg} (hg : Gok g) {i : Nat} (hi : i ≤ s.length) {r : Nat × Caps} (h : (atM s g i).1 = some r) : Mok s g.caps ⟨i, r.1, r.2⟩ := by
  obtain ⟨q, h1, h2, h3, h4, h5⟩ := Mu_ok s g.fin g.its i i (zc g.caps) _ r.1 r.2 hg.2.1 h (Cok.zero _ _) hi hg.1
  have hl : q.length = g.caps := by rw [stL_len _ _ _ h1, List.length_replicate]
  have h33 : St3 q := stL_3 _ _ _ h1 (fun x hx => by rw [List.eq_of_mem_replicate hx]; omega)
  refine ⟨h4, h5, by rw [← hl]; exact h3.l, fun c hc => ?_⟩
  obtain ⟨k, hk, hkc⟩ := List.mem_iff_getElem.1 hc
  have hk' : k < q.length := by rw [← h3.l]; exact hk
  have hd : r.2.getD k (0, 0) = c := by rw [List.getD_eq_getElem?_getD, List.getElem?_eq_getElem hk, Option.getD_some, hkc]
  have hq : q[k]? = some q[k] := List.getElem?_eq_getElem hk'
  have ge2 := h2 q[k] (List.getElem_mem hk')
  have le3 := h33 q[k] (List.getElem_mem hk')
  have v1 := h3.v1 k _ hq (by omega)
  rw [hd] at v1
  refine ⟨v1.1, v1.2, ?_⟩
  by_cases e2 : q[k] = 2
  · right
    have := h3.v2 k (by rw [hq, e2])
    rw [hd] at this; exact this
  · left
    have := h3.v3 k (by rw [hq, show q[k] = 3 by omega])
    rw [hd] at this; exact this
theorem firstM_ok {s : List UInt8} {g : Pg} (hg : Gok g) : ∀ (n i left : Nat) (m : Mt), i + n ≤ s.length + 1 → firstM s g n i left = some (some m) → Mok s g.caps m ∧ i ≤ m.fr ∧ m.fr < i + n
  | 0, _, _, _, _, h => by cases h
  | n + 1, i, left, m, hn, h => by
    unfold firstM at h
    split at h
    · cases hr : (atM s g i).1 with
      | some r =>
        rw [hr] at h; cases h
        exact ⟨atM_ok hg (by omega) hr, Nat.le_refl _, by simp only []; omega⟩
      | none =>
        rw [hr] at h
        have := firstM_ok hg n (i + 1) _ m (by omega) h
        exact ⟨this.1, by omega, by omega⟩
    · cases h
theorem first_at {s : List UInt8} {g : Pg} : ∀ (n i left : Nat) (m : Mt), firstM s g n i left = some (some m) → (∀ j, i ≤ j → j < m.fr → (atM s g j).1 = none ∧ (atM s g j).2 ≤ left) ∧ (atM s g m.fr).1 = some (m.to, m.caps) ∧ (atM s g m.fr).2 ≤ left
  | 0, _, _, _, h => by cases h
  | n + 1, i, left, m, h => by
    unfold firstM at h
    split at h
    · rename_i hl
      cases hr : (atM s g i).1 with
      | some r =>
        rw [hr] at h; cases h
        exact ⟨fun j h1 h2 => by simp only [] at h2; omega, hr, hl⟩
      | none =>
        rw [hr] at h
        have ih := first_at n (i + 1) _ m h
        refine ⟨fun j h1 h2 => ?_, ih.2.1, by have := ih.2.2; omega⟩
        by_cases e : j = i
        · subst e; exact ⟨hr, hl⟩
        · have := ih.1 j (by omega) h2; exact ⟨this.1, by omega⟩
    · cases h
theorem first_no {s : List UInt8} {g : Pg} : ∀ (n i left : Nat), firstM s g n i left = some none → ∀ j, i ≤ j → j < i + n → (atM s g j).1 = none ∧ (atM s g j).2 ≤ left
  | 0, i, _, _, j, h1, h2 => by omega
  | n + 1, i, left, h, j, h1, h2 => by
    unfold firstM at h
    split at h
    · rename_i hl
      cases hr : (atM s g i).1 with
      | some r => rw [hr] at h; cases h
      | none =>
        rw [hr] at h
        by_cases e : j = i
        · subst e; exact ⟨hr, hl⟩
        · have := first_no n (i + 1) _ h j (by omega) (by omega); exact ⟨this.1, by omega⟩
    · cases h
theorem first_one {s : List UInt8} {g : Pg} {i left : Nat} (h : (atM s g i).2 ≤ left) : firstM s g 1 i left = some ((atM s g i).1.map fun r => ⟨i, r.1, r.2⟩) := by
  unfold firstM
  rw [if_pos h]
  cases (atM s g i).1 <;> rfl
theorem first_lim {s : List UInt8} {g : Pg} {n i left : Nat} (h : ¬ (atM s g i).2 ≤ left) : firstM s g (n + 1) i left = none := by
  unfold firstM; rw [if_neg h]
theorem first_hit {s : List UInt8} {g : Pg} {n i left : Nat} {r : Nat × Caps} (h : (atM s g i).2 ≤ left) (hr : (atM s g i).1 = some r) : firstM s g (n + 1) i left = some (some ⟨i, r.1, r.2⟩) := by
  unfold firstM; rw [if_pos h, hr]
theorem first_next {s : List UInt8} {g : Pg} {n i left : Nat} (h : (atM s g i).2 ≤ left) (hr : (atM s g i).1 = none) : firstM s g (n + 1) i left = firstM s g n (i + 1) (left - (atM s g i).2) := by
  rw [firstM, if_pos h, hr]
/-- What the list of all matches from an index on is. -/
def Asc (s : List UInt8) (g : Pg) : Option Nat → Nat → List Mt → Prop
  | _, _, [] => True
  | last, i, m :: l => i ≤ m.fr ∧ last ≠ some m.to ∧ (atM s g m.fr).1 = some (m.to, m.caps) ∧ (atM s g m.fr).2 ≤ 100000 ∧ m.fr ≤ s.length ∧ Asc s g (some m.to) m.to l
theorem Asc.lower {s : List UInt8} {g : Pg} {last : Option Nat} {i j : Nat} {l : List Mt} (h : Asc s g last i l) (hj : j ≤ i) : Asc s g last j l := by
  cases l with
  | nil => trivial
  | cons m l => exact ⟨by have := h.1; omega, h.2⟩
theorem all_asc {s : List UInt8} {g : Pg} : ∀ (f i : Nat) (last : Option Nat) (left : Nat) (l : List Mt), left ≤ 100000 → allM s g f i last left = some l → Asc s g last i l
  | 0, _, _, _, _, _, h => by cases h; trivial
  | f + 1, i, last, left, l, hl, h => by
    unfold allM at h
    split at h
    · cases h; trivial
    · rename_i hi
      have his : i ≤ s.length := by have := lastA_le s g; omega
      split at h
      · rename_i hst
        split at h
        · rename_i r hr
          split at h
          · exact (all_asc f (i + 1) last _ l (by omega) h).lower (by omega)
          · split at h
            · cases h
              exact ⟨Nat.le_refl _, ‹¬ last = some r.1›, hr, by simp only []; omega, his, trivial⟩
            · rw [Option.map_eq_some_iff] at h
              obtain ⟨k, hk, rfl⟩ := h
              exact ⟨Nat.le_refl _, ‹¬ last = some r.1›, hr, by simp only []; omega, his, all_asc f r.1 (some r.1) _ k (by omega) hk⟩
        · exact (all_asc f (i + 1) last _ l (by omega) h).lower (by omega)
      · cases h
/-- Enough rounds are enough. -/
theorem all_fuel {s : List UInt8} {g : Pg} (hg : Gok g) : ∀ (f f' i : Nat) (last : Option Nat) (left : Nat), fuelA s i last ≤ f → fuelA s i last ≤ f' → allM s g f i last left = allM s g f' i last left
  | 0, 0, _, _, _, _, _ => rfl
  | 0, f' + 1, i, last, left, h, _ => by
    unfold fuelA at h
    unfold allM
    rw [if_pos (by have := lastA_le s g; split at h <;> omega)]
  | f + 1, 0, i, last, left, _, h => by
    unfold fuelA at h
    unfold allM
    rw [if_pos (by have := lastA_le s g; split at h <;> omega)]
  | f + 1, f' + 1, i, last, left, h, h' => by
    unfold allM
    split
    · rfl
    · rename_i hi
      have his : i ≤ s.length := by have := lastA_le s g; omega
      have n1 : fuelA s (i + 1) last + 1 ≤ fuelA s i last := by unfold fuelA; split <;> split <;> omega
      split
      · split
        · rename_i r hr
          split
          · exact all_fuel hg f f' _ _ _ (by omega) (by omega)
          · rename_i hne
            split
            · rfl
            · have hm := atM_ok hg his hr
              have h1 := hm.le
              have h2 := hm.hi
              simp only [] at h1 h2
              have n2 : fuelA s r.1 (some r.1) + 1 ≤ fuelA s i last := by
                unfold fuelA
                rw [if_pos rfl]
                by_cases e : r.1 = i
                · rw [← e, if_neg hne]; omega
                · split <;> omega
              rw [all_fuel hg f f' _ _ _ (by omega) (by omega)]
        · exact all_fuel hg f f' _ _ _ (by omega) (by omega)
      · rfl
/-- Escaped strings. -/
def alnum (c : UInt8) : Bool := inR [(97, 122), (65, 90), (48, 57)] c
def escF (l : List UInt8) : List UInt8 := l.flatMap fun c => if alnum c = true then [c] else [37, c]
def lit (c : UInt8) : Itm := ⟨0, fun d => d == c, 0, 0, 0, 0⟩
theorem escF_cons (c : UInt8) (l : List UInt8) : escF (c :: l) = (if alnum c = true then [c] else [37, c]) ++ escF l := rfl
theorem escF_len (l : List UInt8) : (escF l).length ≤ 2 * l.length := by
  induction l with
  | nil => exact Nat.le_refl _
  | cons c l ih => rw [escF_cons, List.length_append, List.length_cons]; split <;> simp <;> omega
theorem alnum_iff (c : UInt8) : alnum c = true ↔ (97 ≤ c.toNat ∧ c.toNat ≤ 122) ∨ (65 ≤ c.toNat ∧ c.toNat ≤ 90) ∨ (48 ≤ c.toNat ∧ c.toNat ≤ 57) := by
  unfold alnum; simp [inR]
theorem pairP_other {c : UInt8} (h : ¬ alnum c = true) : pairP c = some fun d => d == c := by
  rw [alnum_iff] at h
  unfold pairP
  rw [if_neg (by simp [inR]; omega), if_neg (by simp [inR]; omega), if_neg (by simp [inR]; omega)]
/-- The first byte of an escaped string. -/
theorem esc_head (l : List UInt8) (x : UInt8) (h : (escF l)[0]? = some x) : alnum x = true ∨ x = 37 := by
  cases l with
  | nil => cases h
  | cons c l =>
    rw [escF_cons] at h
    split at h
    · simp at h; left; rw [← h]; assumption
    · simp at h; right; exact h.symm
theorem get_app (a b : List UInt8) (j : Nat) : (a ++ b)[a.length + j]? = b[j]? := by rw [List.getElem?_append_right (by omega)]; congr 1; omega
theorem ne_of_alnum {c d : UInt8} (h : alnum c = true) (hd : alnum d = false) : c ≠ d := fun e => by rw [e, hd] at h; cases h
theorem quant_esc (a l : List UInt8) : quantF (a ++ escF l) a.length = 0 := by
  unfold quantF
  have h := get_app a (escF l) 0
  rw [Nat.add_zero] at h
  rw [h]
  cases hx : (escF l)[0]? with
  | none => rfl
  | some x =>
    simp only []
    rcases esc_head l x hx with h1 | h1
    · rw [if_neg (by
        rintro (e | e | e | e) <;> (rw [e] at h1; revert h1; decide))]
    · subst h1; rfl
/-- Reading an escaped string from a place on. -/
theorem item_esc (a : List UInt8) (c : UInt8) (l : List UInt8) (sts opn : List Nat) : itemF (a ++ escF (c :: l)) a.length sts opn = .ok (lit c, a.length + (if alnum c = true then 1 else 2), sts, opn) := by
  rw [escF_cons]
  by_cases hc : alnum c = true
  · rw [if_pos hc, if_pos hc]
    have h0 : (a ++ ([c] ++ escF l))[a.length]? = some c := by have := get_app a ([c] ++ escF l) 0; rw [Nat.add_zero] at this; rw [this]; rfl
    have n40 : c ≠ 40 := ne_of_alnum hc (by decide)
    have n41 : c ≠ 41 := ne_of_alnum hc (by decide)
    have n37 : c ≠ 37 := ne_of_alnum hc (by decide)
    have n46 : c ≠ 46 := ne_of_alnum hc (by decide)
    have n91 : c ≠ 91 := ne_of_alnum hc (by decide)
    have hq : quantF (a ++ ([c] ++ escF l)) (a.length + 1) = 0 := by
      have := quant_esc (a ++ [c]) l
      rw [List.length_append, List.length_singleton, List.append_assoc] at this; exact this
    unfold itemF singleF testF
    rw [h0]
    simp only [Option.some.injEq, n40, n41, n37, n46, n91, if_false, false_and, hq, if_true]
    rfl
  · rw [if_neg hc, if_neg hc]
    have h0 : (a ++ ([37, c] ++ escF l))[a.length]? = some 37 := by have := get_app a ([37, c] ++ escF l) 0; rw [Nat.add_zero] at this; rw [this]; rfl
    have h1 : (a ++ ([37, c] ++ escF l))[a.length + 1]? = some c := by have := get_app a ([37, c] ++ escF l) 1; rw [this]; rfl
    have hq : quantF (a ++ ([37, c] ++ escF l)) (a.length + 2) = 0 := by
      have := quant_esc (a ++ [37, c]) l
      rw [List.length_append, List.append_assoc] at this; exact this
    have n98 : c ≠ 98 := fun e => hc (by rw [e]; decide)
    have n102 : c ≠ 102 := fun e => hc (by rw [e]; decide)
    have hnd : ¬ ∃ d, some c = some d ∧ 49 ≤ d.toNat ∧ d.toNat ≤ 57 := by
      rintro ⟨d, e, h2, h3⟩
      cases e
      exact hc ((alnum_iff c).2 (Or.inr (Or.inr ⟨by omega, h3⟩)))
    have hp : pairL (a ++ ([37, c] ++ escF l)) (a.length + 1) = some fun d => d == c := by unfold pairL; rw [h1]; exact pairP_other hc
    unfold itemF singleF testF
    rw [h0, h1, hp]
    rw [if_neg (show ¬ (some (37 : UInt8) = some 37 ∧ ∃ d, some c = some d ∧ 49 ≤ d.toNat ∧ d.toNat ≤ 57) from fun e => hnd e.2)]
    simp only [Option.some.injEq, n98, n102, if_false, if_true, and_false, Option.map_some, hq, show ¬ (37 : UInt8) = 40 by decide, show ¬ (37 : UInt8) = 41 by decide, show ¬ (37 : UInt8) = 46 by decide]
    rfl
theorem loop_esc (start : Bool) : ∀ (l a : List UInt8) (f : Nat) (its : List Itm), (a ++ escF l).length < f + a.length → loopF (a ++ escF l) start f a.length [] [] its = .ok ⟨start, false, its ++ l.map lit, 0⟩
  | [], a, f, its, hf => by
    rw [loopF_end (by rw [List.length_append] at hf; omega) (by simp [escF])]
    simp [endF]
  | c :: l, a, f, its, hf => by
    have hi := item_esc a c l [] []
    have hlen : a.length < (a ++ escF (c :: l)).length := Nat.lt_of_lt_of_le (item_lt hi).1 (item_lt hi).2
    have hd : ¬ ((a ++ escF (c :: l))[a.length]? = some 36 ∧ a.length + 1 = (a ++ escF (c :: l)).length) := by
      rintro ⟨h1, _⟩
      have h2 := get_app a (escF (c :: l)) 0
      rw [Nat.add_zero] at h2
      rw [h2] at h1
      rcases esc_head _ _ h1 with h3 | h3
      · revert h3; decide
      · revert h3; decide
    rw [loopF_step hf hlen hd hi]
    have e : a ++ escF (c :: l) = (a ++ (if alnum c = true then [c] else [37, c])) ++ escF l := by rw [escF_cons, List.append_assoc]
    have hl2 : a.length + (if alnum c = true then 1 else 2) = (a ++ (if alnum c = true then [c] else [37, c])).length := by
      rw [List.length_append]; split <;> rfl
    have hf2 : (a ++ escF (c :: l)).length < f + (a ++ (if alnum c = true then [c] else [37, c])).length := by rw [← hl2]; split <;> omega
    simp only []
    rw [hl2, e]
    rw [e] at hf2
    rw [loop_esc start l _ f _ hf2]
    simp
theorem read_esc (l : List UInt8) : readF (escF l) = .ok ⟨false, false, l.map lit, 0⟩ := by
  have h0 : ¬ (escF l)[0]? = some 94 := fun h => by
    rcases esc_head _ _ h with h3 | h3
    · revert h3; decide
    · revert h3; decide
  unfold readF
  rw [if_neg h0, decide_eq_false h0]
  have := loop_esc false l [] ((escF l).length + 1) [] (by simp)
  simpa using this
/-- An escaped string matches the string alone. -/
theorem at_esc (s : List UInt8) : ∀ (l : List UInt8) (i : Nat), i ≤ s.length → (Mu s false (l.map lit) i []).2 ≤ l.length + 1 ∧ (Mu s false (l.map lit) i []).1 = if l.isPrefixOf (s.drop i) = true then some (i + l.length, []) else none
  | [], i, _ => by simp [Mu]
  | c :: l, i, hi => by
    rw [List.map_cons]
    unfold Mu
    have hb : onceM s (lit c) i [] = if belongs s (lit c).P i = true then (some (i + 1, []), 0) else (none, 0) := rfl
    have hq : (lit c).q = 0 := rfl
    rw [hq, if_neg (by decide), if_neg (by decide), if_neg (by decide), if_neg (by decide), hb]
    by_cases hbl : belongs s (lit c).P i = true
    · rw [if_pos hbl]
      have hlt := belongs_lt hbl
      have ih := at_esc s l (i + 1) hlt
      have hci : s[i] = c := by
        unfold belongs at hbl
        rw [List.getElem?_eq_getElem hlt] at hbl
        simpa [lit] using hbl
      refine ⟨?_, ?_⟩
      · show 1 + 0 + _ ≤ _
        have := ih.1; rw [List.length_cons]; omega
      · show (Mu s false (l.map lit) (i + 1) []).1 = _
        rw [ih.2, List.drop_eq_getElem_cons hlt, hci, List.length_cons]
        simp only [List.isPrefixOf, beq_self_eq_true, Bool.true_and]
        rw [show i + 1 + l.length = i + (l.length + 1) by omega]
    · rw [if_neg hbl]
      refine ⟨by show 1 + 0 ≤ _; rw [List.length_cons]; omega, ?_⟩
      show none = _
      rw [if_neg ?_]
      intro hp
      apply hbl
      by_cases hlt : i < s.length
      · rw [List.drop_eq_getElem_cons hlt] at hp
        simp only [List.isPrefixOf, Bool.and_eq_true, beq_iff_eq] at hp
        unfold belongs
        rw [List.getElem?_eq_getElem hlt]
        simp [lit, hp.1]
      · rw [List.drop_eq_nil_of_le (by omega)] at hp
        simp [List.isPrefixOf] at hp
end Go.Proofs.YtkbcaklleiapdaaDoor.M4
