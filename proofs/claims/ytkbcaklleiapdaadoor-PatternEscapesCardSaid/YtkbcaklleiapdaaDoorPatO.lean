/- Mathematics of layer 4: how a pattern is read. -/
import Derived.Test.YtkbcaklleiapdaaDoorPatN
namespace Go.Proofs.YtkbcaklleiapdaaDoor.M4
/-- What stands behind %: its test, or none. -/
def pairL (l : List UInt8) (k : Nat) : Option (UInt8 → Bool) := match l[k]? with
  | some x => pairP x
  | none => none
/-- An element of a set: its bytes and the index behind it. -/
def elemF (l : List UInt8) (k : Nat) : Option ((UInt8 → Bool) × Nat) := match l[k]? with
  | none => none
  | some c =>
    if c = 37 then (pairL l (k + 1)).map fun P => (P, k + 2)
    else if l[k + 1]? = some 45 ∧ k + 2 < l.length ∧ l[k + 2]? ≠ some 93 then some (inR [(c, l.getD (k + 2) 0)], k + 3)
    else some (inR [(c, c)], k + 1)
/-- The elements of a set from the second one on. -/
def setL (l : List UInt8) : Nat → Nat → (UInt8 → Bool) → Option ((UInt8 → Bool) × Nat)
  | 0, _, _ => none
  | f + 1, k, S => if l[k]? = some 93 then some (S, k + 1) else match elemF l k with
    | none => none
    | some r => setL l f r.2 (fun c => S c || r.1 c)
/-- The rest of a set. -/
def setF (l : List UInt8) (k : Nat) : Option ((UInt8 → Bool) × Nat) :=
  match elemF l (if l[k]? = some 94 then k + 1 else k) with
  | none => none
  | some r => (setL l (l.length + 1) r.2 r.1).map fun u => ((fun c => u.1 c != decide (l[k]? = some 94)), u.2)
/-- A single without its quantifier. -/
def testF (l : List UInt8) (k : Nat) : Option ((UInt8 → Bool) × Nat) := match l[k]? with
  | none => none
  | some c =>
    if c = 46 then some (fun _ => true, k + 1)
    else if c = 37 then (pairL l (k + 1)).map fun P => (P, k + 2)
    else if c = 91 then setF l (k + 1)
    else some (fun d => d == c, k + 1)
/-- The quantifier at an index, or 0. -/
def quantF (l : List UInt8) (k : Nat) : UInt8 := match l[k]? with
  | none => 0
  | some c => if c = 42 ∨ c = 43 ∨ c = 45 ∨ c = 63 then c else 0
def singleF (l : List UInt8) (k : Nat) : Except Nat (Itm × Nat) := match testF l k with
  | none => .error 4
  | some r => .ok (⟨0, r.1, quantF l r.2, 0, 0, 0⟩, if quantF l r.2 = 0 then r.2 else r.2 + 1)
def noP : UInt8 → Bool := fun _ => false
/-- An item: the item, the index behind it, the states of the captures (0 begun, 1 ended, 2 a position), the open ones. -/
def itemF (l : List UInt8) (k : Nat) (sts opn : List Nat) : Except Nat (Itm × Nat × List Nat × List Nat) :=
  if l[k]? = some 40 then
    if sts.length = 16 then .error 3
    else if l[k + 1]? = some 41 then .ok (⟨3, noP, 0, 0, 0, sts.length⟩, k + 2, sts ++ [2], opn)
    else .ok (⟨1, noP, 0, 0, 0, sts.length⟩, k + 1, sts ++ [0], opn ++ [sts.length])
  else if l[k]? = some 41 then
    match opn.getLast? with
    | none => .error 4
    | some n => .ok (⟨2, noP, 0, 0, 0, n⟩, k + 1, sts.set n 1, opn.dropLast)
  else if l[k]? = some 37 ∧ l[k + 1]? = some 98 then
    if l.length < k + 4 then .error 4 else .ok (⟨4, noP, 0, l.getD (k + 2) 0, l.getD (k + 3) 0, 0⟩, k + 4, sts, opn)
  else if l[k]? = some 37 ∧ l[k + 1]? = some 102 then
    if l[k + 2]? = some 91 then
      match setF l (k + 3) with
      | none => .error 4
      | some r => .ok (⟨5, r.1, 0, 0, 0, 0⟩, r.2, sts, opn)
    else .error 4
  else if l[k]? = some 37 ∧ (∃ c, l[k + 1]? = some c ∧ 49 ≤ c.toNat ∧ c.toNat ≤ 57) then
    if sts[(l.getD (k + 1) 0).toNat - 49]? = some 1 then .ok (⟨6, noP, 0, 0, 0, (l.getD (k + 1) 0).toNat - 49⟩, k + 2, sts, opn) else .error 4
  else match singleF l k with
    | .error e => .error e
    | .ok r => .ok (r.1, r.2, sts, opn)
/-- A pattern that was read. -/
structure Pg where
  start : Bool
  fin : Bool
  its : List Itm
  caps : Nat
def endF (sts opn : List Nat) (its : List Itm) (start fin : Bool) : Except Nat Pg := if opn = [] then .ok ⟨start, fin, its, sts.length⟩ else .error 4
def loopF (l : List UInt8) (start : Bool) : Nat → Nat → List Nat → List Nat → List Itm → Except Nat Pg
  | 0, _, _, _, _ => .error 0
  | f + 1, k, sts, opn, its =>
    if k < l.length then
      if l[k]? = some 36 ∧ k + 1 = l.length then endF sts opn its start true
      else match itemF l k sts opn with
        | .error e => .error e
        | .ok r => loopF l start f r.2.1 r.2.2.1 r.2.2.2 (its ++ [r.1])
    else endF sts opn its start false
/-- A pattern. -/
def readF (l : List UInt8) : Except Nat Pg := loopF l (decide (l[0]? = some 94)) (l.length + 1) (if l[0]? = some 94 then 1 else 0) [] [] []
theorem getElem?_lt {l : List UInt8} {k : Nat} {c : UInt8} (h : l[k]? = some c) : k < l.length := (List.getElem?_eq_some_iff.1 h).1
theorem pairL_lt {l : List UInt8} {k : Nat} {P : UInt8 → Bool} (h : pairL l k = some P) : k < l.length := by
  unfold pairL at h
  split at h
  · exact getElem?_lt ‹_›
  · cases h
theorem elem_lt {l : List UInt8} {k : Nat} {r : (UInt8 → Bool) × Nat} (h : elemF l k = some r) : k < r.2 ∧ r.2 ≤ l.length := by
  unfold elemF at h
  split at h
  · cases h
  · rename_i c hc
    have := getElem?_lt hc
    split at h
    · rw [Option.map_eq_some_iff] at h
      obtain ⟨P, h1, rfl⟩ := h
      have := pairL_lt h1
      exact ⟨by simp only []; omega, by simp only []; omega⟩
    · split at h
      · rename_i h2
        cases h; exact ⟨by simp only []; omega, by simp only []; omega⟩
      · cases h; exact ⟨by simp only []; omega, by simp only []; omega⟩
theorem setL_lt {l : List UInt8} : ∀ (f k : Nat) (S : UInt8 → Bool) (r : (UInt8 → Bool) × Nat), setL l f k S = some r → k < r.2 ∧ r.2 ≤ l.length
  | 0, _, _, _, h => by cases h
  | f + 1, k, S, r, h => by
    unfold setL at h
    split at h
    · cases h; have := getElem?_lt ‹_›; exact ⟨by simp only []; omega, by simp only []; omega⟩
    · split at h
      · cases h
      · rename_i u hu
        have := elem_lt hu
        have := setL_lt f _ _ _ h
        omega
/-- More rounds than bytes change nothing. -/
theorem setL_fuel {l : List UInt8} : ∀ (f g k : Nat) (S : UInt8 → Bool), l.length < f + k → l.length < g + k → setL l f k S = setL l g k S
  | 0, 0, _, _, _, _ => rfl
  | 0, g + 1, k, S, hf, _ => by
    unfold setL
    rw [if_neg (by intro h; have := getElem?_lt h; omega)]
    unfold elemF
    rw [List.getElem?_eq_none (by omega)]
  | f + 1, 0, k, S, _, hg => by
    unfold setL
    rw [if_neg (by intro h; have := getElem?_lt h; omega)]
    unfold elemF
    rw [List.getElem?_eq_none (by omega)]
  | f + 1, g + 1, k, S, hf, hg => by
    unfold setL
    split
    · rfl
    · split
      · rfl
      · rename_i u hu
        have := elem_lt hu
        exact setL_fuel f g _ _ (by omega) (by omega)
theorem setF_lt {l : List UInt8} {k : Nat} {r : (UInt8 → Bool) × Nat} (h : setF l k = some r) : k < r.2 ∧ r.2 ≤ l.length := by
  unfold setF at h
  split at h
  · cases h
  · rename_i u hu
    rw [Option.map_eq_some_iff] at h
    obtain ⟨v, hv, rfl⟩ := h
    have h1 := elem_lt hu
    have h2 := setL_lt _ _ _ _ hv
    have : k ≤ if l[k]? = some 94 then k + 1 else k := by split <;> omega
    exact ⟨by simp only []; omega, h2.2⟩
theorem test_lt {l : List UInt8} {k : Nat} {r : (UInt8 → Bool) × Nat} (h : testF l k = some r) : k < r.2 ∧ r.2 ≤ l.length := by
  unfold testF at h
  split at h
  · cases h
  · rename_i c hc
    have := getElem?_lt hc
    split at h
    · cases h; exact ⟨by simp only []; omega, by simp only []; omega⟩
    · split at h
      · rw [Option.map_eq_some_iff] at h
        obtain ⟨P, h1, rfl⟩ := h
        have := pairL_lt h1
        exact ⟨by simp only []; omega, by simp only []; omega⟩
      · split at h
        · have := setF_lt h; omega
        · cases h; exact ⟨by simp only []; omega, by simp only []; omega⟩
theorem quant_lt {l : List UInt8} {k : Nat} (h : quantF l k ≠ 0) : k < l.length := by
  unfold quantF at h
  split at h
  · exact absurd rfl h
  · exact getElem?_lt ‹_›
theorem single_lt {l : List UInt8} {k : Nat} {r : Itm × Nat} (h : singleF l k = .ok r) : k < r.2 ∧ r.2 ≤ l.length ∧ r.1.kind = 0 := by
  unfold singleF at h
  split at h
  · cases h
  · rename_i u hu
    cases h
    have := test_lt hu
    refine ⟨?_, ?_, rfl⟩
    · simp only []; split <;> omega
    · simp only []; split
      · omega
      · have := quant_lt ‹_›; omega
theorem item_lt {l : List UInt8} {k : Nat} {sts opn : List Nat} {r : Itm × Nat × List Nat × List Nat} (h : itemF l k sts opn = .ok r) : k < r.2.1 ∧ r.2.1 ≤ l.length := by
  unfold itemF at h
  split at h
  · have := getElem?_lt ‹_›
    split at h
    · cases h
    · split at h
      · have := getElem?_lt ‹l[k + 1]? = _›
        cases h; exact ⟨by simp only []; omega, by simp only []; omega⟩
      · cases h; exact ⟨by simp only []; omega, by simp only []; omega⟩
  · split at h
    · have := getElem?_lt ‹l[k]? = some 41›
      split at h
      · cases h
      · cases h; exact ⟨by simp only []; omega, by simp only []; omega⟩
    · split at h
      · split at h
        · cases h
        · cases h; exact ⟨by simp only []; omega, by simp only []; omega⟩
      · split at h
        · split at h
          · split at h
            · cases h
            · rename_i u hu
              cases h
              have := setF_lt hu
              exact ⟨by simp only []; omega, by simp only []; omega⟩
          · cases h
        · split at h
          · rename_i hd
            obtain ⟨_, c, h2, _⟩ := hd
            have := getElem?_lt h2
            split at h
            · cases h; exact ⟨by simp only []; omega, by simp only []; omega⟩
            · cases h
          · split at h
            · cases h
            · rename_i u hu
              cases h
              have := single_lt hu
              exact ⟨this.1, this.2.1⟩
theorem loopF_fuel {l : List UInt8} {start : Bool} : ∀ (f g k : Nat) (sts opn : List Nat) (its : List Itm), l.length < f + k → l.length < g + k → 0 < f → 0 < g → loopF l start f k sts opn its = loopF l start g k sts opn its
  | 0, _, _, _, _, _, _, _, hf, _ => absurd hf (by omega)
  | _, 0, _, _, _, _, _, _, _, hg => absurd hg (by omega)
  | f + 1, g + 1, k, sts, opn, its, hf, hg, _, _ => by
    unfold loopF
    by_cases hk : k < l.length
    · rw [if_pos hk, if_pos hk]
      split
      · rfl
      · cases hu : itemF l k sts opn with
        | error e => rfl
        | ok u =>
          have := item_lt hu
          exact loopF_fuel f g _ _ _ _ (by omega) (by omega) (by omega) (by omega)
    · rw [if_neg hk, if_neg hk]
theorem loopF_step {l : List UInt8} {start : Bool} {f k : Nat} {sts opn : List Nat} {its : List Itm} {r : Itm × Nat × List Nat × List Nat} (hf : l.length < f + k) (hk : k < l.length) (hd : ¬ (l[k]? = some 36 ∧ k + 1 = l.length)) (h : itemF l k sts opn = .ok r) :
    loopF l start f k sts opn its = loopF l start f r.2.1 r.2.2.1 r.2.2.2 (its ++ [r.1]) := by
  have := item_lt h
  cases f with
  | zero => omega
  | succ f =>
    rw [show loopF l start (f + 1) k sts opn its = loopF l start f r.2.1 r.2.2.1 r.2.2.2 (its ++ [r.1]) by
      show (if k < l.length then _ else _) = _
      rw [if_pos hk, if_neg hd, h]]
    exact loopF_fuel _ _ _ _ _ _ (by omega) (by omega) (by omega) (by omega)
theorem loopF_err {l : List UInt8} {start : Bool} {f k : Nat} {sts opn : List Nat} {its : List Itm} {e : Nat} (hf : 0 < f) (hk : k < l.length) (hd : ¬ (l[k]? = some 36 ∧ k + 1 = l.length)) (h : itemF l k sts opn = .error e) :
    loopF l start f k sts opn its = .error e := by
  cases f with
  | zero => omega
  | succ f =>
    show (if k < l.length then _ else _) = _
    rw [if_pos hk, if_neg hd, h]
theorem loopF_fin {l : List UInt8} {start : Bool} {f k : Nat} {sts opn : List Nat} {its : List Itm} (hf : 0 < f) (hd : l[k]? = some 36 ∧ k + 1 = l.length) :
    loopF l start f k sts opn its = endF sts opn its start true := by
  cases f with
  | zero => omega
  | succ f =>
    show (if k < l.length then _ else _) = _
    rw [if_pos (by omega), if_pos hd]
theorem loopF_end {l : List UInt8} {start : Bool} {f k : Nat} {sts opn : List Nat} {its : List Itm} (hf : 0 < f) (hk : ¬ k < l.length) :
    loopF l start f k sts opn its = endF sts opn its start false := by
  cases f with
  | zero => omega
  | succ f =>
    show (if k < l.length then _ else _) = _
    rw [if_neg hk]
/-- What a reader has read is in order. -/
structure Rok (sts opn : List Nat) (its : List Itm) : Prop where
  st : ∀ N, sts.length ≤ N → stL its (List.replicate N 0) = some (sts.map (· + 1) ++ List.replicate (N - sts.length) 0)
  op : ∀ k, k ∈ opn ↔ sts[k]? = some 0
  nd : opn.Nodup
  bd : ∀ x ∈ sts, x ≤ 2
  qd : Qd its
  le : sts.length ≤ 16
  ol : opn.length ≤ sts.length
theorem Rok.nil : Rok [] [] [] := ⟨fun N _ => by simp [stL], by simp, List.nodup_nil, by simp, fun _ h => (List.not_mem_nil h).elim, by simp, by simp⟩
theorem stL_snoc (its : List Itm) (it : Itm) (st st' : List Nat) (h : stL its st = some st') : stL (its ++ [it]) st = stI it st' := by
  rw [stL_append, h]
  show (match stI it st' with | some st' => stL [] st' | none => none) = _
  cases stI it st' <;> rfl
theorem Qd.snoc {its : List Itm} {it : Itm} (h : Qd its) (h2 : it.q ≠ 0 → it.kind = 0) : Qd (its ++ [it]) := fun x hx => by
  rcases List.mem_append.1 hx with h3 | h3
  · exact h x h3
  · rw [List.mem_singleton.1 h3]; exact h2
theorem pad_get (sts : List Nat) (N k v : Nat) (h : sts[k]? = some v) : (sts.map (· + 1) ++ List.replicate (N - sts.length) 0)[k]? = some (v + 1) := by
  have := st_lt h
  rw [List.getElem?_append_left (by simpa using this), List.getElem?_map, h]; rfl
theorem Rok.step {l : List UInt8} {k : Nat} {sts opn : List Nat} {its : List Itm} {r : Itm × Nat × List Nat × List Nat} (h : Rok sts opn its) (hr : itemF l k sts opn = .ok r) : Rok r.2.2.1 r.2.2.2 (its ++ [r.1]) := by
  have same : ∀ it : Itm, (it.q ≠ 0 → it.kind = 0) → (∀ st, stI it (sts.map (· + 1) ++ st) = some (sts.map (· + 1) ++ st)) → Rok sts opn (its ++ [it]) := fun it h1 h2 =>
    ⟨fun N hN => by rw [stL_snoc _ _ _ _ (h.st N hN), h2], h.op, h.nd, h.bd, h.qd.snoc h1, h.le, h.ol⟩
  have grown : ∀ (it : Itm) (v : Nat), it.q = 0 → it.cap = sts.length → v ≤ 2 → (∀ st : List Nat, st[sts.length]? = some 0 → stI it st = some (st.set sts.length (v + 1))) → ∀ N, (sts ++ [v]).length ≤ N → stL (its ++ [it]) (List.replicate N 0) = some ((sts ++ [v]).map (· + 1) ++ List.replicate (N - (sts ++ [v]).length) 0) := by
    intro it v _ h1 _ h3 N hN
    rw [List.length_append, List.length_singleton] at hN
    rw [stL_snoc _ _ _ _ (h.st N (by omega)), h3 _ (by rw [List.getElem?_append_right (by simp), List.length_map, Nat.sub_self, List.getElem?_replicate, if_pos (by omega)])]
    rw [List.set_append_right _ _ (by simp)]
    congr 1
    rw [List.map_append, List.append_assoc, List.length_append, List.length_singleton]
    congr 1
    rw [show N - sts.length = (N - (sts.length + 1)) + 1 by omega, List.replicate_succ, List.length_map, Nat.sub_self]
    rfl
  have sg : ∀ u : Itm × Nat, singleF l k = .ok u → Rok sts opn (its ++ [u.1]) := fun u hu => by
    have h1 := (single_lt hu).2.2
    exact same u.1 (fun _ => h1) (fun st => stI_single h1 _)
  unfold itemF at hr
  split at hr
  · split at hr
    · cases hr
    · have hle := h.le
      split at hr
      · cases hr
        refine ⟨grown _ 2 rfl rfl (Nat.le_refl _) (fun st hst => by unfold stI; simp only []; rw [if_pos hst]), fun j => ?_, h.nd, fun x hx => ?_, h.qd.snoc (fun e => absurd rfl e), by rw [List.length_append, List.length_singleton]; omega, by have := h.ol; simp; omega⟩
        · rw [h.op j]
          by_cases hj : j < sts.length
          · rw [List.getElem?_append_left hj]
          · rw [List.getElem?_eq_none (by omega), List.getElem?_append_right (by omega)]
            cases hjj : j - sts.length with
            | zero => simp
            | succ n => simp
        · rcases List.mem_append.1 hx with h3 | h3
          · exact h.bd x h3
          · rw [List.mem_singleton.1 h3]; exact Nat.le_refl _
      · cases hr
        have hnin : sts.length ∉ opn := fun e => by have := (h.op _).1 e; rw [List.getElem?_eq_none (Nat.le_refl _)] at this; cases this
        refine ⟨grown _ 0 rfl rfl (by omega) (fun st hst => by unfold stI; simp only []; rw [if_pos hst]), fun j => ?_, ?_, fun x hx => ?_, h.qd.snoc (fun e => absurd rfl e), by rw [List.length_append, List.length_singleton]; omega, by have := h.ol; rw [List.length_append, List.length_append]; simp; omega⟩
        · rw [List.mem_append, h.op j, List.mem_singleton]
          by_cases hj : j < sts.length
          · rw [List.getElem?_append_left hj]
            exact ⟨fun e => e.elim id (fun e => by omega), Or.inl⟩
          · rw [List.getElem?_eq_none (by omega), List.getElem?_append_right (by omega)]
            cases hjj : j - sts.length with
            | zero => simp; omega
            | succ n => simp; omega
        · rw [List.nodup_append]
          exact ⟨h.nd, by simp, fun a ha b hb => by rw [List.mem_singleton.1 hb]; exact fun e => hnin (e ▸ ha)⟩
        · rcases List.mem_append.1 hx with h3 | h3
          · exact h.bd x h3
          · rw [List.mem_singleton.1 h3]; omega
  · split at hr
    · split at hr
      · cases hr
      · rename_i n hn
        cases hr
        have hmem : n ∈ opn := List.mem_of_getLast? hn
        have h0 := (h.op n).1 hmem
        have hk := st_lt h0
        have hdl : opn = opn.dropLast ++ [n] := by
          obtain ⟨ys, rfl⟩ := List.getLast?_eq_some_iff.1 hn
          rw [List.dropLast_concat]
        have hnd := h.nd
        rw [hdl, List.nodup_append] at hnd
        have hnn : n ∉ opn.dropLast := fun e => hnd.2.2 n e n (by simp) rfl
        refine ⟨fun N hN => ?_, fun j => ?_, hnd.1, fun x hx => ?_, h.qd.snoc (fun e => absurd rfl e), by rw [List.length_set]; exact h.le, by have := h.ol; rw [List.length_set, List.length_dropLast]; omega⟩
        · rw [List.length_set] at hN
          rw [stL_snoc _ _ _ _ (h.st N hN)]
          unfold stI
          simp only []
          rw [if_pos (pad_get _ _ _ _ h0), List.set_append_left _ _ (by simpa using hk), List.length_set, List.map_set]
        · have e1 : j ∈ opn ↔ j ∈ opn.dropLast ∨ j = n := by
            conv => lhs; rw [hdl]
            rw [List.mem_append, List.mem_singleton]
          by_cases hj : j = n
          · subst hj
            simp [hnn, hk]
          · rw [List.getElem?_set, if_neg (Ne.symm hj), ← h.op j, e1]
            exact ⟨Or.inl, fun e => e.elim id (fun e => absurd e hj)⟩
        · rcases List.mem_or_eq_of_mem_set hx with h3 | h3
          · exact h.bd x h3
          · omega
    · split at hr
      · split at hr
        · cases hr
        · cases hr
          exact same _ (fun e => absurd rfl e) (fun st => rfl)
      · split at hr
        · split at hr
          · split at hr
            · cases hr
            · cases hr
              exact same _ (fun e => absurd rfl e) (fun st => rfl)
          · cases hr
        · split at hr
          · split at hr
            · rename_i h6
              cases hr
              exact same _ (fun e => absurd rfl e) (fun st => by
                unfold stI
                simp only []
                rw [if_pos (by have := st_lt h6; rw [List.getElem?_append_left (by simpa using this), List.getElem?_map, h6]; rfl)])
            · cases hr
          · split at hr
            · cases hr
            · rename_i u hu
              cases hr
              exact sg u hu
/-- What was read is in order. -/
theorem loopF_ok {l : List UInt8} {start : Bool} : ∀ (f k : Nat) (sts opn : List Nat) (its : List Itm) (g : Pg), Rok sts opn its → loopF l start f k sts opn its = .ok g → WF g.its (List.replicate g.caps 0) ∧ Qd g.its ∧ g.caps ≤ 16 ∧ g.start = start
  | 0, _, _, _, _, _, _, h => by cases h
  | f + 1, k, sts, opn, its, g, hR, h => by
    have fin : ∀ b, endF sts opn its start b = .ok g → WF g.its (List.replicate g.caps 0) ∧ Qd g.its ∧ g.caps ≤ 16 ∧ g.start = start := by
      intro b hb
      unfold endF at hb
      split at hb
      · rename_i ho
        cases hb
        refine ⟨⟨_, hR.st _ (Nat.le_refl _), fun x hx => ?_⟩, hR.qd, hR.le, rfl⟩
        rw [Nat.sub_self, List.replicate_zero, List.append_nil] at hx
        obtain ⟨y, hy, rfl⟩ := List.mem_map.1 hx
        obtain ⟨j, hj, hjy⟩ := List.mem_iff_getElem.1 hy
        have : y ≠ 0 := fun e => by
          have h2 : sts[j]? = some 0 := by rw [List.getElem?_eq_getElem hj, hjy, e]
          have := (hR.op j).2 h2
          rw [ho] at this
          exact (List.not_mem_nil this).elim
        omega
      · cases hb
    unfold loopF at h
    split at h
    · split at h
      · exact fin _ h
      · split at h
        · cases h
        · rename_i r hr
          exact loopF_ok f _ _ _ _ g (hR.step hr) h
    · exact fin _ h
theorem readF_ok {l : List UInt8} {g : Pg} (h : readF l = .ok g) : WF g.its (List.replicate g.caps 0) ∧ Qd g.its ∧ g.caps ≤ 16 ∧ g.start = decide (l[0]? = some 94) := loopF_ok _ _ _ _ _ g Rok.nil h
end Go.Proofs.YtkbcaklleiapdaaDoor.M4
