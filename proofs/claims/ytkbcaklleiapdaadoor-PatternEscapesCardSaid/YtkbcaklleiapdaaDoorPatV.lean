/- Contracts of layer 4: ways of a single with a quantifier. -/
import Derived.Test.YtkbcaklleiapdaaDoorPatS
namespace Go.Proofs.YtkbcaklleiapdaaDoor
open Go.RowKit M4
set_option linter.unusedVariables false
abbrev Res := Option (Nat × Caps) × Nat
def No (e : Ending) : Prop := ∃ x : Int, e = .returned (.tuple #[.int .i64 x, .bool false])
/-- What a way leaves: B bounds what is counted once no step is left. -/
structure ROut (E : Env) (B : Nat) (left : Int) (e : Ending) (w' : World) : Prop where
  no : No e
  ex : ∃ (m' : Caps) (left' : Int), Mat E m' left' w' ∧ left' < 0 ∧ (0 ≤ left → -1 - (B : Int) ≤ left') ∧ (left < 0 → left' = left - 1)
def RSaid (E : Env) (r : Res) (its : List Itm) (st : List Nat) (c : Caps) (B : Nat) (left : Int) (e : Ending) (w' : World) : Prop :=
  if (r.2 : Int) ≤ left then
    match r.1 with
    | some u => e = .returned (.tuple #[.int .i64 (u.1 : Int), .bool true]) ∧ ∃ m' st', Mat E m' (left - r.2) w' ∧ stL its st = some st' ∧ Agr st' m' u.2
    | none => No e ∧ ∃ m', Mat E m' (left - r.2) w' ∧ Agr st m' c
  else ROut E B left e w'
def RestAt (E : Env) (j : Nat) : Prop := ∀ (J I : Int) (i : Nat) (m c : Caps) (st : List Nat) (lo : Nat) (left : Int) (w : World), J = (j : Int) → I = (i : Int) → i ≤ E.s.size → Agr st m c → Cok st c lo i → WF (E.g.its.drop j) st → -100000000 ≤ left → left ≤ 1000000 → Mat E m left w →
  Calls Tryd.prog 53 #[.pointer (some ⟨E.b, 0, none⟩), .int .i64 J, .int .i64 I] w fun e w' => RSaid E (Mu E.s.data.toList E.g.fin (E.g.its.drop j) i c) (E.g.its.drop j) st c (E.g.its.drop j).length left e w' ∧ Ch [E.b, E.cb] w w'
theorem Mu_pos (s : List UInt8) (fin : Bool) (its : List Itm) (i : Nat) (c : Caps) : 1 ≤ (Mu s fin its i c).2 := by
  cases its with
  | nil => unfold Mu; exact Nat.le_refl _
  | cons it its =>
    unfold Mu more
    split
    · split <;> (simp only []; omega)
    · split
      · simp only []; omega
      · split
        · simp only []; omega
        · split
          · simp only []; omega
          · split <;> (simp only []; omega)
theorem orM_none {α : Type} {a b : Option α × Nat} (h : a.1 = none) : M4.orM a b = (b.1, a.2 + b.2) := by unfold M4.orM; rw [h]
theorem orM_some' {α : Type} {a b : Option α × Nat} {x : α} (h : a.1 = some x) : M4.orM a b = a := by unfold M4.orM; rw [h]
theorem orM_ge {α : Type} (a b : Option α × Nat) : a.2 ≤ (M4.orM a b).2 := by unfold M4.orM; split <;> (first | exact Nat.le_refl _ | exact Nat.le_add_right _ _)
/-- What was said of fewer steps. -/
theorem RSaid.more {E : Env} {r : Res} {its : List Itm} {st : List Nat} {c : Caps} {B : Nat} {left : Int} {e : Ending} {w' : World} (k : Nat) (hk : (k : Int) ≤ left) (h : RSaid E r its st c B (left - k) e w') : RSaid E (M4.more k r) its st c B left e w' := by
  unfold RSaid at *
  unfold M4.more
  simp only []
  by_cases hr : (r.2 : Int) ≤ left - k
  · rw [if_pos hr] at h
    rw [if_pos (by push_cast; omega)]
    rw [show left - ((k + r.2 : Nat) : Int) = left - k - r.2 by push_cast; omega]
    exact h
  · rw [if_neg hr] at h
    rw [if_neg (by push_cast; omega)]
    obtain ⟨h1, m', l', h2, h3, h4, h5⟩ := h
    exact ⟨h1, m', l', h2, h3, fun _ => h4 (by omega), fun e => by omega⟩
theorem RSaid.out {E : Env} {r : Res} {its : List Itm} {st : List Nat} {c : Caps} {B : Nat} {left : Int} {e : Ending} {w' : World} (h : ¬ (r.2 : Int) ≤ left) (ho : ROut E B left e w') : RSaid E r its st c B left e w' := by
  unfold RSaid; rw [if_neg h]; exact ho
theorem RSaid.none {E : Env} {r : Res} {its : List Itm} {st : List Nat} {c : Caps} {B : Nat} {left : Int} {e : Ending} {w' : World} (h : (r.2 : Int) ≤ left) (h1 : r.1 = none) (hn : No e) (hm : ∃ m', Mat E m' (left - r.2) w' ∧ Agr st m' c) : RSaid E r its st c B left e w' := by
  unfold RSaid; rw [if_pos h, h1]; exact ⟨hn, hm⟩
theorem RSaid.some {E : Env} {r : Res} {its : List Itm} {st : List Nat} {c : Caps} {B : Nat} {left : Int} {e : Ending} {w' : World} {u : Nat × Caps} (h : (r.2 : Int) ≤ left) (h1 : r.1 = .some u) (he : e = .returned (.tuple #[.int .i64 (u.1 : Int), .bool true])) (hm : ∃ m' st', Mat E m' (left - r.2) w' ∧ stL its st = .some st' ∧ Agr st' m' u.2) : RSaid E r its st c B left e w' := by
  unfold RSaid; rw [if_pos h, h1]; exact ⟨he, hm⟩
/-- The three ways. -/
theorem RSaid.ways {E : Env} {r : Res} {its : List Itm} {st : List Nat} {c : Caps} {B : Nat} {left : Int} {e : Ending} {w' : World} (h : RSaid E r its st c B left e w') :
    (∃ u, (r.2 : Int) ≤ left ∧ r.1 = .some u ∧ e = .returned (.tuple #[.int .i64 (u.1 : Int), .bool true]) ∧ ∃ m' st', Mat E m' (left - r.2) w' ∧ stL its st = .some st' ∧ Agr st' m' u.2) ∨
    ((r.2 : Int) ≤ left ∧ r.1 = .none ∧ No e ∧ ∃ m', Mat E m' (left - r.2) w' ∧ Agr st m' c) ∨ (¬ (r.2 : Int) ≤ left ∧ ROut E B left e w') := by
  unfold RSaid at h
  by_cases hr : (r.2 : Int) ≤ left
  · rw [if_pos hr] at h
    cases hu : r.1 with
    | some u => rw [hu] at h; exact Or.inl ⟨u, hr, rfl, h.1, h.2⟩
    | none => rw [hu] at h; exact Or.inr (Or.inl ⟨hr, rfl, h.1, h.2⟩)
  · rw [if_neg hr] at h; exact Or.inr (Or.inr ⟨hr, h⟩)
/-- The ways of a repeated item from a number on that may be -1. -/
def downZ (go : Nat → Res) (i : Nat) (least : Nat) (k : Int) : Res := if k < least then (none, 0) else downM go i least k.toNat
theorem downZ_step {go : Nat → Res} {i least : Nat} {k : Int} (hk : (least : Int) ≤ k) (h1 : least ≤ 1) : downZ go i least k = M4.orM (go (i + k.toNat)) (downZ go i least (k - 1)) := by
  obtain ⟨n, rfl⟩ : ∃ n : Nat, k = (n : Int) := ⟨k.toNat, by omega⟩
  unfold downZ
  rw [if_neg (by omega), Int.toNat_natCast]
  cases n with
  | zero =>
    have h0 : least = 0 := by omega
    subst h0
    rw [if_pos (by omega)]
    unfold downM
    rw [if_pos rfl, Nat.add_zero]
    unfold M4.orM
    cases hg : (go i).1 with
    | some u => rfl
    | none => simp only []; rw [Nat.add_zero, ← hg]
  | succ n =>
    rw [show downM go i least (n + 1) = M4.orM (go (i + (n + 1))) (downM go i least n) from rfl]
    by_cases hl : ((n + 1 : Nat) : Int) - 1 < (least : Int)
    · rw [if_pos hl]
      have e1 : least = 1 := by omega
      have e2 : n = 0 := by omega
      subst e1 e2
      rfl
    · rw [if_neg hl]
      rw [show (((n + 1 : Nat) : Int) - 1).toNat = n by omega]
theorem downZ_stop {go : Nat → Res} {i least : Nat} {k : Int} (hk : k < (least : Int)) : downZ go i least k = (none, 0) := by unfold downZ; rw [if_pos hk]
theorem downZ_nat {go : Nat → Res} {i least : Nat} (n : Nat) (h1 : least ≤ 1) : downZ go i least (n : Int) = downM go i least n := by
  unfold downZ
  by_cases h : (n : Int) < least
  · rw [if_pos h]
    have e1 : least = 1 := by omega
    have e2 : n = 0 := by omega
    subst e1 e2; rfl
  · rw [if_neg h, Int.toNat_natCast]
end Go.Proofs.YtkbcaklleiapdaaDoor
