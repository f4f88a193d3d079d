/- Layer 18: the names n, nn, nnn .. -/
import Derived.Test.YtbfeahafogbbhaaRegZ
namespace Go.Proofs.Ytbfeahafogbbhaa
set_option linter.unusedVariables false
def nmB (i : Nat) : ByteArray := ⟨(List.replicate i 110).toArray⟩
theorem nmB_size (i : Nat) : (nmB i).size = i := by simp [nmB, ByteArray.size]
theorem nmB_inj {i j : Nat} (h : nmB i = nmB j) : i = j := by rw [← nmB_size i, h, nmB_size]
def namesN (n : Nat) (x : V5) : MP := (List.range n).map (fun j => (nmB (j + 1), x))
theorem namesN_len (n : Nat) (x : V5) : (namesN n x).length = n := by simp [namesN]
theorem namesN_succ (n : Nat) (x : V5) : namesN (n + 1) x = namesN n x ++ [(nmB (n + 1), x)] := by simp [namesN, List.range_succ]
theorem look_snoc (l : MP) (v : ByteArray) (y : V5) (k : ByteArray) (h : look l k = none) : look (l ++ [(v, y)]) k = if k = v then some y else none := by
  induction l with
  | nil => rfl
  | cons a l ih =>
    obtain ⟨u, i⟩ := a
    simp only [List.cons_append]
    unfold look at h ⊢
    by_cases he : k = u
    · rw [if_pos he] at h; cases h
    · rw [if_neg he] at h ⊢; exact ih h
theorem look_some_snoc (l : MP) (v : ByteArray) (y z : V5) (k : ByteArray) (h : look l k = some z) : look (l ++ [(v, y)]) k = some z := by
  induction l with
  | nil => cases h
  | cons a l ih =>
    obtain ⟨u, i⟩ := a
    simp only [List.cons_append]
    unfold look at h ⊢
    by_cases he : k = u
    · rw [if_pos he] at h ⊢; exact h
    · rw [if_neg he] at h ⊢; exact ih h
theorem put_snoc (l : MP) (k : ByteArray) (y : V5) (h : look l k = none) : putM l k y = l ++ [(k, y)] := by
  induction l with
  | nil => rfl
  | cons a l ih =>
    obtain ⟨u, i⟩ := a
    unfold look at h
    unfold putM
    by_cases he : k = u
    · rw [if_pos he] at h; cases h
    · rw [if_neg he] at h ⊢; rw [ih h]; rfl
/-- A name that is none of them. -/
theorem look_names_no (n : Nat) (x : V5) (k : ByteArray) (h : ∀ j, 1 ≤ j → j ≤ n → k ≠ nmB j) : look (namesN n x) k = none := by
  induction n with
  | zero => rfl
  | succ n ih =>
    rw [namesN_succ, look_snoc _ _ _ _ (ih fun j h1 h2 => h j h1 (by omega)), if_neg (h (n + 1) (by omega) (Nat.le_refl _))]
theorem look_names_yes (n : Nat) (x : V5) (j : Nat) (h1 : 1 ≤ j) (h2 : j ≤ n) : look (namesN n x) (nmB j) = some x := by
  induction n with
  | zero => omega
  | succ n ih =>
    rw [namesN_succ]
    by_cases hj : j ≤ n
    · exact look_some_snoc _ _ _ _ _ (ih hj)
    · obtain rfl : j = n + 1 := by omega
      rw [look_snoc _ _ _ _ (look_names_no n x _ fun i h3 h4 e => by have := nmB_inj e; omega), if_pos rfl]
/-- The next name. -/
theorem put_names (n : Nat) (x : V5) (hn : n < 1000) (hk : okV x = true) (hz : x.k ≠ 0) : putE (nmB (n + 1)) x (namesN n x) = 0 ∧ putN (nmB (n + 1)) x (namesN n x) = namesN (n + 1) x := by
  have hl := look_names_no n x (nmB (n + 1)) fun i h3 h4 e => by have := nmB_inj e; omega
  have e1 : putE (nmB (n + 1)) x (namesN n x) = 0 := by
    unfold putE
    rw [if_neg (by rw [nmB_size]; omega), if_neg (by rw [hk]; simp), if_neg hz, if_neg (fun h => by have := h.2; rw [namesN_len] at this; omega)]
  refine ⟨e1, ?_⟩
  unfold putN
  rw [e1, if_pos rfl, if_neg hz, put_snoc _ _ _ hl, namesN_succ]
def otherB : ByteArray := ⟨#[111, 116, 104, 101, 114]⟩
theorem other_no (j : Nat) : otherB ≠ nmB j := by
  intro e
  have h5 : j = 5 := by rw [← nmB_size j, ← e]; rfl
  subst h5
  exact absurd e (by decide)
/-- One too many; a name that is there; a name taken out makes room. -/
theorem names_full (x : V5) (hk : okV x = true) (hz : x.k ≠ 0) : putE otherB x (namesN 1000 x) = 17 ∧ putN otherB x (namesN 1000 x) = namesN 1000 x := by
  have e1 : putE otherB x (namesN 1000 x) = 17 := by
    unfold putE
    rw [if_neg (by decide), if_neg (by rw [hk]; simp), if_neg hz, if_pos ⟨look_names_no _ _ _ fun j _ _ => other_no j, namesN_len _ _⟩]
  exact ⟨e1, by unfold putN; rw [e1]; rfl⟩
theorem names_there (x : V5) (hk : okV x = true) (hz : x.k ≠ 0) : putE (nmB 1) x (namesN 1000 x) = 0 := by
  unfold putE
  rw [if_neg (by rw [nmB_size]; omega), if_neg (by rw [hk]; simp), if_neg hz, if_neg (fun h => by have := h.1; rw [look_names_yes 1000 x 1 (by omega) (by omega)] at this; cases this)]
end Go.Proofs.Ytbfeahafogbbhaa
