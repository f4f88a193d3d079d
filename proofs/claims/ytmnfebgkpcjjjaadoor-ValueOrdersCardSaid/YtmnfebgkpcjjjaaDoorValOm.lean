/- Layer 11: the order of values, as mathematics. -/
import Derived.Test.YtmnfebgkpcjjjaaDoorValG
namespace Go.Proofs.YtmnfebgkpcjjjaaDoor
open Go.RowKit M1 M2
set_option linter.unusedVariables false
theorem bl_tri : ∀ a b : List UInt8, (Op.bytesLess a b = true ∧ Op.bytesLess b a = false ∧ a ≠ b) ∨ (Op.bytesLess a b = false ∧ Op.bytesLess b a = true ∧ a ≠ b) ∨ (Op.bytesLess a b = false ∧ Op.bytesLess b a = false ∧ a = b)
  | [], [] => .inr (.inr ⟨rfl, rfl, rfl⟩)
  | [], y :: b => .inl ⟨rfl, rfl, by simp⟩
  | x :: a, [] => .inr (.inl ⟨rfl, rfl, by simp⟩)
  | x :: a, y :: b => by
    simp only [Op.bytesLess]
    rcases Nat.lt_trichotomy x.toNat y.toNat with h | h | h
    · have h1 : x < y := UInt8.lt_iff_toNat_lt.2 h
      have h2 : ¬ y < x := fun e => by have := UInt8.lt_iff_toNat_lt.1 e; omega
      have h3 : x ≠ y := fun e => by rw [e] at h; omega
      have h4 : (y == x) = false := by rw [beq_eq_false_iff_ne]; exact fun e => h3 e.symm
      left
      rw [decide_eq_true h1, decide_eq_false h2, h4]
      exact ⟨rfl, rfl, by simp [h3]⟩
    · obtain rfl : x = y := UInt8.toNat_inj.1 h
      have h2 : ¬ x < x := fun e => by have := UInt8.lt_iff_toNat_lt.1 e; omega
      rw [decide_eq_false h2, show (x == x) = true from by simp]
      simp only [Bool.false_or, Bool.true_and, ne_eq, List.cons.injEq, true_and]
      exact bl_tri a b
    · have h1 : y < x := UInt8.lt_iff_toNat_lt.2 h
      have h2 : ¬ x < y := fun e => by have := UInt8.lt_iff_toNat_lt.1 e; omega
      have h3 : x ≠ y := fun e => by rw [e] at h; omega
      have h4 : (x == y) = false := by rw [beq_eq_false_iff_ne]; exact h3
      right; left
      rw [decide_eq_true h1, decide_eq_false h2, h4]
      exact ⟨rfl, rfl, by simp [h3]⟩
theorem bl_trans : ∀ a b c : List UInt8, Op.bytesLess a b = true → Op.bytesLess b c = true → Op.bytesLess a c = true
  | a, [], _, h, _ => by cases a <;> simp [Op.bytesLess] at h
  | _, _ :: _, [], _, h => by simp [Op.bytesLess] at h
  | [], _ :: _, z :: c, _, _ => rfl
  | x :: a, y :: b, z :: c, h, g => by
    simp only [Op.bytesLess, Bool.or_eq_true, decide_eq_true_eq, Bool.and_eq_true, beq_iff_eq] at *
    rcases h with h | ⟨rfl, h⟩
    · rcases g with g | ⟨rfl, g⟩
      · left; rw [UInt8.lt_iff_toNat_lt] at *; omega
      · left; exact h
    · rcases g with g | ⟨rfl, g⟩
      · left; exact g
      · right; exact ⟨rfl, bl_trans a b c h g⟩
theorem v_num {k p q : Int} {s : ByteArray} {r : Int} (h : validF k p q s r = true) (hk : k = 2) : vld p q = true ∧ s = ⟨#[]⟩ ∧ r = 0 := by
  subst hk
  have h2 : (vld p q && eqV 2 p q s r 2 p q ⟨#[]⟩ 0) = true := h
  rw [Bool.and_eq_true] at h2
  obtain ⟨_, _, _, e1, e2⟩ := eqV_iff.1 h2.2
  exact ⟨h2.1, e1, e2⟩
theorem v_str {k p q : Int} {s : ByteArray} {r : Int} (h : validF k p q s r = true) (hk : k = 3) : p = 0 ∧ q = 0 ∧ r = 0 := by
  subst hk
  have h2 : (decide (s.size ≤ 4096) && eqV 3 p q s r 3 0 0 s 0) = true := h
  rw [Bool.and_eq_true] at h2
  obtain ⟨_, e1, e2, _, e3⟩ := eqV_iff.1 h2.2
  exact ⟨e1, e2, e3⟩
theorem ratCmp_neg {p q p' q' : Int} (h : vld p q = true) (h' : vld p' q' = true) : decide (ratCmp p q p' q' < 0) = decide (rat p q < rat p' q') := by
  apply decide_eq_decide.2
  rw [rat_lt h h', ratCmp_yes h h']
  unfold cmp
  split
  · simp; assumption
  · split <;> simp <;> omega
theorem lessB_num {p q p' q' : Int} (s s' : ByteArray) (h : vld p q = true) (h' : vld p' q' = true) : lessB 2 p q s 2 p' q' s' = decide (rat p q < rat p' q') := by
  unfold lessB
  rw [h, h', if_pos (by decide), ratCmp_neg h h']
theorem lessB_str (p q p' q' : Int) (s s' : ByteArray) : lessB 3 p q s 3 p' q' s' = Op.bytesLess s.data.toList s'.data.toList := by
  unfold lessB
  rw [if_neg (by simp), if_pos ⟨rfl, rfl⟩]
theorem data_inj {a b : ByteArray} (h : a.data.toList = b.data.toList) : a = b := by
  obtain ⟨⟨x⟩⟩ := a
  obtain ⟨⟨y⟩⟩ := b
  simp at h
  rw [h]
def Tri (x y t : Bool) : Prop := (x = true ∧ y = false ∧ t = false) ∨ (x = false ∧ y = true ∧ t = false) ∨ (x = false ∧ y = false ∧ t = true)
theorem ord2 {k p q : Int} {s : ByteArray} {r k' p' q' : Int} {s' : ByteArray} {r' : Int} (hv : validF k p q s r = true) (hv' : validF k' p' q' s' r' = true) (hk : k = k') (h23 : k = 2 ∨ k = 3) :
    Tri (lessB k p q s k' p' q' s') (lessB k' p' q' s' k p q s) (eqV k p q s r k' p' q' s' r') ∧ lessE k p q k' p' q' = 0 ∧ lessE k' p' q' k p q = 0 := by
  subst hk
  rcases h23 with h | h
  · obtain ⟨a1, a2, a3⟩ := v_num hv h
    obtain ⟨b1, b2, b3⟩ := v_num hv' h
    subst h a2 a3 b2 b3
    refine ⟨?_, by unfold lessE; rw [a1, b1, if_pos (by decide)], by unfold lessE; rw [a1, b1, if_pos (by decide)]⟩
    rw [lessB_num _ _ a1 b1, lessB_num _ _ b1 a1]
    by_cases h1 : rat p q < rat p' q'
    · left
      have h2 : ¬ rat p' q' < rat p q := Rat.not_lt.2 (Rat.le_of_lt h1)
      refine ⟨decide_eq_true h1, decide_eq_false h2, ?_⟩
      rw [← Bool.not_eq_true, eqV_iff]
      rintro ⟨_, rfl, rfl, _⟩
      exact Rat.lt_irrefl h1
    · by_cases h2 : rat p' q' < rat p q
      · right; left
        refine ⟨decide_eq_false h1, decide_eq_true h2, ?_⟩
        rw [← Bool.not_eq_true, eqV_iff]
        rintro ⟨_, rfl, rfl, _⟩
        exact Rat.lt_irrefl h2
      · right; right
        obtain ⟨e1, e2⟩ := rat_inj a1 b1 (Rat.le_antisymm (Rat.not_lt.1 h2) (Rat.not_lt.1 h1))
        exact ⟨decide_eq_false h1, decide_eq_false h2, eqV_iff.2 ⟨rfl, e1, e2, rfl, rfl⟩⟩
  · obtain ⟨a1, a2, a3⟩ := v_str hv h
    obtain ⟨b1, b2, b3⟩ := v_str hv' h
    subst h a1 a2 a3 b1 b2 b3
    refine ⟨?_, by decide, by decide⟩
    rw [lessB_str, lessB_str]
    rcases bl_tri s.data.toList s'.data.toList with ⟨h1, h2, h3⟩ | ⟨h1, h2, h3⟩ | ⟨h1, h2, h3⟩
    · left
      refine ⟨h1, h2, ?_⟩
      rw [← Bool.not_eq_true, eqV_iff]
      rintro ⟨_, _, _, e, _⟩
      exact h3 (by rw [e])
    · right; left
      refine ⟨h1, h2, ?_⟩
      rw [← Bool.not_eq_true, eqV_iff]
      rintro ⟨_, _, _, e, _⟩
      exact h3 (by rw [e])
    · right; right
      exact ⟨h1, h2, eqV_iff.2 ⟨rfl, rfl, rfl, data_inj h3, rfl⟩⟩
theorem ord3 {k p q : Int} {s : ByteArray} {k' p' q' : Int} {s' : ByteArray} {k'' p'' q'' : Int} {s'' : ByteArray} (h : lessB k p q s k' p' q' s' = true) (g : lessB k' p' q' s' k'' p'' q'' s'' = true) : lessB k p q s k'' p'' q'' s'' = true := by
  have key : ∀ {k p q : Int} {s : ByteArray} {k' p' q' : Int} {s' : ByteArray}, lessB k p q s k' p' q' s' = true → (k = 2 ∧ k' = 2 ∧ vld p q = true ∧ vld p' q' = true) ∨ (k = 3 ∧ k' = 3) := by
    intro k p q s k' p' q' s' h
    unfold lessB at h
    split at h
    · rename_i hc
      simp only [Bool.and_eq_true, decide_eq_true_eq] at hc
      exact .inl ⟨hc.1.1, hc.2.1, hc.1.2, hc.2.2⟩
    · split at h
      · rename_i hc; exact .inr hc
      · cases h
  rcases key h with ⟨rfl, rfl, v1, v2⟩ | ⟨rfl, rfl⟩
  · rcases key g with ⟨_, rfl, _, v3⟩ | ⟨e, _⟩
    · rw [lessB_num _ _ v1 v2] at h
      rw [lessB_num _ _ v2 v3] at g
      rw [lessB_num _ _ v1 v3]
      exact decide_eq_true (Rat.not_le.1 fun e => Rat.not_lt.2 (Rat.le_trans e (Rat.le_of_lt (of_decide_eq_true h))) (of_decide_eq_true g))
    · cases e
  · rcases key g with ⟨e, _⟩ | ⟨_, rfl⟩
    · cases e
    · rw [lessB_str] at *
      exact bl_trans _ _ _ h g
theorem ord0 {k p q : Int} {s : ByteArray} {k' p' q' : Int} {s' : ByteArray} (h : ¬ (k = k' ∧ (k = 2 ∨ k = 3))) : lessB k p q s k' p' q' s' = false ∧ lessE k p q k' p' q' = 8 ∧ lessB k' p' q' s' k p q s = false ∧ lessE k' p' q' k p q = 8 := by
  have n2 : ¬ (k = 2 ∧ k' = 2) := fun e => h ⟨e.1.trans e.2.symm, .inl e.1⟩
  have n3 : ¬ (k = 3 ∧ k' = 3) := fun e => h ⟨e.1.trans e.2.symm, .inr e.1⟩
  have c1 : ¬ ((decide (k = 2) && vld p q) && (decide (k' = 2) && vld p' q')) = true := by
    simp only [Bool.and_eq_true, decide_eq_true_eq]
    exact fun e => n2 ⟨e.1.1, e.2.1⟩
  have c2 : ¬ ((decide (k' = 2) && vld p' q') && (decide (k = 2) && vld p q)) = true := by
    simp only [Bool.and_eq_true, decide_eq_true_eq]
    exact fun e => n2 ⟨e.2.1, e.1.1⟩
  unfold lessB lessE
  rw [if_neg c1, if_neg c1, if_neg c2, if_neg c2, if_neg n3, if_neg n3, if_neg (fun e => n3 ⟨e.2, e.1⟩), if_neg (fun e => n3 ⟨e.2, e.1⟩)]
  exact ⟨rfl, rfl, rfl, rfl⟩
end Go.Proofs.YtmnfebgkpcjjjaaDoor
