/- Plain mathematics of the texts of numbers, second part: reading. -/
import Derived.Test.YtibggoikjlnnkaaDoorNumM
import Derived.Lib.SlTrimSet
import Derived.Lib.IndexMore
namespace Go.Proofs.YtibggoikjlnnkaaDoor.M2
open M1

def blanks : List UInt8 := [32, 9, 10, 13]
def trm (l : List UInt8) : List UInt8 := Lib.trimS l blanks
def blk (c : UInt8) : Bool := blanks.contains c
theorem blk_iff (c : UInt8) : blk c = true ↔ c = 32 ∨ c = 9 ∨ c = 10 ∨ c = 13 := by
  unfold blk blanks; simp
/-- What the loops from both ends leave. -/
theorem trm_of (l : List UInt8) (a b : Nat) (hab : a ≤ b) (hb : b ≤ l.length) (h1 : ∀ (j : Nat) c, j < a → l[j]? = some c → blk c = true) (h2 : a < b → ∀ c, l[a]? = some c → blk c = false)
    (h3 : ∀ (j : Nat) c, b ≤ j → l[j]? = some c → blk c = true) (h4 : a < b → ∀ c, l[b - 1]? = some c → blk c = false) : trm l = (l.drop a).take (b - a) := by
  unfold trm Lib.trimS
  by_cases h : a < b
  · rw [Lib.trimRightS_take l blanks b hb h3 (fun c _ => h4 h c)]
    rw [Lib.trimLeftS_drop (l.take b) blanks a (by simp; omega) ?_ ?_]
    · rw [List.drop_take]
    · intro j c hj hc
      rw [List.getElem?_take_of_lt (by omega)] at hc
      exact h1 j c hj hc
    · intro c hc
      rw [List.getElem?_take_of_lt h] at hc
      exact h2 h c hc
  · have e : a = b := by omega
    subst e
    have hall : ∀ (j : Nat) c, l[j]? = some c → blk c = true := fun j c hc => by
      by_cases hj : j < a
      · exact h1 j c hj hc
      · exact h3 j c (by omega) hc
    rw [Lib.trimRightS_take l blanks 0 (Nat.zero_le _) (fun j c _ hc => hall j c hc) (fun c hc => by omega)]
    simp [Lib.trimLeftS]
theorem trm_none {l : List UInt8} (h1 : ∀ c, l.head? = some c → blk c = false) (h2 : ∀ c, l.getLast? = some c → blk c = false) : trm l = l := by
  have h := trm_of l 0 l.length (Nat.zero_le _) (Nat.le_refl _) (fun j c hj => by omega) ?_ ?_ ?_
  · rw [h]; simp
  · intro _ c hc; rw [List.head?_eq_getElem?] at h1; exact h1 c hc
  · intro j c hj hc; rw [List.getElem?_eq_none hj] at hc; cases hc
  · intro _ c hc; rw [List.getLast?_eq_getElem?] at h2; exact h2 c hc

/-- The number of a fraction. -/
def okd (l : List UInt8) : Bool := decide (0 < cnt 10 l ∧ cnt 10 l = l.length)
theorem okd_iff {l : List UInt8} : okd l = true ↔ 0 < l.length ∧ alld 10 l := by
  unfold okd; rw [decide_eq_true_iff, cnt_all]
  constructor
  · rintro ⟨h1, h2⟩; rw [cnt_all.2 h2] at h1; exact ⟨h1, h2⟩
  · rintro ⟨h1, h2⟩; rw [cnt_all.2 h2]; exact ⟨h1, h2⟩
def fracV (m n : Option Int) : R3 :=
  match m, n with
  | some m, some n => if n = 0 then err 6 else makeR m n
  | _, _ => err 6
def fracR (p q : List UInt8) : R3 := if okd p = true ∧ okd q = true then fracV (jn 10 0 p) (jn 10 0 q) else err 4
def soleR (l : List UInt8) : R3 := if (meas l).fin = 0 ∨ (meas l).fin ≠ l.length then err 4 else numR (meas l)
def unsR (l : List UInt8) : R3 := if (Lib.cut l [47]).2.2 = true then fracR (Lib.cut l [47]).1 (Lib.cut l [47]).2.1 else soleR l
def negM (r : R3) : R3 := if r.E = 0 then ⟨-r.P, r.Q, 0⟩ else r
def parseR (l : List UInt8) : R3 := if Lib.hasPrefix (trm l) [45] = true then negM (unsR ((trm l).drop 1)) else unsR (trm l)

/-- A result is a number, or an error alone. -/
def good (r : R3) : Prop := (r.E = 0 ∧ vld r.P r.Q = true) ∨ (r.E ≠ 0 ∧ r.P = 0 ∧ r.Q = 0)
theorem good_err {e : Int} (h : e ≠ 0) : good (err e) := .inr ⟨h, rfl, rfl⟩
theorem good_out (r : Rat) : good (out r) := by
  cases h : fit r with
  | true => exact .inl ⟨oE_fit h, vld_o h⟩
  | false => exact .inr ⟨by show oE r ≠ 0; rw [oE_not h]; decide, oP_not h, oQ_not h⟩
theorem good_make (p q : Int) : good (makeR p q) := by
  unfold makeR; repeat' split
  · exact good_err (by decide)
  · exact good_out _
  · exact good_err (by decide)
theorem good_num (m : Ms) : good (numR m) := by
  unfold numR; split
  · exact good_err (by decide)
  · split
    · exact good_err (by decide)
    · exact good_make _ _
theorem good_uns (l : List UInt8) : good (unsR l) := by
  unfold unsR fracR soleR fracV
  repeat' split
  all_goals first | exact good_err (by decide) | exact good_make _ _ | exact good_num _
theorem vld_neg2 {p q : Int} (h : vld p q = true) : vld (-p) q = true := by
  obtain ⟨h1, h2, h3, h4, hg⟩ := vld_iff.1 h
  exact vld_iff.2 ⟨h1, h2, by omega, by omega, by rw [Int.neg_gcd]; exact hg⟩
theorem good_neg {r : R3} (h : good r) : good (negM r) := by
  unfold negM; split
  · rename_i he
    rcases h with ⟨_, hv⟩ | ⟨hn, _⟩
    · exact .inl ⟨rfl, vld_neg2 hv⟩
    · exact absurd he hn
  · exact h
theorem good_parse (l : List UInt8) : good (parseR l) := by
  unfold parseR; split
  · exact good_neg (good_uns _)
  · exact good_uns _
theorem good_P {r : R3} (h : good r) (he : r.E ≠ 0) : r.P = 0 ∧ r.Q = 0 := by
  rcases h with ⟨h, _⟩ | ⟨_, h⟩
  · exact absurd h he
  · exact h
theorem good_vld {r : R3} (h : good r) (he : r.E = 0) : vld r.P r.Q = true := by
  rcases h with ⟨_, h⟩ | ⟨h, _⟩
  · exact h
  · exact absurd he h

/-- Scan. -/
structure R4 where
  P : Int
  Q : Int
  N : Int
  E : Int
def scanR (l : List UInt8) (at' : Int) : R4 :=
  if at' < 0 ∨ (l.length : Int) < at' then ⟨0, 0, 0, 6⟩ else
  if (meas (l.drop at'.toNat)).fin = 0 then ⟨0, 0, 0, 4⟩ else
  if (numR (meas (l.drop at'.toNat))).E = 0 then ⟨(numR (meas (l.drop at'.toNat))).P, (numR (meas (l.drop at'.toNat))).Q, at' + (meas (l.drop at'.toNat)).fin, 0⟩
  else ⟨0, 0, 0, (numR (meas (l.drop at'.toNat))).E⟩

/-- the slash -/
theorem occ1 {l : List UInt8} {j : Nat} (hl : j < l.length) : Lib.occAt l [47] j = (47 == l[j]) := by
  unfold Lib.occAt
  rw [List.drop_eq_getElem_cons hl]
  simp [List.isPrefixOf]
theorem ne1 {l : List UInt8} {j : Nat} (hl : j < l.length) (h : l[j]? ≠ some 47) : Lib.occAt l [47] j = false := by
  rw [occ1 hl, beq_eq_false_iff_ne]
  intro hh
  apply h
  rw [List.getElem?_eq_getElem hl, ← hh]
theorem cut_yes {l : List UInt8} {k : Nat} (hk : k < l.length) (h : l[k]? = some 47) (hn : ∀ (j : Nat), j < k → l[j]? ≠ some 47) : Lib.cut l [47] = (l.take k, l.drop (k + 1), true) := by
  have e : Lib.index l [47] = k := by
    refine Lib.index_first (by omega) ?_ fun j hj => ne1 (by omega) (hn j hj)
    rw [occ1 hk, beq_iff_eq]
    rw [List.getElem?_eq_getElem hk] at h
    exact (Option.some.inj h).symm
  unfold Lib.cut; rw [if_pos (by omega), e]; simp
theorem cut_no {l : List UInt8} (hn : ∀ (j : Nat), l[j]? ≠ some 47) : Lib.cut l [47] = (l, [], false) := by
  have e : Lib.index l [47] = -1 := by
    refine Lib.index_none fun j hj => ?_
    by_cases hl : j < l.length
    · exact ne1 hl (hn j)
    · unfold Lib.occAt; rw [List.drop_eq_nil_of_le (by omega)]; rfl
  unfold Lib.cut; rw [if_neg (by omega)]
end Go.Proofs.YtibggoikjlnnkaaDoor.M2
