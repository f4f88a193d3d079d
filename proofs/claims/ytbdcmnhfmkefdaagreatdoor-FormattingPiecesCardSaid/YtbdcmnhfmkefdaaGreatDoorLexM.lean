/- Mathematics of layer 3: bytes, runs of bytes, literals. -/
import Derived.KernelRfl
import Derived.Shelf.Strings.Prefix
import Derived.Shelf.Strings.Count
namespace Go.Proofs.YtbdcmnhfmkefdaaGreatDoor.M3
def dgt (c : UInt8) : Bool := decide (48 ≤ c.toNat ∧ c.toNat ≤ 57)
def ltr (c : UInt8) : Bool := decide ((97 ≤ c.toNat ∧ c.toNat ≤ 122) ∨ (65 ≤ c.toNat ∧ c.toNat ≤ 90) ∨ c.toNat = 95)
def wrd (c : UInt8) : Bool := decide ((97 ≤ c.toNat ∧ c.toNat ≤ 122) ∨ (65 ≤ c.toNat ∧ c.toNat ≤ 90) ∨ (48 ≤ c.toNat ∧ c.toNat ≤ 57) ∨ c.toNat = 95)
theorem wrd_eq (c : UInt8) : wrd c = (ltr c || dgt c) := by
  unfold wrd ltr dgt
  rw [← Bool.decide_or]
  congr 1
  apply propext
  constructor <;> intro h <;> omega
/-- How many bytes at the beginning pass a test. -/
def cntP (P : UInt8 → Bool) : List UInt8 → Nat
  | [] => 0
  | c :: cs => if P c = true then cntP P cs + 1 else 0
theorem cntP_le (P : UInt8 → Bool) (l : List UInt8) : cntP P l ≤ l.length := by
  induction l with
  | nil => exact Nat.le_refl _
  | cons c cs ih => unfold cntP; split <;> simp <;> omega
theorem cntP_yes {P : UInt8 → Bool} {c : UInt8} {cs : List UInt8} (h : P c = true) : cntP P (c :: cs) = cntP P cs + 1 := if_pos h
theorem cntP_no {P : UInt8 → Bool} {c : UInt8} {cs : List UInt8} (h : P c = false) : cntP P (c :: cs) = 0 := if_neg (by simp [h])
theorem cntP_nil (P : UInt8 → Bool) : cntP P [] = 0 := rfl
theorem cntP_take (P : UInt8 → Bool) (l : List UInt8) : ∀ c ∈ l.take (cntP P l), P c = true := by
  induction l with
  | nil => simp
  | cons c cs ih =>
    cases h : P c with
    | true => rw [cntP_yes h, List.take_succ_cons]; intro d hd; rcases List.mem_cons.1 hd with rfl | hd
              · exact h
              · exact ih d hd
    | false => rw [cntP_no h]; simp
theorem cntP_all {P : UInt8 → Bool} {l : List UInt8} : cntP P l = l.length ↔ ∀ c ∈ l, P c = true := by
  constructor
  · intro h c hc
    have := cntP_take P l c
    rw [h, List.take_length] at this
    exact this hc
  · intro h
    induction l with
    | nil => rfl
    | cons c cs ih => rw [cntP_yes (h c (List.mem_cons_self ..)), ih fun d hd => h d (List.mem_cons_of_mem _ hd)]; rfl
/-- A step of a loop that counts. -/
theorem cntP_drop {P : UInt8 → Bool} {l : List UInt8} {k : Nat} (hk : k < l.length) : cntP P (l.drop k) = if P l[k] = true then cntP P (l.drop (k + 1)) + 1 else 0 := by
  rw [List.drop_eq_getElem_cons hk]; rfl
/-- What a byte is in a literal. -/
def qb (c : UInt8) : List UInt8 :=
  if c = 10 then [92, 110] else if c = 9 then [92, 116] else if c = 92 ∨ c = 34 then [92, c]
  else if c.toNat < 32 ∨ 126 < c.toNat then [92, 48 + c / 100, 48 + c / 10 % 10, 48 + c % 10] else [c]
def qt (l : List UInt8) : List UInt8 := 34 :: (l.flatMap qb ++ [34])
theorem qb_len (c : UInt8) : (qb c).length ≤ 4 := by unfold qb; repeat' split
                                                     all_goals simp
theorem qt_len (l : List UInt8) : (l.flatMap qb).length ≤ 4 * l.length := by
  induction l with
  | nil => simp
  | cons c cs ih => rw [List.flatMap_cons, List.length_append, List.length_cons]; have := qb_len c; omega
def keysL : List (List UInt8) := [[97, 110, 100], [98, 114, 101, 97, 107], [100, 111], [101, 108, 115, 101], [101, 108, 115, 101, 105, 102], [101, 110, 100], [102, 97, 108, 115, 101], [102, 111, 114], [102, 117, 110, 99, 116, 105, 111, 110], [103, 111, 116, 111], [105, 102], [105, 110], [108, 111, 99, 97, 108], [110, 105, 108], [110, 111, 116], [111, 114], [114, 101, 112, 101, 97, 116], [114, 101, 116, 117, 114, 110], [116, 104, 101, 110], [116, 114, 117, 101], [117, 110, 116, 105, 108], [119, 104, 105, 108, 101]]
def symsL : List (List UInt8) := [[43], [45], [42], [47], [47, 47], [37], [94], [35], [38], [126], [124], [60, 60], [62, 62], [61, 61], [126, 61], [60, 61], [62, 61], [60], [62], [61], [40], [41], [123], [125], [91], [93], [58, 58], [59], [58], [44], [46], [46, 46], [46, 46, 46]]
def key (l : List UInt8) : Bool := keysL.any fun k => l == k
def sym (l : List UInt8) : Bool := symsL.any fun k => l == k
theorem any_yes {ks : List (List UInt8)} {l k : List UInt8} (hk : k ∈ ks) (h : (l == k) = true) : (ks.any fun k => l == k) = true := List.any_eq_true.2 ⟨k, hk, h⟩
theorem cntP_len {P : UInt8 → Bool} {l : List UInt8} {k : Nat} (h : l.length ≤ k) : cntP P (l.drop k) = 0 := by rw [List.drop_eq_nil_of_le h]; rfl
def has (l : List UInt8) (c : UInt8) : Bool := l.contains c
def nah (l : List UInt8) (c : UInt8) : Bool := !has l c
def bs (l : List UInt8) : ByteArray := ⟨l.toArray⟩
theorem bs_list (l : List UInt8) : (bs l).data.toList = l := by simp [bs]
theorem bs_size (l : List UInt8) : (bs l).size = l.length := by simp [bs, ByteArray.size]
theorem bs_app (a b : List UInt8) : bs a ++ bs b = bs (a ++ b) := by
  apply ByteArray.ext
  rw [← Array.toList_inj, ByteArray.data_append, Array.toList_append, bs_list, bs_list, bs_list]
theorem bs_of (s : ByteArray) : bs s.data.toList = s := by
  apply ByteArray.ext; rw [← Array.toList_inj, bs_list]
theorem ext_bs (s : ByteArray) (a b : Nat) : s.extract a b = bs ((s.data.toList.drop a).take (b - a)) := by
  apply ByteArray.ext
  rw [← Array.toList_inj, bs_list, ByteArray.data_extract, Array.toList_extract, List.extract_eq_take_drop]
def blL : List UInt8 := [32, 9, 10, 13]
/-- How many bytes are blanks and remarks, and how many line feeds are among them. -/
def skF : Nat → List UInt8 → Nat × Nat
  | 0, _ => (0, 0)
  | f + 1, l =>
    if Lib.hasPrefix (l.drop (cntP (has blL) l)) [45, 45] = true then
      (cntP (has blL) l + cntP (nah [10]) (l.drop (cntP (has blL) l)) + (skF f (l.drop (cntP (has blL) l + cntP (nah [10]) (l.drop (cntP (has blL) l))))).1,
        Lib.countByte (l.take (cntP (has blL) l)) 10 + (skF f (l.drop (cntP (has blL) l + cntP (nah [10]) (l.drop (cntP (has blL) l))))).2)
    else (cntP (has blL) l, Lib.countByte (l.take (cntP (has blL) l)) 10)
theorem pre2 {l : List UInt8} (h : Lib.hasPrefix l [45, 45] = true) : ∃ t, l = 45 :: 45 :: t := by
  unfold Lib.hasPrefix at h
  match l, h with
  | a :: b :: t, h => simp [List.isPrefixOf] at h; exact ⟨t, by rw [← h.1, ← h.2]⟩
  | [a], h => simp [List.isPrefixOf] at h
  | [], h => simp [List.isPrefixOf] at h
theorem pre_cnt {l : List UInt8} (h : Lib.hasPrefix l [45, 45] = true) : 2 ≤ cntP (nah [10]) l := by
  obtain ⟨t, rfl⟩ := pre2 h
  rw [cntP_yes (by decide), cntP_yes (by decide)]; omega
theorem skF_fuel (f : Nat) : ∀ l : List UInt8, l.length < f → skF f l = skF (l.length + 1) l := by
  induction f using Nat.strongRecOn with
  | ind f ih =>
    intro l hl
    match f, hl with
    | f + 1, hl =>
      unfold skF
      by_cases h : Lib.hasPrefix (l.drop (cntP (has blL) l)) [45, 45] = true
      · rw [if_pos h, if_pos h]
        have hc := pre_cnt h
        have hle := cntP_le (nah [10]) (l.drop (cntP (has blL) l))
        rw [List.length_drop] at hle
        have e1 := ih f (by omega) (l.drop (cntP (has blL) l + cntP (nah [10]) (l.drop (cntP (has blL) l)))) (by rw [List.length_drop]; omega)
        have e2 : skF l.length (l.drop (cntP (has blL) l + cntP (nah [10]) (l.drop (cntP (has blL) l)))) = skF ((l.drop (cntP (has blL) l + cntP (nah [10]) (l.drop (cntP (has blL) l)))).length + 1) (l.drop (cntP (has blL) l + cntP (nah [10]) (l.drop (cntP (has blL) l)))) := by
          by_cases hq : l.length < f + 1
          · exact ih l.length (by omega) _ (by rw [List.length_drop]; omega)
          · omega
        rw [e1, e2]
      · rw [if_neg h, if_neg h]
def sk (l : List UInt8) : Nat × Nat := skF (l.length + 1) l
theorem sk_no {l : List UInt8} (h : Lib.hasPrefix (l.drop (cntP (has blL) l)) [45, 45] = false) : sk l = (cntP (has blL) l, Lib.countByte (l.take (cntP (has blL) l)) 10) := by
  unfold sk skF; rw [if_neg (by simp [h])]
theorem sk_yes {l : List UInt8} (h : Lib.hasPrefix (l.drop (cntP (has blL) l)) [45, 45] = true) :
    sk l = (cntP (has blL) l + cntP (nah [10]) (l.drop (cntP (has blL) l)) + (sk (l.drop (cntP (has blL) l + cntP (nah [10]) (l.drop (cntP (has blL) l))))).1,
      Lib.countByte (l.take (cntP (has blL) l)) 10 + (sk (l.drop (cntP (has blL) l + cntP (nah [10]) (l.drop (cntP (has blL) l))))).2) := by
  have hc := pre_cnt h
  have hle := cntP_le (nah [10]) (l.drop (cntP (has blL) l))
  rw [List.length_drop] at hle
  unfold sk
  rw [skF, if_pos h, skF_fuel l.length _ (by rw [List.length_drop]; omega)]
/-- The longest symbol at the beginning. -/
def symD (l : List UInt8) : Nat → Nat
  | 0 => 0
  | j + 1 => if sym (l.take (j + 1)) = true then j + 1 else symD l j
def symN (l : List UInt8) : Nat := symD l (min 3 l.length)
theorem symD_yes {l : List UInt8} {j : Nat} (hj : 0 < j) (h : sym (l.take j) = true) : symD l j = j := by
  match j, hj with
  | j + 1, _ => exact if_pos h
theorem symD_no {l : List UInt8} {j : Nat} (h : sym (l.take (j + 1)) = false) : symD l (j + 1) = symD l j := if_neg (by simp [h])
theorem symD_le (l : List UInt8) (j : Nat) : symD l j ≤ j := by
  induction j with
  | zero => exact Nat.le_refl _
  | succ j ih => unfold symD; split <;> omega
end Go.Proofs.YtbdcmnhfmkefdaaGreatDoor.M3
