/- Mathematics of layer 9: formats and their parts. -/
import Derived.Test.YtbdcmnhfmkefdaaGreatDoorNumQ
import Derived.Test.YtbdcmnhfmkefdaaGreatDoorLexM
import Derived.Lib.IndexLaws
import Derived.Lib.Case
namespace Go.Proofs.YtbdcmnhfmkefdaaGreatDoor.M9
open M1 M2 M3
/-- A part of a format. -/
structure Pc where
  text : List UInt8
  verb : Nat
  minus : Bool
  zero : Bool
  plus : Bool
  width : Nat
  places : Int
deriving DecidableEq
def isFlag (c : UInt8) : Bool := c == 45 || c == 48 || c == 43
def isDig (c : UInt8) : Bool := decide (48 ≤ c.toNat) && decide (c.toNat ≤ 57)
def isVerb (c : UInt8) : Bool := c == 100 || c == 120 || c == 88 || c == 111 || c == 102 || c == 115 || c == 99 || c == 113 || c == 103
/-- The digits of a number, at most k of them. -/
def numN : Nat → Nat → List UInt8 → Nat × List UInt8
  | 0, n, l => (n, l)
  | _ + 1, n, [] => (n, [])
  | k + 1, n, c :: l => if isDig c = true then numN k (n * 10 + (c.toNat - 48)) l else (n, c :: l)
def numF (l : List UInt8) : Nat × List UInt8 := numN 2 0 l
def textPc (l : List UInt8) : Pc := ⟨l, 0, false, false, false, 0, 0⟩
/-- The verb at the end of a directive. -/
def vbF (mi ze pl : Bool) (w : Nat) (places : Int) : List UInt8 → Option (Pc × List UInt8)
  | [] => none
  | c :: r => if isVerb c = true then some (⟨[], c.toNat, mi, ze, pl, w, places⟩, r) else none
def ptF (mi ze pl : Bool) (w : Nat) (l : List UInt8) : Option (Pc × List UInt8) :=
  if l.head? = some 46 then
    if (numF (l.drop 1)).2.length = (l.drop 1).length ∨ 12 < (numF (l.drop 1)).1 then none else vbF mi ze pl w (numF (l.drop 1)).1 (numF (l.drop 1)).2
  else vbF mi ze pl w (-1) l
/-- The directive behind a percent sign. -/
def dirF (l : List UInt8) : Option (Pc × List UInt8) :=
  ptF ((l.takeWhile isFlag).contains 45) ((l.takeWhile isFlag).contains 48) ((l.takeWhile isFlag).contains 43) (numF (l.dropWhile isFlag)).1 (numF (l.dropWhile isFlag)).2
def withText (acc : List UInt8) (q : List Pc) : List Pc := if acc = [] then q else textPc acc :: q
def pcs : Nat → List UInt8 → List UInt8 → Option (List Pc)
  | 0, _, acc => some (withText acc [])
  | _ + 1, [], acc => some (withText acc [])
  | n + 1, c :: r, acc =>
    if c ≠ 37 then pcs n r (acc ++ [c])
    else if r.head? = some 37 then pcs n (r.drop 1) (acc ++ [37])
    else match dirF r with
      | none => none
      | some (p, t) => (pcs n t []).map fun q => withText acc (p :: q)
/-- The parts of a format, behind a text that is not complete. -/
def pieces (l acc : List UInt8) : Option (List Pc) := pcs l.length l acc
theorem numN_len : ∀ (k n : Nat) (l : List UInt8), (numN k n l).2.length ≤ l.length
  | 0, _, l => by simp [numN]
  | _ + 1, _, [] => by simp [numN]
  | k + 1, n, c :: l => by
    rw [numN]
    split
    · have := numN_len k (n * 10 + (c.toNat - 48)) l
      simp only [List.length_cons]; omega
    · simp
theorem vbF_len {mi ze pl : Bool} {w : Nat} {pc : Int} {l : List UInt8} {p : Pc} {t : List UInt8} (h : vbF mi ze pl w pc l = some (p, t)) : t.length < l.length := by
  cases l with
  | nil => cases h
  | cons c r =>
    rw [vbF] at h
    split at h
    · injection h with h; injection h with _ h2; subst h2; simp
    · cases h
theorem ptF_len {mi ze pl : Bool} {w : Nat} {l : List UInt8} {p : Pc} {t : List UInt8} (h : ptF mi ze pl w l = some (p, t)) : t.length < l.length := by
  unfold ptF at h
  split at h
  · split at h
    · cases h
    · have h1 := vbF_len h
      have h2 := numN_len 2 0 (l.drop 1)
      unfold numF at h1
      rw [List.length_drop] at h2
      omega
  · exact vbF_len h
theorem dirF_len {l : List UInt8} {p : Pc} {t : List UInt8} (h : dirF l = some (p, t)) : t.length < l.length := by
  have h1 := ptF_len h
  have h2 := numN_len 2 0 (l.dropWhile isFlag)
  unfold numF at h1
  have h3 : (l.dropWhile isFlag).length ≤ l.length := (List.dropWhile_sublist _).length_le
  omega
theorem pcs_fuel : ∀ (n m : Nat) (l acc : List UInt8), l.length ≤ n → l.length ≤ m → pcs n l acc = pcs m l acc
  | 0, 0, l, acc, _, _ => rfl
  | 0, m + 1, l, acc, h, _ => by
    have : l = [] := List.length_eq_zero_iff.1 (by omega)
    subst this; rfl
  | n + 1, 0, l, acc, _, h => by
    have : l = [] := List.length_eq_zero_iff.1 (by omega)
    subst this; rfl
  | n + 1, m + 1, [], acc, _, _ => rfl
  | n + 1, m + 1, c :: r, acc, h1, h2 => by
    simp only [List.length_cons] at h1 h2
    rw [pcs, pcs]
    split
    · exact pcs_fuel n m r _ (by omega) (by omega)
    · split
      · exact pcs_fuel n m _ _ (by rw [List.length_drop]; omega) (by rw [List.length_drop]; omega)
      · cases hd : dirF r with
        | none => rfl
        | some x =>
          obtain ⟨p, t⟩ := x
          have := dirF_len hd
          simp only []
          rw [pcs_fuel n m t [] (by omega) (by omega)]
theorem pieces_nil (acc : List UInt8) : pieces [] acc = some (withText acc []) := rfl
theorem pieces_plain {c : UInt8} (h : c ≠ 37) (r acc : List UInt8) : pieces (c :: r) acc = pieces r (acc ++ [c]) := by
  unfold pieces
  rw [List.length_cons, pcs, if_pos h]
theorem pieces_pct (r acc : List UInt8) : pieces (37 :: 37 :: r) acc = pieces r (acc ++ [37]) := by
  unfold pieces
  rw [List.length_cons, pcs, if_neg (by simp), if_pos (by rfl)]
  exact pcs_fuel _ _ _ _ (by simp) (by simp)
theorem pieces_bad {r : List UInt8} (h : r.head? ≠ some 37) (hd : dirF r = none) (acc : List UInt8) : pieces (37 :: r) acc = none := by
  unfold pieces
  rw [List.length_cons, pcs, if_neg (by simp), if_neg h, hd]
theorem pieces_dir {r : List UInt8} (h : r.head? ≠ some 37) {p : Pc} {t : List UInt8} (hd : dirF r = some (p, t)) (acc : List UInt8) : pieces (37 :: r) acc = (pieces t []).map fun q => withText acc (p :: q) := by
  have := dirF_len hd
  unfold pieces
  rw [List.length_cons, pcs, if_neg (by simp), if_neg h, hd]
  simp only []
  rw [pcs_fuel r.length t.length t [] (by omega) (by omega)]
theorem pieces_texts : ∀ (a b acc : List UInt8), (∀ c ∈ a, c ≠ 37) → pieces (a ++ b) acc = pieces b (acc ++ a)
  | [], b, acc, _ => by simp
  | c :: a, b, acc, h => by
    rw [List.cons_append, pieces_plain (h c (by simp)), pieces_texts a b _ (fun d hd => h d (by simp [hd]))]; simp
theorem pieces_all (a acc : List UInt8) (h : ∀ c ∈ a, c ≠ 37) : pieces a acc = some (withText (acc ++ a) []) := by
  have := pieces_texts a [] acc h
  rw [List.append_nil] at this
  rw [this, pieces_nil]
/-- An argument. -/
structure Vl where
  kind : Int
  p : Int
  q : Int
  str : List UInt8
  ref : Int
deriving DecidableEq
def missF (n : Nat) (width : Int) : Nat := (min (max 0 width) 99 - (n : Int)).toNat
def padF (s : List UInt8) (width : Int) (minus : Bool) : List UInt8 := if minus = true then s ++ List.replicate (missF s.length width) 32 else List.replicate (missF s.length width) 32 ++ s
/-- The number of an argument: 0 in its error if it has one. -/
def numOf (a : Vl) : R3 :=
  if a.kind = 2 then (if vld a.p a.q = true then ⟨a.p, a.q, 0⟩ else ⟨a.p, a.q, 4⟩)
  else if a.kind = 3 then parseR a.str
  else ⟨0, 0, 4⟩
def upc (c : UInt8) : UInt8 := Lib.upperB c
def firstF (s : List UInt8) (places : Int) : List UInt8 := if places ≠ -1 ∧ places < s.length then s.take places.toNat else s
def begF (places : Int) (a : Vl) : Option (List UInt8) :=
  if a.kind = 2 ∧ vld a.p a.q = true then some (firstF (textR a.p a.q) places)
  else if a.kind = 3 then some (firstF a.str places) else none
/-- What a verb for integers makes of a number. -/
def intF (verb : Nat) (p q : Int) : Option (List UInt8) :=
  if q ≠ 1 then none
  else if verb = 99 then (if p < 0 ∨ 255 < p then none else some [UInt8.ofNat p.toNat])
  else if verb = 100 then some (baseL p 10)
  else if p < 0 then none
  else if verb = 120 then some (baseL p 16)
  else if verb = 88 then some ((baseL p 16).map upc)
  else if verb = 111 then some (baseL p 8)
  else none
/-- What a verb makes of an argument. -/
def bareF (verb : Nat) (places : Int) (a : Vl) : Option (List UInt8) :=
  if verb = 115 then begF places a
  else if verb = 113 then (if a.kind = 3 then some (qt a.str) else none)
  else if (numOf a).E ≠ 0 then none
  else if verb = 103 then some (textR (numOf a).P (numOf a).Q)
  else if verb = 102 then some (fixL (numOf a).P (numOf a).Q.toNat (if places = -1 then 6 else places.toNat))
  else intF verb (numOf a).P (numOf a).Q
def signedV (verb : Nat) : Bool := verb == 100 || verb == 102 || verb == 103
def zerosV (verb : Nat) : Bool := verb == 100 || verb == 120 || verb == 88 || verb == 111 || verb == 102
/-- The sign and what is behind it. -/
def signF (p : Pc) (s : List UInt8) : List UInt8 × List UInt8 :=
  if signedV p.verb = true then (if s.head? = some 45 then ([45], s.drop 1) else if p.plus = true then ([43], s) else ([], s)) else ([], s)
def fillF (p : Pc) (sg s : List UInt8) : List UInt8 :=
  if zerosV p.verb = true ∧ p.zero = true ∧ p.minus = false then List.replicate (missF (sg.length + s.length) p.width) 48 ++ s else s
def writtenF (p : Pc) (a : Vl) : Option (List UInt8) :=
  (bareF p.verb p.places a).map fun s => padF ((signF p s).1 ++ fillF p (signF p s).1 (signF p s).2) p.width p.minus
/-- The end of Format: the error with the number of the argument, or the text. -/
def fmtF : List Pc → List Vl → Nat → List UInt8 → Except (Nat × Int) (List UInt8)
  | [], _, _, acc => if 4096 < acc.length then .error (0, 14) else .ok acc
  | p :: ps, vs, used, acc =>
    if p.verb = 0 then fmtF ps vs used (acc ++ p.text)
    else match vs[used]? with
      | none => .error (used + 1, 18)
      | some a => match writtenF p a with
        | none => .error (used + 1, 8)
        | some t => fmtF ps vs (used + 1) (acc ++ t)
def formatF (f : List UInt8) (vs : List Vl) : Except (Nat × Int) (List UInt8) := match pieces f [] with
  | none => .error (0, 4)
  | some ps => fmtF ps vs 0 []
theorem isd_ascii {c : UInt8} (h : isd 16 c = true) : c.toNat < 128 := by
  rw [isd_yes] at h
  unfold dgB dg at h
  have := c.toNat_lt
  split at h
  · omega
  · split at h
    · omega
    · split at h
      · omega
      · omega
theorem base_ascii {n : Int} (h : 0 ≤ n) (h2 : n ≤ 9223372036854775807) : ∀ (j : Nat) (c : UInt8), (baseL n 16)[j]? = some c → c.toNat < 128 := by
  intro j c hc
  unfold baseL at hc
  rw [if_neg (by omega)] at hc
  exact isd_ascii (bd_alld (b := 16) n.natAbs (by decide) (by decide) (by omega) c (List.mem_of_getElem? hc))
theorem base_len (n : Int) (b : Nat) (hb : 2 ≤ b) (h1 : -9223372036854775808 ≤ n) (h2 : n ≤ 9223372036854775807) : (baseL n b).length ≤ 65 := by
  have := (bd_len (u := n.natAbs) hb (by omega)).2
  unfold baseL
  split
  · simp; omega
  · omega
/-- What Pieces promises of its parts. -/
def okPc (p : Pc) : Prop := (p.verb = 0 ∧ p.text ≠ [] ∧ p.width = 0 ∧ p.places = 0) ∨ (p.text = [] ∧ (∃ c : UInt8, isVerb c = true ∧ p.verb = c.toNat) ∧ p.width ≤ 99 ∧ -1 ≤ p.places ∧ p.places ≤ 12)
theorem isDig_iff (c : UInt8) : isDig c = true ↔ 48 ≤ c.toNat ∧ c.toNat ≤ 57 := by unfold isDig; simp
theorem numN_val : ∀ (k n : Nat) (l : List UInt8), (numN k n l).1 < (n + 1) * 10 ^ k
  | 0, n, l => by simp [numN]
  | k + 1, n, [] => by
    have : 0 < 10 ^ (k + 1) := Nat.pow_pos (by omega)
    show n < (n + 1) * 10 ^ (k + 1)
    exact Nat.lt_of_lt_of_le (Nat.lt_succ_self n) (Nat.le_mul_of_pos_right _ this)
  | k + 1, n, c :: l => by
    rw [numN]
    split
    · rename_i h
      have := (isDig_iff c).1 h
      have h2 := numN_val k (n * 10 + (c.toNat - 48)) l
      refine Nat.lt_of_lt_of_le h2 ?_
      rw [Nat.pow_succ, Nat.mul_comm (10 ^ k) 10, ← Nat.mul_assoc]
      exact Nat.mul_le_mul_right _ (by omega)
    · have : 0 < 10 ^ (k + 1) := Nat.pow_pos (by omega)
      exact Nat.lt_of_lt_of_le (Nat.lt_succ_self n) (Nat.le_mul_of_pos_right _ this)
theorem numF_val (l : List UInt8) : (numF l).1 ≤ 99 := by have := numN_val 2 0 l; unfold numF; omega
theorem vbF_ok {mi ze pl : Bool} {w : Nat} {pc : Int} {l : List UInt8} {p : Pc} {t : List UInt8} (h : vbF mi ze pl w pc l = some (p, t)) (hw : w ≤ 99) (h1 : -1 ≤ pc) (h2 : pc ≤ 12) : okPc p ∧ p.verb ≠ 0 := by
  cases l with
  | nil => cases h
  | cons c r =>
    rw [vbF] at h
    split at h
    · rename_i hv
      injection h with h; injection h with h3 _; subst h3
      refine ⟨.inr ⟨rfl, ⟨c, hv, rfl⟩, hw, h1, h2⟩, fun e => ?_⟩
      have : c = 0 := UInt8.toNat_inj.1 e
      subst this; revert hv; decide
    · cases h
theorem ptF_ok {mi ze pl : Bool} {w : Nat} {l : List UInt8} {p : Pc} {t : List UInt8} (h : ptF mi ze pl w l = some (p, t)) (hw : w ≤ 99) : okPc p ∧ p.verb ≠ 0 := by
  unfold ptF at h
  split at h
  · split at h
    · cases h
    · rename_i h3; exact vbF_ok h hw (by omega) (by omega)
  · exact vbF_ok h hw (by omega) (by omega)
theorem dirF_ok {l : List UInt8} {p : Pc} {t : List UInt8} (h : dirF l = some (p, t)) : okPc p ∧ p.verb ≠ 0 := ptF_ok h (numF_val _)
theorem withText_ok {acc : List UInt8} {q : List Pc} (h : ∀ p ∈ q, okPc p) : ∀ p ∈ withText acc q, okPc p := by
  unfold withText
  split
  · exact h
  · rename_i hne
    intro p hp
    rcases List.mem_cons.1 hp with rfl | hp
    · exact .inl ⟨rfl, hne, rfl, rfl⟩
    · exact h p hp
theorem pcs_ok : ∀ (n : Nat) (l acc : List UInt8) (q : List Pc), pcs n l acc = some q → ∀ p ∈ q, okPc p
  | 0, l, acc, q, h => by injection h with h; subst h; exact withText_ok (by simp)
  | n + 1, [], acc, q, h => by injection h with h; subst h; exact withText_ok (by simp)
  | n + 1, c :: r, acc, q, h => by
    rw [pcs] at h
    split at h
    · exact pcs_ok n _ _ _ h
    · split at h
      · exact pcs_ok n _ _ _ h
      · cases hd : dirF r with
        | none => rw [hd] at h; cases h
        | some x =>
          obtain ⟨p, t⟩ := x
          rw [hd] at h
          simp only [] at h
          cases hq : pcs n t [] with
          | none => rw [hq] at h; cases h
          | some q' =>
            rw [hq] at h
            injection h with h
            subst h
            refine withText_ok fun x hx => ?_
            rcases List.mem_cons.1 hx with rfl | hx
            · exact (dirF_ok hd).1
            · exact pcs_ok n _ _ _ hq x hx
theorem pieces_ok {l acc : List UInt8} {q : List Pc} (h : pieces l acc = some q) : ∀ p ∈ q, okPc p := pcs_ok _ _ _ _ h
end Go.Proofs.YtbdcmnhfmkefdaaGreatDoor.M9
