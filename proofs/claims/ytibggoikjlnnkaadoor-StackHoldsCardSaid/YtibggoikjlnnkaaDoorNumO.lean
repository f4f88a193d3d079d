/- Plain mathematics of the texts of numbers, third part: writing. -/
import Derived.Test.YtibggoikjlnnkaaDoorNumN
import Derived.Lib.ItoaMem
namespace Go.Proofs.YtibggoikjlnnkaaDoor.M2
open M1

/-- The digit of a value below 36. -/
def dc (n : Nat) : UInt8 := if n < 10 then UInt8.ofNat (48 + n) else UInt8.ofNat (87 + n)
theorem dc_nat {n : Nat} (h : n < 36) : (dc n).toNat = if n < 10 then 48 + n else 87 + n := by
  unfold dc; split <;> simp <;> omega
def bdF (b : Nat) : Nat → Nat → List UInt8
  | 0, _ => []
  | f + 1, u => if u < b then [dc u] else bdF b f (u / b) ++ [dc (u % b)]
/-- The digits of u in base b. -/
def bd (b u : Nat) : List UInt8 := bdF b 64 u
theorem bdF_more {b f u : Nat} (hb : 2 ≤ b) (hu : u < 2 ^ f) (hf : 0 < f) : bdF b (f + 1) u = bdF b f u := by
  induction f generalizing u with
  | zero => omega
  | succ f ih =>
    by_cases h : u < b
    · unfold bdF; rw [if_pos h, if_pos h]
    · have h2 : u / b < 2 ^ f := by
        have h3 : u / b ≤ u / 2 := Nat.div_le_div_left hb (by omega)
        rw [Nat.pow_succ] at hu; omega
      have hf2 : 0 < f := by
        rcases Nat.eq_zero_or_pos f with h0 | h0
        · subst h0
          have : u / b = 0 := by simpa using h2
          have := (Nat.div_eq_zero_iff.1 this); omega
        · exact h0
      rw [bdF, if_neg h, ih h2 hf2]
      conv => rhs; rw [bdF, if_neg h]
theorem bd_small {b u : Nat} (h : u < b) : bd b u = [dc u] := by unfold bd; rw [bdF, if_pos h]
theorem bd_big {b u : Nat} (hb : 2 ≤ b) (hu : u < 18446744073709551616) (h : ¬ u < b) : bd b u = bd b (u / b) ++ [dc (u % b)] := by
  unfold bd
  have h3 : u / b ≤ u / 2 := Nat.div_le_div_left hb (by omega)
  have e := bdF_more (f := 63) (u := u / b) hb (by omega) (by omega)
  rw [bdF, if_neg h]
  show bdF b 63 (u / b) ++ _ = bdF b (63 + 1) (u / b) ++ _
  rw [e]
theorem bd_len {b u : Nat} (hb : 2 ≤ b) (hu : u < 18446744073709551616) : 1 ≤ (bd b u).length ∧ (bd b u).length ≤ 64 := by
  have h : ∀ f, ∀ u, u < 2 ^ f → (bdF b f u).length ≤ f := by
    intro f
    induction f with
    | zero => intro u _; simp [bdF]
    | succ f ih =>
      intro u hu
      by_cases h : u < b
      · rw [bdF, if_pos h]; simp
      · have h3 : u / b ≤ u / 2 := Nat.div_le_div_left hb (by omega)
        rw [Nat.pow_succ] at hu
        have := ih (u / b) (by omega)
        rw [bdF, if_neg h]; simp; omega
  refine ⟨?_, h 64 u (by omega)⟩
  by_cases h : u < b
  · rw [bd_small h]; simp
  · rw [bd_big hb hu h]; simp
theorem bd_ten (u : Nat) (hu : u < 18446744073709551616) : bd 10 u = Lib.decDigits u := by
  induction u using Nat.strongRecOn with
  | ind u ih =>
    by_cases h : u < 10
    · rw [bd_small h, Lib.decDigits_one h]; unfold dc; rw [if_pos h]
    · rw [bd_big (by omega) hu h, Lib.decDigits, dif_neg h, ih (u / 10) (by omega) (by omega)]
      unfold dc; rw [if_pos (by omega)]
/-- The text of an integer in a base. -/
def baseL (n : Int) (b : Nat) : List UInt8 := if n < 0 then 45 :: bd b n.natAbs else bd b n.natAbs
theorem base_ten (n : Int) (h : n.natAbs < 18446744073709551616) : baseL n 10 = Lib.itoa n := by
  unfold baseL Lib.itoa
  rw [bd_ten _ h]
  split
  · rfl
  · rw [show n.toNat = n.natAbs by omega]
def baseT (n : Int) (b : Int) : List UInt8 := if 2 ≤ b ∧ b ≤ 36 then baseL n b.toNat else []
def baseE (b : Int) : Int := if 2 ≤ b ∧ b ≤ 36 then 0 else 2

/-- The digits are digits. -/
theorem dgB_dc {n : Nat} (h : n < 16) : dgB (dc n) = n := by
  unfold dgB; rw [show ((dc n).toNat : Int) = ((if n < 10 then 48 + n else 87 + n : Nat) : Int) by rw [dc_nat (by omega)]]
  split
  · rw [dg_a (by omega)]; omega
  · rw [dg_b (by omega)]; omega
theorem isd_dc {b n : Nat} (hb : b ≤ 16) (h : n < b) : isd b (dc n) = true := by
  rw [isd_yes, dgB_dc (by omega)]; omega
theorem bd_alld {b : Nat} (u : Nat) (hb : 2 ≤ b) (hb2 : b ≤ 16) (hu : u < 18446744073709551616) : alld b (bd b u) := by
  induction u using Nat.strongRecOn with
  | ind u ih =>
    by_cases h : u < b
    · rw [bd_small h]
      intro c hc
      rw [List.mem_singleton.1 hc]; exact isd_dc hb2 h
    · rw [bd_big hb hu h]
      have h3 : u / b ≤ u / 2 := Nat.div_le_div_left hb (by omega)
      intro c hc
      rcases List.mem_append.1 hc with hc | hc
      · exact ih (u / b) (by omega) (by omega) c hc
      · rw [List.mem_singleton.1 hc]; exact isd_dc hb2 (Nat.mod_lt _ (by omega))
theorem bd_vl {b : Nat} (u : Nat) (hb : 2 ≤ b) (hb2 : b ≤ 16) (hu : u < 18446744073709551616) : vl b 0 (bd b u) = u := by
  induction u using Nat.strongRecOn with
  | ind u ih =>
    by_cases h : u < b
    · rw [bd_small h]; unfold vl vl; rw [dgB_dc (by omega)]; omega
    · rw [bd_big hb hu h]
      have h3 : u / b ≤ u / 2 := Nat.div_le_div_left hb (by omega)
      rw [vl_app, ih (u / b) (by omega) (by omega)]
      unfold vl vl
      rw [dgB_dc (by have := Nat.mod_lt u (show 0 < b by omega); omega)]
      have := Nat.div_add_mod u b
      rw [← Int.natCast_mul, ← Int.natCast_add, Nat.mul_comm]; omega

/-- n in k places -/
def pad : Nat → Nat → List UInt8
  | 0, _ => []
  | k + 1, n => pad k (n / 10) ++ [dc (n % 10)]
theorem pad_len (k n : Nat) : (pad k n).length = k := by
  induction k generalizing n with
  | zero => rfl
  | succ k ih => unfold pad; simp [ih]
theorem pad_snoc (k n d : Nat) (h : d < 10) : pad (k + 1) (n * 10 + d) = pad k n ++ [dc d] := by
  show pad k ((n * 10 + d) / 10) ++ [dc ((n * 10 + d) % 10)] = _
  rw [show (n * 10 + d) / 10 = n by omega, show (n * 10 + d) % 10 = d by omega]
theorem pad_alld (k n : Nat) : alld 10 (pad k n) := by
  induction k generalizing n with
  | zero => simp [pad, alld]
  | succ k ih =>
    intro c hc
    rcases List.mem_append.1 hc with hc | hc
    · exact ih _ c hc
    · rw [List.mem_singleton.1 hc]; exact isd_dc (b := 10) (by omega) (Nat.mod_lt _ (by omega))
theorem pad_vl (k n : Nat) (m : Int) (h : n < 10 ^ k) : vl 10 m (pad k n) = m * 10 ^ k + n := by
  induction k generalizing n with
  | zero => simp [pad, vl] at h ⊢; omega
  | succ k ih =>
    unfold pad
    rw [vl_app, ih (n / 10) (by rw [Nat.pow_succ] at h; omega)]
    unfold vl vl
    rw [dgB_dc (by omega), Int.pow_succ, ← Int.mul_assoc, Int.add_mul]
    omega
/-- decimal digits plus 1 -/
def incR : List UInt8 → List UInt8 × Bool
  | [] => ([], true)
  | c :: cs => if c.toNat < 57 then (UInt8.ofNat (c.toNat + 1) :: cs, false) else ((48 : UInt8) :: (incR cs).1, (incR cs).2)
def inc (l : List UInt8) : List UInt8 × Bool := ((incR l.reverse).1.reverse, (incR l.reverse).2)
theorem inc_lo {l : List UInt8} {c : UInt8} (h : c.toNat < 57) : inc (l ++ [c]) = (l ++ [UInt8.ofNat (c.toNat + 1)], false) := by
  unfold inc; rw [List.reverse_append]; simp [incR, h]
theorem inc_hi {l : List UInt8} {c : UInt8} (h : ¬ c.toNat < 57) : inc (l ++ [c]) = ((inc l).1 ++ [48], (inc l).2) := by
  unfold inc; rw [List.reverse_append]; simp [incR, h]
theorem inc_nil : inc [] = ([], true) := rfl
theorem inc_len (l : List UInt8) : (inc l).1.length = l.length := by
  have : ∀ l, (incR l).1.length = l.length := by
    intro l
    induction l with
    | nil => rfl
    | cons c cs ih => unfold incR; split <;> simp [ih]
  unfold inc; simp [this]
theorem inc_pad (k n : Nat) (h : n < 10 ^ k) : inc (pad k n) = (pad k ((n + 1) % 10 ^ k), decide (n + 1 = 10 ^ k)) := by
  induction k generalizing n with
  | zero => simp at h; subst h; simp [pad, inc_nil]
  | succ k ih =>
    have hp : 0 < 10 ^ k := Nat.pow_pos (by omega)
    rw [Nat.pow_succ] at h ⊢
    by_cases hc : n % 10 < 9
    · have e1 : (dc (n % 10)).toNat < 57 := by rw [dc_nat (by omega), if_pos (by omega)]; omega
      rw [pad, inc_lo e1]
      have hd : (n + 1) % (10 ^ k * 10) = n + 1 := Nat.mod_eq_of_lt (by omega)
      rw [hd, pad]
      rw [show (n + 1) / 10 = n / 10 by omega, show (n + 1) % 10 = n % 10 + 1 by omega]
      have e2 : UInt8.ofNat ((dc (n % 10)).toNat + 1) = dc (n % 10 + 1) := by
        rw [dc_nat (by omega), if_pos (by omega)]; unfold dc; rw [if_pos (by omega)]; rfl
      rw [e2]
      have : decide (n + 1 = 10 ^ k * 10) = false := by simp; omega
      rw [this]
    · have e1 : ¬ (dc (n % 10)).toNat < 57 := by rw [dc_nat (by omega), if_pos (by omega)]; omega
      rw [pad, inc_hi e1, ih (n / 10) (by omega)]
      have e3 : (n + 1) / 10 = n / 10 + 1 := by omega
      by_cases hf : n / 10 + 1 = 10 ^ k
      · have : n + 1 = 10 ^ k * 10 := by omega
        rw [this, Nat.mod_self, hf, Nat.mod_self]
        simp [pad]; rfl
      · have hl : n / 10 + 1 < 10 ^ k := by omega
        have hd : (n + 1) % (10 ^ k * 10) = n + 1 := Nat.mod_eq_of_lt (by omega)
        rw [hd, Nat.mod_eq_of_lt hl, pad, e3]
        rw [show (n + 1) % 10 = 0 by omega]
        have a1 : decide (n / 10 + 1 = 10 ^ k) = false := by simp; omega
        have a2 : decide (n + 1 = 10 ^ k * 10) = false := by simp; omega
        rw [a1, a2]; rfl
theorem pad_zero (k n : Nat) (h : n < 10 ^ k) : (∀ c ∈ pad k n, c = 48) ↔ n = 0 := by
  induction k generalizing n with
  | zero => simp at h; simp [pad, h]
  | succ k ih =>
    rw [Nat.pow_succ] at h
    have h48 : dc (n % 10) = 48 ↔ n % 10 = 0 := by
      constructor
      · intro hh
        have := dc_nat (n := n % 10) (by omega)
        rw [hh, if_pos (by omega)] at this
        simp at this; omega
      · intro hh; rw [hh]; rfl
    unfold pad
    constructor
    · intro hh
      have h1 := (ih (n / 10) (by omega)).1 (fun c hc => hh c (List.mem_append_left _ hc))
      have h2 := h48.1 (hh _ (List.mem_append_right _ (List.mem_singleton.2 rfl)))
      omega
    · intro hh c hc
      subst hh
      rcases List.mem_append.1 hc with hc | hc
      · exact (ih 0 (Nat.pow_pos (by omega))).2 rfl c (by simpa using hc)
      · rw [List.mem_singleton.1 hc]; rfl
end Go.Proofs.YtibggoikjlnnkaaDoor.M2
