/- Bits: plain mathematics. -/
import Derived.WalkKit
import Derived.Laws.BitsAllLaws
namespace Go.Proofs.Ytpoljkgfaceniaa.M1

theorem toNat64 (x : Int) (h1 : 0 ≤ x) (h2 : x < 4294967296) : (BitVec.ofInt 64 x).toNat = x.toNat := by
  simp only [BitVec.toNat_ofInt]; omega
theorem lt32 (x : Int) (h2 : x < 4294967296) : x.toNat < 2 ^ 32 := by omega
theorem i64_and (x y : Int) (h1 : 0 ≤ x) (h2 : x < 4294967296) (h3 : 0 ≤ y) (h4 : y < 4294967296) : bits .and .i64 x y = ((x.toNat &&& y.toNat : Nat) : Int) := by
  have hb := Nat.and_lt_two_pow x.toNat (lt32 y h4)
  show IntKind.i64.wrap ((BitVec.ofInt 64 x &&& BitVec.ofInt 64 y).toNat : Int) = _
  rw [BitVec.toNat_and, toNat64 x h1 h2, toNat64 y h3 h4, IntKind.wrap_i64]
  omega
theorem i64_or (x y : Int) (h1 : 0 ≤ x) (h2 : x < 4294967296) (h3 : 0 ≤ y) (h4 : y < 4294967296) : bits .or .i64 x y = ((x.toNat ||| y.toNat : Nat) : Int) := by
  have hb := Nat.or_lt_two_pow (lt32 x h2) (lt32 y h4)
  show IntKind.i64.wrap ((BitVec.ofInt 64 x ||| BitVec.ofInt 64 y).toNat : Int) = _
  rw [BitVec.toNat_or, toNat64 x h1 h2, toNat64 y h3 h4, IntKind.wrap_i64]
  omega
theorem i64_xor (x y : Int) (h1 : 0 ≤ x) (h2 : x < 4294967296) (h3 : 0 ≤ y) (h4 : y < 4294967296) : bits .xor .i64 x y = ((x.toNat ^^^ y.toNat : Nat) : Int) := by
  have hb := Nat.xor_lt_two_pow (lt32 x h2) (lt32 y h4)
  show IntKind.i64.wrap ((BitVec.ofInt 64 x ^^^ BitVec.ofInt 64 y).toNat : Int) = _
  rw [BitVec.toNat_xor, toNat64 x h1 h2, toNat64 y h3 h4, IntKind.wrap_i64]
  omega
/-- the lowest 32 bits -/
theorem i64_mask (m : Int) : bits .and .i64 m 4294967295 = m % 4294967296 := by
  show IntKind.i64.wrap ((BitVec.ofInt 64 m &&& BitVec.ofInt 64 4294967295).toNat : Int) = _
  rw [BitVec.toNat_and, toNat64 4294967295 (by omega) (by omega), BitVec.toNat_ofInt]
  rw [show (4294967295 : Int).toNat = 2 ^ 32 - 1 by decide, Nat.and_two_pow_sub_one_eq_mod, IntKind.wrap_i64]
  omega
def shf (x n : Int) : Int := if n < 0 then x / 2 ^ min (-n).toNat 32 else x * 2 ^ min n.toNat 32 % 4294967296
def bw (op m n : Int) : Int :=
  if op = 9 then (((m % 4294967296).toNat &&& (n % 4294967296).toNat : Nat) : Int)
  else if op = 10 then (((m % 4294967296).toNat ||| (n % 4294967296).toNat : Nat) : Int)
  else if op = 11 then (((m % 4294967296).toNat ^^^ (n % 4294967296).toNat : Nat) : Int)
  else if op = 12 then shf (m % 4294967296) n
  else if op = 13 then shf (m % 4294967296) (-n)
  else (((m % 4294967296).toNat ^^^ 4294967295 : Nat) : Int)
theorem shf_big (x n : Int) (h1 : 0 ≤ x) (h2 : x < 4294967296) (h : 32 ≤ n ∨ n ≤ -32) : shf x n = 0 := by
  unfold shf
  by_cases hn : n < 0
  · rw [if_pos hn, Nat.min_eq_right (by omega)]
    exact Int.ediv_eq_zero_of_lt h1 (by simpa using h2)
  · rw [if_neg hn, Nat.min_eq_right (by omega)]
    simp
theorem shf_neg (x n : Int) (h : n < 0) (h2 : -32 < n) : shf x n = x / 2 ^ (-n).toNat := by
  unfold shf; rw [if_pos h, Nat.min_eq_left (by omega)]
theorem pow_le32 (k : Nat) (h : k ≤ 31) : (2 : Int) ^ k ≤ 2147483648 := by
  have : (2 : Nat) ^ k ≤ 2 ^ 31 := Nat.pow_le_pow_right (by omega) h
  have h2 : (2 : Int) ^ k = ((2 ^ k : Nat) : Int) := by simp
  rw [h2]; omega
theorem shl_in (x : Int) (k : Nat) (h1 : 0 ≤ x) (h2 : x < 4294967296) (h : k ≤ 31) : 0 ≤ x * 2 ^ k ∧ x * 2 ^ k ≤ 9223372036854775807 := by
  have hp := pow_le32 k h
  have hp0 : (0 : Int) ≤ 2 ^ k := Int.pow_nonneg (by omega)
  refine ⟨Int.mul_nonneg h1 hp0, ?_⟩
  have a : x * 2 ^ k ≤ 4294967295 * 2 ^ k := Int.mul_le_mul_of_nonneg_right (by omega) hp0
  omega
theorem shf_pos (x n : Int) (h : 0 ≤ n) (h2 : n < 32) : shf x n = x * 2 ^ n.toNat % 4294967296 := by
  unfold shf; rw [if_neg (by omega), Nat.min_eq_left (by omega)]
theorem shf_in (x n : Int) (h1 : 0 ≤ x) (h2 : x < 4294967296) : 0 ≤ shf x n ∧ shf x n < 4294967296 := by
  unfold shf
  split
  · have hp : (0 : Int) < 2 ^ min (-n).toNat 32 := Int.pow_pos (by omega)
    exact ⟨Int.ediv_nonneg h1 (by omega), Int.lt_of_le_of_lt (Int.ediv_le_self _ h1) h2⟩
  · exact ⟨Int.emod_nonneg _ (by omega), Int.emod_lt_of_pos _ (by omega)⟩
theorem bw_in (op m n : Int) : 0 ≤ bw op m n ∧ bw op m n < 4294967296 := by
  have hx1 := Int.emod_nonneg m (show (4294967296 : Int) ≠ 0 by omega)
  have hx2 := Int.emod_lt_of_pos m (show (0 : Int) < 4294967296 by omega)
  have hy2 := Int.emod_lt_of_pos n (show (0 : Int) < 4294967296 by omega)
  have a1 := Nat.and_lt_two_pow (m % 4294967296).toNat (lt32 _ hy2)
  have a2 := Nat.or_lt_two_pow (lt32 _ hx2) (lt32 _ hy2)
  have a3 := Nat.xor_lt_two_pow (lt32 _ hx2) (lt32 _ hy2)
  have a4 := Nat.xor_lt_two_pow (lt32 _ hx2) (show 4294967295 < 2 ^ 32 by omega)
  have b1 := shf_in (m % 4294967296) n hx1 hx2
  have b2 := shf_in (m % 4294967296) (-n) hx1 hx2
  unfold bw
  repeat' split
  all_goals omega
/-- the signed number of 32 bits -/
def s32 (r : Int) : Int := if 2147483648 ≤ r then r - 4294967296 else r
theorem s32_in {r : Int} (h : 0 ≤ r ∧ r < 4294967296) : -2147483648 ≤ s32 r ∧ s32 r ≤ 2147483647 := by unfold s32; split <;> omega
theorem s32_wrap (r : Int) (h1 : 0 ≤ r) (h2 : r < 4294967296) : IntKind.i32.wrap r = s32 r := by
  rw [IntKind.wrap_i32]; unfold s32; split <;> omega
end Go.Proofs.Ytpoljkgfaceniaa.M1
