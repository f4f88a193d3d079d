/- Contracts of layer 3: literals that are written. -/
import Derived.Test.YtbcbddglgfakpaaGreatDoorLexL
import Derived.Lib.UnsafeStr
namespace Go.Proofs.YtbcbddglgfakpaaGreatDoor
open Go.RowKit Go.Joins M3
set_option linter.unusedVariables false
/-- A builder that holds bytes. -/
abbrev Bl (B b : Nat) (l : List UInt8) (w : World) : Prop := BIs B b (Lib.byteCells l) w
theorem blb (B b : Nat) (l : List UInt8) (x : UInt8) (v : Int) (hv : (x.toNat : Int) = v) (w : World) (h : Bl B b l w) (hl : l.length ≤ 100000000) (hB : B ≤ w.heap.size) :
    Calls Tryz.prog 42 #[(.pointer (some ⟨b, 0, none⟩)), .int .u8 v] w fun e w' => e = .returned .nilIface ∧ Bl B b (l ++ [x]) w' ∧ Below B w w' := by
  subst hv
  refine (bbyte_any B b (Lib.byteCells l) (x.toNat : Int) w h (by rw [Lib.byteCells_length]; omega) hB).mono fun e w' ⟨h1, h2, h3, _⟩ => ⟨h1, .inr ?_, h3⟩
  rw [show Lib.byteCells (l ++ [x]) = Lib.byteCells l ++ [.int .u8 (x.toNat : Int)] by simp [Lib.byteCells]]
  exact h2
theorem bls (B b : Nat) (l : List UInt8) (y : ByteArray) (w : World) (h : Bl B b l w) (hl : l.length ≤ 100000000) (hy : y.size ≤ 100000000) (hB : B ≤ w.heap.size) :
    Calls Tryz.prog 38 #[(.pointer (some ⟨b, 0, none⟩)), .string y] w fun e w' => e = .returned (.tuple #[.int .i64 y.size, .nilIface]) ∧ Bl B b (l ++ y.data.toList) w' ∧ Below B w w' := by
  refine (bstr_any B b (Lib.byteCells l) y w h (by rw [Lib.byteCells_length]; omega) hB).mono fun e w' ⟨h1, h2, h3, _⟩ => ⟨h1, .inr ?_, h3⟩
  rw [show Lib.byteCells (l ++ y.data.toList) = Lib.byteCells l ++ Lib.strCells y by simp [Lib.byteCells, Lib.strCells]]
  exact h2
theorem dq1 (x : UInt8) : ((48 + x / 100).toNat : Int) = 48 + (x.toNat : Int) / 100 := by
  have := x.toNat_lt
  simp [UInt8.toNat_add, UInt8.toNat_div]; omega
theorem dq2 (x : UInt8) : ((48 + x / 10 % 10).toNat : Int) = 48 + (x.toNat : Int) / 10 % 10 := by
  have := x.toNat_lt
  simp [UInt8.toNat_add, UInt8.toNat_div, UInt8.toNat_mod]; omega
theorem dq3 (x : UInt8) : ((48 + x % 10).toNat : Int) = 48 + (x.toNat : Int) % 10 := by
  have := x.toNat_lt
  simp [UInt8.toNat_add, UInt8.toNat_mod]; omega
theorem u8_lit (x : UInt8) (n : Nat) (hn : n < 256) (h : x.toNat = n) : x = UInt8.ofNat n := UInt8.toNat_inj.1 (by rw [h]; simp; omega)

end Go.Proofs.YtbcbddglgfakpaaGreatDoor
