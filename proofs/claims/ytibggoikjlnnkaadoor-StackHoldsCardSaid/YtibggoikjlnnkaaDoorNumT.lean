/- Contracts of layer 2: integers in other bases. -/
import Derived.Test.YtibggoikjlnnkaaDoorNumL
import Derived.Sort.WalkB12
import Derived.Sort.WalkC
import Derived.Lib.ItoaWalk
import Derived.Laws.IdiomStrings
namespace Go.Proofs.YtibggoikjlnnkaaDoor
open Go.RowKit Go.Sort M1 M2
set_option linter.unusedVariables false
theorem slice65 (B j : Nat) (hj : j < 65) (W : World) : (Instr.sliceAt 76 (.pointer (some ⟨B, 0, none⟩)) (some (.int .i64 (j : Int))) none none).run Tryd.prog W = .ok (.slice (some ⟨B, j, none⟩) (65 - j) (65 - j)) W := by
  have al : Tryd.prog.arrayLen 76 = 65 := by kernel_rfl
  have sz : (sizeOf (Tryd.prog.elem 76)).run Tryd.prog W = .ok 1 W := by kernel_rfl
  rw [run_sliceAt_array_l W 76 _ (by kernel_rfl) .i64 j (by omega) (by rw [al]; omega), sz, al]
  simp [slicedAt, Result.andThen, Addr.add, show ¬ (65 = j) by omega]
  exact fun h => h.symm
theorem dig36 (x : Nat) (h : x < 36) : ((⟨#[48, 49, 50, 51, 52, 53, 54, 55, 56, 57, 97, 98, 99, 100, 101, 102, 103, 104, 105, 106, 107, 108, 109, 110, 111, 112, 113, 114, 115, 116, 117, 118, 119, 120, 121, 122]⟩ : ByteArray)[x]'h) = dc x := by
  revert h; revert x; decide
def eB (b : UInt8) : Value := .int .u8 (b.toNat : Int)
def rowL (k : Nat) (acc : List UInt8) : Array UInt8 := (List.replicate k 0 ++ acc).toArray
theorem rowL_size (k : Nat) (acc : List UInt8) : (rowL k acc).size = k + acc.length := by simp [rowL]
theorem rowL_zero (n : Nat) : Array.replicate n (0 : UInt8) = rowL n [] := by simp [rowL]
theorem rowL_set (j : Nat) (acc : List UInt8) (x : UInt8) : (rowL (j + 1) acc).setIfInBounds j x = rowL j (x :: acc) := by
  apply Array.ext'
  simp only [rowL, List.setIfInBounds_toArray]
  rw [List.replicate_succ', List.append_assoc, List.set_append_right _ _ (by simp)]
  simp
theorem rowL_at (j : Nat) (acc : List UInt8) (t : Nat) (ht : t < acc.length) : (rowL j acc)[j + t]! = acc[t] := by
  rw [getElem!_pos _ _ (by rw [rowL_size]; omega)]
  simp [rowL]
theorem row_back (W V : World) (B N j : Nat) (acc : List UInt8) (hH : Holds eB W B 0 (rowL N [])) (hV : V = putRow eB W B 0 (rowL j acc)) (hN : j + acc.length = N) (T : TypeId) (hT : Tryd.prog.underlying T = some (.slice 5)) :
    (convert T 9 (.slice (some ⟨B, j, none⟩) acc.length acc.length)).run Tryd.prog V = .ok (.string (mkB acc)) V := by
  refine run_convert_bytes_back (P := Tryd.prog) V T 9 5 ⟨B, j, none⟩ acc.length acc hT Tryd.underlying5 Tryd.underlying9 (fun t ht => ?_)
  have h2 := holds_putRow eB W B 0 (rowL N []) (rowL j acc) hH (by rw [rowL_size, rowL_size]; simp; omega)
  have h3 := (h2 (j + t) (by rw [rowL_size]; omega)).1
  rw [← hV, rowL_at _ _ _ ht, Nat.zero_add] at h3
  have ha : (⟨B, j, none⟩ : Addr).add t = ⟨B, j + t, none⟩ := by
    unfold Addr.add; split
    · rename_i h; subst h; rfl
    · rfl
  rw [ha]; exact h3
theorem below_putRow {B : Nat} {a W : World} (enc : UInt8 → Value) (b off : Nat) (d : Array UInt8) (h : RowKit.Below B a W) (hb : B ≤ b) : RowKit.Below B a (putRow enc W b off d) := by
  refine h.trans ⟨rfl, rfl, rfl, ?_, fun k hk => ?_⟩
  · simp [putRow, mapBlock]
  · simp only [putRow, mapBlock, Array.getElem?_modify]
    rw [if_neg (by omega)]

end Go.Proofs.YtibggoikjlnnkaaDoor
