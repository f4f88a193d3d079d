/- Contracts of layer 3: literals that are written, whole. -/
import Derived.Test.YtbcbddglgfakpaaGreatDoorLexN
namespace Go.Proofs.YtbcbddglgfakpaaGreatDoor
open Go.RowKit Go.Joins M3
set_option linter.unusedVariables false
theorem bl_new (w : World) : Bl w.heap.size w.heap.size [] (w.alloc (.cells #[.pointer none, .slice none 0 0] 57)) :=
  .inl ⟨Nat.le_refl _, .slice none 0 0, heap_alloc_new w _, World.ownsRow_nil _ _ _ _, by simp [Value.ownBlock]⟩
theorem blS (B b : Nat) (l : List UInt8) (w : World) (h : Bl B b l w) (hB : B ≤ w.heap.size) :
    Calls Tryz.prog 40 #[(.pointer (some ⟨b, 0, none⟩))] w fun e w' => e = .returned (.string (bs l)) ∧ Below B w w' := Tryz.Builder_String_any B b l w h hB
theorem flat_len (l : List UInt8) (k : Nat) : ((l.take k).flatMap qb).length ≤ 4 * k := by
  have h := qt_len (l.take k)
  rw [List.length_take] at h
  omega
theorem flat_step {l : List UInt8} {k : Nat} (hk : k < l.length) : (l.take (k + 1)).flatMap qb = (l.take k).flatMap qb ++ qb l[k] := by
  rw [List.take_succ_eq_append_getElem hk, List.flatMap_append]; simp
end Go.Proofs.YtbcbddglgfakpaaGreatDoor
