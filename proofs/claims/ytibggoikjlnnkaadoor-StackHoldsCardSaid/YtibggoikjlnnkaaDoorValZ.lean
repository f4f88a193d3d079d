/- Contracts of layer 2: the reference's texts of numbers. -/
import Derived.Test.YtibggoikjlnnkaaDoorValY
namespace Go.Proofs.YtibggoikjlnnkaaDoor
open Go.RowKit M1 M2
set_option linter.unusedVariables false
theorem below3 {a b : Prop} {W V : World} (h : a ∧ b ∧ Below W.heap.size W V) : Below W.heap.size W V := h.2.2
theorem keepR {B : Nat} {p q : Int} {W V V' : World} (lB : B < W.heap.size)
    (h : V.cell? ⟨B, 0, none⟩ = some (.int .i64 p) ∧ V.cell? ⟨B, 1, none⟩ = some (.int .i64 q) ∧ Below W.heap.size W V) (hb : Below V.heap.size V V') :
    V'.cell? ⟨B, 0, none⟩ = some (.int .i64 p) ∧ V'.cell? ⟨B, 1, none⟩ = some (.int .i64 q) ∧ Below W.heap.size W V' := by
  obtain ⟨h1, h2, h4⟩ := h
  have hz := h4.size
  exact ⟨by rw [hb.cell (p := ⟨B, 0, none⟩) (Nat.lt_of_lt_of_le lB hz)]; exact h1, by rw [hb.cell (p := ⟨B, 1, none⟩) (Nat.lt_of_lt_of_le lB hz)]; exact h2, h4.trans (hb.mono hz)⟩

end Go.Proofs.YtibggoikjlnnkaaDoor
