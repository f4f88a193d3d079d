/- Contracts of layer 2: the reference's Base. -/
import Derived.Test.YtibggoikjlnnkaaDoorNumT
import Derived.OwnWalk
namespace Go.Proofs.YtibggoikjlnnkaaDoor
open Go.RowKit Go.Sort M1 M2
set_option linter.unusedVariables false
theorem infoByte : (Tryd.prog.info? 5).map (fun i => (i.zero, i.size, i.bytes)) = some (some (.int .u8 0), 1, 1) := by kernel_rfl
/-- A row of bytes of the call's own. -/
def OwnB (base : Nat) (w : World) (g cap : Nat) (l : List UInt8) : Prop := w.ownsRow base 5 1 (.slice (some ⟨g, 0, none⟩) l.length cap) l.length (l.map eB)
theorem ownw_lt {base g cap : Nat} {w : World} {l : List UInt8} (h : OwnB base w g cap l) : base ≤ g ∧ g < w.heap.size := World.ownsRow.lt h g rfl
theorem ownw_cell {base g cap : Nat} {w : World} {l : List UInt8} (h : OwnB base w g cap l) (j : Nat) (hj : j < l.length) : w.cell? ⟨g, j, none⟩ = some (.int .u8 (l[j].toNat : Int)) := by
  rw [World.ownsRow.cellAt h j (by omega)]; simp [eB, hj]
theorem ownw_frozen {base g cap : Nat} {w : World} {l : List UInt8} (h : OwnB base w g cap l) (j : Nat) : w.frozen? ⟨g, j, none⟩ = false := World.ownsRow.frozenAt h j
theorem ownw_shape {base : Nat} {w : World} {v : Value} {l : List UInt8} {x : UInt8} (h : w.ownsRow base 5 1 v (l.length + 1) (l.map eB ++ [.int .u8 (x.toNat : Int)])) : ∃ g cap, v = .slice (some ⟨g, 0, none⟩) (l.length + 1) cap ∧ OwnB base w g cap (l ++ [x]) := by
  rcases h.2 with ⟨_, h0⟩ | ⟨g, cap, cur, rfl, hb, hg, h1, h2, h3, h4⟩
  · omega
  · refine ⟨g, cap, rfl, ?_⟩
    unfold OwnB
    simp only [List.length_append, List.length_cons, List.length_nil, List.map_append, List.map_cons, List.map_nil, Nat.zero_add]
    exact h
theorem ownw_kept {base g cap : Nat} {w w' : World} {l : List UInt8} (h : OwnB base w g cap l) (hb : RowKit.Below w.heap.size w w') : OwnB base w' g cap l :=
  World.ownsRow.kept h (row := none) ⟨hb.os, hb.tape, hb.output, hb.size, fun k hk _ => hb.block k hk⟩ (.inr (by simp [Value.ownBlock]))
theorem ownw_kept_row {base g cap : Nat} {w w' : World} {l : List UInt8} {r : Option Nat} (h : OwnB base w g cap l) (hg : w.grownBy w' r) (hr : r ≠ some g) : OwnB base w' g cap l :=
  World.ownsRow.kept h hg (.inr (by simp only [Value.ownBlock]; exact fun e => hr e.symm))
theorem ownw_alloc {base g cap : Nat} {w : World} {l : List UInt8} (h : OwnB base w g cap l) (o : Obj) : OwnB base (w.alloc o) g cap l := World.ownsRow.alloc h o
theorem ownw_empty (w : World) (base : Nat) (hb : base ≤ w.heap.size) : OwnB base (w.alloc (.cells #[] 5)) w.heap.size 0 [] :=
  World.ownsRow_lit w #[] 0 hb (by decide) (by simp)
theorem ownw_string {base g cap : Nat} {w : World} {l : List UInt8} (h : OwnB base w g cap l) : (convert 70 9 (.slice (some ⟨g, 0, none⟩) l.length cap)).run Tryd.prog w = .ok (.string (mkB l)) w :=
  run_convert_bytes_back (P := Tryd.prog) w 70 9 5 ⟨g, 0, none⟩ cap l Tryd.underlying70 Tryd.underlying5 Tryd.underlying9 (fun j hj => World.ownsRow.cells h rfl j _ (by simp [eB, hj]))
theorem below_ownw {B : Nat} {a w w' : World} {g : Nat} (h : RowKit.Below B a w) (hg : w.grownBy w' (some g)) (hB : B ≤ w.heap.size) (hgB : B ≤ g) : RowKit.Below B a w' := h.grown hg hB (fun k hk => by cases hk; exact hgB)
def lenOf : Value → Nat
  | .slice _ n _ => n
  | _ => 0
def rem (b u : Nat) : List UInt8 := if u = 0 then [] else bd b u
theorem bd_rem {b u : Nat} (hb : 2 ≤ b) (hu : u < 18446744073709551616) : bd b u = rem b (u / b) ++ [dc (u % b)] := by
  unfold rem
  by_cases h : u < b
  · rw [if_pos (Nat.div_eq_of_lt h), Nat.mod_eq_of_lt h, bd_small h]; rfl
  · have : u / b ≠ 0 := fun h0 => by rcases Nat.div_eq_zero_iff.1 h0 with h1 | h1 <;> omega
    rw [if_neg this, bd_big hb hu h]
/-- what the digits so far are -/
def Dig (b n u : Nat) (l : List UInt8) : Prop := (l = [] ∧ u = n) ∨ (0 < l.length ∧ bd b n = rem b u ++ l.reverse)
theorem dig_step {b n u : Nat} {l : List UInt8} (hb : 2 ≤ b) (hn : n < 18446744073709551616) (hu : u < 18446744073709551616) (h : Dig b n u l) (hgo : 0 < u ∨ l = []) : Dig b n (u / b) (l ++ [dc (u % b)]) := by
  right
  refine ⟨by simp, ?_⟩
  rcases h with ⟨rfl, rfl⟩ | ⟨hl, h⟩
  · rw [bd_rem hb hn]; simp
  · have hu0 : u ≠ 0 := by
      rcases hgo with h | h
      · omega
      · rw [h] at hl; simp at hl
    rw [h]
    have : rem b u = bd b u := if_neg hu0
    rw [this, bd_rem hb hu]; simp
theorem dig_end {b n : Nat} {l : List UInt8} (h : Dig b n 0 l) (hl : 0 < l.length) : bd b n = l.reverse := by
  rcases h with ⟨h, _⟩ | ⟨_, h⟩
  · rw [h] at hl; simp at hl
  · rw [h]; rfl
theorem dig_len {b n u : Nat} {l : List UInt8} (hb : 2 ≤ b) (hn : n < 18446744073709551616) (h : Dig b n u l) : l.length ≤ 64 := by
  rcases h with ⟨h, _⟩ | ⟨_, h⟩
  · rw [h]; simp
  · have h1 := (bd_len hb hn).2
    rw [h] at h1; simp at h1; omega

end Go.Proofs.YtibggoikjlnnkaaDoor
