/- Layer 13: lists of values and of truths that came in. -/
import Derived.Test.YtaaelhhiceildaaTbOp
namespace Go.Proofs.Ytaaelhhiceildaa
open Go.ChangeShapes Go.WideShapes Go.ChangeAt Go.RowKit Go.Joins Go.Deep M1
set_option linter.unusedVariables false
theorem cellsBoolU : Try.prog.cellsOf 4 = 1 := by kernel_rfl
def blC (b : Bool) : List Value := [.bool b]
structure ValsA (w : World) (v : Value) (l : List V5) : Prop where
  form : ∃ p c, v = .slice p l.length c ∧ (0 < l.length → ∃ g o, p = some ⟨g, o, none⟩ ∧ g < w.heap.size ∧ ∀ (j m : Nat) (hj : j < l.length), m < 5 → w.cell? ⟨g, o + j * 5 + m, none⟩ = (vC l[j])[m]?)
theorem vals_nil (w : World) (c : Nat) : ValsA w (.slice none 0 c) [] := ⟨_, _, rfl, fun h => absurd h (by decide)⟩
theorem open_vals {H : Type} {enc : TypeId × Value → H} {W : World} {sp : Nat → Bool} {fuel len cap : Nat} {a : Option Addr} {x : DataW H × List MemPlace} (h : DataW.trod enc Try.prog W 0 sp true fuel 45 [.slice a len cap] = some x) :
    ∃ l : List V5, ValsA W (.slice a len cap) l ∧ l.length = len ∧ len ≤ maxLen := by
  rcases open_slice Try.underlying45 h with ⟨hc, _⟩ | ⟨b, len', cap', m, n, D, Pl, hc, _, hl, hcm, hmm, _, hi⟩
  · simp only [List.cons.injEq, Value.slice.injEq, and_true] at hc
    obtain ⟨rfl, rfl, rfl⟩ := hc
    exact ⟨[], vals_nil _ _, rfl, Nat.zero_le _⟩
  · simp only [List.cons.injEq, Value.slice.injEq, and_true] at hc
    obtain ⟨rfl, rfl, rfl⟩ := hc
    have hlm : len ≤ m := by rw [hmm]; split <;> omega
    have each : ∀ i, i < len → ∃ y : V5, ∀ j, j < 5 → W.cell? ((b.add (i * 5)).add j) = (vC y)[j]? := by
      intro i hil
      obtain ⟨cs, h1, h2⟩ := hi i (by omega)
      rw [cellsVal] at h1
      obtain ⟨_, hlen, hcell⟩ := World.cells?_some h1
      obtain ⟨k, p, q, s, r, rfl, _⟩ := trod_val h2
      exact ⟨⟨k, p, q, s, r⟩, fun j hj => hcell j hj⟩
    obtain ⟨I, hI⟩ : ∃ I : Nat → V5, ∀ i, i < len → ∀ j, j < 5 → W.cell? ((b.add (i * 5)).add j) = (vC (I i))[j]? :=
      ⟨fun i => if h : i < len then Classical.choose (each i h) else v5z, fun i h => by have := Classical.choose_spec (each i h); simpa [h] using this⟩
    obtain ⟨g, o, spt⟩ := b
    refine ⟨(List.range len).map I, ⟨some ⟨g, o, spt⟩, cap, by simp, fun h0 => ?_⟩, by simp, Nat.le_trans hl hcm⟩
    have h0 : 0 < len := by simpa using h0
    have hsp : spt = none := by
      have h9 : W.cell? _ = some (.int .i64 (I 0).k) := hI 0 h0 0 (by omega)
      have := World.cell?_spot h9
      simpa [Addr.add] using this
    subst hsp
    have h9 : W.cell? _ = some (.int .i64 (I 0).k) := hI 0 h0 0 (by omega)
    refine ⟨g, o, rfl, World.block_lt_of_cell? W _ h9, fun j m hj hm => ?_⟩
    have hjl : j < len := by simpa using hj
    have h1 := hI j hjl m hm
    rw [addr_addQ, addr_addQ] at h1
    rw [List.getElem_map, List.getElem_range]
    exact h1
structure BoolsA (w : World) (v : Value) (l : List Bool) : Prop where
  form : ∃ p c, v = .slice p l.length c ∧ (0 < l.length → ∃ g o, p = some ⟨g, o, none⟩ ∧ g < w.heap.size ∧ ∀ (j m : Nat) (hj : j < l.length), m < 1 → w.cell? ⟨g, o + j * 1 + m, none⟩ = (blC l[j])[m]?)
theorem bools_nil (w : World) (c : Nat) : BoolsA w (.slice none 0 c) [] := ⟨_, _, rfl, fun h => absurd h (by decide)⟩
end Go.Proofs.Ytaaelhhiceildaa
