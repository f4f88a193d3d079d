/- Layers 17 and 18: slices.Clone of values; At, List. -/
import Derived.Test.YtdgdpckjcpgoaaaStkA
import Derived.Lib.BufferMore
namespace Go.Proofs.Ytdgdpckjcpgoaaa
open Go.RowKit Go.Joins M1
set_option linter.unusedVariables false
/-- Values that can be read. -/
structure ValsA (w : World) (v : Value) (l : List V5) : Prop where
  form : ∃ p c, v = .slice p l.length c ∧ (0 < l.length → ∃ g o, p = some ⟨g, o, none⟩ ∧ g < w.heap.size ∧ ∀ (j m : Nat) (hj : j < l.length), m < 5 → w.cell? ⟨g, o + j * 5 + m, none⟩ = (vC l[j])[m]?)
theorem vals_nil (w : World) (c : Nat) : ValsA w (.slice none 0 c) [] := ⟨_, _, rfl, fun h => absurd h (by decide)⟩
theorem ValsA.below {w w' : World} {v : Value} {l : List V5} (h : ValsA w v l) (hb : Ch [] w w') : ValsA w' v l := by
  obtain ⟨p, c, rfl, h2⟩ := h.form
  refine ⟨p, c, rfl, fun h0 => ?_⟩
  obtain ⟨g, o, h3, h4, h5⟩ := h2 h0
  exact ⟨g, o, h3, Nat.lt_of_lt_of_le h4 hb.size, fun j m hj hm => (hb.below.cell (p := ⟨g, _, none⟩) h4).trans (h5 j m hj hm)⟩
theorem ValsA.of_row {w : World} {B : Nat} {v : Value} {l : List V5} (h : w.ownsRow B 26 5 v l.length (l.flatMap vC)) : ValsA w v l := by
  rcases Joins.ownsRow_forms h with ⟨h1, h2⟩ | ⟨g, cap, h1⟩
  · exact ⟨none, 0, by rw [h1, h2], fun h0 => by omega⟩
  · refine ⟨some ⟨g, 0, none⟩, cap, h1, fun _ => ⟨g, 0, rfl, (own_lo h (mem_ob.2 (by rw [h1]; rfl))).2, fun j m hj hm => ?_⟩⟩
    rw [h1] at h
    rw [Nat.zero_add, h.cellAt (j * 5 + m) (by omega), flat_at vC 5 vC_len _ j m hj hm]
theorem ValsA.src {w : World} {a : Addr} {n c : Nat} {l : List V5} (h : ValsA w (.slice (some a) n c) l) : ∀ q u, (l.flatMap vC)[q]? = some u → w.cell? (a.add q) = some u := by
  intro q u hu
  obtain ⟨p, c', e, h2⟩ := h.form
  injection e with e1 e2 e3
  subst e1 e3
  have hq : q < l.length * 5 := by
    have := (List.getElem?_eq_some_iff.1 hu).1
    rwa [flat5_len] at this
  obtain ⟨g, o, e, hg, hv⟩ := h2 (by omega)
  obtain rfl : a = ⟨g, o, none⟩ := Option.some.inj e
  have e3 : q / 5 * 5 + q % 5 = q := by omega
  have hf := flat_at vC 5 vC_len l (q / 5) (q % 5) (by omega) (by omega)
  have := hv (q / 5) (q % 5) (by omega) (by omega)
  rw [e3] at hf
  rw [addr_addQ, ← hu, hf, ← this]
  congr 2; omega
theorem ValsA.len {w : World} {p : Option Addr} {n c : Nat} {l : List V5} (h : ValsA w (.slice p n c) l) : l.length = n := by
  obtain ⟨p', c', e, _⟩ := h.form
  injection e with e1 e2 e3
  exact e2.symm
theorem row_cap {w : World} {B g n cap : Nat} {xs : List Value} (h : w.ownsRow B 26 5 (.slice (some ⟨g, 0, none⟩) n cap) n xs) : n ≤ cap := by
  obtain ⟨h1, h2⟩ := h
  rcases h2 with ⟨e1, _⟩ | ⟨g', cap', cur, e1, q1, q2, q3, q4, q5, q6⟩
  · injection e1 with e1; cases e1
  injection e1 with e1 e2 e3
  subst e3
  exact q3
end Go.Proofs.Ytdgdpckjcpgoaaa
