/- What a listed variable gives a walk: an array of structs with plain fields. -/
import Derived.Test.YtbdcmnhfmkefdaaGreatDoorProg
import Derived.Lib.LaidTab
import Derived.Lib.SmallJoins
import Derived.Stop.LaidErr
namespace Go.Proofs.YtbdcmnhfmkefdaaGreatDoor
open Go.RowKit Go.Joins Go.Deep
set_option linter.unusedVariables false
section
variable {H : Type} {enc : TypeId × Value → H} {P : Program} {w : World} {base : Nat} {sp : Nat → Bool} {held : Bool}
theorem rows_flat {α : Type} (k : Nat) : ∀ (n : Nat) (cs : List α), cs.length = n * k → cs = (List.range n).flatMap fun i => (cs.drop (i * k)).take k
  | 0, cs, h => by
    have : cs = [] := List.length_eq_zero_iff.1 (by omega)
    subst this; rfl
  | n + 1, cs, h => by
    have hl : (cs.drop k).length = n * k := by rw [List.length_drop, h, Nat.succ_mul]; omega
    have ih := rows_flat k n (cs.drop k) hl
    rw [List.range_succ_eq_map, List.flatMap_cons, List.flatMap_map]
    have e : (fun i => ((cs.drop k).drop (i * k)).take k) = fun i => (cs.drop ((i + 1) * k)).take k := by
      funext i; rw [List.drop_drop, Nat.succ_mul, Nat.add_comm]
    rw [e] at ih
    simp only [Nat.zero_mul, List.drop_zero]
    conv => lhs; rw [← List.take_append_drop k cs, ih]
/-- The cells of an array whose elements' cells are known by what they read as. -/
theorem array_rows {t e : TypeId} {n k fuel : Nat} {cs : List Value} {p : List MemPlace} (F : List (List Value × DataW H)) (ht : P.underlying t = some (.array n e)) (hce : P.cellsOf e = k) (hct : P.cellsOf t = n * k)
    (h : DataW.trod enc P w base sp held fuel t cs = some (.agg (F.map (·.2)), p)) (hF : F.length = n)
    (hrow : ∀ x ∈ F, ∀ f c q, DataW.trod enc P w base sp held f e c = some (x.2, q) → c = x.1) : cs = F.flatMap (·.1) := by
  cases fuel with
  | zero => simp [DataW.trod] at h
  | succ fuel =>
    simp only [DataW.trod, ht, hce, hct] at h
    split at h
    · rename_i hl
      obtain ⟨xs, hm, hx⟩ := Option.map_eq_some_iff.1 h
      have hxs : xs.map (·.1) = F.map (·.2) := by
        have := congrArg Prod.fst hx
        simpa using this
      have hxl : xs.length = n := by simpa using Lib.mapM_length hm
      rw [rows_flat k n cs hl]
      have key : ∀ i, i < n → (cs.drop (i * k)).take k = (F.getD i ([], .nil)).1 := fun i hi => by
        obtain ⟨b, hb, hf⟩ := Lib.mapM_at hm i i (by simp [hi])
        have h2 : (xs.map (·.1))[i]? = some b.1 := by simp [hb]
        rw [hxs] at h2
        have hiF : i < F.length := by omega
        have h3 : (F[i]).2 = b.1 := by
          rw [List.getElem?_map, List.getElem?_eq_getElem hiF] at h2
          simpa using h2
        have h4 := hrow F[i] (List.getElem_mem hiF) fuel _ b.2 (by rw [h3]; exact hf)
        rw [h4, List.getD_eq_getElem?_getD, List.getElem?_eq_getElem hiF]; rfl
      have e1 : (List.range n).flatMap (fun i => (cs.drop (i * k)).take k) = (List.range n).flatMap fun i => (F.getD i ([], .nil)).1 := by
        simp only [List.flatMap]
        congr 1
        refine List.map_congr_left fun i hi => ?_
        exact key i (by simpa using hi)
      rw [e1, ← hF]
      clear e1 key h hm hx hxs hxl hrow hl hct ht hF
      induction F with
      | nil => rfl
      | cons x F ih =>
        rw [List.length_cons, List.range_succ_eq_map, List.flatMap_cons, List.flatMap_map, List.flatMap_cons]
        congr 1
    · cases h
/-- A struct of four fields of one cell each that reads as four plain data. -/
theorem struct4_row {t : TypeId} {f0 f1 f2 f3 : Field} {fuel : Nat} {cs : List Value} {d0 d1 d2 d3 : DataW H} {p : List MemPlace} {v0 v1 v2 v3 : Value} (ht : P.underlying t = some (.struct #[f0, f1, f2, f3])) (hone : oneCellFields P #[f0, f1, f2, f3] = true) (hC : P.cellsOf t = 4)
    (h : DataW.trod enc P w base sp held fuel t cs = some (.agg [d0, d1, d2, d3], p))
    (h0 : ∀ f c q, DataW.trod enc P w base sp held f f0.type [c] = some (d0, q) → c = v0) (h1 : ∀ f c q, DataW.trod enc P w base sp held f f1.type [c] = some (d1, q) → c = v1)
    (h2 : ∀ f c q, DataW.trod enc P w base sp held f f2.type [c] = some (d2, q) → c = v2) (h3 : ∀ f c q, DataW.trod enc P w base sp held f f3.type [c] = some (d3, q) → c = v3) : cs = [v0, v1, v2, v3] := by
  obtain ⟨y0, y1, y2, y3, n, hx, hl, k0, k1, k2, k3⟩ := trod_struct4 ht h
  rw [hC] at hl
  obtain ⟨o0, c0⟩ := hone_of hone 0 f0 rfl
  obtain ⟨o1, c1⟩ := hone_of hone 1 f1 rfl
  obtain ⟨o2, c2⟩ := hone_of hone 2 f2 rfl
  obtain ⟨o3, c3⟩ := hone_of hone 3 f3 rfl
  match cs, hl with
  | [a0, a1, a2, a3], _ =>
    simp only [Prod.mk.injEq, DataW.agg.injEq, List.cons.injEq, and_true] at hx
    obtain ⟨⟨e0, e1, e2, e3⟩, _⟩ := hx
    simp only [o0, c0, o1, c1, o2, c2, o3, c3, List.drop_zero, List.drop_succ_cons, List.take_succ_cons, List.take_zero] at k0 k1 k2 k3
    obtain ⟨z0, q0⟩ := y0
    obtain ⟨z1, q1⟩ := y1
    obtain ⟨z2, q2⟩ := y2
    obtain ⟨z3, q3⟩ := y3
    subst e0 e1 e2 e3
    rw [h0 _ _ _ k0, h1 _ _ _ k1, h2 _ _ _ k2, h3 _ _ _ k3]
theorem int_row {t : TypeId} {k : IntKind} {fuel : Nat} {c : Value} {n : Int} {q : List MemPlace} (ht : P.underlying t = some (.int k)) (h : DataW.trod enc P w base sp held fuel t [c] = some (.lit (.int k n), q)) : c = .int k n := by
  obtain ⟨m, hc, hx, _⟩ := DataW.trod_int ht h
  simp at hc hx
  rw [hc, hx.1]
theorem bool_row {t : TypeId} {fuel : Nat} {c : Value} {b : Bool} {q : List MemPlace} (ht : P.underlying t = some .bool) (h : DataW.trod enc P w base sp held fuel t [c] = some (.lit (.bool b), q)) : c = .bool b := by
  obtain ⟨m, hc, hx⟩ := DataW.trod_bool ht h
  simp at hc hx
  rw [hc, hx.1]
end
end Go.Proofs.YtbdcmnhfmkefdaaGreatDoor
