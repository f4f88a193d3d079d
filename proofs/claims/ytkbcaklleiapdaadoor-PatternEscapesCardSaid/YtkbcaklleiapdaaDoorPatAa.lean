/- Contracts of layer 4: the match at an index, the first match. -/
import Derived.Test.YtkbcaklleiapdaaDoorPatZ
namespace Go.Proofs.YtkbcaklleiapdaaDoor
open Go.RowKit M4
set_option linter.unusedVariables false
theorem info_cap : (Tryd.prog.info? 43).map (fun i => (i.zero, i.size, i.bytes)) = some (some (.agg #[.int .i64 0, .int .i64 0]), 2, 16) := by kernel_rfl
theorem eql_caps (a : Addr) (n c : Nat) (w : World) : (binOp .eql 27 (.slice (some a) n c) (.slice none 0 0)).run Tryd.prog w = .ok (.bool false) w := by kernel_rfl
theorem capC_ext (w : World) (cb : Nat) (m : Caps) (h : w.heap[cb]? = some (.cells (capC m).toArray 43 (0, 0))) : ∀ j u, (capC m)[j]? = some u → w.cell? ((⟨cb, 0, none⟩ : Addr).add j) = some u := by
  intro j u hu
  have : w.cell? ⟨cb, j, none⟩ = (capC m)[j]? := by simp [World.cell?, h]
  have ha : (⟨cb, 0, none⟩ : Addr).add j = ⟨cb, j, none⟩ := by cases j <;> simp [Addr.add]
  rw [ha, this, hu]
theorem capC_one (m : Caps) : ∀ u ∈ capC m, u.oneCell' = true := by
  intro u hu
  unfold capC at hu
  obtain ⟨c, _, hc⟩ := List.mem_flatMap.1 hu
  simp at hc
  rcases hc with rfl | rfl <;> rfl
theorem own_empty (w : World) (t : TypeId) : (w.alloc (.cells #[] t)).ownsRow 0 t 2 (.slice (some ⟨w.heap.size, 0, none⟩) 0 0) 0 [] :=
  ⟨rfl, Or.inr ⟨w.heap.size, 0, #[], rfl, Nat.zero_le _, heap_new _ _, Nat.le_refl _, by unfold maxLen; omega, rfl, rfl⟩⟩
/-- A block with a match. -/
def Mtb (R : Nat) (cs : Array Value) (w : World) : Prop := w.heap[R]? = some (.cells cs 29 (0, 0))
theorem Mtb.cell {R : Nat} {cs : Array Value} {w : World} (h : Mtb R cs w) (i : Nat) : w.cell? ⟨R, i, none⟩ = cs[i]? := by unfold Mtb at h; simp [World.cell?, h]
theorem Mtb.fz {R : Nat} {cs : Array Value} {w : World} (h : Mtb R cs w) (i : Nat) : w.frozen? ⟨R, i, none⟩ = false := by unfold Mtb at h; simp [World.frozen?, h]
theorem Mtb.lt {R : Nat} {cs : Array Value} {w : World} (h : Mtb R cs w) : R < w.heap.size := (Array.getElem?_eq_some_iff.1 h).1
theorem Mtb.ch {R : Nat} {cs : Array Value} {w w' : World} {S : List Nat} (h : Mtb R cs w) (hg : Ch S w w') (hr : R ∉ S) : Mtb R cs w' := by
  have := h.lt; unfold Mtb at *; rw [hg.block R this hr]; exact h
theorem Mtb.set {R : Nat} {cs : Array Value} {w : World} (h : Mtb R cs w) (i : Nat) (v : Value) : Mtb R (cs.setIfInBounds i v) (w.setCell ⟨R, i, none⟩ v) := set_same w R i cs _ v h
theorem mtb_new (w : World) (cs : Array Value) (n : Nat) (h : n = w.heap.size) : Mtb n cs (w.alloc (.cells cs 29)) := by subst h; exact heap_new _ _
/-- Three stores: a match is stored whole. -/
def st3 (W : World) (R : Nat) (a0 a1 a2 : Value) : World := ((W.setCell ⟨R, 0, none⟩ a0).setCell ⟨R, 1, none⟩ a1).setCell ⟨R, 2, none⟩ a2
theorem st3_mt {W : World} {R : Nat} {c0 c1 c2 a0 a1 a2 : Value} (h : Mtb R #[c0, c1, c2] W) : Mtb R #[a0, a1, a2] (st3 W R a0 a1 a2) := ((h.set 0 a0).set 1 a1).set 2 a2
theorem st3_ch {W : World} {R : Nat} {a0 a1 a2 : Value} : Ch [R] W (st3 W R a0 a1 a2) := by
  have m : R ∈ [R] := by simp
  exact ((Ch.set (Ch.refl [R] W) R 0 a0 (Or.inl m)).set R 1 a1 (Or.inl m)).set R 2 a2 (Or.inl m)
def mt0 : Array Value := #[.int .i64 0, .int .i64 0, .slice none 0 0]
/-- The pattern's items can be matched in this environment. -/
structure Good (E : Env) : Prop where
  hs : E.s.size ≤ 1000000
  hg : E.g.its.length ≤ 1000000
  ok : Gok E.g
  on : ∀ j it, E.g.its[j]? = some it → OnceAt E j it
def AtSaid (E : Env) (i : Nat) (left : Int) (sz : Nat) (e : Ending) (w' : World) : Prop :=
  if ((atM E.s.data.toList E.g i).2 : Int) ≤ left then
    match (atM E.s.data.toList E.g i).1 with
    | some u => ∃ v, e = .returned (.tuple #[.agg #[.int .i64 (i : Int), .int .i64 (u.1 : Int), v], .bool true]) ∧ w'.ownsRow 0 43 2 v E.g.caps (capC u.2) ∧ (∀ g ∈ ob v, sz ≤ g) ∧ ∃ m', Mat E m' (left - (atM E.s.data.toList E.g i).2) w'
    | none => e = .returned (.tuple #[.agg mt0, .bool false]) ∧ ∃ m', Mat E m' (left - (atM E.s.data.toList E.g i).2) w'
  else e = .returned (.tuple #[.agg mt0, .bool false]) ∧ ∃ m' left', Mat E m' left' w' ∧ left' < 0

set_option maxHeartbeats 2000000 in
theorem clone_any (m : Caps) (cb n : Nat) (w : World) (hn : m.length = n) (h16 : n ≤ 16) (h : w.heap[cb]? = some (.cells (capC m).toArray 43 (0, 0))) :
    Calls Tryd.prog 54 #[.slice (some ⟨cb, 0, none⟩) n n] w fun e w' => (∃ v, e = .returned v ∧ w'.ownsRow 0 43 2 v n (capC m) ∧ ∀ g ∈ ob v, w.heap.size ≤ g) ∧ Below w.heap.size w w' := by
  obtain ⟨i0, hi, jz0, jz1, jz2⟩ := info_parts info_cap
  have he := eql_caps
  have hcb := (Array.getElem?_eq_some_iff.1 h).1
  have HX := Lib.hid (capC_ext (w.alloc (.cells #[] 43)) cb m (by rw [Below.heap_alloc _ _ _ hcb]; exact h))
  have HO := Lib.hid (own_empty w 43)
  have HL : Hid ((capC m).length = n * 2) := Lib.hid (by rw [capC_len, hn]; omega)
  clear h hn
  go_enter Tryd.func54, Tryd.ntmps54
  go_wp2_with (at_builtin; refine wpList_append_own_at _ rfl _ _ 27 rfl 0 43 i0 (.agg #[.int .i64 0, .int .i64 0]) 2 16 Tryd.underlying27 hi jz0 jz1 jz2 rfl (by decide) _ _ _ rfl HO.out ⟨cb, 0, none⟩ n n (capC m) rfl HL.out HX.out (capC_one m) (by unfold maxLen; omega) (by omega) (by omega) ?_)
  intro v1 w1 ho hg _ hat
  obtain ⟨p1, c1, hv⟩ := own_form ho
  subst hv
  have hB : Below w.heap.size w w1 := (Ch.new (Ch.alloc (Ch.refl [] w) _) (Nat.le_refl _) (Ch.of_grown hg (by intro b hb; cases hb; simp))).below
  have hN : ∀ g ∈ ob (Value.slice p1 n c1), w.heap.size ≤ g := fun g hgg => by
    rw [mem_ob] at hgg
    rcases hat with h | h
    · rw [h] at hgg; cases hgg; exact Nat.le_refl _
    · rw [h] at hgg; cases hgg; simp
  have HO1 := Lib.hid ho
  have HB1 := Lib.hid hB
  have HN1 := Lib.hid hN
  clear ho hg hat hB hN
  go_wp2
  go_ret
  exact ⟨⟨_, rfl, HO1.out, HN1.out⟩, HB1.out⟩
end Go.Proofs.YtkbcaklleiapdaaDoor
