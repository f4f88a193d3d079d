/- Contracts of layer 4: items that are no singles. -/
import Derived.Test.YtkbcaklleiapdaaDoorPatJ
import Derived.WalkSmall
import Derived.Laws.OwnMore
namespace Go.Proofs.YtkbcaklleiapdaaDoor
open Go.RowKit M4
set_option linter.unusedVariables false
theorem Itb.heap {R : Nat} {cs : Array Value} {w w' : World} (h : Itb R cs w) (e : w'.heap = w.heap) : Itb R cs w' := by unfold Itb at *; rw [e]; exact h
/-- The block of a slice of the call's own. -/
def ob (v : Value) : List Nat := match v.ownBlock with
  | some g => [g]
  | none => []
theorem mem_ob {v : Value} {g : Nat} : g ∈ ob v ↔ v.ownBlock = some g := by
  unfold ob
  cases v.ownBlock with
  | none => simp
  | some k => simp; exact eq_comm
theorem Ch.own {S : List Nat} {w w' : World} {e : TypeId} {size n : Nat} {v : Value} {xs : List Value} (h : Ch S w w') (ho : w.ownsRow 0 e size v n xs) (hS : ∀ g ∈ ob v, g ∉ S) : w'.ownsRow 0 e size v n xs := by
  refine ⟨ho.1, ?_⟩
  rcases ho.2 with h0 | ⟨g, cap, cur, rfl, hb, hg, r⟩
  · exact Or.inl h0
  · refine Or.inr ⟨g, cap, cur, rfl, hb, ?_, r⟩
    rw [h.block g (Array.getElem?_eq_some_iff.1 hg).1 (hS g (mem_ob.2 rfl))]; exact hg
theorem own_lt {w : World} {e : TypeId} {size n : Nat} {v : Value} {xs : List Value} (ho : w.ownsRow 0 e size v n xs) {g : Nat} (hg : g ∈ ob v) : g < w.heap.size := (ho.lt g (mem_ob.1 hg)).2
theorem own_form {w : World} {e : TypeId} {size n : Nat} {v : Value} {xs : List Value} (ho : w.ownsRow 0 e size v n xs) : ∃ p cap, v = .slice p n cap := by
  rcases Joins.ownsRow_forms ho with ⟨h, h0⟩ | ⟨g, cap, h⟩
  · exact ⟨none, 0, by rw [h, h0]⟩
  · exact ⟨_, _, h⟩
def ints (l : List Nat) : List Value := l.map fun (n : Nat) => Value.int .i64 (n : Int)
/-- A reader: the index, the states, the open captures. -/
structure RdS (b : Nat) (p : ByteArray) (k : Nat) (sts opn : List Nat) (st op : Value) (w : World) : Prop where
  rd : Rd b p k st op w
  s : w.ownsRow 0 3 1 st sts.length (ints sts)
  o : w.ownsRow 0 3 1 op opn.length (ints opn)
  n1 : b ∉ ob st
  n2 : b ∉ ob op
  so : ∀ g ∈ ob st, g ∉ ob op
theorem RdS.ch {b : Nat} {p : ByteArray} {k k' : Nat} {sts opn : List Nat} {st op : Value} {w w' : World} (h : RdS b p k sts opn st op w) (hc : Ch [b] w w') (hr : Rd b p k' st op w') : RdS b p k' sts opn st op w' :=
  ⟨hr, hc.own h.s (fun g hg e => h.n1 (by simp at e; rw [← e]; exact hg)), hc.own h.o (fun g hg e => h.n2 (by simp at e; rw [← e]; exact hg)), h.n1, h.n2, h.so⟩
/-- A slice lies where it lay, or in a new block. -/
def NewO (w : World) (a b : Value) : Prop := ∀ g ∈ ob b, g ∈ ob a ∨ w.heap.size ≤ g
theorem NewO.refl (w : World) (a : Value) : NewO w a a := fun g h => Or.inl h
/-- The function value of an item. -/
structure TVi (w w' : World) (it : Itm) (v st st' op op' : Value) : Prop where
  nil : ¬ (it.kind = 0 ∨ it.kind = 5) → v = .nilFunc
  tv : it.kind = 0 ∨ it.kind = 5 → TV w.heap.size w'.heap.size w' v it.P
  same : it.kind = 0 ∨ it.kind = 5 → st' = st ∧ op' = op
theorem TVi.no (w w' : World) (it : Itm) {st st' op op' : Value} (h : ¬ (it.kind = 0 ∨ it.kind = 5)) : TVi w w' it .nilFunc st st' op op' := ⟨fun _ => rfl, fun e => absurd e h, fun e => absurd e h⟩
theorem TVi.of {w w' : World} {it : Itm} {v st op : Value} (hk : it.kind = 0 ∨ it.kind = 5) (h : TV w.heap.size w'.heap.size w' v it.P) : TVi w w' it v st st op op := ⟨fun e => absurd hk e, fun _ => h, fun _ => ⟨rfl, rfl⟩⟩
/-- What reading an item leaves. -/
def ItSaid (b : Nat) (p : ByteArray) (res : Except Nat (Itm × Nat × List Nat × List Nat)) (st op : Value) (w : World) (e : Ending) (w' : World) : Prop := (match res with
  | .ok r => ∃ v st' op', e = .returned (.tuple #[.agg (itC r.1 v), .int .i64 0]) ∧ RdS b p r.2.1 r.2.2.1 r.2.2.2 st' op' w' ∧ NewO w st st' ∧ NewO w op op' ∧ TVi w w' r.1 v st st' op op'
  | .error c => e = .returned (.tuple #[.agg it0, .int .i64 (c : Int)])) ∧ Ch (b :: (ob st ++ ob op)) w w'
end Go.Proofs.YtkbcaklleiapdaaDoor
