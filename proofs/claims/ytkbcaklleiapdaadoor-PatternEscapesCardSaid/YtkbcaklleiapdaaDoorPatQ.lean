/- Contracts of layer 4: a pattern: what holds while it is read. -/
import Derived.Test.YtkbcaklleiapdaaDoorPatK
import Derived.OwnWalk
import Derived.Maps.AppendAt
import Derived.Laws.OwnMore
namespace Go.Proofs.YtkbcaklleiapdaaDoor
open Go.RowKit M4
set_option linter.unusedVariables false
def cellsI (its : List Itm) (vs : List Value) : List Value := (its.zip vs).flatMap fun u => (itC u.1 u.2).toList
theorem cellsI_snoc (its : List Itm) (vs : List Value) (it : Itm) (v : Value) (h : vs.length = its.length) : cellsI (its ++ [it]) (vs ++ [v]) = cellsI its vs ++ (itC it v).toList := by
  unfold cellsI
  rw [List.zip_append h.symm]; simp
/-- What holds at the head of the loop. R: the result's block; O: the program's; b: the reader's. -/
structure RdInv (w : World) (R O b : Nat) (p : ByteArray) (start : Bool) (k : Nat) (sts opn : List Nat) (its : List Itm) (vs : List Value) (iv st op : Value) (wr : World) : Prop where
  rs : RdS b p k sts opn st op wr
  ok : Rok sts opn its
  out : wr.heap[O]? = some (.cells #[.bool start, .bool false, iv, .int .i64 0] 49 (0, 0))
  res : wr.heap[R]? = some (.cells #[.bool false, .bool false, .slice none 0 0, .int .i64 0] 49 (0, 0))
  own : wr.ownsRow 0 88 6 iv its.length (cellsI its vs)
  len : vs.length = its.length
  tv : ∀ (j : Nat) (it : Itm) (v : Value), its[j]? = some it → vs[j]? = some v → it.kind = 0 ∨ it.kind = 5 → ∃ lo hi, TV lo hi wr v it.P ∧ (R < lo ∨ hi ≤ R) ∧ (O < lo ∨ hi ≤ O) ∧ (b < lo ∨ hi ≤ b) ∧ ∀ g, g ∈ ob st ∨ g ∈ ob op ∨ g ∈ ob iv → g < lo ∨ hi ≤ g
  ne1 : R < O
  ne2 : O < b
  new : w.heap.size ≤ R
  bl : b < wr.heap.size
  st1 : ∀ g, g ∈ ob st ∨ g ∈ ob op ∨ g ∈ ob iv → b < g ∧ g < wr.heap.size
  dis : ∀ g ∈ ob iv, g ∉ ob st ∧ g ∉ ob op
  be : Below w.heap.size w wr
  kle : k ≤ p.size
theorem RdInv.next {w : World} {R O b : Nat} {p : ByteArray} {start : Bool} {k : Nat} {sts opn : List Nat} {its : List Itm} {vs : List Value} {iv st op : Value} {wr : World} (h : RdInv w R O b p start k sts opn its vs iv st op wr) {r : Itm × Nat × List Nat × List Nat} (hr : itemF p.data.toList k sts opn = .ok r) {v st' op' iv' : Value} {w2 W0 w3 W : World}
    (hrs : RdS b p r.2.1 r.2.2.1 r.2.2.2 st' op' w2) (n1 : NewO wr st st') (n2 : NewO wr op op') (ht : TVi wr w2 r.1 v st st' op op') (hc : Ch (b :: (ob st ++ ob op)) wr w2) (ha : Ch [] w2 W0) (hg : Ch (ob iv) W0 w3)
    (ho : w3.ownsRow 0 88 6 iv' (its.length + 1) (cellsI its vs ++ (itC r.1 v).toList)) (n3 : ∀ g ∈ ob iv', g ∈ ob iv ∨ W0.heap.size ≤ g) (hW : w3.setCell ⟨O, 2, none⟩ iv' = W) : RdInv w R O b p start r.2.1 r.2.2.1 r.2.2.2 (its ++ [r.1]) (vs ++ [v]) iv' st' op' W := by
  have ne1 := h.ne1
  have ne2 := h.ne2
  have bl := h.bl
  have z1 := hc.size
  have z2 := ha.size
  have z3 := hg.size
  have hcO : Ch [O] w3 W := by rw [← hW]; exact (Ch.refl [O] w3).set O 2 _ (Or.inl (by simp))
  have z4 := hcO.size
  have ivl : ∀ g ∈ ob iv, b < g ∧ g < wr.heap.size := fun g hg => h.st1 g (Or.inr (Or.inr hg))
  have stl : ∀ g ∈ ob st, b < g ∧ g < wr.heap.size := fun g hg => h.st1 g (Or.inl hg)
  have opl : ∀ g ∈ ob op, b < g ∧ g < wr.heap.size := fun g hg => h.st1 g (Or.inr (Or.inl hg))
  have st'l : ∀ g ∈ ob st', (g ∈ ob st ∨ wr.heap.size ≤ g) ∧ g < w2.heap.size := fun g hg => ⟨n1 g hg, own_lt hrs.s hg⟩
  have op'l : ∀ g ∈ ob op', (g ∈ ob op ∨ wr.heap.size ≤ g) ∧ g < w2.heap.size := fun g hg => ⟨n2 g hg, own_lt hrs.o hg⟩
  have iv'l : ∀ g ∈ ob iv', (g ∈ ob iv ∨ w2.heap.size ≤ g) ∧ g < w3.heap.size := fun g hg => ⟨(n3 g hg).imp id (fun e => by omega), own_lt ho hg⟩
  -- from the item on
  have h2W : Ch (O :: ob iv) w2 W := ((ha.mono (by simp)).trans (hg.mono (by intro g hg; simp [hg]))).trans (hcO.mono (by simp))
  have hrW : Ch (O :: b :: (ob st ++ ob op ++ ob iv)) wr W := (hc.mono (by intro g hg; simp at hg ⊢; rcases hg with e | e | e <;> simp [e])).trans (h2W.mono (by intro g hg; simp at hg ⊢; rcases hg with e | e <;> simp [e]))
  have nst : ∀ g ∈ ob st', g ∉ O :: ob iv := fun g hg e => by
    simp at e
    rcases (st'l g hg).1 with h5 | h5
    · have := stl g h5
      rcases e with e | e
      · omega
      · exact (h.dis g e).1 h5
    · rcases e with e | e
      · omega
      · have := ivl g e; omega
  have nop : ∀ g ∈ ob op', g ∉ O :: ob iv := fun g hg e => by
    simp at e
    rcases (op'l g hg).1 with h5 | h5
    · have := opl g h5
      rcases e with e | e
      · omega
      · exact (h.dis g e).2 h5
    · rcases e with e | e
      · omega
      · have := ivl g e; omega
  have nb : b ∉ O :: ob iv := fun e => by
    simp at e
    rcases e with e | e
    · omega
    · have := ivl b e; omega
  have niO : ∀ g ∈ ob iv', g ∉ [O] := fun g hg e => by
    simp at e
    rcases (iv'l g hg).1 with h5 | h5
    · have := ivl g h5; omega
    · omega
  have hO3 : w3.heap[O]? = some (.cells #[.bool start, .bool false, iv, .int .i64 0] 49 (0, 0)) := by
    rw [hg.block O (by omega) (fun e => by have := ivl O e; omega), ha.block O (by omega) (by simp), hc.block O (by omega) (by
      intro e; simp at e
      rcases e with e | e | e
      · omega
      · have := stl O e; omega
      · have := opl O e; omega)]
    exact h.out
  refine ⟨⟨hrs.rd.ch h2W nb, h2W.own hrs.s nst, h2W.own hrs.o nop, hrs.n1, hrs.n2, hrs.so⟩, h.ok.step hr, ?_, ?_, ?_, ?_, ?_, ne1, ne2, h.new, by omega, ?_, ?_, ?_, by have := (item_lt hr).2; simpa using this⟩
  · rw [← hW]; exact set_same w3 O 2 _ _ _ hO3
  · rw [hrW.block R (by omega) (by
      intro e; simp at e
      rcases e with e | e | e | e | e
      · omega
      · omega
      · have := stl R e; omega
      · have := opl R e; omega
      · have := ivl R e; omega)]
    exact h.res
  · rw [cellsI_snoc _ _ _ _ h.len, List.length_append]; exact hcO.own ho niO
  · rw [List.length_append, List.length_append, h.len]; rfl
  · intro j it u hj hu hk
    by_cases hjl : j < its.length
    · rw [List.getElem?_append_left hjl] at hj
      rw [List.getElem?_append_left (by rw [h.len]; exact hjl)] at hu
      obtain ⟨lo, hi, t1, t2, t3, t4, t5⟩ := h.tv j it u hj hu hk
      obtain ⟨hhi, _⟩ := t1.ex
      refine ⟨lo, hi, t1.kept (hrW.kp hhi ?_), t2, t3, t4, ?_⟩
      · intro g hg
        simp at hg
        rcases hg with e | e | e | e | e
        · rw [e]; exact t3
        · rw [e]; exact t4
        · exact t5 g (Or.inl e)
        · exact t5 g (Or.inr (Or.inl e))
        · exact t5 g (Or.inr (Or.inr e))
      · intro g hg
        rcases hg with e | e | e
        · rcases (st'l g e).1 with e | e
          · exact t5 g (Or.inl e)
          · right; omega
        · rcases (op'l g e).1 with e | e
          · exact t5 g (Or.inr (Or.inl e))
          · right; omega
        · rcases (iv'l g e).1 with e | e
          · exact t5 g (Or.inr (Or.inr e))
          · right; omega
    · have hj2 : j = its.length := by
        have := (List.getElem?_eq_some_iff.1 hj).1
        rw [List.length_append, List.length_singleton] at this; omega
      subst hj2
      rw [List.getElem?_append_right (by omega)] at hj
      rw [List.getElem?_append_right (by rw [h.len]; omega)] at hu
      simp at hj
      rw [h.len] at hu
      simp at hu
      subst hj hu
      obtain ⟨e1, e2⟩ := ht.same hk
      subst e1 e2
      refine ⟨wr.heap.size, w2.heap.size, (ht.tv hk).kept (h2W.kp (Nat.le_refl _) ?_), Or.inl (by omega), Or.inl (by omega), Or.inl (by omega), ?_⟩
      · intro g hg
        simp at hg
        rcases hg with e | e
        · left; omega
        · have := ivl g e; left; omega
      · intro g hg
        rcases hg with e | e | e
        · have := stl g e; left; omega
        · have := opl g e; left; omega
        · rcases (iv'l g e).1 with e | e
          · have := ivl g e; left; omega
          · right; omega
  · intro g hg
    rcases hg with e | e | e
    · rcases st'l g e with ⟨e1 | e1, e2⟩
      · have := stl g e1; omega
      · omega
    · rcases op'l g e with ⟨e1 | e1, e2⟩
      · have := opl g e1; omega
      · omega
    · rcases iv'l g e with ⟨e1 | e1, e2⟩
      · have := ivl g e1; omega
      · omega
  · intro g hg
    rcases (iv'l g hg).1 with e | e
    · refine ⟨fun e2 => ?_, fun e2 => ?_⟩
      · rcases (st'l g e2).1 with e3 | e3
        · exact (h.dis g e).1 e3
        · have := ivl g e; omega
      · rcases (op'l g e2).1 with e3 | e3
        · exact (h.dis g e).2 e3
        · have := ivl g e; omega
    · exact ⟨fun e2 => by have := (st'l g e2).2; omega, fun e2 => by have := (op'l g e2).2; omega⟩
  · have hb := h.be
    have hn := h.new
    have hz := hb.size
    exact ⟨hrW.os.trans hb.os, hrW.tape.trans hb.tape, hrW.output.trans hb.output, by omega, fun g hg => (hrW.block g (by omega) (by
      intro e; simp at e
      rcases e with e | e | e | e | e
      · omega
      · omega
      · have := stl g e; omega
      · have := opl g e; omega
      · have := ivl g e; omega)).trans (hb.block g hg)⟩
end Go.Proofs.YtkbcaklleiapdaaDoor
