/- Contracts of layer 4: a matcher; its steps. -/
import Derived.Test.YtkbcaklleiapdaaDoorPatR
namespace Go.Proofs.YtkbcaklleiapdaaDoor
open Go.RowKit M4
set_option linter.unusedVariables false
def capC (m : Caps) : List Value := m.flatMap fun c => [.int .i64 c.1, .int .i64 c.2]
theorem capC_len (m : Caps) : (capC m).length = 2 * m.length := by
  induction m with
  | nil => rfl
  | cons a m ih => unfold capC at *; rw [List.flatMap_cons, List.length_append, ih]; simp; omega
/-- What does not change while a pattern is matched: the string, the program, the function values, the list of items. -/
structure Env where
  N : Nat
  b : Nat
  cb : Nat
  mv : Nat
  s : ByteArray
  g : Pg
  vs : List Value
  iv : Value
/-- A matcher in memory. -/
structure Mat (E : Env) (m : Caps) (left : Int) (w : World) : Prop where
  blk : w.heap[E.b]? = some (.cells #[.string E.s, .bool E.g.start, .bool E.g.fin, E.iv, .int .i64 (E.g.caps : Int), .slice (some ⟨E.cb, 0, none⟩) E.g.caps E.g.caps, .int .i64 left, .func (.func 52) #[] #[.pointer (some ⟨E.mv, 0, none⟩)]] 82 (0, 0))
  cbk : w.heap[E.cb]? = some (.cells (capC m).toArray 43 (0, 0))
  mvk : w.heap[E.mv]? = some (.cells #[.pointer (some ⟨E.b, 0, none⟩)] 76 (0, 0))
  own : w.ownsRow 0 88 6 E.iv E.g.its.length (cellsI E.g.its E.vs)
  ivN : ∀ g ∈ ob E.iv, g < E.N
  len : E.vs.length = E.g.its.length
  tv : ∀ (j : Nat) (it : Itm) (v : Value), E.g.its[j]? = some it → E.vs[j]? = some v → it.kind = 0 ∨ it.kind = 5 → ∃ lo hi, hi ≤ E.N ∧ TV lo hi w v it.P
  nb : E.N ≤ E.b
  nc : E.N ≤ E.cb
  bc : E.b ≠ E.cb
  mb : E.mv ≠ E.b
  mc : E.mv ≠ E.cb
  ml : m.length = E.g.caps
theorem Mat.c {E : Env} {m : Caps} {left : Int} {w : World} (h : Mat E m left w) (i : Nat) : w.cell? ⟨E.b, i, none⟩ = (#[Value.string E.s, .bool E.g.start, .bool E.g.fin, E.iv, .int .i64 (E.g.caps : Int), .slice (some ⟨E.cb, 0, none⟩) E.g.caps E.g.caps, .int .i64 left, .func (.func 52) #[] #[.pointer (some ⟨E.mv, 0, none⟩)]] : Array Value)[i]? := by
  have := h.blk; simp [World.cell?, this]
theorem Mat.fz {E : Env} {m : Caps} {left : Int} {w : World} (h : Mat E m left w) (i : Nat) : w.frozen? ⟨E.b, i, none⟩ = false := by have := h.blk; simp [World.frozen?, this]
theorem Mat.cc {E : Env} {m : Caps} {left : Int} {w : World} (h : Mat E m left w) (i : Nat) : w.cell? ⟨E.cb, i, none⟩ = (capC m)[i]? := by
  have := h.cbk; simp [World.cell?, this]
theorem Mat.cf {E : Env} {m : Caps} {left : Int} {w : World} (h : Mat E m left w) (i : Nat) : w.frozen? ⟨E.cb, i, none⟩ = false := by have := h.cbk; simp [World.frozen?, this]
theorem Mat.mvc {E : Env} {m : Caps} {left : Int} {w : World} (h : Mat E m left w) : w.cell? ⟨E.mv, 0, none⟩ = some (.pointer (some ⟨E.b, 0, none⟩)) := by have := h.mvk; simp [World.cell?, this]
/-- Worlds in which a matcher's blocks alone have changed. -/
theorem Mat.ch {E : Env} {m m' : Caps} {left left' : Int} {w W : World} (h : Mat E m left w) (hc : Ch [E.b, E.cb] w W)
    (h1 : W.heap[E.b]? = some (.cells #[.string E.s, .bool E.g.start, .bool E.g.fin, E.iv, .int .i64 (E.g.caps : Int), .slice (some ⟨E.cb, 0, none⟩) E.g.caps E.g.caps, .int .i64 left', .func (.func 52) #[] #[.pointer (some ⟨E.mv, 0, none⟩)]] 82 (0, 0)))
    (h2 : W.heap[E.cb]? = some (.cells (capC m').toArray 43 (0, 0))) (h3 : m'.length = E.g.caps) : Mat E m' left' W := by
  have nb := h.nb
  have nc := h.nc
  refine ⟨h1, h2, ?_, hc.own h.own (fun g hg e => by have := h.ivN g hg; simp at e; omega), h.ivN, h.len, fun j it v e1 e2 e3 => ?_, nb, nc, h.bc, h.mb, h.mc, h3⟩
  · rw [hc.block E.mv (Array.getElem?_eq_some_iff.1 h.mvk).1 (by simp; exact ⟨h.mb, h.mc⟩)]; exact h.mvk
  · obtain ⟨lo, hi, e4, e5⟩ := h.tv j it v e1 e2 e3
    obtain ⟨hhi, _⟩ := e5.ex
    exact ⟨lo, hi, e4, e5.kept (hc.kp hhi (by intro g hg; simp at hg; right; omega))⟩
theorem Mat.same {E : Env} {m : Caps} {left : Int} {w W : World} (h : Mat E m left w) (hc : Ch [] w W) : Mat E m left W :=
  h.ch (hc.mono (by simp)) (by rw [hc.block E.b (Array.getElem?_eq_some_iff.1 h.blk).1 (by simp)]; exact h.blk) (by rw [hc.block E.cb (Array.getElem?_eq_some_iff.1 h.cbk).1 (by simp)]; exact h.cbk) h.ml
theorem Mat.drewN {E : Env} {m : Caps} {left : Int} {w : World} (h : Mat E m left w) (n : Nat) : Mat E m left (w.drewN n) := h.same ((Ch.refl [] w).drewN n)
theorem Mat.left {E : Env} {m : Caps} {left : Int} {w : World} (h : Mat E m left w) (left' : Int) (v : Value) (hv : v = .int .i64 left') : Mat E m left' (w.setCell ⟨E.b, 6, none⟩ v) := by
  subst hv
  have hc : Ch [E.b] w (w.setCell ⟨E.b, 6, none⟩ (.int .i64 left')) := (Ch.refl _ w).set E.b 6 _ (Or.inl (by simp))
  refine h.ch (hc.mono (by simp)) (set_same w E.b 6 _ _ _ h.blk) ?_ h.ml
  rw [hc.block E.cb (Array.getElem?_eq_some_iff.1 h.cbk).1 (by simp; exact fun e => h.bc e.symm)]; exact h.cbk
theorem items_cell {E : Env} {m : Caps} {left : Int} {w : World} (h : Mat E m left w) {j : Nat} {it : Itm} (hj : E.g.its[j]? = some it) : ∃ gi cap v, E.iv = .slice (some ⟨gi, 0, none⟩) E.g.its.length cap ∧ E.vs[j]? = some v ∧ ∀ i (hi : i < 6), w.cell? ⟨gi, j * 6 + i, none⟩ = (itC it v)[i]? := by
  have hjl := (List.getElem?_eq_some_iff.1 hj).1
  obtain ⟨gi, cap, hv⟩ := Joins.ownsRow_form h.own (by omega)
  have hvl : j < E.vs.length := by rw [h.len]; exact hjl
  refine ⟨gi, cap, E.vs[j], hv, List.getElem?_eq_getElem hvl, fun i hi => ?_⟩
  have ho := h.own
  rw [hv] at ho
  rw [Nat.mul_comm j 6, ho.cellAt (6 * j + i) (by omega)]
  -- the cells of the j-th item
  have key : ∀ (a : List Itm) (b : List Value) (j : Nat) (it : Itm) (v : Value), a[j]? = some it → b[j]? = some v → (cellsI a b)[6 * j + i]? = (itC it v)[i]? := by
    intro a
    induction a with
    | nil => intro b j it v h1; simp at h1
    | cons x a ih =>
      intro b j it v h1 h2
      cases b with
      | nil => simp at h2
      | cons y b =>
        have e : cellsI (x :: a) (y :: b) = (itC x y).toList ++ cellsI a b := rfl
        rw [e]
        cases j with
        | zero =>
          simp at h1 h2
          subst h1 h2
          rw [List.getElem?_append_left (by simp [itC]; omega)]
          simp
        | succ j =>
          rw [List.getElem?_append_right (by simp [itC]; omega)]
          rw [show 6 * (j + 1) + i - (itC x y).toList.length = 6 * j + i by simp [itC]; omega]
          exact ih b j it v (by simpa using h1) (by simpa using h2)
  exact key _ _ _ _ _ hj (List.getElem?_eq_getElem hvl)

set_option maxHeartbeats 1000000 in
theorem step_any (E : Env) (m : Caps) (left : Int) (w : World) (hl : -1000000000 ≤ left ∧ left ≤ 1000000000) (h : Mat E m left w) :
    Calls Tryd.prog 52 #[.pointer (some ⟨E.mv, 0, none⟩)] w fun e w' => e = .returned (.bool (decide (0 ≤ left - 1))) ∧ Mat E m (left - 1) w' ∧ Ch [E.b] w w' := by
  obtain ⟨l1, l2⟩ := hl
  have h0 := h.mvc
  have h6 := h.c 6
  have hf := h.fz 6
  simp at h6
  have hw := i64w (left - 1) (by omega)
  have HM := Lib.hid (h.left (left - 1) _ rfl)
  have HC := Lib.hid ((Ch.refl [E.b] w).set E.b 6 (.int .i64 (left - 1)) (Or.inl (by simp)))
  clear h
  by_cases hn : 0 ≤ left - 1
  · rw [decide_eq_true hn]
    have hn1 : 1 ≤ left := by omega
    have hnd : decide (0 ≤ left - 1) = true := decide_eq_true hn
    go_enter Tryd.func52, Tryd.ntmps52
    go_wp2
    go_ret
    exact ⟨rfl, HM.out, HC.out⟩
  · rw [decide_eq_false hn]
    have hn1 : ¬ 1 ≤ left := by omega
    have hnd : decide (0 ≤ left - 1) = false := decide_eq_false hn
    go_enter Tryd.func52, Tryd.ntmps52
    go_wp2
    go_ret
    exact ⟨rfl, HM.out, HC.out⟩
theorem exhausted_any (E : Env) (m : Caps) (left : Int) (w : World) (h : Mat E m left w) :
    Calls Tryd.prog 42 #[.pointer (some ⟨E.b, 0, none⟩)] w fun e w' => e = .returned (.bool (decide (left < 0))) ∧ w = w' := by
  have h6 := h.c 6
  simp at h6
  clear h
  by_cases hn : left < 0
  · rw [decide_eq_true hn]
    go_enter Tryd.func42, Tryd.ntmps42
    go_wp2
    go_ret
    exact ⟨rfl, rfl⟩
  · rw [decide_eq_false hn]
    go_enter Tryd.func42, Tryd.ntmps42
    go_wp2
    go_ret
    exact ⟨rfl, rfl⟩
set_option maxHeartbeats 2000000 in
set_option maxRecDepth 100000 in
theorem belongs_any (E : Env) (m : Caps) (left : Int) (j i : Nat) (it : Itm) (w : World) (hs : E.s.size ≤ 1000000) (hi : i ≤ E.s.size) (hl : E.g.its.length ≤ 1000000) (hj : E.g.its[j]? = some it) (hk : it.kind = 0) (h : Mat E m left w) :
    Calls Tryd.prog 79 #[.pointer (some ⟨E.b, 0, none⟩), .int .i64 (j : Int), .int .i64 (i : Int)] w fun e w' => e = .returned (.bool (belongs E.s.data.toList it.P i)) ∧ ∃ n, w' = w.drewN n := by
  have m0 := h.c 0
  have m3 := h.c 3
  simp at m0 m3
  have hjl := (List.getElem?_eq_some_iff.1 hj).1
  obtain ⟨gi, cap, v, hiv, hv, hcs⟩ := items_cell h hj
  obtain ⟨lo, hi', hN, hT⟩ := h.tv j it v hj hv (Or.inl hk)
  obtain ⟨_, F, fst, caps, hvf, hF, hC⟩ := hT.ex
  subst hvf
  rw [hiv] at m3
  have c1 := hcs 1 (by decide)
  simp [itC] at c1
  by_cases his : i < E.s.size
  · have hii : (i : Int) < (E.s.size : Int) := by omega
    have hii2 : 0 ≤ (i : Int) := by omega
    have hjj : (j : Int) < (E.g.its.length : Int) := by omega
    have hjj2 : 0 ≤ (j : Int) := by omega
    have hge := get_some E.s i his
    obtain ⟨c, hc⟩ : ∃ c, E.s[i] = c := ⟨_, rfl⟩
    have hci : (E.s[i].toNat : Int) = (c.toNat : Int) := by rw [hc]
    have hb : belongs E.s.data.toList it.P i = it.P c := by unfold belongs; rw [hge, hc]
    rw [hb]
    have C1 := Lib.hid fun n => (hC (w.drewN n) (Kp.below (Ch.drewN (Ch.refl [] w) n).below hT.ex.1) c)
    clear h hge hc hb hj hv hcs hT hC hiv
    go_enter Tryd.func79, Tryd.ntmps79
    go_wp2
    go_quiet ((go_at_fn F; exact Calls.quiet_of (C1.out _)))
    go_wp2
    go_ret
    exact ⟨rfl, _, rfl⟩
  · have hii : ¬ (i : Int) < (E.s.size : Int) := by omega
    have hb : belongs E.s.data.toList it.P i = false := by unfold belongs; rw [List.getElem?_eq_none (by simp; omega)]
    rw [hb]
    clear h hb hj hv hcs hT hC hiv
    go_enter Tryd.func79, Tryd.ntmps79
    go_wp2
    go_quiet (fail)
    go_wp2
    go_ret
    exact ⟨rfl, _, rfl⟩
end Go.Proofs.YtkbcaklleiapdaaDoor
