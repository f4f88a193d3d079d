/- Layer 17: contracts of the code's stack, for a stack that the law has made. -/
import Derived.Test.YtibggoikjlnnkaaDoorStkG
namespace Go.Proofs.YtibggoikjlnnkaaDoor
open Go.RowKit Go.Joins M1
set_option linter.unusedVariables false
def SkW (T : TypeId) (w : World) (t : Nat) (l : List V5) (lim : Nat) (W : World) : Prop := ∃ va, Sk T w.heap.size t va l lim W ∧ Ch [] w W
theorem SkW.step {T : TypeId} {w W W' : World} {t lim : Nat} {l : List V5} (h : SkW T w t l lim W) (hc : Ch [] W W') : SkW T w t l lim W' := by
  obtain ⟨va, h1, h2⟩ := h
  exact ⟨va, h1.ch0 hc, h2.trans hc⟩
theorem SkW.said {T : TypeId} {w W W' : World} {t lim : Nat} {va : Value} {l : List V5} {l' : List V5} (h1 : Sk T w.heap.size t va l lim W) (h2 : Ch [] w W) (h : SkSaid T w.heap.size t va l' lim W W') : SkW T w t l' lim W' := by
  obtain ⟨⟨va', k1, _⟩, k3⟩ := h
  exact ⟨va', k1, h2.fresh (fun g hg => (h1.lt g hg).1) k3⟩
theorem SkW.ch {T : TypeId} {w W : World} {t lim : Nat} {l : List V5} (h : SkW T w t l lim W) : Ch [] w W := by
  obtain ⟨va, _, h2⟩ := h; exact h2
theorem SkW.len {T : TypeId} {w W : World} {t lim : Nat} {l : List V5} (h : SkW T w t l lim W) : l.length ≤ lim ∧ lim ≤ 1000 := by
  obtain ⟨va, h1, _⟩ := h; exact ⟨h1.le, h1.top⟩
theorem wpush {w W : World} {t lim : Nat} {l : List V5} (h : SkW 39 w t l lim W) (x : V5) :
    Calls Tryd.prog 6 #[.pointer (some ⟨t, 0, none⟩), .agg #[.int .i64 x.k, .int .i64 x.p, .int .i64 x.q, .string x.s, .int .i64 x.r]] W fun e w' => e = .returned (.int .i64 (pushE l lim x)) ∧ SkW 39 w t (pushL l lim x) lim w' := by
  obtain ⟨va, h1, h2⟩ := h
  refine (push_all _ t va l lim W h1 x h2.size).mono ?_
  rintro e w' ⟨rfl, hs⟩
  exact ⟨rfl, SkW.said h1 h2 hs⟩
theorem wpop {w W : World} {t lim : Nat} {l : List V5} (h : SkW 39 w t l lim W) (n : Int) :
    Calls Tryd.prog 12 #[.pointer (some ⟨t, 0, none⟩), .int .i64 n] W fun e w' => e = .returned (.int .i64 (popE l n)) ∧ SkW 39 w t (popL l n) lim w' := by
  obtain ⟨va, h1, h2⟩ := h
  refine (pop_all _ t va l lim W h1 n).mono ?_
  rintro e w' ⟨rfl, hs⟩
  exact ⟨rfl, SkW.said h1 h2 hs⟩
theorem winsert {w W : World} {t lim : Nat} {l : List V5} (h : SkW 39 w t l lim W) (i : Int) :
    Calls Tryd.prog 13 #[.pointer (some ⟨t, 0, none⟩), .int .i64 i] W fun e w' => e = .returned (.int .i64 (atE l i)) ∧ SkW 39 w t (rotateL l i 1) lim w' := by
  obtain ⟨va, h1, h2⟩ := h
  refine (insert_all _ t va l lim W h1 i h2.size).mono ?_
  rintro e w' ⟨rfl, hs⟩
  exact ⟨rfl, SkW.said h1 h2 hs⟩
theorem wrotate {w W : World} {t lim : Nat} {l : List V5} (h : SkW 39 w t l lim W) (i n : Int) :
    Calls Tryd.prog 28 #[.pointer (some ⟨t, 0, none⟩), .int .i64 i, .int .i64 n] W fun e w' => e = .returned (.int .i64 (atE l i)) ∧ SkW 39 w t (rotateL l i n) lim w' := by
  obtain ⟨va, h1, h2⟩ := h
  refine (rotate_all _ t va l lim W h1 i n h2.size).mono ?_
  rintro e w' ⟨rfl, hs⟩
  exact ⟨rfl, SkW.said h1 h2 hs⟩
theorem wabs {w W : World} {t lim : Nat} {l : List V5} (h : SkW 39 w t l lim W) (i : Int) :
    Calls Tryd.prog 16 #[.pointer (some ⟨t, 0, none⟩), .int .i64 i] W fun e w' => e = .returned (.tuple #[.int .i64 (absV l i), .int .i64 (atE l i)]) ∧ SkW 39 w t l lim w' := by
  obtain ⟨va, h1, h2⟩ := h
  refine (abs_all _ t va l lim W h1 i).mono ?_
  rintro e w' ⟨rfl, rfl⟩
  exact ⟨rfl, ⟨va, h1, h2⟩⟩
theorem wat {w W : World} {t lim : Nat} {l : List V5} (h : SkW 39 w t l lim W) (i : Int) :
    Calls Tryd.prog 8 #[.pointer (some ⟨t, 0, none⟩), .int .i64 i] W fun e w' => e = .returned (.tuple #[.agg #[.int .i64 (atV l i).k, .int .i64 (atV l i).p, .int .i64 (atV l i).q, .string (atV l i).s, .int .i64 (atV l i).r], .int .i64 (atE l i)]) ∧ SkW 39 w t l lim w' ∧ Below W.heap.size W w' := by
  obtain ⟨va, h1, h2⟩ := h
  refine (at_all _ t va l lim W h1 i).mono ?_
  rintro e w' ⟨rfl, hs⟩
  exact ⟨rfl, SkW.step ⟨va, h1, h2⟩ (Ch.of_below hs), hs⟩
theorem wtop {w W : World} {t lim : Nat} {l : List V5} (h : SkW 39 w t l lim W) :
    Calls Tryd.prog 17 #[.pointer (some ⟨t, 0, none⟩)] W fun e w' => e = .returned (.int .i64 (l.length : Int)) ∧ SkW 39 w t l lim w' := by
  obtain ⟨va, h1, h2⟩ := h
  refine (top_any _ t va l lim W h1).mono ?_
  rintro e w' ⟨rfl, rfl⟩
  exact ⟨rfl, ⟨va, h1, h2⟩⟩
theorem wlist {w W : World} {t lim : Nat} {l : List V5} (h : SkW 39 w t l lim W) :
    Calls Tryd.prog 15 #[.pointer (some ⟨t, 0, none⟩)] W fun e w' => (∃ v', e = .returned v' ∧ w'.ownsRow W.heap.size 25 5 v' l.length (l.flatMap vC)) ∧ SkW 39 w t l lim w' ∧ Ch [] W w' := by
  obtain ⟨va, h1, h2⟩ := h
  refine (list_any _ t va l lim W h1).mono ?_
  rintro e w' ⟨hv, hs⟩
  exact ⟨hv, SkW.step ⟨va, h1, h2⟩ (Ch.of_below hs), Ch.of_below hs⟩
theorem wnew (n : Nat) (w W : World) (hc : Ch [] w W) (h1 : 1 ≤ n) (h2 : n ≤ 1000) :
    Calls Tryd.prog 4 #[.int .i64 (n : Int)] W fun e w' => ∃ t, e = .returned (.tuple #[.pointer (some ⟨t, 0, none⟩), .int .i64 0]) ∧ SkW 39 w t [] n w' := by
  refine (sknew_ok w.heap.size n W hc.size h1 h2).mono ?_
  rintro e w' ⟨rfl, hs, hb⟩
  exact ⟨_, rfl, ⟨_, hs, hc.trans (Ch.of_below hb)⟩⟩
def nV (n : Int) : V5 := ⟨2, n, 1, ⟨#[]⟩, 0⟩
def aw (k : Nat) : List V5 := (List.range k).map (fun (i : Nat) => nV ((i : Int) + 1))
theorem aw_facts : pushE (aw 4) 4 (nV 5) = 17 ∧ popE (aw 4) 5 = 18 ∧ atE (aw 4) 2 = 0 ∧ rotateL (aw 4) 2 1 = [nV 1, nV 4, nV 2, nV 3] ∧ pushL (aw 4) 4 (nV 5) = aw 4 ∧ popL (aw 4) 5 = aw 4 := by decide +kernel
theorem aw_push (k : Nat) (hk : k < 4) : pushE (aw k) 4 (nV ((k : Int) + 1)) = 0 ∧ pushL (aw k) 4 (nV ((k : Int) + 1)) = aw (k + 1) := by
  match k, hk with
  | 0, _ => decide +kernel
  | 1, _ => decide +kernel
  | 2, _ => decide +kernel
  | 3, _ => decide +kernel
theorem aw_end : absV [nV 1, nV 4, nV 2, nV 3] (-2) = 3 ∧ atE [nV 1, nV 4, nV 2, nV 3] (-2) = 0 ∧ atV [nV 1, nV 4, nV 2, nV 3] (-2) = nV 2 := by decide +kernel
end Go.Proofs.YtibggoikjlnnkaaDoor
