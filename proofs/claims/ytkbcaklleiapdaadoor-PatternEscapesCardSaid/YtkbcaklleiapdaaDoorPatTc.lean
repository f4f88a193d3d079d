/- What some laws of layer 4 begin with: the answers of At and Find. -/
import Derived.Test.YtkbcaklleiapdaaDoorPatTb
namespace Go.Proofs.YtkbcaklleiapdaaDoor
open Go.RowKit Go.Joins M4
set_option linter.unusedVariables false
/-- An answer: a match or the zero one, whether there is one, an error. -/
def An (fr tt n : Nat) (m : Caps) (ok : Bool) (ec : Int) (W : World) (e : Ending) (w' : World) : Prop :=
  (∃ q c, e = .returned (.tuple #[.agg #[.int .i64 (fr : Int), .int .i64 (tt : Int), .slice q n c], .bool ok, .int .i64 ec]) ∧ w'.ownsRow 0 43 2 (.slice q n c) n (capC m)) ∧ Below W.heap.size W w'
theorem an_none {n sz : Nat} {W : World} {e : Ending} {w' : World} (h : FirstSaid none n sz e w' ∧ Below W.heap.size W w') : An 0 0 0 [] false 3 W e w' :=
  ⟨⟨none, 0, h.1, World.ownsRow_nil _ _ _ _⟩, h.2⟩
theorem an_no {n sz : Nat} {W : World} {e : Ending} {w' : World} (h : FirstSaid (some none) n sz e w' ∧ Below W.heap.size W w') : An 0 0 0 [] false 0 W e w' :=
  ⟨⟨none, 0, h.1, World.ownsRow_nil _ _ _ _⟩, h.2⟩
theorem an_yes {n sz : Nat} {m : Mt} {W : World} {e : Ending} {w' : World} (h : FirstSaid (some (some m)) n sz e w' ∧ Below W.heap.size W w') : An m.fr m.to n m.caps true 0 W e w' := by
  obtain ⟨⟨p, c, h1, h2, h3⟩, h4⟩ := h
  exact ⟨⟨p, c, h1, h2⟩, h4⟩
theorem an_err {c : Int} {W : World} {e : Ending} {w' : World} (h : e = .returned (.tuple #[.agg mt0, .bool false, .int .i64 c]) ∧ Below W.heap.size W w') : An 0 0 0 [] false c W e w' :=
  ⟨⟨none, 0, h.1, World.ownsRow_nil _ _ _ _⟩, h.2⟩
theorem zero_get (s : ByteArray) (h : 0 < s.size) : s.data.toList[0]? = some s[0] := by
  rw [List.getElem?_eq_getElem (by simpa using h)]; rfl
theorem zero_none (s : ByteArray) (h : s.size = 0) : s.data.toList[0]? = none := List.getElem?_eq_none (by simp [h])
theorem not_empty (s : ByteArray) (h : 0 < s.size) : s.toList.isEmpty = false := by
  rw [Lib.toList_data, List.isEmpty_eq_false_iff]
  exact fun e => (show ¬ s.size = 0 by omega) (by have := congrArg List.length e; simpa using this)
theorem read_start {l : List UInt8} {g : Pg} (h : readF l = .ok g) : g.start = decide (l[0]? = some 94) := (readF_ok h).2.2.2
/-- At, where the items match or do not. -/
theorem ata_no (s p : ByteArray) (i : Nat) (W : World) (hp : p.size ≤ 1000000) (hs : s.size ≤ 1000000) (g : Pg) (hr : readF p.data.toList = .ok g) (hi : i ≤ s.size) (h : (atM s.data.toList g i).1 = none ∧ (atM s.data.toList g i).2 ≤ 100000) :
    Calls Tryd.prog 17 #[.string s, .string p, .int .i64 (i : Int)] W (An 0 0 0 [] false 0 W) := by
  have h1 := at_fn s p i W hp hs g hr hi
  rw [first_one h.2, h.1] at h1
  exact h1.mono fun e w' h => an_no h
theorem ata_yes (s p : ByteArray) (i : Nat) (W : World) (hp : p.size ≤ 1000000) (hs : s.size ≤ 1000000) (g : Pg) (hr : readF p.data.toList = .ok g) (hi : i ≤ s.size) (too : Nat) (cs : Caps) (h : (atM s.data.toList g i).1 = some (too, cs) ∧ (atM s.data.toList g i).2 ≤ 100000) :
    Calls Tryd.prog 17 #[.string s, .string p, .int .i64 (i : Int)] W (An i too g.caps cs true 0 W) := by
  have h1 := at_fn s p i W hp hs g hr hi
  rw [first_one h.2, h.1] at h1
  exact h1.mono fun e w' h => an_yes h
/-- Two answers that are the same, each in a block. -/
theorem same_an {fr tt n : Nat} {m : Caps} {q q' : Option Addr} {c c' : Nat} {w1 w2 W : World} (hm : m.length = n) (h16 : n ≤ 16) (o1 : w1.ownsRow 0 43 2 (.slice q n c) n (capC m)) (o2 : w2.ownsRow 0 43 2 (.slice q' n c') n (capC m)) (c1 : Ch [] w1 W) (c2 : Ch [] w2 W) :
    Calls Tryd.prog 18 #[.agg #[.int .i64 (fr : Int), .int .i64 (tt : Int), .slice q n c], .agg #[.int .i64 (fr : Int), .int .i64 (tt : Int), .slice q' n c']] W fun e w' => e = .returned (.bool true) ∧ Below W.heap.size W w' :=
  same_yes (fr : Int) (tt : Int) q q' n c c' m W hm h16 (c1.own o1 (by simp)) (c2.own o2 (by simp))
end Go.Proofs.YtkbcaklleiapdaaDoor
