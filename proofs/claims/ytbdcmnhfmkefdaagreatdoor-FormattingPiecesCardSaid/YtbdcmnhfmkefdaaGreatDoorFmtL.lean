/- The laws of layer 9: the chapter's small case. -/
import Derived.Test.YtbdcmnhfmkefdaaGreatDoorFmtK
namespace Go.Proofs.YtbdcmnhfmkefdaaGreatDoor
open Go.RowKit Go.Joins M1 M2 M9
set_option linter.unusedVariables false
/-- Five stores: a value is stored whole. -/
def st5 (W : World) (R : Nat) (a0 a1 a2 a3 a4 : Value) : World := ((((W.setCell ⟨R, 0, none⟩ a0).setCell ⟨R, 1, none⟩ a1).setCell ⟨R, 2, none⟩ a2).setCell ⟨R, 3, none⟩ a3).setCell ⟨R, 4, none⟩ a4
theorem num9 (p q : Int) (w : World) :
    Calls Tryz.prog 26 #[.int .i64 p, .int .i64 q] w fun e w' => e = .returned (.agg #[.int .i64 2, .int .i64 p, .int .i64 q, .string ⟨#[]⟩, .int .i64 0]) ∧ Below w.heap.size w w' := by
  go_enter Tryz.func26, Tryz.ntmps26
  go_wp2
  refine bodyPost_ret (v := .agg #[.int .i64 2, .int .i64 p, .int .i64 q, .string ⟨#[]⟩, .int .i64 0]) (by simp [results, Tryz.results26, go_sem]) rfl ⟨rfl, (Below.refl _ _).alloc (Nat.le_refl _) _⟩
theorem str9 (s : ByteArray) (w : World) :
    Calls Tryz.prog 22 #[.string s] w fun e w' => e = .returned (.agg #[.int .i64 3, .int .i64 0, .int .i64 0, .string s, .int .i64 0]) ∧ Below w.heap.size w w' := by
  go_enter Tryz.func22, Tryz.ntmps22
  go_wp2
  refine bodyPost_ret (v := .agg #[.int .i64 3, .int .i64 0, .int .i64 0, .string s, .int .i64 0]) (by simp [results, Tryz.results22, go_sem]) rfl ⟨rfl, (Below.refl _ _).alloc (Nat.le_refl _) _⟩
def liveF : List UInt8 := [37, 48, 53, 100, 124, 37, 46, 50, 102, 124, 37, 45, 52, 115, 124]
def liveR : List UInt8 := [45, 48, 48, 52, 50, 124, 48, 46, 51, 51, 124, 97, 98, 32, 32, 124]
def liveA : List Ar := [⟨2, -42, 1, ⟨#[]⟩, 0⟩, ⟨2, 1, 3, ⟨#[]⟩, 0⟩, ⟨3, 0, 0, ⟨#[97, 98]⟩, 0⟩]
deriving instance DecidableEq for Except
theorem live_lit : formatF liveF (liveA.map Ar.vl) = .ok liveR := by decide +kernel
def arC (a : Ar) : List Value := [.int .i64 a.kind, .int .i64 a.p, .int .i64 a.q, .string a.s, .int .i64 a.ref]
theorem flat5_at (l : List Ar) : ∀ (k i : Nat) (hk : k < l.length) (hi : i < 5), (l.flatMap arC)[k * 5 + i]? = (arC l[k])[i]? := by
  induction l with
  | nil => intro k i hk; simp at hk
  | cons p l ih =>
    intro k i hk hi
    cases k with
    | zero =>
      rw [List.flatMap_cons, List.getElem?_append_left (by simp [arC]; omega)]; simp
    | succ k =>
      rw [List.flatMap_cons, List.getElem?_append_right (by simp [arC]; omega), show (k + 1) * 5 + i - (arC p).length = k * 5 + i by simp [arC]; omega]
      exact ih k i (by simpa using hk) hi
/-- Arguments in a block of their own. -/
theorem args_blk {w : World} {g c n : Nat} {l : List Ar} (h : Blk 46 g (l.flatMap arC).toArray w) (hn : n = l.length) : Args w (.slice (some ⟨g, 0, none⟩) n c) l := by
  subst hn
  refine ⟨_, _, rfl, fun h0 => ⟨g, 0, rfl, h.lt, fun j hj => ?_⟩⟩
  have key : ∀ i, i < 5 → w.cell? ⟨g, j * 5 + i, none⟩ = (arC l[j])[i]? := fun i hi => by
    rw [h.cell, List.getElem?_toArray]; exact flat5_at l j i hj hi
  rw [Nat.zero_add]
  exact ⟨key 0 (by decide), key 1 (by decide), key 2 (by decide), key 3 (by decide), key 4 (by decide)⟩
theorem args_nil (w : World) (c : Nat) : Args w (.slice none 0 c) [] := ⟨_, _, rfl, fun h => absurd h (by decide)⟩
set_option maxHeartbeats 4000000 in
set_option maxRecDepth 100000 in
theorem lives9 (w : World) (he : E9 w) :
    Calls Tryz.prog 11 #[] w fun e w' => e = .returned (.bool true) ∧ Below w.heap.size w w' := by
  have Q1 := Lib.hid fun w => num9 (-42) 1 w
  have Q2 := Lib.hid fun w => num9 1 3 w
  have Q3 := Lib.hid fun w => str9 ⟨#[97, 98]⟩ w
  have QF : Hid (∀ W, Below w.heap.size w W → Calls Tryz.prog 15 #[.string ⟨#[37, 48, 53, 100, 124, 37, 46, 50, 102, 124, 37, 45, 52, 115, 124]⟩, .slice (some ⟨W.heap.size, 0, none⟩) 3 3] (W.alloc (.cells #[.int .i64 2, .int .i64 (-42), .int .i64 1, .string ⟨#[]⟩, .int .i64 0, .int .i64 2, .int .i64 1, .int .i64 3, .string ⟨#[]⟩, .int .i64 0, .int .i64 3, .int .i64 0, .int .i64 0, .string ⟨#[97, 98]⟩, .int .i64 0] 46)) fun e w' => e = .returned (.tuple #[.string ⟨#[45, 48, 48, 52, 50, 124, 48, 46, 51, 51, 124, 97, 98, 32, 32, 124]⟩, .int .i64 0, .int .i64 0]) ∧ Below w.heap.size w w') := Lib.hid fun W hb => by
    have hB : Blk 46 W.heap.size (liveA.flatMap arC).toArray (W.alloc (.cells (liveA.flatMap arC).toArray 46)) := Blk.new _ _ _ _ rfl
    have h1 := format_any ⟨#[37, 48, 53, 100, 124, 37, 46, 50, 102, 124, 37, 45, 52, 115, 124]⟩ (.slice (some ⟨W.heap.size, 0, none⟩) 3 3) liveA (W.alloc (.cells (liveA.flatMap arC).toArray 46)) ((he.on hb).alloc _) (by decide) (args_blk hB rfl) (by decide) (by decide)
    rw [show formatF (⟨#[37, 48, 53, 100, 124, 37, 46, 50, 102, 124, 37, 45, 52, 115, 124]⟩ : ByteArray).data.toList (liveA.map Ar.vl) = .ok liveR from live_lit] at h1
    exact h1.mono fun e w' ⟨h2, h3⟩ => ⟨h2, (hb.alloc hb.size _).trans (h3.mono (by have := hb.size; simp; omega))⟩
  clear he
  go_enter Tryz.func11, Tryz.ntmps11
  go_wp2_with (first | (go_at_call 26; (with_reducible refine (Q1.out _).mono ?_); rintro e w1 ⟨rfl, hb1⟩) | (go_at_call 26; (with_reducible refine (Q2.out _).mono ?_); rintro e w2 ⟨rfl, hb2⟩) | (go_at_call 22; (with_reducible refine (Q3.out _).mono ?_); rintro e w3 ⟨rfl, hb3⟩; have H3 := Lib.hid ((hb1.trans (hb2.mono hb1.size)).trans (hb3.mono (Nat.le_trans hb1.size hb2.size)))) | (go_at_call 15; (with_reducible refine (QF.out _ H3.out).mono ?_); rintro e w4 ⟨rfl, hb4⟩))
  go_ret
  exact ⟨rfl, hb4⟩
end Go.Proofs.YtbdcmnhfmkefdaaGreatDoor
