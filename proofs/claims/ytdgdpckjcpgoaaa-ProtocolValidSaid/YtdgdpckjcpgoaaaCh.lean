/- Memory: what has changed, blocks. -/
import Derived.Test.YtdgdpckjcpgoaaaProg
import Derived.WalkKit
import Derived.Below
import Derived.OwnWalk
import Derived.OneCell
import Derived.KernelRfl
import Derived.Lib.Hide
import Derived.Lib.SmallJoins
import Derived.Lib.OthersKept
namespace Go.Proofs.Ytdgdpckjcpgoaaa
open Go.RowKit
set_option linter.unusedVariables false
theorem heap_new (w : World) (o : Obj) : (w.alloc o).heap[w.heap.size]? = some o := heap_alloc_new w o
theorem i64w (x : Int) (h : -9000000000000000000 ≤ x ∧ x ≤ 9000000000000000000) : IntKind.i64.wrap x = x := by simp only [IntKind.wrap]; simp [IntKind.signed, IntKind.bits]; omega
theorem set_same (w : World) (b : Nat) (o : Nat) (cs : Array Value) (t : TypeId) (v : Value) (h : w.heap[b]? = some (.cells cs t (0, 0))) : (w.setCell ⟨b, o, none⟩ v).heap[b]? = some (.cells (cs.setIfInBounds o v) t (0, 0)) := by
  simp [World.setCell, Array.getElem?_modify, h]
/-- The old blocks but some are as they were. -/
structure Ch (S : List Nat) (w W : World) : Prop where
  os : W.os = w.os
  tape : W.tape = w.tape
  output : W.output = w.output
  size : w.heap.size ≤ W.heap.size
  block : ∀ g, g < w.heap.size → g ∉ S → W.heap[g]? = w.heap[g]?
theorem Ch.refl (S : List Nat) (w : World) : Ch S w w := ⟨rfl, rfl, rfl, Nat.le_refl _, fun _ _ _ => rfl⟩
theorem Ch.trans {S : List Nat} {a b c : World} (h : Ch S a b) (k : Ch S b c) : Ch S a c :=
  ⟨k.os.trans h.os, k.tape.trans h.tape, k.output.trans h.output, Nat.le_trans h.size k.size, fun g h1 h2 => (k.block g (Nat.lt_of_lt_of_le h1 h.size) h2).trans (h.block g h1 h2)⟩
theorem Ch.mono {S T : List Nat} {w W : World} (h : Ch S w W) (hs : ∀ g ∈ S, g ∈ T) : Ch T w W := ⟨h.os, h.tape, h.output, h.size, fun g h1 h2 => h.block g h1 (fun e => h2 (hs g e))⟩
theorem Ch.of_grown {S : List Nat} {w W : World} {r : Option Nat} (h : w.grownBy W r) (hs : ∀ b, r = some b → b ∈ S) : Ch S w W := ⟨h.os, h.tape, h.output, h.size, fun g h1 h2 => h.block g h1 (fun e => h2 (hs g e.symm))⟩
theorem Ch.grown {b : Nat} {w W : World} (h : Ch [b] w W) : w.grownBy W (some b) := ⟨h.os, h.tape, h.output, h.size, fun g h1 h2 => h.block g h1 (by simp; intro e; exact h2 (by rw [e]))⟩
theorem Ch.below {w W : World} (h : Ch [] w W) : Below w.heap.size w W := ⟨h.os, h.tape, h.output, h.size, fun g h1 => h.block g h1 (by simp)⟩
theorem Ch.of_below {S : List Nat} {w W : World} (h : Below w.heap.size w W) : Ch S w W := ⟨h.os, h.tape, h.output, h.size, fun g h1 _ => h.block g h1⟩
theorem Ch.drewN {S : List Nat} {w W : World} (h : Ch S w W) (n : Nat) : Ch S w (W.drewN n) := ⟨h.os, by simpa using h.tape, h.output, by simpa using h.size, fun g h1 h2 => by simpa using h.block g h1 h2⟩
theorem Ch.drew {S : List Nat} {w W : World} (h : Ch S w W) : Ch S w W.drew := h.drewN 1
theorem Ch.alloc {S : List Nat} {w W : World} (h : Ch S w W) (o : Obj) : Ch S w (W.alloc o) :=
  ⟨h.os, h.tape, h.output, by have := h.size; simp; omega, fun g h1 h2 => by rw [Below.heap_alloc _ _ _ (by have := h.size; omega)]; exact h.block g h1 h2⟩
theorem Ch.set {S : List Nat} {w W : World} (h : Ch S w W) (b o : Nat) (v : Value) (hs : b ∈ S ∨ w.heap.size ≤ b) : Ch S w (W.setCell ⟨b, o, none⟩ v) :=
  ⟨h.os, h.tape, h.output, by simpa [World.setCell] using h.size, fun g h1 h2 => by
    rw [Below.heap_setCell _ _ _ _ (fun e => by simp at e; rcases hs with h3 | h3; exact h2 (e ▸ h3); omega)]; exact h.block g h1 h2⟩
/-- What changes a block that is new changes nothing old. -/
theorem Ch.new {S : List Nat} {B : Nat} {w w1 W : World} (h : Ch S w w1) (hB : w.heap.size ≤ B) (k : Ch (B :: S) w1 W) : Ch S w W :=
  ⟨k.os.trans h.os, k.tape.trans h.tape, k.output.trans h.output, Nat.le_trans h.size k.size, fun g h1 h2 => (k.block g (Nat.lt_of_lt_of_le h1 h.size) (by simp; exact ⟨by omega, h2⟩)).trans (h.block g h1 h2)⟩
theorem Ch.fresh {S L : List Nat} {w w1 W : World} (h : Ch S w w1) (hL : ∀ g ∈ L, w.heap.size ≤ g) (k : Ch L w1 W) : Ch S w W :=
  ⟨k.os.trans h.os, k.tape.trans h.tape, k.output.trans h.output, Nat.le_trans h.size k.size, fun g h1 h2 => (k.block g (Nat.lt_of_lt_of_le h1 h.size) (fun e => by have := hL g e; omega)).trans (h.block g h1 h2)⟩
/-- The block of a slice of the call's own. -/
def ob (v : Value) : List Nat := match v.ownBlock with
  | some g => [g]
  | none => []
theorem mem_ob {v : Value} {g : Nat} : g ∈ ob v ↔ v.ownBlock = some g := by
  unfold ob
  cases v.ownBlock with
  | none => simp
  | some k => simp; exact eq_comm
theorem Ch.own {S : List Nat} {w w' : World} {e : TypeId} {size n : Nat} {v : Value} {xs : List Value} (h : Ch S w w') (ho : w.ownsRow 0 e size v n xs) (hS : ∀ g ∈ ob v, g ∉ S) : w'.ownsRow 0 e size v n xs := by
  refine ⟨ho.1, ?_⟩
  rcases ho.2 with h0 | ⟨g, cap, cur, rfl, hb, hg, r⟩
  · exact Or.inl h0
  · refine Or.inr ⟨g, cap, cur, rfl, hb, ?_, r⟩
    rw [h.block g (Array.getElem?_eq_some_iff.1 hg).1 (hS g (mem_ob.2 rfl))]; exact hg
theorem own_lt {w : World} {e : TypeId} {size n : Nat} {v : Value} {xs : List Value} (ho : w.ownsRow 0 e size v n xs) {g : Nat} (hg : g ∈ ob v) : g < w.heap.size := (ho.lt g (mem_ob.1 hg)).2
theorem own_form {w : World} {e : TypeId} {size n : Nat} {v : Value} {xs : List Value} (ho : w.ownsRow 0 e size v n xs) : ∃ p cap, v = .slice p n cap := by
  rcases Joins.ownsRow_forms ho with ⟨h, h0⟩ | ⟨g, cap, h⟩
  · exact ⟨none, 0, by rw [h, h0]⟩
  · exact ⟨_, _, h⟩
/-- A block known whole. -/
def Blk (T : TypeId) (b : Nat) (cs : Array Value) (w : World) : Prop := w.heap[b]? = some (.cells cs T (0, 0))
theorem Blk.cell {T : TypeId} {b : Nat} {cs : Array Value} {w : World} (h : Blk T b cs w) (i : Nat) : w.cell? ⟨b, i, none⟩ = cs[i]? := by unfold Blk at h; simp [World.cell?, h]
theorem Blk.fz {T : TypeId} {b : Nat} {cs : Array Value} {w : World} (h : Blk T b cs w) (i : Nat) : w.frozen? ⟨b, i, none⟩ = false := by unfold Blk at h; simp [World.frozen?, h]
theorem Blk.shape {T : TypeId} {b : Nat} {cs : Array Value} {w : World} (h : Blk T b cs w) : w.shape? b = some (T, cs.size) := by unfold Blk at h; simp [World.shape?, h]
theorem Blk.lt {T : TypeId} {b : Nat} {cs : Array Value} {w : World} (h : Blk T b cs w) : b < w.heap.size := (Array.getElem?_eq_some_iff.1 h).1
theorem Blk.ch {T : TypeId} {b : Nat} {cs : Array Value} {w w' : World} {S : List Nat} (h : Blk T b cs w) (hg : Ch S w w') (hr : b ∉ S) : Blk T b cs w' := by
  have := h.lt; unfold Blk at *; rw [hg.block b this hr]; exact h
theorem Blk.below {T : TypeId} {b : Nat} {cs : Array Value} {w w' : World} (h : Blk T b cs w) (hg : Below w.heap.size w w') : Blk T b cs w' := h.ch (Ch.of_below (S := []) hg) (by simp)
theorem Blk.set {T : TypeId} {b : Nat} {cs : Array Value} {w : World} (h : Blk T b cs w) (i : Nat) (v : Value) : Blk T b (cs.setIfInBounds i v) (w.setCell ⟨b, i, none⟩ v) := set_same w b i cs _ v h
theorem Blk.new (w : World) (T : TypeId) (cs : Array Value) (n : Nat) (h : n = w.heap.size) : Blk T n cs (w.alloc (.cells cs T)) := by subst h; exact heap_new _ _
theorem Blk.others {T e : TypeId} {b : Nat} {cs : Array Value} {w w' : World} {r : Option Nat} (h : Blk T b cs w) (hq : Lib.OthersKept e r w w') (hc : some b ≠ r) (hT : T ≠ e) : Blk T b cs w' :=
  hq b _ h hc (fun _ _ e => by injection e with _ h2 _; exact absurd h2 hT)
/-- Rows of other elements stay where a row of bytes grows. -/
theorem own_others {e t : TypeId} {B size n : Nat} {v : Value} {xs : List Value} {r : Option Nat} {w w' : World} (ho : w.ownsRow B t size v n xs) (hq : Lib.OthersKept e r w w') (hr : ∀ g, v.ownBlock = some g → some g ≠ r) (hT : t ≠ e) : w'.ownsRow B t size v n xs := by
  refine ⟨ho.1, ?_⟩
  rcases ho.2 with h0 | ⟨g, cap, cur, rfl, hb, hg, q⟩
  · exact Or.inl h0
  · exact Or.inr ⟨g, cap, cur, rfl, hb, hq g _ hg (hr g rfl) (fun _ _ e => by injection e with _ h2 _; exact absurd h2 hT), q⟩
theorem Ch.ownB {S : List Nat} {w w' : World} {B : Nat} {e : TypeId} {size n : Nat} {v : Value} {xs : List Value} (h : Ch S w w') (ho : w.ownsRow B e size v n xs) (hS : ∀ g ∈ ob v, g ∉ S) : w'.ownsRow B e size v n xs := by
  refine ⟨ho.1, ?_⟩
  rcases ho.2 with h0 | ⟨g, cap, cur, rfl, hb, hg, r⟩
  · exact Or.inl h0
  · refine Or.inr ⟨g, cap, cur, rfl, hb, ?_, r⟩
    rw [h.block g (Array.getElem?_eq_some_iff.1 hg).1 (hS g (mem_ob.2 rfl))]; exact hg
theorem own_lo {w : World} {B : Nat} {e : TypeId} {size n : Nat} {v : Value} {xs : List Value} (ho : w.ownsRow B e size v n xs) {g : Nat} (hg : g ∈ ob v) : B ≤ g ∧ g < w.heap.size := ho.lt g (mem_ob.1 hg)
theorem ownB_form {w : World} {B : Nat} {e : TypeId} {size n : Nat} {v : Value} {xs : List Value} (ho : w.ownsRow B e size v n xs) : ∃ p cap, v = .slice p n cap := by
  rcases Joins.ownsRow_forms ho with ⟨h, h0⟩ | ⟨g, cap, h⟩
  · exact ⟨none, 0, by rw [h, h0]⟩
  · exact ⟨_, _, h⟩
/-- A row of other elements than a block's is not that block. -/
theorem ob_blk {w : World} {B : Nat} {e T : TypeId} {size n : Nat} {v : Value} {xs : List Value} {b : Nat} {cs : Array Value} (ho : w.ownsRow B e size v n xs) (hb : Blk T b cs w) (hT : T ≠ e) : ∀ g ∈ ob v, g ≠ b := by
  intro g hg e2
  rcases ho.2 with ⟨rfl, _⟩ | ⟨g', cap, cur, rfl, _, hh, _⟩
  · rw [mem_ob] at hg; cases hg
  · rw [mem_ob] at hg
    obtain rfl : g' = g := by simpa [Value.ownBlock] using hg
    subst e2
    unfold Blk at hb
    rw [hb] at hh
    injection hh with hh; injection hh with _ hh _
    exact hT hh
/-- Rows of different elements lie apart. -/
theorem ob_ob {w : World} {B : Nat} {e e' : TypeId} {size size' n n' : Nat} {v v' : Value} {xs xs' : List Value} (ho : w.ownsRow B e size v n xs) (ho' : w.ownsRow B e' size' v' n' xs') (hT : e ≠ e') : ∀ g ∈ ob v, g ∉ ob v' := by
  intro g hg hg'
  rcases ho.2 with ⟨rfl, _⟩ | ⟨g1, cap, cur, rfl, _, hh, _⟩
  · rw [mem_ob] at hg; cases hg
  · rcases ho'.2 with ⟨rfl, _⟩ | ⟨g2, cap', cur', rfl, _, hh', _⟩
    · rw [mem_ob] at hg'; cases hg'
    · rw [mem_ob] at hg hg'
      obtain rfl : g1 = g := by simpa [Value.ownBlock] using hg
      obtain rfl : g2 = g1 := by simpa [Value.ownBlock] using hg'
      rw [hh] at hh'
      injection hh' with hh'; injection hh' with _ hh' _
      exact hT hh'
theorem Ch.belowB {S : List Nat} {B : Nat} {w W : World} (h : Ch S w W) (hS : ∀ g ∈ S, B ≤ g) (hB : B ≤ w.heap.size) : Below B w W := ⟨h.os, h.tape, h.output, h.size, fun g hg => h.block g (by omega) (fun e => by have := hS g e; omega)⟩
end Go.Proofs.Ytdgdpckjcpgoaaa
