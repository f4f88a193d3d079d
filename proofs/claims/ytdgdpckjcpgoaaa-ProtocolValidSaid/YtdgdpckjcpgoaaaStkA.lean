/- Layer 17: stacks in memory; New, Top, Abs, Room. -/
import Derived.Test.YtdgdpckjcpgoaaaStV
namespace Go.Proofs.Ytdgdpckjcpgoaaa
open Go.RowKit Go.Joins M1
set_option linter.unusedVariables false
structure Sk (T : TypeId) (B t : Nat) (va : Value) (l : List V5) (lim : Nat) (w : World) : Prop where
  blk : Blk T t #[va, .int .i64 (lim : Int)] w
  lo : B ≤ t
  row : w.ownsRow B 26 5 va l.length (l.flatMap vC)
  ap : ∀ g ∈ ob va, g ≠ t
  le : l.length ≤ lim
  top : lim ≤ 1000
def skS (t : Nat) (va : Value) : List Nat := t :: ob va
theorem Sk.ch {T : TypeId} {B t lim : Nat} {va : Value} {l : List V5} {w w' : World} {S : List Nat} (h : Sk T B t va l lim w) (hc : Ch S w w') (hS : ∀ g ∈ skS t va, g ∉ S) : Sk T B t va l lim w' :=
  ⟨h.blk.ch hc (hS t (by simp [skS])), h.lo, hc.ownB h.row (fun g hg => hS g (by simp [skS, hg])), h.ap, h.le, h.top⟩
theorem Sk.ch0 {T : TypeId} {B t lim : Nat} {va : Value} {l : List V5} {w w' : World} (h : Sk T B t va l lim w) (hc : Ch [] w w') : Sk T B t va l lim w' := h.ch hc (fun g _ => not_nil g)
theorem Sk.below {T : TypeId} {B t lim : Nat} {va : Value} {l : List V5} {w w' : World} (h : Sk T B t va l lim w) (hc : Below w.heap.size w w') : Sk T B t va l lim w' := h.ch0 (Ch.of_below hc)
theorem Sk.lt {T : TypeId} {B t lim : Nat} {va : Value} {l : List V5} {w : World} (h : Sk T B t va l lim w) : ∀ g ∈ skS t va, B ≤ g ∧ g < w.heap.size := by
  intro g hg
  simp only [skS, List.mem_cons] at hg
  rcases hg with rfl | hg
  · exact ⟨h.lo, h.blk.lt⟩
  · exact own_lo h.row hg
theorem Sk.form {T : TypeId} {B t lim : Nat} {va : Value} {l : List V5} {w : World} (h : Sk T B t va l lim w) : (va = .slice none 0 0 ∧ l = []) ∨ ∃ g cap, va = .slice (some ⟨g, 0, none⟩) l.length cap := by
  rcases Joins.ownsRow_forms h.row with ⟨h1, h2⟩ | ⟨g, cap, h1⟩
  · exact .inl ⟨h1, List.length_eq_zero_iff.1 h2⟩
  · exact .inr ⟨g, cap, h1⟩
theorem Sk.form1 {T : TypeId} {B t lim : Nat} {va : Value} {l : List V5} {w : World} (h : Sk T B t va l lim w) : ∃ p cap, va = .slice p l.length cap := by
  rcases h.form with ⟨h1, h2⟩ | ⟨g, cap, h1⟩
  · exact ⟨none, 0, by rw [h1, h2]; rfl⟩
  · exact ⟨_, cap, h1⟩
theorem Sk.formN {T : TypeId} {B t lim : Nat} {va : Value} {l : List V5} {w : World} (h : Sk T B t va l lim w) (h0 : 0 < l.length) : ∃ g cap, va = .slice (some ⟨g, 0, none⟩) l.length cap := by
  rcases h.form with ⟨h1, h2⟩ | h1
  · rw [h2] at h0; simp at h0
  · exact h1
/-- What a call that writes a stack leaves. -/
def SkSaid (T : TypeId) (B t : Nat) (va : Value) (l' : List V5) (lim : Nat) (w w' : World) : Prop := (∃ va', Sk T B t va' l' lim w' ∧ ∀ g ∈ skS t va', g ∈ skS t va ∨ w.heap.size ≤ g) ∧ Ch (skS t va) w w'
theorem sk_0 {T : TypeId} {B t lim : Nat} {va : Value} {l : List V5} {w w' : World} (h : Sk T B t va l lim w) (hc : Ch [] w w') : SkSaid T B t va l lim w w' :=
  ⟨⟨va, h.ch0 hc, fun g hg => .inl hg⟩, hc.mono (fun g hg => absurd hg (not_nil g))⟩
theorem SkSaid.trans {T : TypeId} {B t lim lim2 : Nat} {va : Value} {l1 l2 : List V5} {w w1 w2 : World} (h : SkSaid T B t va l1 lim w w1) (k : ∀ va', Sk T B t va' l1 lim w1 → SkSaid T B t va' l2 lim2 w1 w2) : SkSaid T B t va l2 lim2 w w2 := by
  obtain ⟨⟨va', h1, h2⟩, h3⟩ := h
  obtain ⟨⟨va2, k1, k2⟩, k3⟩ := k va' h1
  refine ⟨⟨va2, k1, fun g hg => ?_⟩, ⟨k3.os.trans h3.os, k3.tape.trans h3.tape, k3.output.trans h3.output, Nat.le_trans h3.size k3.size, fun g q1 q2 => (k3.block g (Nat.lt_of_lt_of_le q1 h3.size) (fun e => ?_)).trans (h3.block g q1 q2)⟩⟩
  · rcases k2 g hg with q | q
    · exact h2 g q
    · right; have := h3.size; omega
  · rcases h2 g e with q | q
    · exact q2 q
    · omega
theorem SkSaid.after {T : TypeId} {B t lim : Nat} {va : Value} {l1 : List V5} {w w1 w2 : World} (h : SkSaid T B t va l1 lim w w1) (hc : Ch [] w1 w2) : SkSaid T B t va l1 lim w w2 := h.trans fun va' k => sk_0 k hc
theorem SkSaid.before {T : TypeId} {B t lim : Nat} {va : Value} {l1 : List V5} {w w1 w2 : World} (hc : Ch [] w w1) (h : SkSaid T B t va l1 lim w1 w2) : SkSaid T B t va l1 lim w w2 := by
  obtain ⟨⟨va', h1, h2⟩, h3⟩ := h
  refine ⟨⟨va', h1, fun g hg => ?_⟩, (hc.mono (fun g hg => absurd hg (not_nil g))).trans h3⟩
  rcases h2 g hg with q | q
  · exact .inl q
  · right; have := hc.size; omega
/-- Where an index points to, from 0 on. -/
def absI (n : Nat) (i : Int) : Option Nat := if 1 ≤ i ∧ i ≤ (n : Int) then some (i.toNat - 1) else if i ≤ -1 ∧ -(n : Int) ≤ i then some ((n : Int) + i).toNat else none
theorem absI_lt {n : Nat} {i : Int} {k : Nat} (h : absI n i = some k) : k < n := by
  unfold absI at h
  split at h
  · simp only [Option.some.injEq] at h; omega
  · split at h
    · simp only [Option.some.injEq] at h; omega
    · cases h
def roomE (l : List V5) (lim : Nat) (i : Int) : Int := if i < 0 then 2 else if (lim : Int) - (l.length : Int) < i then 17 else 0
end Go.Proofs.Ytdgdpckjcpgoaaa
