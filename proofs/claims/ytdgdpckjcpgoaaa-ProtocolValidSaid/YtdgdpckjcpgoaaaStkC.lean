/- Layer 17: what writes the code's stack. -/
import Derived.Test.YtdgdpckjcpgoaaaStkB
import Derived.Laws.AppendOwnNone
namespace Go.Proofs.Ytdgdpckjcpgoaaa
open Go.RowKit Go.Joins M1
set_option linter.unusedVariables false
/-- Values are appended to a row. -/
theorem append_vals {ops : Array Oper} {rest : List Oper} {o : Oper} {a : Act} {Q : Exit → Act → World → Prop} {W : World} (hgd : o.guard = none) (s x : Operand)
    (ho : o.op = .call { callee := .builtin .append, args := #[s, x], argTypes := #[22, 22] }) (B : Nat)
    (v : Value) (l1 : List V5) (hs : a.eval s = v) (hown : W.ownsRow B 26 5 v l1.length (l1.flatMap vC))
    (A : Option Addr) (m c : Nat) (l2 : List V5) (hx : a.eval x = .slice A m c) (ha : ValsA W (.slice A m c) l2) (hc : A = none → c = 0) (hn : l1.length + l2.length ≤ 1000000) (hB : B ≤ W.heap.size)
    (h : ∀ v' W', W'.ownsRow B 26 5 v' (l1 ++ l2).length ((l1 ++ l2).flatMap vC) → Ch (ob v) W W' → (∀ g ∈ ob v', g ∈ ob v ∨ W.heap.size ≤ g) → wpList Try.prog ops Q rest (a.put o.dst v') W') : wpList Try.prog ops Q (o :: rest) a W := by
  obtain ⟨i0, hi0, jz0, jz1, jz2⟩ := info_parts info_val
  have hm := ha.len
  subst hm
  rw [List.flatMap_append, List.length_append] at h
  cases A with
  | none =>
    have h0 : l2 = [] := by
      obtain ⟨p', c', e, h2⟩ := ha.form
      injection e with e1 e2 e3
      rcases l2 with _ | ⟨y, l⟩
      · rfl
      · obtain ⟨_, _, e, _⟩ := h2 (by simp)
        rw [← e1] at e; cases e
    subst h0
    have hc0 := hc rfl
    subst hc0
    refine wpList_append_own_none hgd s x 22 ho B 26 i0 5 Try.underlying22 hi0 v l1.length _ hs hown hx ?_
    exact h v W (by simpa using hown) (Ch.refl _ _) (fun g hg => .inl hg)
  | some ad =>
    refine wpList_append_own_at _ hgd s x 22 ho B 26 i0 _ 5 48 Try.underlying22 hi0 jz0 jz1 jz2 rfl (by decide) v l1.length _ hs hown ad l2.length c (l2.flatMap vC) hx (flat5_len l2) ha.src (vC_onel _) (by unfold maxLen; omega) (by omega) hB ?_
    intro v' W' ho' hg _ hl
    refine h v' W' ho' (Ch.of_grown hg (fun y e => mem_ob.2 e)) (fun g hg2 => ?_)
    rw [mem_ob] at hg2 ⊢
    rcases hl with q | q
    · left; rw [← q]; exact hg2
    · right; rw [q] at hg2; injection hg2 with hg2; omega
/-- A new row is laid in. -/
theorem Sk.laid {T : TypeId} {B t lim : Nat} {va va' : Value} {l l' : List V5} {w W : World} (hT : T ≠ 26) (h : Sk T B t va l lim w) (hc : Ch (ob va) w W) (hr : W.ownsRow B 26 5 va' l'.length (l'.flatMap vC)) (hl : l'.length ≤ lim) (hg : ∀ g ∈ ob va', g ∈ ob va ∨ w.heap.size ≤ g) :
    SkSaid T B t va l' lim w (W.setCell ⟨t, 0, none⟩ va') := by
  have hb := h.blk.ch hc (fun e => h.ap t e rfl)
  have hap := ob_blk hr hb hT
  have hs : Ch [t] W (W.setCell ⟨t, 0, none⟩ va') := (Ch.refl [t] W).set t 0 _ (.inl (by simp))
  refine ⟨⟨va', ⟨hb.set 0 _, h.lo, hs.ownB hr (fun g q => by simpa using hap g q), hap, hl, h.top⟩, fun g q => ?_⟩, (hc.mono (fun g q => by simp [skS, q])).trans (hs.mono (fun g q => by simp at q; subst q; simp [skS]))⟩
  simp only [skS, List.mem_cons] at q ⊢
  rcases q with q | q
  · exact .inl (.inl q)
  · rcases hg g q with q | q
    · exact .inl (.inr q)
    · exact .inr q
/-- Values are laid anew within the row. -/
theorem Sk.patched {T : TypeId} {B t lim g cap : Nat} {l l' : List V5} {w W : World} (h : Sk T B t (.slice (some ⟨g, 0, none⟩) l.length cap) l lim w) (hc : Ch [g] w W) (hl : l'.length = l.length) (hr : W.ownsRow B 26 5 (.slice (some ⟨g, 0, none⟩) l.length cap) l.length (l'.flatMap vC)) :
    Sk T B t (.slice (some ⟨g, 0, none⟩) l'.length cap) l' lim W :=
  ⟨by rw [hl]; exact h.blk.ch hc (by simp; exact fun e => h.ap g (mem_ob.2 rfl) e.symm), h.lo, by rw [hl]; exact hr, fun y hy => h.ap y ((ob_len y).1 hy), by rw [hl]; exact h.le, h.top⟩
theorem sk_patch {T : TypeId} {B t lim g cap : Nat} {l l' : List V5} {w W : World} (h : Sk T B t (.slice (some ⟨g, 0, none⟩) l.length cap) l lim w) (hc : Ch [g] w W) (hl : l'.length = l.length) (hr : W.ownsRow B 26 5 (.slice (some ⟨g, 0, none⟩) l.length cap) l.length (l'.flatMap vC)) :
    SkSaid T B t (.slice (some ⟨g, 0, none⟩) l.length cap) l' lim w W :=
  ⟨⟨_, h.patched hc hl hr, fun y hy => .inl (by simp only [skS, List.mem_cons] at hy ⊢; rcases hy with q | q; exact .inl q; exact .inr ((ob_len y).1 q))⟩, hc.mono (fun y hy => by simp at hy; subst hy; simp [skS, Go.Proofs.Ytdgdpckjcpgoaaa.ob, Value.ownBlock])⟩
theorem vals_one (x : V5) (W : World) : ValsA (W.alloc (.cells #[.int .i64 x.k, .int .i64 x.p, .int .i64 x.q, .string x.s, .int .i64 x.r] 26)) (.slice (some ⟨W.heap.size, 0, none⟩) 1 1) [x] := by
  refine ⟨some ⟨W.heap.size, 0, none⟩, 1, rfl, fun _ => ⟨W.heap.size, 0, rfl, by simp, fun j m hj hm => ?_⟩⟩
  obtain rfl : j = 0 := by simpa using hj
  have := Blk.cell (Blk.new W 26 #[.int .i64 x.k, .int .i64 x.p, .int .i64 x.q, .string x.s, .int .i64 x.r] _ rfl) m
  simp only [Nat.zero_mul, Nat.zero_add]; rw [this]
  simp [vC]
def pushE (l : List V5) (lim : Nat) (x : V5) : Int := if okV x = false then 2 else if l.length = lim then 17 else 0
def pushL (l : List V5) (lim : Nat) (x : V5) : List V5 := if pushE l lim x = 0 then l ++ [x] else l
end Go.Proofs.Ytdgdpckjcpgoaaa
