/- Layer 12: the reference's Set in whole; both maps at once. -/
import Derived.Test.YthgkbjiclghfkaaOdrIc
import Derived.Test.YthgkbjiclghfkaaOdrY
import Derived.Test.YthgkbjiclghfkaaOdrX
namespace Go.Proofs.Ythgkbjiclghfkaa
open Go.RowKit Go.Joins M1
set_option linter.unusedVariables false
theorem rset_any (B b : Nat) (v : Value) (R : List Rs) (k x : V5) (w : World) (h : RM B b v R w) (hL : R.length ≤ 1000000) (hBw : B ≤ w.heap.size) :
    Calls Try.prog 25 #[.pointer (some ⟨b, 0, none⟩), .agg #[.int .i64 k.k, .int .i64 k.p, .int .i64 k.q, .string k.s, .int .i64 k.r], .agg #[.int .i64 x.k, .int .i64 x.p, .int .i64 x.q, .string x.s, .int .i64 x.r]] w fun e w' => RSaid B b v R k x w e w' := by
  by_cases hk : k.k = 0
  · exact rset_k0 B b v R k x w h hL hBw hk
  cases hv : okV k with
  | false => exact rset_k1 B b v R k x w h hL hBw hk hv
  | true =>
    cases hx : okV x with
    | false => exact rset_x1 B b v R k x w h hL hBw hk hv hx
    | true =>
      cases hf : fnd R k with
      | none =>
        by_cases hx0 : x.k = 0
        · exact rset_n0 B b v R k x w h hL hBw hk hv hx hx0 hf
        by_cases hd : lenR R + 8 < R.length - lenR R
        · exact rset_j0 B b v R k x w h hL hBw hk hv hx hx0 hd hf
        · exact rset_i0 B b v R k x w h hL hBw hk hv hx hx0 hd hf
      | some i =>
        obtain ⟨hi, _⟩ := fnd_lt hf
        by_cases hx0 : x.k = 0
        · exact rset_d B b v R k x w h hL hBw hk hv hx hx0 i hi hf
        cases hgn : R[i].gone with
        | false => exact rset_v B b v R k x w h hL hBw hk hv hx hx0 i hi hf hgn
        | true =>
          by_cases hd : lenR R + 8 < R.length - lenR R
          · exact rset_j1 B b v R k x w h hL hBw hk hv hx hx0 hd i hi hf hgn
          · exact rset_i1 B b v R k x w h hL hBw hk hv hx hx0 hd i hi hf hgn
/-- Both maps hold the same list. -/
structure Tw (B b : Nat) (v m : Value) (b2 : Nat) (v2 : Value) (R : List Rs) (w : World) : Prop where
  om : OmR B b v m R w
  rm : RM B b2 v2 R w
  ap : ∀ g ∈ omS b v m, g ∉ rmS b2 v2
def twS (b : Nat) (v m : Value) (b2 : Nat) (v2 : Value) : List Nat := omS b v m ++ rmS b2 v2
theorem Tw.ch {B b : Nat} {v m : Value} {b2 : Nat} {v2 : Value} {R : List Rs} {w w' : World} {S : List Nat} (h : Tw B b v m b2 v2 R w) (hc : Ch S w w') (hS : ∀ g ∈ twS b v m b2 v2, g ∉ S) : Tw B b v m b2 v2 R w' :=
  ⟨h.om.ch hc (fun g hg => hS g (List.mem_append.2 (.inl hg))), h.rm.ch hc (fun g hg => hS g (List.mem_append.2 (.inr hg))), h.ap⟩
theorem Tw.lt {B b : Nat} {v m : Value} {b2 : Nat} {v2 : Value} {R : List Rs} {w : World} (h : Tw B b v m b2 v2 R w) : ∀ g ∈ twS b v m b2 v2, B ≤ g ∧ g < w.heap.size := fun g hg => by
  rcases List.mem_append.1 hg with hg | hg
  · exact h.om.lt g hg
  · exact h.rm.lt g hg
/-- What a call with both maps does. -/
def TwSaid (B b : Nat) (v m : Value) (b2 : Nat) (v2 : Value) (R' : List Rs) (w w' : World) : Prop := (∃ v' m' v2', Tw B b v' m' b2 v2' R' w' ∧ ∀ g ∈ twS b v' m' b2 v2', g ∈ twS b v m b2 v2 ∨ w.heap.size ≤ g) ∧ Ch (twS b v m b2 v2) w w'
theorem tw_a {B b : Nat} {v m : Value} {b2 : Nat} {v2 : Value} {R R' : List Rs} {w w0 W1 wa W2 wb W3 : World} {v' m' v2' : Value} (h : Tw B b v m b2 v2 R w0) (h0 : Ch [] w w0) (h1 : Ch [] w0 W1) (ho : OmR B b v' m' R' wa) (hf : ∀ g ∈ omS b v' m', g ∈ omS b v m ∨ W1.heap.size ≤ g) (hca : Ch (omS b v m) W1 wa) (h2 : Ch [] wa W2) (hr : RM B b2 v2' R' wb) (hg : ∀ g ∈ rmS b2 v2', g ∈ rmS b2 v2 ∨ W2.heap.size ≤ g) (hcb : Ch (rmS b2 v2) W2 wb) (h3 : Ch [] wb W3) : TwSaid B b v m b2 v2 R' w W3 := by
  have s0 := h0.size
  have s1 := h1.size
  have s2 := h2.size
  have sa := hca.size
  have sb := hcb.size
  refine ⟨⟨v', m', v2', ⟨(ho.ch (h2.mono (T := rmS b2 v2) (by simp)) ?_).ch hcb ?_ |>.ch h3 (by simp), hr.ch h3 (by simp), ?_⟩, ?_⟩, ?_⟩
  · intro g hg' hg2
    rcases hf g hg' with h' | h'
    · exact h.ap g h' hg2
    · have := (h.rm.lt g hg2).2; omega
  · intro g hg' hg2
    rcases hf g hg' with h' | h'
    · exact h.ap g h' hg2
    · have := (h.rm.lt g hg2).2; omega
  · intro g hg' hg2
    have hl := (ho.lt g hg').2
    rcases hg g hg2 with h'' | h''
    · rcases hf g hg' with h' | h'
      · exact h.ap g h' h''
      · have := (h.rm.lt g h'').2; omega
    · omega
  · intro g hg'
    rcases List.mem_append.1 hg' with h' | h'
    · rcases hf g h' with q | q
      · exact .inl (List.mem_append.2 (.inl q))
      · right; omega
    · rcases hg g h' with q | q
      · exact .inl (List.mem_append.2 (.inr q))
      · right; omega
  · exact ((((((h0.trans h1).mono (by simp)).trans (hca.mono fun g q => List.mem_append.2 (.inl q))).trans (h2.mono (by simp))).trans (hcb.mono fun g q => List.mem_append.2 (.inr q))).trans (h3.mono (by simp)))
theorem tw_b {B b : Nat} {v m : Value} {b2 : Nat} {v2 : Value} {R R' : List Rs} {w w0 W1 wa W2 wb W3 : World} {v' m' v2' : Value} (h : Tw B b v m b2 v2 R w0) (h0 : Ch [] w w0) (h1 : Ch [] w0 W1) (hr : RM B b2 v2' R' wa) (hg : ∀ g ∈ rmS b2 v2', g ∈ rmS b2 v2 ∨ W1.heap.size ≤ g) (hca : Ch (rmS b2 v2) W1 wa) (h2 : Ch [] wa W2) (ho : OmR B b v' m' R' wb) (hf : ∀ g ∈ omS b v' m', g ∈ omS b v m ∨ W2.heap.size ≤ g) (hcb : Ch (omS b v m) W2 wb) (h3 : Ch [] wb W3) : TwSaid B b v m b2 v2 R' w W3 := by
  have s0 := h0.size
  have s1 := h1.size
  have s2 := h2.size
  have sa := hca.size
  have sb := hcb.size
  refine ⟨⟨v', m', v2', ⟨ho.ch h3 (by simp), (hr.ch (h2.mono (T := omS b v m) (by simp)) ?_).ch hcb ?_ |>.ch h3 (by simp), ?_⟩, ?_⟩, ?_⟩
  · intro g hg' hg2
    rcases hg g hg' with h' | h'
    · exact h.ap g hg2 h'
    · have := (h.om.lt g hg2).2; omega
  · intro g hg' hg2
    rcases hg g hg' with h' | h'
    · exact h.ap g hg2 h'
    · have := (h.om.lt g hg2).2; omega
  · intro g hg' hg2
    have hl := (hr.lt g hg2).2
    rcases hf g hg' with h'' | h''
    · rcases hg g hg2 with h' | h'
      · exact h.ap g h'' h'
      · have := (h.om.lt g h'').2; omega
    · omega
  · intro g hg'
    rcases List.mem_append.1 hg' with h' | h'
    · rcases hf g h' with q | q
      · exact .inl (List.mem_append.2 (.inl q))
      · right; omega
    · rcases hg g h' with q | q
      · exact .inl (List.mem_append.2 (.inr q))
      · right; omega
  · exact ((((((h0.trans h1).mono (by simp)).trans (hca.mono fun g q => List.mem_append.2 (.inr q))).trans (h2.mono (by simp))).trans (hcb.mono fun g q => List.mem_append.2 (.inl q))).trans (h3.mono (by simp)))
end Go.Proofs.Ythgkbjiclghfkaa
