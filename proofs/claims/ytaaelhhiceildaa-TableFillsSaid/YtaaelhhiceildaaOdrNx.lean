/- Layer 12: Next in whole. -/
import Derived.Test.YtaaelhhiceildaaOdrF
import Derived.Test.YtaaelhhiceildaaOdrFa
import Derived.Test.YtaaelhhiceildaaOdrFb
import Derived.Test.YtaaelhhiceildaaOdrN
namespace Go.Proofs.Ytaaelhhiceildaa
open Go.RowKit Go.Joins M1
set_option linter.unusedVariables false
def NxV (x : Nx) : Value := .tuple #[.agg #[.int .i64 x.key.k, .int .i64 x.key.p, .int .i64 x.key.q, .string x.key.s, .int .i64 x.key.r], .agg #[.int .i64 x.val.k, .int .i64 x.val.p, .int .i64 x.val.q, .string x.val.s, .int .i64 x.val.r], .bool x.ok, .int .i64 x.err]
theorem next_R (B b : Nat) (v m : Value) (R : List Rs) (k : V5) (w : World) (h : OmR B b v m R w) (hL : R.length ≤ 1000000) :
    Calls Try.prog 40 #[.pointer (some ⟨b, 0, none⟩), .agg #[.int .i64 k.k, .int .i64 k.p, .int .i64 k.q, .string k.s, .int .i64 k.r]] w fun e w' => e = .returned (NxV (nextR R k)) ∧ OmR B b v m R w' ∧ Ch (omS b v m) w w' := by
  obtain ⟨L, h1, rfl⟩ := h
  rw [rabs_len] at hL
  have fin : ∀ (x : Nx) e w', NxSaid B b v m L x w e w' → e = .returned (NxV x) ∧ OmR B b v m (rabs L) w' ∧ Ch (omS b v m) w w' := fun x e w' ⟨q1, ⟨L', q2, q3, _⟩, q4⟩ => ⟨q1, ⟨L', q2, q3⟩, q4⟩
  by_cases hk : k = v5z
  · rw [show nextR (rabs L) k = nxAt (rabs L) 0 from by unfold nextR; rw [if_pos hk]]
    rcases Nat.lt_or_ge (presL L 0) L.length with hp | hp
    · exact (next_z1 B b v m L k w h1 hL hk hp).mono fun e w' q => fin _ e w' q
    · exact (next_z0 B b v m L k w h1 hL hk (Nat.le_antisymm (presL_le L 0) hp)).mono fun e w' q => fin _ e w' q
  · cases hl : lastI L k with
    | none =>
      rw [show nextR (rabs L) k = ⟨v5z, v5z, false, 13⟩ from by unfold nextR; rw [if_neg hk, fnd_abs h1.inv, hl]]
      exact (next_no B b v m L k w h1 hL hk hl).mono fun e w' ⟨q1, q2⟩ => ⟨q1, ⟨L, h1.below q2, rfl⟩, Ch.of_below q2⟩
    | some i =>
      rw [show nextR (rabs L) k = nxAt (rabs L) (i + 1) from by unfold nextR; rw [if_neg hk, fnd_abs h1.inv, hl]]
      rcases Nat.lt_or_ge (presL L (i + 1)) L.length with hp | hp
      · exact (next_s1 B b v m L k w h1 hL hk i hl hp).mono fun e w' q => fin _ e w' q
      · exact (next_s0 B b v m L k w h1 hL hk i hl (Nat.le_antisymm (presL_le L (i + 1)) hp)).mono fun e w' q => fin _ e w' q
end Go.Proofs.Ytaaelhhiceildaa
