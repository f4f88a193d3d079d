/- Layer 12: the reference's Next in whole. -/
import Derived.Test.YthgkbjiclghfkaaOdrRn
namespace Go.Proofs.Ythgkbjiclghfkaa
open Go.RowKit Go.Joins M1
set_option linter.unusedVariables false
set_option maxHeartbeats 4000000 in
theorem rnext_e (B b : Nat) (v : Value) (R : List Rs) (k : V5) (hk : k ≠ v5z) (hf : fnd R k = none) (w : World) (h : RM B b v R w) (hL : R.length ≤ 1000000) :
    Calls Try.prog 27 #[.pointer (some ⟨b, 0, none⟩), .agg #[.int .i64 k.k, .int .i64 k.p, .int .i64 k.q, .string k.s, .int .i64 k.r]] w fun e w' => e = .returned (NxV ⟨v5z, v5z, false, 13⟩) ∧ Below w.heap.size w w' := by
  have NV : ∀ W, (binOp .neq 31 (.agg #[.int .i64 k.k, .int .i64 k.p, .int .i64 k.q, .string k.s, .int .i64 k.r]) (.agg #[.int .i64 0, .int .i64 0, .int .i64 0, .string ⟨#[]⟩, .int .i64 0])).run Try.prog W = .ok (.bool true) W := fun W => by rw [neq_val]; rw [show eqV k.k k.p k.q k.s k.r 0 0 0 ⟨#[]⟩ 0 = decide (k = v5z) from eqV_dec k v5z]; simp [hk]
  have HB0 : Hid (Below w.heap.size w (((w.alloc (.cells #[.int .i64 k.k, .int .i64 k.p, .int .i64 k.q, .string k.s, .int .i64 k.r] 31)).alloc (.cells #[.int .i64 0, .int .i64 0, .int .i64 0, .string ⟨#[]⟩, .int .i64 0] 31)).alloc (.cells #[.int .i64 0, .int .i64 0, .int .i64 0, .string ⟨#[]⟩, .int .i64 0] 31))) := Lib.hid ((((Ch.refl [] w).alloc _).alloc _).alloc _).below
  have HM0 : Hid (RM B b v R (((w.alloc (.cells #[.int .i64 k.k, .int .i64 k.p, .int .i64 k.q, .string k.s, .int .i64 k.r] 31)).alloc (.cells #[.int .i64 0, .int .i64 0, .int .i64 0, .string ⟨#[]⟩, .int .i64 0] 31)).alloc (.cells #[.int .i64 0, .int .i64 0, .int .i64 0, .string ⟨#[]⟩, .int .i64 0] 31))) := Lib.hid (h.ch ((((Ch.refl [] w).alloc _).alloc _).alloc _) (by simp))
  have KA0 : Hid (Blk 31 (w.heap.size + 1) #[.int .i64 0, .int .i64 0, .int .i64 0, .string ⟨#[]⟩, .int .i64 0] (((w.alloc (.cells #[.int .i64 k.k, .int .i64 k.p, .int .i64 k.q, .string k.s, .int .i64 k.r] 31)).alloc (.cells #[.int .i64 0, .int .i64 0, .int .i64 0, .string ⟨#[]⟩, .int .i64 0] 31)).alloc (.cells #[.int .i64 0, .int .i64 0, .int .i64 0, .string ⟨#[]⟩, .int .i64 0] 31))) := Lib.hid ((Blk.new (w.alloc (.cells #[.int .i64 k.k, .int .i64 k.p, .int .i64 k.q, .string k.s, .int .i64 k.r] 31)) _ _ _ (by simp)).ch ((Ch.refl [] _).alloc _) (by simp))
  have KC0 : Hid (Blk 31 (w.heap.size + 1 + 1) #[.int .i64 0, .int .i64 0, .int .i64 0, .string ⟨#[]⟩, .int .i64 0] (((w.alloc (.cells #[.int .i64 k.k, .int .i64 k.p, .int .i64 k.q, .string k.s, .int .i64 k.r] 31)).alloc (.cells #[.int .i64 0, .int .i64 0, .int .i64 0, .string ⟨#[]⟩, .int .i64 0] 31)).alloc (.cells #[.int .i64 0, .int .i64 0, .int .i64 0, .string ⟨#[]⟩, .int .i64 0] 31))) := Lib.hid (Blk.new ((w.alloc (.cells #[.int .i64 k.k, .int .i64 k.p, .int .i64 k.q, .string k.s, .int .i64 k.r] 31)).alloc (.cells #[.int .i64 0, .int .i64 0, .int .i64 0, .string ⟨#[]⟩, .int .i64 0] 31)) _ _ _ (by simp))
  have QF : Hid (Calls Try.prog 35 #[.pointer (some ⟨b, 0, none⟩), .agg #[.int .i64 k.k, .int .i64 k.p, .int .i64 k.q, .string k.s, .int .i64 k.r]] (((w.alloc (.cells #[.int .i64 k.k, .int .i64 k.p, .int .i64 k.q, .string k.s, .int .i64 k.r] 31)).alloc (.cells #[.int .i64 0, .int .i64 0, .int .i64 0, .string ⟨#[]⟩, .int .i64 0] 31)).alloc (.cells #[.int .i64 0, .int .i64 0, .int .i64 0, .string ⟨#[]⟩, .int .i64 0] 31)) fun e w' => e = .returned (.int .i64 (-1)) ∧ Below (((w.alloc (.cells #[.int .i64 k.k, .int .i64 k.p, .int .i64 k.q, .string k.s, .int .i64 k.r] 31)).alloc (.cells #[.int .i64 0, .int .i64 0, .int .i64 0, .string ⟨#[]⟩, .int .i64 0] 31)).alloc (.cells #[.int .i64 0, .int .i64 0, .int .i64 0, .string ⟨#[]⟩, .int .i64 0] 31)).heap.size (((w.alloc (.cells #[.int .i64 k.k, .int .i64 k.p, .int .i64 k.q, .string k.s, .int .i64 k.r] 31)).alloc (.cells #[.int .i64 0, .int .i64 0, .int .i64 0, .string ⟨#[]⟩, .int .i64 0] 31)).alloc (.cells #[.int .i64 0, .int .i64 0, .int .i64 0, .string ⟨#[]⟩, .int .i64 0] 31)) w') := Lib.hid (by
    have := rfind_any B b v R k (((w.alloc (.cells #[.int .i64 k.k, .int .i64 k.p, .int .i64 k.q, .string k.s, .int .i64 k.r] 31)).alloc (.cells #[.int .i64 0, .int .i64 0, .int .i64 0, .string ⟨#[]⟩, .int .i64 0] 31)).alloc (.cells #[.int .i64 0, .int .i64 0, .int .i64 0, .string ⟨#[]⟩, .int .i64 0] 31)) HM0.out hL
    rw [hf] at this
    exact this)
  clear h hk hf HM0
  go_enter Try.func27, Try.ntmps27
  go_wp2_with (go_at_call 35; (with_reducible refine (QF.out).mono ?_); rintro e W0 ⟨rfl, hb0⟩; have HB := Lib.hid (HB0.out.trans (hb0.mono HB0.out.size)); have KA := Lib.hid (KA0.out.below hb0); have KC := Lib.hid (KC0.out.below hb0); clear hb0; have d0 : W0.cell? ⟨w.heap.size + 1, 0, none⟩ = some (.int .i64 0) := KA.out.cell 0; have df0 := KA.out.fz 0; have d1 : W0.cell? ⟨w.heap.size + 1, 1, none⟩ = some (.int .i64 0) := KA.out.cell 1; have df1 := KA.out.fz 1; have d2 : W0.cell? ⟨w.heap.size + 1, 2, none⟩ = some (.int .i64 0) := KA.out.cell 2; have df2 := KA.out.fz 2; have d3 : W0.cell? ⟨w.heap.size + 1, 3, none⟩ = some (.string ⟨#[]⟩) := KA.out.cell 3; have df3 := KA.out.fz 3; have d4 : W0.cell? ⟨w.heap.size + 1, 4, none⟩ = some (.int .i64 0) := KA.out.cell 4; have df4 := KA.out.fz 4; have dl := KA.out.lt; have e0 : W0.cell? ⟨w.heap.size + 1 + 1, 0, none⟩ = some (.int .i64 0) := KC.out.cell 0; have ef0 := KC.out.fz 0; have e1 : W0.cell? ⟨w.heap.size + 1 + 1, 1, none⟩ = some (.int .i64 0) := KC.out.cell 1; have ef1 := KC.out.fz 1; have e2 : W0.cell? ⟨w.heap.size + 1 + 1, 2, none⟩ = some (.int .i64 0) := KC.out.cell 2; have ef2 := KC.out.fz 2; have e3 : W0.cell? ⟨w.heap.size + 1 + 1, 3, none⟩ = some (.string ⟨#[]⟩) := KC.out.cell 3; have ef3 := KC.out.fz 3; have e4 : W0.cell? ⟨w.heap.size + 1 + 1, 4, none⟩ = some (.int .i64 0) := KC.out.cell 4; have ef4 := KC.out.fz 4; have el := KC.out.lt)
  show bodyPost _ _ _ Exit.ret _ (st5 (st5 W0 (w.heap.size + 1) (.int .i64 0) (.int .i64 0) (.int .i64 0) (.string ⟨#[]⟩) (.int .i64 0)) (w.heap.size + 1 + 1) (.int .i64 0) (.int .i64 0) (.int .i64 0) (.string ⟨#[]⟩) (.int .i64 0))
  have I1 : Blk 31 (w.heap.size + 1) #[.int .i64 0, .int .i64 0, .int .i64 0, .string ⟨#[]⟩, .int .i64 0] (st5 (st5 W0 (w.heap.size + 1) (.int .i64 0) (.int .i64 0) (.int .i64 0) (.string ⟨#[]⟩) (.int .i64 0)) (w.heap.size + 1 + 1) (.int .i64 0) (.int .i64 0) (.int .i64 0) (.string ⟨#[]⟩) (.int .i64 0)) := (st5_blk KA.out).ch (st5_ch (S := [(w.heap.size + 1 + 1)]) (Ch.refl _ _) (.inl (by simp))) (by simp)
  have I2 : Blk 31 (w.heap.size + 1 + 1) #[.int .i64 0, .int .i64 0, .int .i64 0, .string ⟨#[]⟩, .int .i64 0] (st5 (st5 W0 (w.heap.size + 1) (.int .i64 0) (.int .i64 0) (.int .i64 0) (.string ⟨#[]⟩) (.int .i64 0)) (w.heap.size + 1 + 1) (.int .i64 0) (.int .i64 0) (.int .i64 0) (.string ⟨#[]⟩) (.int .i64 0)) := st5_blk (KC.out.ch (st5_ch (S := [(w.heap.size + 1)]) (Ch.refl _ _) (.inl (by simp))) (by simp))
  have hS : Below w.heap.size w (st5 (st5 W0 (w.heap.size + 1) (.int .i64 0) (.int .i64 0) (.int .i64 0) (.string ⟨#[]⟩) (.int .i64 0)) (w.heap.size + 1 + 1) (.int .i64 0) (.int .i64 0) (.int .i64 0) (.string ⟨#[]⟩) (.int .i64 0)) := st5_bel (st5_bel HB.out (by omega)) (by omega)
  generalize (st5 (st5 W0 (w.heap.size + 1) (.int .i64 0) (.int .i64 0) (.int .i64 0) (.string ⟨#[]⟩) (.int .i64 0)) (w.heap.size + 1 + 1) (.int .i64 0) (.int .i64 0) (.int .i64 0) (.string ⟨#[]⟩) (.int .i64 0)) = W9 at *
  have x0 := I1.cell 0
  have x1 := I1.cell 1
  have x2 := I1.cell 2
  have x3 := I1.cell 3
  have x4 := I1.cell 4
  have y0 := I2.cell 0
  have y1 := I2.cell 1
  have y2 := I2.cell 2
  have y3 := I2.cell 3
  have y4 := I2.cell 4
  simp at x0 x1 x2 x3 x4 y0 y1 y2 y3 y4
  refine bodyPost_ret (v := .tuple #[.agg #[.int .i64 0, .int .i64 0, .int .i64 0, .string ⟨#[]⟩, .int .i64 0], .agg #[.int .i64 0, .int .i64 0, .int .i64 0, .string ⟨#[]⟩, .int .i64 0], .bool false, .int .i64 13]) (by simp [results, Try.results27, go_sem, x0, x1, x2, x3, x4, y0, y1, y2, y3, y4]) rfl ⟨rfl, hS⟩

theorem rnext_any (B b : Nat) (v : Value) (R : List Rs) (k : V5) (w : World) (h : RM B b v R w) (hL : R.length ≤ 1000000) :
    Calls Try.prog 27 #[.pointer (some ⟨b, 0, none⟩), .agg #[.int .i64 k.k, .int .i64 k.p, .int .i64 k.q, .string k.s, .int .i64 k.r]] w fun e w' => e = .returned (NxV (nextR R k)) ∧ Below w.heap.size w w' := by
  by_cases hk : k = v5z
  · rw [show nextR R k = nxAt R 0 from by unfold nextR; rw [if_pos hk]]
    exact rnext_z B b v R k hk w h hL
  · cases hf : fnd R k with
    | none =>
      rw [show nextR R k = ⟨v5z, v5z, false, 13⟩ from by unfold nextR; rw [if_neg hk, hf]]
      exact rnext_e B b v R k hk hf w h hL
    | some n =>
      obtain ⟨hn, _⟩ := fnd_lt hf
      rw [show nextR R k = nxAt R (n + 1) from by unfold nextR; rw [if_neg hk, hf]]
      exact rnext_s B b v R k hk n hn hf w h hL
end Go.Proofs.Ythgkbjiclghfkaa
