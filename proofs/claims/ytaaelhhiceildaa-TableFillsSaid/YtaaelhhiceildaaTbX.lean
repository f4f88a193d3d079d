/- Layer 13: Next. -/
import Derived.Test.YtaaelhhiceildaaTbT
namespace Go.Proofs.Ytaaelhhiceildaa
open Go.RowKit Go.Joins M1
set_option linter.unusedVariables false
/-- What Next returns and leaves. -/
def nxT (s : TS) (k : V5) : Nx := if okV k = false then ⟨v5z, v5z, false, 13⟩ else match elF s.arr.length k with
  | some i => neN s i
  | none => if k.k = 0 then neN s 0 else if (nrT s k).err ≠ 0 ∧ isInt k = true ∧ 1 ≤ k.p then nextR s.R v5z else nrT s k
def nxS (s : TS) (k : V5) : TS := if okV k = false then s else match elF s.arr.length k with
  | some i => neS s i
  | none => if k.k = 0 then neS s 0 else s
set_option maxHeartbeats 8000000 in
theorem tnx_bad (t : Nat) (k : V5) (w : World) (hk1 : okV k = false) :
    Calls Try.prog 18 #[.pointer (some ⟨t, 0, none⟩), .agg #[.int .i64 k.k, .int .i64 k.p, .int .i64 k.q, .string k.s, .int .i64 k.r]] w fun e w' => e = .returned (.tuple #[.agg #[.int .i64 0, .int .i64 0, .int .i64 0, .string ⟨#[]⟩, .int .i64 0], .agg #[.int .i64 0, .int .i64 0, .int .i64 0, .string ⟨#[]⟩, .int .i64 0], .bool false, .int .i64 13]) ∧ Ch [] w w' := by
  have KK0 : Hid (Blk 26 w.heap.size #[.int .i64 k.k, .int .i64 k.p, .int .i64 k.q, .string k.s, .int .i64 k.r] (((w.alloc (.cells #[.int .i64 k.k, .int .i64 k.p, .int .i64 k.q, .string k.s, .int .i64 k.r] 26)).alloc (.cells #[.int .i64 0, .int .i64 0, .int .i64 0, .string ⟨#[]⟩, .int .i64 0] 26)).alloc (.cells #[.int .i64 0, .int .i64 0, .int .i64 0, .string ⟨#[]⟩, .int .i64 0] 26))) := Lib.hid ((Blk.new w 26 _ _ rfl).ch (((Ch.refl [] _).alloc _).alloc _) (not_nil _))
  have KA0 : Hid (Blk 26 (w.heap.size + 1) #[.int .i64 0, .int .i64 0, .int .i64 0, .string ⟨#[]⟩, .int .i64 0] (((w.alloc (.cells #[.int .i64 k.k, .int .i64 k.p, .int .i64 k.q, .string k.s, .int .i64 k.r] 26)).alloc (.cells #[.int .i64 0, .int .i64 0, .int .i64 0, .string ⟨#[]⟩, .int .i64 0] 26)).alloc (.cells #[.int .i64 0, .int .i64 0, .int .i64 0, .string ⟨#[]⟩, .int .i64 0] 26))) := Lib.hid ((Blk.new (w.alloc (.cells #[.int .i64 k.k, .int .i64 k.p, .int .i64 k.q, .string k.s, .int .i64 k.r] 26)) 26 _ _ (by simp)).ch ((Ch.refl [] _).alloc _) (not_nil _))
  have KB0 : Hid (Blk 26 (w.heap.size + 1 + 1) #[.int .i64 0, .int .i64 0, .int .i64 0, .string ⟨#[]⟩, .int .i64 0] (((w.alloc (.cells #[.int .i64 k.k, .int .i64 k.p, .int .i64 k.q, .string k.s, .int .i64 k.r] 26)).alloc (.cells #[.int .i64 0, .int .i64 0, .int .i64 0, .string ⟨#[]⟩, .int .i64 0] 26)).alloc (.cells #[.int .i64 0, .int .i64 0, .int .i64 0, .string ⟨#[]⟩, .int .i64 0] 26))) := Lib.hid (Blk.new _ 26 _ _ (by simp))
  have HC0 : Hid (Ch [] w (((w.alloc (.cells #[.int .i64 k.k, .int .i64 k.p, .int .i64 k.q, .string k.s, .int .i64 k.r] 26)).alloc (.cells #[.int .i64 0, .int .i64 0, .int .i64 0, .string ⟨#[]⟩, .int .i64 0] 26)).alloc (.cells #[.int .i64 0, .int .i64 0, .int .i64 0, .string ⟨#[]⟩, .int .i64 0] 26))) := Lib.hid ((((Ch.refl [] w).alloc _).alloc _).alloc _)
  have Q1 : Hid (∀ W, Calls Try.prog 26 #[.agg #[.int .i64 k.k, .int .i64 k.p, .int .i64 k.q, .string k.s, .int .i64 k.r]] W fun e w' => e = .returned (.bool false) ∧ Below W.heap.size W w') := Lib.hid fun W => by rw [← (show okV k = false from hk1)]; exact valid5 k.k k.p k.q k.s k.r W
  clear hk1
  go_enter Try.func18, Try.ntmps18
  go_upto_region 1 with fail
  generalize (((w.alloc (.cells #[.int .i64 k.k, .int .i64 k.p, .int .i64 k.q, .string k.s, .int .i64 k.r] 26)).alloc (.cells #[.int .i64 0, .int .i64 0, .int .i64 0, .string ⟨#[]⟩, .int .i64 0] 26)).alloc (.cells #[.int .i64 0, .int .i64 0, .int .i64 0, .string ⟨#[]⟩, .int .i64 0] 26)) = w0 at *
  have u0 : w0.cell? ⟨w.heap.size, 0, none⟩ = some (.int .i64 k.k) := KK0.out.cell 0
  have u1 : w0.cell? ⟨w.heap.size, 1, none⟩ = some (.int .i64 k.p) := KK0.out.cell 1
  have u2 : w0.cell? ⟨w.heap.size, 2, none⟩ = some (.int .i64 k.q) := KK0.out.cell 2
  have u3 : w0.cell? ⟨w.heap.size, 3, none⟩ = some (.string k.s) := KK0.out.cell 3
  have u4 : w0.cell? ⟨w.heap.size, 4, none⟩ = some (.int .i64 k.r) := KK0.out.cell 4
  have lu := KK0.out.lt
  go_upto_region 4 with (go_at_call 26; (with_reducible refine (Q1.out _).mono ?_); rintro e w1 ⟨rfl, hb1⟩; have HD1 : Hid (Ch [] w0 w1) := Lib.hid (Ch.of_below hb1); clear hb1)
  have KA7 := Lib.hid (KA0.out.ch HD1.out (not_nil _))
  have KB7 := Lib.hid (KB0.out.ch HD1.out (not_nil _))
  have r0 : w1.cell? ⟨(w.heap.size + 1), 0, none⟩ = some (.int .i64 0) := KA7.out.cell 0
  have r1 : w1.cell? ⟨(w.heap.size + 1), 1, none⟩ = some (.int .i64 0) := KA7.out.cell 1
  have r2 : w1.cell? ⟨(w.heap.size + 1), 2, none⟩ = some (.int .i64 0) := KA7.out.cell 2
  have r3 : w1.cell? ⟨(w.heap.size + 1), 3, none⟩ = some (.string ⟨#[]⟩) := KA7.out.cell 3
  have r4 : w1.cell? ⟨(w.heap.size + 1), 4, none⟩ = some (.int .i64 0) := KA7.out.cell 4
  have rf0 := KA7.out.fz 0
  have rf1 := KA7.out.fz 1
  have rf2 := KA7.out.fz 2
  have rf3 := KA7.out.fz 3
  have rf4 := KA7.out.fz 4
  have rl := KA7.out.lt
  have q0 : w1.cell? ⟨(w.heap.size + 1 + 1), 0, none⟩ = some (.int .i64 0) := KB7.out.cell 0
  have q1 : w1.cell? ⟨(w.heap.size + 1 + 1), 1, none⟩ = some (.int .i64 0) := KB7.out.cell 1
  have q2 : w1.cell? ⟨(w.heap.size + 1 + 1), 2, none⟩ = some (.int .i64 0) := KB7.out.cell 2
  have q3 : w1.cell? ⟨(w.heap.size + 1 + 1), 3, none⟩ = some (.string ⟨#[]⟩) := KB7.out.cell 3
  have q4 : w1.cell? ⟨(w.heap.size + 1 + 1), 4, none⟩ = some (.int .i64 0) := KB7.out.cell 4
  have qf0 := KB7.out.fz 0
  have qf1 := KB7.out.fz 1
  have qf2 := KB7.out.fz 2
  have qf3 := KB7.out.fz 3
  have qf4 := KB7.out.fz 4
  have ql := KB7.out.lt
  go_wp2
  show bodyPost _ _ _ Exit.ret _ (st5 (st5 w1 (w.heap.size + 1) (.int .i64 0) (.int .i64 0) (.int .i64 0) (.string ⟨#[]⟩) (.int .i64 0)) (w.heap.size + 1 + 1) (.int .i64 0) (.int .i64 0) (.int .i64 0) (.string ⟨#[]⟩) (.int .i64 0))
  have I1 : Blk 26 (w.heap.size + 1) #[.int .i64 0, .int .i64 0, .int .i64 0, .string ⟨#[]⟩, .int .i64 0] (st5 (st5 w1 (w.heap.size + 1) (.int .i64 0) (.int .i64 0) (.int .i64 0) (.string ⟨#[]⟩) (.int .i64 0)) (w.heap.size + 1 + 1) (.int .i64 0) (.int .i64 0) (.int .i64 0) (.string ⟨#[]⟩) (.int .i64 0)) := (st5_blk KA7.out).ch (st5_ch (S := [(w.heap.size + 1 + 1)]) (Ch.refl _ _) (.inl (by simp))) (by simp)
  have I2 : Blk 26 (w.heap.size + 1 + 1) #[.int .i64 0, .int .i64 0, .int .i64 0, .string ⟨#[]⟩, .int .i64 0] (st5 (st5 w1 (w.heap.size + 1) (.int .i64 0) (.int .i64 0) (.int .i64 0) (.string ⟨#[]⟩) (.int .i64 0)) (w.heap.size + 1 + 1) (.int .i64 0) (.int .i64 0) (.int .i64 0) (.string ⟨#[]⟩) (.int .i64 0)) := st5_blk (KB7.out.ch (st5_ch (S := [(w.heap.size + 1)]) (Ch.refl _ _) (.inl (by simp))) (by simp))
  have HS : Hid (Ch [(w.heap.size + 1), (w.heap.size + 1 + 1)] w1 (st5 (st5 w1 (w.heap.size + 1) (.int .i64 0) (.int .i64 0) (.int .i64 0) (.string ⟨#[]⟩) (.int .i64 0)) (w.heap.size + 1 + 1) (.int .i64 0) (.int .i64 0) (.int .i64 0) (.string ⟨#[]⟩) (.int .i64 0))) := Lib.hid (st5_ch (st5_ch (Ch.refl _ _) (.inl (by simp))) (.inl (by simp)))
  have x0 : (st5 (st5 w1 (w.heap.size + 1) (.int .i64 0) (.int .i64 0) (.int .i64 0) (.string ⟨#[]⟩) (.int .i64 0)) (w.heap.size + 1 + 1) (.int .i64 0) (.int .i64 0) (.int .i64 0) (.string ⟨#[]⟩) (.int .i64 0)).cell? ⟨(w.heap.size + 1), 0, none⟩ = some (.int .i64 0) := I1.cell 0
  have x1 : (st5 (st5 w1 (w.heap.size + 1) (.int .i64 0) (.int .i64 0) (.int .i64 0) (.string ⟨#[]⟩) (.int .i64 0)) (w.heap.size + 1 + 1) (.int .i64 0) (.int .i64 0) (.int .i64 0) (.string ⟨#[]⟩) (.int .i64 0)).cell? ⟨(w.heap.size + 1), 1, none⟩ = some (.int .i64 0) := I1.cell 1
  have x2 : (st5 (st5 w1 (w.heap.size + 1) (.int .i64 0) (.int .i64 0) (.int .i64 0) (.string ⟨#[]⟩) (.int .i64 0)) (w.heap.size + 1 + 1) (.int .i64 0) (.int .i64 0) (.int .i64 0) (.string ⟨#[]⟩) (.int .i64 0)).cell? ⟨(w.heap.size + 1), 2, none⟩ = some (.int .i64 0) := I1.cell 2
  have x3 : (st5 (st5 w1 (w.heap.size + 1) (.int .i64 0) (.int .i64 0) (.int .i64 0) (.string ⟨#[]⟩) (.int .i64 0)) (w.heap.size + 1 + 1) (.int .i64 0) (.int .i64 0) (.int .i64 0) (.string ⟨#[]⟩) (.int .i64 0)).cell? ⟨(w.heap.size + 1), 3, none⟩ = some (.string ⟨#[]⟩) := I1.cell 3
  have x4 : (st5 (st5 w1 (w.heap.size + 1) (.int .i64 0) (.int .i64 0) (.int .i64 0) (.string ⟨#[]⟩) (.int .i64 0)) (w.heap.size + 1 + 1) (.int .i64 0) (.int .i64 0) (.int .i64 0) (.string ⟨#[]⟩) (.int .i64 0)).cell? ⟨(w.heap.size + 1), 4, none⟩ = some (.int .i64 0) := I1.cell 4
  have y0 : (st5 (st5 w1 (w.heap.size + 1) (.int .i64 0) (.int .i64 0) (.int .i64 0) (.string ⟨#[]⟩) (.int .i64 0)) (w.heap.size + 1 + 1) (.int .i64 0) (.int .i64 0) (.int .i64 0) (.string ⟨#[]⟩) (.int .i64 0)).cell? ⟨(w.heap.size + 1 + 1), 0, none⟩ = some (.int .i64 0) := I2.cell 0
  have y1 : (st5 (st5 w1 (w.heap.size + 1) (.int .i64 0) (.int .i64 0) (.int .i64 0) (.string ⟨#[]⟩) (.int .i64 0)) (w.heap.size + 1 + 1) (.int .i64 0) (.int .i64 0) (.int .i64 0) (.string ⟨#[]⟩) (.int .i64 0)).cell? ⟨(w.heap.size + 1 + 1), 1, none⟩ = some (.int .i64 0) := I2.cell 1
  have y2 : (st5 (st5 w1 (w.heap.size + 1) (.int .i64 0) (.int .i64 0) (.int .i64 0) (.string ⟨#[]⟩) (.int .i64 0)) (w.heap.size + 1 + 1) (.int .i64 0) (.int .i64 0) (.int .i64 0) (.string ⟨#[]⟩) (.int .i64 0)).cell? ⟨(w.heap.size + 1 + 1), 2, none⟩ = some (.int .i64 0) := I2.cell 2
  have y3 : (st5 (st5 w1 (w.heap.size + 1) (.int .i64 0) (.int .i64 0) (.int .i64 0) (.string ⟨#[]⟩) (.int .i64 0)) (w.heap.size + 1 + 1) (.int .i64 0) (.int .i64 0) (.int .i64 0) (.string ⟨#[]⟩) (.int .i64 0)).cell? ⟨(w.heap.size + 1 + 1), 3, none⟩ = some (.string ⟨#[]⟩) := I2.cell 3
  have y4 : (st5 (st5 w1 (w.heap.size + 1) (.int .i64 0) (.int .i64 0) (.int .i64 0) (.string ⟨#[]⟩) (.int .i64 0)) (w.heap.size + 1 + 1) (.int .i64 0) (.int .i64 0) (.int .i64 0) (.string ⟨#[]⟩) (.int .i64 0)).cell? ⟨(w.heap.size + 1 + 1), 4, none⟩ = some (.int .i64 0) := I2.cell 4
  have HF := Lib.hid ((HC0.out.trans HD1.out).fresh (L := [(w.heap.size + 1), (w.heap.size + 1 + 1)]) (fun g hg => by simp at hg; omega) HS.out)
  generalize (st5 (st5 w1 (w.heap.size + 1) (.int .i64 0) (.int .i64 0) (.int .i64 0) (.string ⟨#[]⟩) (.int .i64 0)) (w.heap.size + 1 + 1) (.int .i64 0) (.int .i64 0) (.int .i64 0) (.string ⟨#[]⟩) (.int .i64 0)) = W9 at *
  refine bodyPost_ret (v := .tuple #[.agg #[.int .i64 0, .int .i64 0, .int .i64 0, .string ⟨#[]⟩, .int .i64 0], .agg #[.int .i64 0, .int .i64 0, .int .i64 0, .string ⟨#[]⟩, .int .i64 0], .bool false, .int .i64 13]) (by simp [results, Try.results18, go_sem, x0, x1, x2, x3, x4, y0, y1, y2, y3, y4]) rfl ⟨rfl, HF.out⟩
set_option maxHeartbeats 8000000 in
theorem tnx_some (B t : Nat) (va : Value) (b : Nat) (v m : Value) (s : TS) (w : World) (h : Tb B t va b v m s w) (k : V5) (hL : s.arr.length + s.R.length ≤ 900000) (hk1 : okV k = true) (i : Nat) (he : elF s.arr.length k = some i) :
    Calls Try.prog 18 #[.pointer (some ⟨t, 0, none⟩), .agg #[.int .i64 k.k, .int .i64 k.p, .int .i64 k.q, .string k.s, .int .i64 k.r]] w fun e w' => e = .returned (NxV (neN s i)) ∧ TbSaid B t va b v m (neS s i) w w' := by
  have KK0 : Hid (Blk 26 w.heap.size #[.int .i64 k.k, .int .i64 k.p, .int .i64 k.q, .string k.s, .int .i64 k.r] (((w.alloc (.cells #[.int .i64 k.k, .int .i64 k.p, .int .i64 k.q, .string k.s, .int .i64 k.r] 26)).alloc (.cells #[.int .i64 0, .int .i64 0, .int .i64 0, .string ⟨#[]⟩, .int .i64 0] 26)).alloc (.cells #[.int .i64 0, .int .i64 0, .int .i64 0, .string ⟨#[]⟩, .int .i64 0] 26))) := Lib.hid ((Blk.new w 26 _ _ rfl).ch (((Ch.refl [] _).alloc _).alloc _) (not_nil _))
  have KA0 : Hid (Blk 26 (w.heap.size + 1) #[.int .i64 0, .int .i64 0, .int .i64 0, .string ⟨#[]⟩, .int .i64 0] (((w.alloc (.cells #[.int .i64 k.k, .int .i64 k.p, .int .i64 k.q, .string k.s, .int .i64 k.r] 26)).alloc (.cells #[.int .i64 0, .int .i64 0, .int .i64 0, .string ⟨#[]⟩, .int .i64 0] 26)).alloc (.cells #[.int .i64 0, .int .i64 0, .int .i64 0, .string ⟨#[]⟩, .int .i64 0] 26))) := Lib.hid ((Blk.new (w.alloc (.cells #[.int .i64 k.k, .int .i64 k.p, .int .i64 k.q, .string k.s, .int .i64 k.r] 26)) 26 _ _ (by simp)).ch ((Ch.refl [] _).alloc _) (not_nil _))
  have KB0 : Hid (Blk 26 (w.heap.size + 1 + 1) #[.int .i64 0, .int .i64 0, .int .i64 0, .string ⟨#[]⟩, .int .i64 0] (((w.alloc (.cells #[.int .i64 k.k, .int .i64 k.p, .int .i64 k.q, .string k.s, .int .i64 k.r] 26)).alloc (.cells #[.int .i64 0, .int .i64 0, .int .i64 0, .string ⟨#[]⟩, .int .i64 0] 26)).alloc (.cells #[.int .i64 0, .int .i64 0, .int .i64 0, .string ⟨#[]⟩, .int .i64 0] 26))) := Lib.hid (Blk.new _ 26 _ _ (by simp))
  have HC0 : Hid (Ch [] w (((w.alloc (.cells #[.int .i64 k.k, .int .i64 k.p, .int .i64 k.q, .string k.s, .int .i64 k.r] 26)).alloc (.cells #[.int .i64 0, .int .i64 0, .int .i64 0, .string ⟨#[]⟩, .int .i64 0] 26)).alloc (.cells #[.int .i64 0, .int .i64 0, .int .i64 0, .string ⟨#[]⟩, .int .i64 0] 26))) := Lib.hid ((((Ch.refl [] w).alloc _).alloc _).alloc _)
  have HT0 : Hid (Tb B t va b v m s (((w.alloc (.cells #[.int .i64 k.k, .int .i64 k.p, .int .i64 k.q, .string k.s, .int .i64 k.r] 26)).alloc (.cells #[.int .i64 0, .int .i64 0, .int .i64 0, .string ⟨#[]⟩, .int .i64 0] 26)).alloc (.cells #[.int .i64 0, .int .i64 0, .int .i64 0, .string ⟨#[]⟩, .int .i64 0] 26))) := Lib.hid (h.ch0 ((((Ch.refl [] w).alloc _).alloc _).alloc _))
  have HNT : Hid (∀ g ∈ tbS t va b v m, g < w.heap.size) := Lib.hid fun g hg => (h.lt g hg).2
  have HLL := Lib.hid hL
  have Q1 : Hid (∀ W, Calls Try.prog 26 #[.agg #[.int .i64 k.k, .int .i64 k.p, .int .i64 k.q, .string k.s, .int .i64 k.r]] W fun e w' => e = .returned (.bool true) ∧ Below W.heap.size W w') := Lib.hid fun W => by rw [← (show okV k = true from hk1)]; exact valid5 k.k k.p k.q k.s k.r W
  have QE : Hid (∀ W, Tb B t va b v m s W → Calls Try.prog 27 #[.pointer (some ⟨t, 0, none⟩), .agg #[.int .i64 k.k, .int .i64 k.p, .int .i64 k.q, .string k.s, .int .i64 k.r]] W fun e w' => e = .returned (.tuple #[.int .i64 (i : Int), .bool true]) ∧ Below W.heap.size W w') := Lib.hid fun W hw => element_some B t va b v m s W hw k i he
  have HIL : Hid (i ≤ s.arr.length) := Lib.hid (elF_some he).2.1
  clear he
  clear h hk1 hL
  go_enter Try.func18, Try.ntmps18
  go_upto_region 1 with fail
  generalize (((w.alloc (.cells #[.int .i64 k.k, .int .i64 k.p, .int .i64 k.q, .string k.s, .int .i64 k.r] 26)).alloc (.cells #[.int .i64 0, .int .i64 0, .int .i64 0, .string ⟨#[]⟩, .int .i64 0] 26)).alloc (.cells #[.int .i64 0, .int .i64 0, .int .i64 0, .string ⟨#[]⟩, .int .i64 0] 26)) = w0 at *
  have u0 : w0.cell? ⟨w.heap.size, 0, none⟩ = some (.int .i64 k.k) := KK0.out.cell 0
  have u1 : w0.cell? ⟨w.heap.size, 1, none⟩ = some (.int .i64 k.p) := KK0.out.cell 1
  have u2 : w0.cell? ⟨w.heap.size, 2, none⟩ = some (.int .i64 k.q) := KK0.out.cell 2
  have u3 : w0.cell? ⟨w.heap.size, 3, none⟩ = some (.string k.s) := KK0.out.cell 3
  have u4 : w0.cell? ⟨w.heap.size, 4, none⟩ = some (.int .i64 k.r) := KK0.out.cell 4
  have lu := KK0.out.lt
  go_upto_region 5 with (go_at_call 26; (with_reducible refine (Q1.out _).mono ?_); rintro e w1 ⟨rfl, hb1⟩; have HD1 : Hid (Ch [] w0 w1) := Lib.hid (Ch.of_below hb1); clear hb1)
  clear u0 u1 u2 u3 u4 lu
  have KK1 := Lib.hid (KK0.out.ch HD1.out (not_nil _))
  have u1_0 : w1.cell? ⟨w.heap.size, 0, none⟩ = some (.int .i64 k.k) := KK1.out.cell 0
  have u1_1 : w1.cell? ⟨w.heap.size, 1, none⟩ = some (.int .i64 k.p) := KK1.out.cell 1
  have u1_2 : w1.cell? ⟨w.heap.size, 2, none⟩ = some (.int .i64 k.q) := KK1.out.cell 2
  have u1_3 : w1.cell? ⟨w.heap.size, 3, none⟩ = some (.string k.s) := KK1.out.cell 3
  have u1_4 : w1.cell? ⟨w.heap.size, 4, none⟩ = some (.int .i64 k.r) := KK1.out.cell 4
  have lu1 := KK1.out.lt
  go_upto_region 6 with (go_at_call 27; (with_reducible refine (QE.out _ (HT0.out.ch0 HD1.out)).mono ?_); rintro e w3 ⟨rfl, hb3⟩; have HD3 : Hid (Ch [] w0 w3) := Lib.hid (HD1.out.trans (Ch.of_below hb3)); clear hb3)
  clear u1_0 u1_1 u1_2 u1_3 u1_4 lu1
  have KK3 := Lib.hid (KK0.out.ch HD3.out (not_nil _))
  have KA3 := Lib.hid (KA0.out.ch HD3.out (not_nil _))
  have KB3 := Lib.hid (KB0.out.ch HD3.out (not_nil _))
  have HT3 := Lib.hid (HT0.out.ch0 HD3.out)
  have HCW : Hid (Ch (tbS t va b v m) w w3) := Lib.hid ((HC0.out.trans HD3.out).mono (fun g hg => absurd hg (not_nil g)))
  have u3_0 : w3.cell? ⟨w.heap.size, 0, none⟩ = some (.int .i64 k.k) := KK3.out.cell 0
  have u3_1 : w3.cell? ⟨w.heap.size, 1, none⟩ = some (.int .i64 k.p) := KK3.out.cell 1
  have u3_2 : w3.cell? ⟨w.heap.size, 2, none⟩ = some (.int .i64 k.q) := KK3.out.cell 2
  have u3_3 : w3.cell? ⟨w.heap.size, 3, none⟩ = some (.string k.s) := KK3.out.cell 3
  have u3_4 : w3.cell? ⟨w.heap.size, 4, none⟩ = some (.int .i64 k.r) := KK3.out.cell 4
  have lu3 := KK3.out.lt
  have QX := ne_any B t va b v m s w3 HT3.out i HIL.out HLL.out
  obtain ⟨y, hy⟩ : ∃ y, neN s i = y := ⟨_, rfl⟩
  rw [hy] at QX
  have HY := Lib.hid hy
  clear hy
  unfold NxV at QX
  have QXH : Hid (Calls Try.prog 37 #[.pointer (some ⟨t, 0, none⟩), .int .i64 (i : Int)] w3 fun e w' => e = .returned (.tuple #[.agg #[.int .i64 y.key.k, .int .i64 y.key.p, .int .i64 y.key.q, .string y.key.s, .int .i64 y.key.r], .agg #[.int .i64 y.val.k, .int .i64 y.val.p, .int .i64 y.val.q, .string y.val.s, .int .i64 y.val.r], .bool y.ok, .int .i64 y.err]) ∧ TbSaid B t va b v m (neS s i) w3 w') := Lib.hid QX
  clear QX
  go_upto_region 7 with fail
  clear u3_0 u3_1 u3_2 u3_3 u3_4 lu3
  go_wp2_with (go_at_call 37; (with_reducible refine (QXH.out).mono ?_); rintro e w7 ⟨rfl, hs5⟩; have HS5 := Lib.hid hs5; have KA7 := Lib.hid (KA3.out.ch hs5.2 (fun hq => by have := HNT.out _ hq; omega)); have KB7 := Lib.hid (KB3.out.ch hs5.2 (fun hq => by have := HNT.out _ hq; omega)); have r0 : w7.cell? ⟨(w.heap.size + 1), 0, none⟩ = some (.int .i64 0) := KA7.out.cell 0; have r1 : w7.cell? ⟨(w.heap.size + 1), 1, none⟩ = some (.int .i64 0) := KA7.out.cell 1; have r2 : w7.cell? ⟨(w.heap.size + 1), 2, none⟩ = some (.int .i64 0) := KA7.out.cell 2; have r3 : w7.cell? ⟨(w.heap.size + 1), 3, none⟩ = some (.string ⟨#[]⟩) := KA7.out.cell 3; have r4 : w7.cell? ⟨(w.heap.size + 1), 4, none⟩ = some (.int .i64 0) := KA7.out.cell 4; have rf0 := KA7.out.fz 0; have rf1 := KA7.out.fz 1; have rf2 := KA7.out.fz 2; have rf3 := KA7.out.fz 3; have rf4 := KA7.out.fz 4; have rl := KA7.out.lt; have q0 : w7.cell? ⟨(w.heap.size + 1 + 1), 0, none⟩ = some (.int .i64 0) := KB7.out.cell 0; have q1 : w7.cell? ⟨(w.heap.size + 1 + 1), 1, none⟩ = some (.int .i64 0) := KB7.out.cell 1; have q2 : w7.cell? ⟨(w.heap.size + 1 + 1), 2, none⟩ = some (.int .i64 0) := KB7.out.cell 2; have q3 : w7.cell? ⟨(w.heap.size + 1 + 1), 3, none⟩ = some (.string ⟨#[]⟩) := KB7.out.cell 3; have q4 : w7.cell? ⟨(w.heap.size + 1 + 1), 4, none⟩ = some (.int .i64 0) := KB7.out.cell 4; have qf0 := KB7.out.fz 0; have qf1 := KB7.out.fz 1; have qf2 := KB7.out.fz 2; have qf3 := KB7.out.fz 3; have qf4 := KB7.out.fz 4; have ql := KB7.out.lt; clear hs5)
  rw [HY.out]
  unfold NxV
  show bodyPost _ _ _ Exit.ret _ (st5 (st5 w7 (w.heap.size + 1) (.int .i64 y.key.k) (.int .i64 y.key.p) (.int .i64 y.key.q) (.string y.key.s) (.int .i64 y.key.r)) (w.heap.size + 1 + 1) (.int .i64 y.val.k) (.int .i64 y.val.p) (.int .i64 y.val.q) (.string y.val.s) (.int .i64 y.val.r))
  have I1 : Blk 26 (w.heap.size + 1) #[.int .i64 y.key.k, .int .i64 y.key.p, .int .i64 y.key.q, .string y.key.s, .int .i64 y.key.r] (st5 (st5 w7 (w.heap.size + 1) (.int .i64 y.key.k) (.int .i64 y.key.p) (.int .i64 y.key.q) (.string y.key.s) (.int .i64 y.key.r)) (w.heap.size + 1 + 1) (.int .i64 y.val.k) (.int .i64 y.val.p) (.int .i64 y.val.q) (.string y.val.s) (.int .i64 y.val.r)) := (st5_blk KA7.out).ch (st5_ch (S := [(w.heap.size + 1 + 1)]) (Ch.refl _ _) (.inl (by simp))) (by simp)
  have I2 : Blk 26 (w.heap.size + 1 + 1) #[.int .i64 y.val.k, .int .i64 y.val.p, .int .i64 y.val.q, .string y.val.s, .int .i64 y.val.r] (st5 (st5 w7 (w.heap.size + 1) (.int .i64 y.key.k) (.int .i64 y.key.p) (.int .i64 y.key.q) (.string y.key.s) (.int .i64 y.key.r)) (w.heap.size + 1 + 1) (.int .i64 y.val.k) (.int .i64 y.val.p) (.int .i64 y.val.q) (.string y.val.s) (.int .i64 y.val.r)) := st5_blk (KB7.out.ch (st5_ch (S := [(w.heap.size + 1)]) (Ch.refl _ _) (.inl (by simp))) (by simp))
  have HS : Hid (Ch [(w.heap.size + 1), (w.heap.size + 1 + 1)] w7 (st5 (st5 w7 (w.heap.size + 1) (.int .i64 y.key.k) (.int .i64 y.key.p) (.int .i64 y.key.q) (.string y.key.s) (.int .i64 y.key.r)) (w.heap.size + 1 + 1) (.int .i64 y.val.k) (.int .i64 y.val.p) (.int .i64 y.val.q) (.string y.val.s) (.int .i64 y.val.r))) := Lib.hid (st5_ch (st5_ch (Ch.refl _ _) (.inl (by simp))) (.inl (by simp)))
  have x0 : (st5 (st5 w7 (w.heap.size + 1) (.int .i64 y.key.k) (.int .i64 y.key.p) (.int .i64 y.key.q) (.string y.key.s) (.int .i64 y.key.r)) (w.heap.size + 1 + 1) (.int .i64 y.val.k) (.int .i64 y.val.p) (.int .i64 y.val.q) (.string y.val.s) (.int .i64 y.val.r)).cell? ⟨(w.heap.size + 1), 0, none⟩ = some (.int .i64 y.key.k) := I1.cell 0
  have x1 : (st5 (st5 w7 (w.heap.size + 1) (.int .i64 y.key.k) (.int .i64 y.key.p) (.int .i64 y.key.q) (.string y.key.s) (.int .i64 y.key.r)) (w.heap.size + 1 + 1) (.int .i64 y.val.k) (.int .i64 y.val.p) (.int .i64 y.val.q) (.string y.val.s) (.int .i64 y.val.r)).cell? ⟨(w.heap.size + 1), 1, none⟩ = some (.int .i64 y.key.p) := I1.cell 1
  have x2 : (st5 (st5 w7 (w.heap.size + 1) (.int .i64 y.key.k) (.int .i64 y.key.p) (.int .i64 y.key.q) (.string y.key.s) (.int .i64 y.key.r)) (w.heap.size + 1 + 1) (.int .i64 y.val.k) (.int .i64 y.val.p) (.int .i64 y.val.q) (.string y.val.s) (.int .i64 y.val.r)).cell? ⟨(w.heap.size + 1), 2, none⟩ = some (.int .i64 y.key.q) := I1.cell 2
  have x3 : (st5 (st5 w7 (w.heap.size + 1) (.int .i64 y.key.k) (.int .i64 y.key.p) (.int .i64 y.key.q) (.string y.key.s) (.int .i64 y.key.r)) (w.heap.size + 1 + 1) (.int .i64 y.val.k) (.int .i64 y.val.p) (.int .i64 y.val.q) (.string y.val.s) (.int .i64 y.val.r)).cell? ⟨(w.heap.size + 1), 3, none⟩ = some (.string y.key.s) := I1.cell 3
  have x4 : (st5 (st5 w7 (w.heap.size + 1) (.int .i64 y.key.k) (.int .i64 y.key.p) (.int .i64 y.key.q) (.string y.key.s) (.int .i64 y.key.r)) (w.heap.size + 1 + 1) (.int .i64 y.val.k) (.int .i64 y.val.p) (.int .i64 y.val.q) (.string y.val.s) (.int .i64 y.val.r)).cell? ⟨(w.heap.size + 1), 4, none⟩ = some (.int .i64 y.key.r) := I1.cell 4
  have y0 : (st5 (st5 w7 (w.heap.size + 1) (.int .i64 y.key.k) (.int .i64 y.key.p) (.int .i64 y.key.q) (.string y.key.s) (.int .i64 y.key.r)) (w.heap.size + 1 + 1) (.int .i64 y.val.k) (.int .i64 y.val.p) (.int .i64 y.val.q) (.string y.val.s) (.int .i64 y.val.r)).cell? ⟨(w.heap.size + 1 + 1), 0, none⟩ = some (.int .i64 y.val.k) := I2.cell 0
  have y1 : (st5 (st5 w7 (w.heap.size + 1) (.int .i64 y.key.k) (.int .i64 y.key.p) (.int .i64 y.key.q) (.string y.key.s) (.int .i64 y.key.r)) (w.heap.size + 1 + 1) (.int .i64 y.val.k) (.int .i64 y.val.p) (.int .i64 y.val.q) (.string y.val.s) (.int .i64 y.val.r)).cell? ⟨(w.heap.size + 1 + 1), 1, none⟩ = some (.int .i64 y.val.p) := I2.cell 1
  have y2 : (st5 (st5 w7 (w.heap.size + 1) (.int .i64 y.key.k) (.int .i64 y.key.p) (.int .i64 y.key.q) (.string y.key.s) (.int .i64 y.key.r)) (w.heap.size + 1 + 1) (.int .i64 y.val.k) (.int .i64 y.val.p) (.int .i64 y.val.q) (.string y.val.s) (.int .i64 y.val.r)).cell? ⟨(w.heap.size + 1 + 1), 2, none⟩ = some (.int .i64 y.val.q) := I2.cell 2
  have y3 : (st5 (st5 w7 (w.heap.size + 1) (.int .i64 y.key.k) (.int .i64 y.key.p) (.int .i64 y.key.q) (.string y.key.s) (.int .i64 y.key.r)) (w.heap.size + 1 + 1) (.int .i64 y.val.k) (.int .i64 y.val.p) (.int .i64 y.val.q) (.string y.val.s) (.int .i64 y.val.r)).cell? ⟨(w.heap.size + 1 + 1), 3, none⟩ = some (.string y.val.s) := I2.cell 3
  have y4 : (st5 (st5 w7 (w.heap.size + 1) (.int .i64 y.key.k) (.int .i64 y.key.p) (.int .i64 y.key.q) (.string y.key.s) (.int .i64 y.key.r)) (w.heap.size + 1 + 1) (.int .i64 y.val.k) (.int .i64 y.val.p) (.int .i64 y.val.q) (.string y.val.s) (.int .i64 y.val.r)).cell? ⟨(w.heap.size + 1 + 1), 4, none⟩ = some (.int .i64 y.val.r) := I2.cell 4
  have HF := Lib.hid (tb_fin HCW.out HS5.out HS.out (fun g hg => by
    have hA := KA3.out.lt
    have hB := KB3.out.lt
    simp at hg
    rcases hg with rfl | rfl
    · exact ⟨fun hq => by have := HNT.out _ hq; omega, hA, by omega⟩
    · exact ⟨fun hq => by have := HNT.out _ hq; omega, hB, by omega⟩))
  generalize (st5 (st5 w7 (w.heap.size + 1) (.int .i64 y.key.k) (.int .i64 y.key.p) (.int .i64 y.key.q) (.string y.key.s) (.int .i64 y.key.r)) (w.heap.size + 1 + 1) (.int .i64 y.val.k) (.int .i64 y.val.p) (.int .i64 y.val.q) (.string y.val.s) (.int .i64 y.val.r)) = W9 at *
  refine bodyPost_ret (v := .tuple #[.agg #[.int .i64 y.key.k, .int .i64 y.key.p, .int .i64 y.key.q, .string y.key.s, .int .i64 y.key.r], .agg #[.int .i64 y.val.k, .int .i64 y.val.p, .int .i64 y.val.q, .string y.val.s, .int .i64 y.val.r], .bool y.ok, .int .i64 y.err]) (by simp [results, Try.results18, go_sem, x0, x1, x2, x3, x4, y0, y1, y2, y3, y4]) rfl ⟨rfl, HF.out⟩
set_option maxHeartbeats 8000000 in
theorem tnx_nil (B t : Nat) (va : Value) (b : Nat) (v m : Value) (s : TS) (w : World) (h : Tb B t va b v m s w) (k : V5) (hL : s.arr.length + s.R.length ≤ 900000) (hk1 : okV k = true) (he : elF s.arr.length k = none) (hk : k.k = 0) :
    Calls Try.prog 18 #[.pointer (some ⟨t, 0, none⟩), .agg #[.int .i64 k.k, .int .i64 k.p, .int .i64 k.q, .string k.s, .int .i64 k.r]] w fun e w' => e = .returned (NxV (neN s 0)) ∧ TbSaid B t va b v m (neS s 0) w w' := by
  have KK0 : Hid (Blk 26 w.heap.size #[.int .i64 k.k, .int .i64 k.p, .int .i64 k.q, .string k.s, .int .i64 k.r] (((w.alloc (.cells #[.int .i64 k.k, .int .i64 k.p, .int .i64 k.q, .string k.s, .int .i64 k.r] 26)).alloc (.cells #[.int .i64 0, .int .i64 0, .int .i64 0, .string ⟨#[]⟩, .int .i64 0] 26)).alloc (.cells #[.int .i64 0, .int .i64 0, .int .i64 0, .string ⟨#[]⟩, .int .i64 0] 26))) := Lib.hid ((Blk.new w 26 _ _ rfl).ch (((Ch.refl [] _).alloc _).alloc _) (not_nil _))
  have KA0 : Hid (Blk 26 (w.heap.size + 1) #[.int .i64 0, .int .i64 0, .int .i64 0, .string ⟨#[]⟩, .int .i64 0] (((w.alloc (.cells #[.int .i64 k.k, .int .i64 k.p, .int .i64 k.q, .string k.s, .int .i64 k.r] 26)).alloc (.cells #[.int .i64 0, .int .i64 0, .int .i64 0, .string ⟨#[]⟩, .int .i64 0] 26)).alloc (.cells #[.int .i64 0, .int .i64 0, .int .i64 0, .string ⟨#[]⟩, .int .i64 0] 26))) := Lib.hid ((Blk.new (w.alloc (.cells #[.int .i64 k.k, .int .i64 k.p, .int .i64 k.q, .string k.s, .int .i64 k.r] 26)) 26 _ _ (by simp)).ch ((Ch.refl [] _).alloc _) (not_nil _))
  have KB0 : Hid (Blk 26 (w.heap.size + 1 + 1) #[.int .i64 0, .int .i64 0, .int .i64 0, .string ⟨#[]⟩, .int .i64 0] (((w.alloc (.cells #[.int .i64 k.k, .int .i64 k.p, .int .i64 k.q, .string k.s, .int .i64 k.r] 26)).alloc (.cells #[.int .i64 0, .int .i64 0, .int .i64 0, .string ⟨#[]⟩, .int .i64 0] 26)).alloc (.cells #[.int .i64 0, .int .i64 0, .int .i64 0, .string ⟨#[]⟩, .int .i64 0] 26))) := Lib.hid (Blk.new _ 26 _ _ (by simp))
  have HC0 : Hid (Ch [] w (((w.alloc (.cells #[.int .i64 k.k, .int .i64 k.p, .int .i64 k.q, .string k.s, .int .i64 k.r] 26)).alloc (.cells #[.int .i64 0, .int .i64 0, .int .i64 0, .string ⟨#[]⟩, .int .i64 0] 26)).alloc (.cells #[.int .i64 0, .int .i64 0, .int .i64 0, .string ⟨#[]⟩, .int .i64 0] 26))) := Lib.hid ((((Ch.refl [] w).alloc _).alloc _).alloc _)
  have HT0 : Hid (Tb B t va b v m s (((w.alloc (.cells #[.int .i64 k.k, .int .i64 k.p, .int .i64 k.q, .string k.s, .int .i64 k.r] 26)).alloc (.cells #[.int .i64 0, .int .i64 0, .int .i64 0, .string ⟨#[]⟩, .int .i64 0] 26)).alloc (.cells #[.int .i64 0, .int .i64 0, .int .i64 0, .string ⟨#[]⟩, .int .i64 0] 26))) := Lib.hid (h.ch0 ((((Ch.refl [] w).alloc _).alloc _).alloc _))
  have HNT : Hid (∀ g ∈ tbS t va b v m, g < w.heap.size) := Lib.hid fun g hg => (h.lt g hg).2
  have HLL := Lib.hid hL
  have Q1 : Hid (∀ W, Calls Try.prog 26 #[.agg #[.int .i64 k.k, .int .i64 k.p, .int .i64 k.q, .string k.s, .int .i64 k.r]] W fun e w' => e = .returned (.bool true) ∧ Below W.heap.size W w') := Lib.hid fun W => by rw [← (show okV k = true from hk1)]; exact valid5 k.k k.p k.q k.s k.r W
  have QE : Hid (∀ W, Tb B t va b v m s W → Calls Try.prog 27 #[.pointer (some ⟨t, 0, none⟩), .agg #[.int .i64 k.k, .int .i64 k.p, .int .i64 k.q, .string k.s, .int .i64 k.r]] W fun e w' => e = .returned (.tuple #[.int .i64 0, .bool false]) ∧ Below W.heap.size W w') := Lib.hid fun W hw => element_none B t va b v m s W hw k he
  have HIL : Hid (0 ≤ s.arr.length) := Lib.hid (Nat.zero_le _)
  have ek : (k.k == 0) = true := beq_iff_eq.2 hk
  clear he hk
  clear h hk1 hL
  go_enter Try.func18, Try.ntmps18
  go_upto_region 1 with fail
  generalize (((w.alloc (.cells #[.int .i64 k.k, .int .i64 k.p, .int .i64 k.q, .string k.s, .int .i64 k.r] 26)).alloc (.cells #[.int .i64 0, .int .i64 0, .int .i64 0, .string ⟨#[]⟩, .int .i64 0] 26)).alloc (.cells #[.int .i64 0, .int .i64 0, .int .i64 0, .string ⟨#[]⟩, .int .i64 0] 26)) = w0 at *
  have u0 : w0.cell? ⟨w.heap.size, 0, none⟩ = some (.int .i64 k.k) := KK0.out.cell 0
  have u1 : w0.cell? ⟨w.heap.size, 1, none⟩ = some (.int .i64 k.p) := KK0.out.cell 1
  have u2 : w0.cell? ⟨w.heap.size, 2, none⟩ = some (.int .i64 k.q) := KK0.out.cell 2
  have u3 : w0.cell? ⟨w.heap.size, 3, none⟩ = some (.string k.s) := KK0.out.cell 3
  have u4 : w0.cell? ⟨w.heap.size, 4, none⟩ = some (.int .i64 k.r) := KK0.out.cell 4
  have lu := KK0.out.lt
  go_upto_region 5 with (go_at_call 26; (with_reducible refine (Q1.out _).mono ?_); rintro e w1 ⟨rfl, hb1⟩; have HD1 : Hid (Ch [] w0 w1) := Lib.hid (Ch.of_below hb1); clear hb1)
  clear u0 u1 u2 u3 u4 lu
  have KK1 := Lib.hid (KK0.out.ch HD1.out (not_nil _))
  have u1_0 : w1.cell? ⟨w.heap.size, 0, none⟩ = some (.int .i64 k.k) := KK1.out.cell 0
  have u1_1 : w1.cell? ⟨w.heap.size, 1, none⟩ = some (.int .i64 k.p) := KK1.out.cell 1
  have u1_2 : w1.cell? ⟨w.heap.size, 2, none⟩ = some (.int .i64 k.q) := KK1.out.cell 2
  have u1_3 : w1.cell? ⟨w.heap.size, 3, none⟩ = some (.string k.s) := KK1.out.cell 3
  have u1_4 : w1.cell? ⟨w.heap.size, 4, none⟩ = some (.int .i64 k.r) := KK1.out.cell 4
  have lu1 := KK1.out.lt
  go_upto_region 6 with (go_at_call 27; (with_reducible refine (QE.out _ (HT0.out.ch0 HD1.out)).mono ?_); rintro e w3 ⟨rfl, hb3⟩; have HD3 : Hid (Ch [] w0 w3) := Lib.hid (HD1.out.trans (Ch.of_below hb3)); clear hb3)
  clear u1_0 u1_1 u1_2 u1_3 u1_4 lu1
  have KK3 := Lib.hid (KK0.out.ch HD3.out (not_nil _))
  have KA3 := Lib.hid (KA0.out.ch HD3.out (not_nil _))
  have KB3 := Lib.hid (KB0.out.ch HD3.out (not_nil _))
  have HT3 := Lib.hid (HT0.out.ch0 HD3.out)
  have HCW : Hid (Ch (tbS t va b v m) w w3) := Lib.hid ((HC0.out.trans HD3.out).mono (fun g hg => absurd hg (not_nil g)))
  have u3_0 : w3.cell? ⟨w.heap.size, 0, none⟩ = some (.int .i64 k.k) := KK3.out.cell 0
  have u3_1 : w3.cell? ⟨w.heap.size, 1, none⟩ = some (.int .i64 k.p) := KK3.out.cell 1
  have u3_2 : w3.cell? ⟨w.heap.size, 2, none⟩ = some (.int .i64 k.q) := KK3.out.cell 2
  have u3_3 : w3.cell? ⟨w.heap.size, 3, none⟩ = some (.string k.s) := KK3.out.cell 3
  have u3_4 : w3.cell? ⟨w.heap.size, 4, none⟩ = some (.int .i64 k.r) := KK3.out.cell 4
  have lu3 := KK3.out.lt
  have QX := ne_any B t va b v m s w3 HT3.out 0 HIL.out HLL.out
  obtain ⟨y, hy⟩ : ∃ y, neN s 0 = y := ⟨_, rfl⟩
  rw [hy] at QX
  have HY := Lib.hid hy
  clear hy
  unfold NxV at QX
  have QXH : Hid (Calls Try.prog 37 #[.pointer (some ⟨t, 0, none⟩), .int .i64 0] w3 fun e w' => e = .returned (.tuple #[.agg #[.int .i64 y.key.k, .int .i64 y.key.p, .int .i64 y.key.q, .string y.key.s, .int .i64 y.key.r], .agg #[.int .i64 y.val.k, .int .i64 y.val.p, .int .i64 y.val.q, .string y.val.s, .int .i64 y.val.r], .bool y.ok, .int .i64 y.err]) ∧ TbSaid B t va b v m (neS s 0) w3 w') := Lib.hid QX
  clear QX
  go_upto_region 7 with fail
  clear u3_0 u3_1 u3_2 u3_3 u3_4 lu3
  go_wp2_with (go_at_call 37; (with_reducible refine (QXH.out).mono ?_); rintro e w7 ⟨rfl, hs5⟩; have HS5 := Lib.hid hs5; have KA7 := Lib.hid (KA3.out.ch hs5.2 (fun hq => by have := HNT.out _ hq; omega)); have KB7 := Lib.hid (KB3.out.ch hs5.2 (fun hq => by have := HNT.out _ hq; omega)); have r0 : w7.cell? ⟨(w.heap.size + 1), 0, none⟩ = some (.int .i64 0) := KA7.out.cell 0; have r1 : w7.cell? ⟨(w.heap.size + 1), 1, none⟩ = some (.int .i64 0) := KA7.out.cell 1; have r2 : w7.cell? ⟨(w.heap.size + 1), 2, none⟩ = some (.int .i64 0) := KA7.out.cell 2; have r3 : w7.cell? ⟨(w.heap.size + 1), 3, none⟩ = some (.string ⟨#[]⟩) := KA7.out.cell 3; have r4 : w7.cell? ⟨(w.heap.size + 1), 4, none⟩ = some (.int .i64 0) := KA7.out.cell 4; have rf0 := KA7.out.fz 0; have rf1 := KA7.out.fz 1; have rf2 := KA7.out.fz 2; have rf3 := KA7.out.fz 3; have rf4 := KA7.out.fz 4; have rl := KA7.out.lt; have q0 : w7.cell? ⟨(w.heap.size + 1 + 1), 0, none⟩ = some (.int .i64 0) := KB7.out.cell 0; have q1 : w7.cell? ⟨(w.heap.size + 1 + 1), 1, none⟩ = some (.int .i64 0) := KB7.out.cell 1; have q2 : w7.cell? ⟨(w.heap.size + 1 + 1), 2, none⟩ = some (.int .i64 0) := KB7.out.cell 2; have q3 : w7.cell? ⟨(w.heap.size + 1 + 1), 3, none⟩ = some (.string ⟨#[]⟩) := KB7.out.cell 3; have q4 : w7.cell? ⟨(w.heap.size + 1 + 1), 4, none⟩ = some (.int .i64 0) := KB7.out.cell 4; have qf0 := KB7.out.fz 0; have qf1 := KB7.out.fz 1; have qf2 := KB7.out.fz 2; have qf3 := KB7.out.fz 3; have qf4 := KB7.out.fz 4; have ql := KB7.out.lt; clear hs5)
  rw [HY.out]
  unfold NxV
  show bodyPost _ _ _ Exit.ret _ (st5 (st5 w7 (w.heap.size + 1) (.int .i64 y.key.k) (.int .i64 y.key.p) (.int .i64 y.key.q) (.string y.key.s) (.int .i64 y.key.r)) (w.heap.size + 1 + 1) (.int .i64 y.val.k) (.int .i64 y.val.p) (.int .i64 y.val.q) (.string y.val.s) (.int .i64 y.val.r))
  have I1 : Blk 26 (w.heap.size + 1) #[.int .i64 y.key.k, .int .i64 y.key.p, .int .i64 y.key.q, .string y.key.s, .int .i64 y.key.r] (st5 (st5 w7 (w.heap.size + 1) (.int .i64 y.key.k) (.int .i64 y.key.p) (.int .i64 y.key.q) (.string y.key.s) (.int .i64 y.key.r)) (w.heap.size + 1 + 1) (.int .i64 y.val.k) (.int .i64 y.val.p) (.int .i64 y.val.q) (.string y.val.s) (.int .i64 y.val.r)) := (st5_blk KA7.out).ch (st5_ch (S := [(w.heap.size + 1 + 1)]) (Ch.refl _ _) (.inl (by simp))) (by simp)
  have I2 : Blk 26 (w.heap.size + 1 + 1) #[.int .i64 y.val.k, .int .i64 y.val.p, .int .i64 y.val.q, .string y.val.s, .int .i64 y.val.r] (st5 (st5 w7 (w.heap.size + 1) (.int .i64 y.key.k) (.int .i64 y.key.p) (.int .i64 y.key.q) (.string y.key.s) (.int .i64 y.key.r)) (w.heap.size + 1 + 1) (.int .i64 y.val.k) (.int .i64 y.val.p) (.int .i64 y.val.q) (.string y.val.s) (.int .i64 y.val.r)) := st5_blk (KB7.out.ch (st5_ch (S := [(w.heap.size + 1)]) (Ch.refl _ _) (.inl (by simp))) (by simp))
  have HS : Hid (Ch [(w.heap.size + 1), (w.heap.size + 1 + 1)] w7 (st5 (st5 w7 (w.heap.size + 1) (.int .i64 y.key.k) (.int .i64 y.key.p) (.int .i64 y.key.q) (.string y.key.s) (.int .i64 y.key.r)) (w.heap.size + 1 + 1) (.int .i64 y.val.k) (.int .i64 y.val.p) (.int .i64 y.val.q) (.string y.val.s) (.int .i64 y.val.r))) := Lib.hid (st5_ch (st5_ch (Ch.refl _ _) (.inl (by simp))) (.inl (by simp)))
  have x0 : (st5 (st5 w7 (w.heap.size + 1) (.int .i64 y.key.k) (.int .i64 y.key.p) (.int .i64 y.key.q) (.string y.key.s) (.int .i64 y.key.r)) (w.heap.size + 1 + 1) (.int .i64 y.val.k) (.int .i64 y.val.p) (.int .i64 y.val.q) (.string y.val.s) (.int .i64 y.val.r)).cell? ⟨(w.heap.size + 1), 0, none⟩ = some (.int .i64 y.key.k) := I1.cell 0
  have x1 : (st5 (st5 w7 (w.heap.size + 1) (.int .i64 y.key.k) (.int .i64 y.key.p) (.int .i64 y.key.q) (.string y.key.s) (.int .i64 y.key.r)) (w.heap.size + 1 + 1) (.int .i64 y.val.k) (.int .i64 y.val.p) (.int .i64 y.val.q) (.string y.val.s) (.int .i64 y.val.r)).cell? ⟨(w.heap.size + 1), 1, none⟩ = some (.int .i64 y.key.p) := I1.cell 1
  have x2 : (st5 (st5 w7 (w.heap.size + 1) (.int .i64 y.key.k) (.int .i64 y.key.p) (.int .i64 y.key.q) (.string y.key.s) (.int .i64 y.key.r)) (w.heap.size + 1 + 1) (.int .i64 y.val.k) (.int .i64 y.val.p) (.int .i64 y.val.q) (.string y.val.s) (.int .i64 y.val.r)).cell? ⟨(w.heap.size + 1), 2, none⟩ = some (.int .i64 y.key.q) := I1.cell 2
  have x3 : (st5 (st5 w7 (w.heap.size + 1) (.int .i64 y.key.k) (.int .i64 y.key.p) (.int .i64 y.key.q) (.string y.key.s) (.int .i64 y.key.r)) (w.heap.size + 1 + 1) (.int .i64 y.val.k) (.int .i64 y.val.p) (.int .i64 y.val.q) (.string y.val.s) (.int .i64 y.val.r)).cell? ⟨(w.heap.size + 1), 3, none⟩ = some (.string y.key.s) := I1.cell 3
  have x4 : (st5 (st5 w7 (w.heap.size + 1) (.int .i64 y.key.k) (.int .i64 y.key.p) (.int .i64 y.key.q) (.string y.key.s) (.int .i64 y.key.r)) (w.heap.size + 1 + 1) (.int .i64 y.val.k) (.int .i64 y.val.p) (.int .i64 y.val.q) (.string y.val.s) (.int .i64 y.val.r)).cell? ⟨(w.heap.size + 1), 4, none⟩ = some (.int .i64 y.key.r) := I1.cell 4
  have y0 : (st5 (st5 w7 (w.heap.size + 1) (.int .i64 y.key.k) (.int .i64 y.key.p) (.int .i64 y.key.q) (.string y.key.s) (.int .i64 y.key.r)) (w.heap.size + 1 + 1) (.int .i64 y.val.k) (.int .i64 y.val.p) (.int .i64 y.val.q) (.string y.val.s) (.int .i64 y.val.r)).cell? ⟨(w.heap.size + 1 + 1), 0, none⟩ = some (.int .i64 y.val.k) := I2.cell 0
  have y1 : (st5 (st5 w7 (w.heap.size + 1) (.int .i64 y.key.k) (.int .i64 y.key.p) (.int .i64 y.key.q) (.string y.key.s) (.int .i64 y.key.r)) (w.heap.size + 1 + 1) (.int .i64 y.val.k) (.int .i64 y.val.p) (.int .i64 y.val.q) (.string y.val.s) (.int .i64 y.val.r)).cell? ⟨(w.heap.size + 1 + 1), 1, none⟩ = some (.int .i64 y.val.p) := I2.cell 1
  have y2 : (st5 (st5 w7 (w.heap.size + 1) (.int .i64 y.key.k) (.int .i64 y.key.p) (.int .i64 y.key.q) (.string y.key.s) (.int .i64 y.key.r)) (w.heap.size + 1 + 1) (.int .i64 y.val.k) (.int .i64 y.val.p) (.int .i64 y.val.q) (.string y.val.s) (.int .i64 y.val.r)).cell? ⟨(w.heap.size + 1 + 1), 2, none⟩ = some (.int .i64 y.val.q) := I2.cell 2
  have y3 : (st5 (st5 w7 (w.heap.size + 1) (.int .i64 y.key.k) (.int .i64 y.key.p) (.int .i64 y.key.q) (.string y.key.s) (.int .i64 y.key.r)) (w.heap.size + 1 + 1) (.int .i64 y.val.k) (.int .i64 y.val.p) (.int .i64 y.val.q) (.string y.val.s) (.int .i64 y.val.r)).cell? ⟨(w.heap.size + 1 + 1), 3, none⟩ = some (.string y.val.s) := I2.cell 3
  have y4 : (st5 (st5 w7 (w.heap.size + 1) (.int .i64 y.key.k) (.int .i64 y.key.p) (.int .i64 y.key.q) (.string y.key.s) (.int .i64 y.key.r)) (w.heap.size + 1 + 1) (.int .i64 y.val.k) (.int .i64 y.val.p) (.int .i64 y.val.q) (.string y.val.s) (.int .i64 y.val.r)).cell? ⟨(w.heap.size + 1 + 1), 4, none⟩ = some (.int .i64 y.val.r) := I2.cell 4
  have HF := Lib.hid (tb_fin HCW.out HS5.out HS.out (fun g hg => by
    have hA := KA3.out.lt
    have hB := KB3.out.lt
    simp at hg
    rcases hg with rfl | rfl
    · exact ⟨fun hq => by have := HNT.out _ hq; omega, hA, by omega⟩
    · exact ⟨fun hq => by have := HNT.out _ hq; omega, hB, by omega⟩))
  generalize (st5 (st5 w7 (w.heap.size + 1) (.int .i64 y.key.k) (.int .i64 y.key.p) (.int .i64 y.key.q) (.string y.key.s) (.int .i64 y.key.r)) (w.heap.size + 1 + 1) (.int .i64 y.val.k) (.int .i64 y.val.p) (.int .i64 y.val.q) (.string y.val.s) (.int .i64 y.val.r)) = W9 at *
  refine bodyPost_ret (v := .tuple #[.agg #[.int .i64 y.key.k, .int .i64 y.key.p, .int .i64 y.key.q, .string y.key.s, .int .i64 y.key.r], .agg #[.int .i64 y.val.k, .int .i64 y.val.p, .int .i64 y.val.q, .string y.val.s, .int .i64 y.val.r], .bool y.ok, .int .i64 y.err]) (by simp [results, Try.results18, go_sem, x0, x1, x2, x3, x4, y0, y1, y2, y3, y4]) rfl ⟨rfl, HF.out⟩
set_option maxHeartbeats 8000000 in
theorem tnx_r1 (B t : Nat) (va : Value) (b : Nat) (v m : Value) (s : TS) (w : World) (h : Tb B t va b v m s w) (k : V5) (hL : s.arr.length + s.R.length ≤ 900000) (hk1 : okV k = true) (he : elF s.arr.length k = none) (hk : k.k ≠ 0) (hc : (nrT s k).err ≠ 0 ∧ isInt k = true ∧ 1 ≤ k.p) :
    Calls Try.prog 18 #[.pointer (some ⟨t, 0, none⟩), .agg #[.int .i64 k.k, .int .i64 k.p, .int .i64 k.q, .string k.s, .int .i64 k.r]] w fun e w' => e = .returned (NxV (nextR s.R v5z)) ∧ TbSaid B t va b v m (s) w w' := by
  have KK0 : Hid (Blk 26 w.heap.size #[.int .i64 k.k, .int .i64 k.p, .int .i64 k.q, .string k.s, .int .i64 k.r] (((w.alloc (.cells #[.int .i64 k.k, .int .i64 k.p, .int .i64 k.q, .string k.s, .int .i64 k.r] 26)).alloc (.cells #[.int .i64 0, .int .i64 0, .int .i64 0, .string ⟨#[]⟩, .int .i64 0] 26)).alloc (.cells #[.int .i64 0, .int .i64 0, .int .i64 0, .string ⟨#[]⟩, .int .i64 0] 26))) := Lib.hid ((Blk.new w 26 _ _ rfl).ch (((Ch.refl [] _).alloc _).alloc _) (not_nil _))
  have KA0 : Hid (Blk 26 (w.heap.size + 1) #[.int .i64 0, .int .i64 0, .int .i64 0, .string ⟨#[]⟩, .int .i64 0] (((w.alloc (.cells #[.int .i64 k.k, .int .i64 k.p, .int .i64 k.q, .string k.s, .int .i64 k.r] 26)).alloc (.cells #[.int .i64 0, .int .i64 0, .int .i64 0, .string ⟨#[]⟩, .int .i64 0] 26)).alloc (.cells #[.int .i64 0, .int .i64 0, .int .i64 0, .string ⟨#[]⟩, .int .i64 0] 26))) := Lib.hid ((Blk.new (w.alloc (.cells #[.int .i64 k.k, .int .i64 k.p, .int .i64 k.q, .string k.s, .int .i64 k.r] 26)) 26 _ _ (by simp)).ch ((Ch.refl [] _).alloc _) (not_nil _))
  have KB0 : Hid (Blk 26 (w.heap.size + 1 + 1) #[.int .i64 0, .int .i64 0, .int .i64 0, .string ⟨#[]⟩, .int .i64 0] (((w.alloc (.cells #[.int .i64 k.k, .int .i64 k.p, .int .i64 k.q, .string k.s, .int .i64 k.r] 26)).alloc (.cells #[.int .i64 0, .int .i64 0, .int .i64 0, .string ⟨#[]⟩, .int .i64 0] 26)).alloc (.cells #[.int .i64 0, .int .i64 0, .int .i64 0, .string ⟨#[]⟩, .int .i64 0] 26))) := Lib.hid (Blk.new _ 26 _ _ (by simp))
  have HC0 : Hid (Ch [] w (((w.alloc (.cells #[.int .i64 k.k, .int .i64 k.p, .int .i64 k.q, .string k.s, .int .i64 k.r] 26)).alloc (.cells #[.int .i64 0, .int .i64 0, .int .i64 0, .string ⟨#[]⟩, .int .i64 0] 26)).alloc (.cells #[.int .i64 0, .int .i64 0, .int .i64 0, .string ⟨#[]⟩, .int .i64 0] 26))) := Lib.hid ((((Ch.refl [] w).alloc _).alloc _).alloc _)
  have HT0 : Hid (Tb B t va b v m s (((w.alloc (.cells #[.int .i64 k.k, .int .i64 k.p, .int .i64 k.q, .string k.s, .int .i64 k.r] 26)).alloc (.cells #[.int .i64 0, .int .i64 0, .int .i64 0, .string ⟨#[]⟩, .int .i64 0] 26)).alloc (.cells #[.int .i64 0, .int .i64 0, .int .i64 0, .string ⟨#[]⟩, .int .i64 0] 26))) := Lib.hid (h.ch0 ((((Ch.refl [] w).alloc _).alloc _).alloc _))
  have HNT : Hid (∀ g ∈ tbS t va b v m, g < w.heap.size) := Lib.hid fun g hg => (h.lt g hg).2
  have HLL := Lib.hid hL
  have Q1 : Hid (∀ W, Calls Try.prog 26 #[.agg #[.int .i64 k.k, .int .i64 k.p, .int .i64 k.q, .string k.s, .int .i64 k.r]] W fun e w' => e = .returned (.bool true) ∧ Below W.heap.size W w') := Lib.hid fun W => by rw [← (show okV k = true from hk1)]; exact valid5 k.k k.p k.q k.s k.r W
  have QE : Hid (∀ W, Tb B t va b v m s W → Calls Try.prog 27 #[.pointer (some ⟨t, 0, none⟩), .agg #[.int .i64 k.k, .int .i64 k.p, .int .i64 k.q, .string k.s, .int .i64 k.r]] W fun e w' => e = .returned (.tuple #[.int .i64 0, .bool false]) ∧ Below W.heap.size W w') := Lib.hid fun W hw => element_none B t va b v m s W hw k he
  have ek : (k.k == 0) = false := beq_eq_false_iff_ne.2 hk
  have HEE := Lib.hid hc
  clear he hk hc
  clear h hk1 hL
  go_enter Try.func18, Try.ntmps18
  go_upto_region 1 with fail
  generalize (((w.alloc (.cells #[.int .i64 k.k, .int .i64 k.p, .int .i64 k.q, .string k.s, .int .i64 k.r] 26)).alloc (.cells #[.int .i64 0, .int .i64 0, .int .i64 0, .string ⟨#[]⟩, .int .i64 0] 26)).alloc (.cells #[.int .i64 0, .int .i64 0, .int .i64 0, .string ⟨#[]⟩, .int .i64 0] 26)) = w0 at *
  have u0 : w0.cell? ⟨w.heap.size, 0, none⟩ = some (.int .i64 k.k) := KK0.out.cell 0
  have u1 : w0.cell? ⟨w.heap.size, 1, none⟩ = some (.int .i64 k.p) := KK0.out.cell 1
  have u2 : w0.cell? ⟨w.heap.size, 2, none⟩ = some (.int .i64 k.q) := KK0.out.cell 2
  have u3 : w0.cell? ⟨w.heap.size, 3, none⟩ = some (.string k.s) := KK0.out.cell 3
  have u4 : w0.cell? ⟨w.heap.size, 4, none⟩ = some (.int .i64 k.r) := KK0.out.cell 4
  have lu := KK0.out.lt
  go_upto_region 5 with (go_at_call 26; (with_reducible refine (Q1.out _).mono ?_); rintro e w1 ⟨rfl, hb1⟩; have HD1 : Hid (Ch [] w0 w1) := Lib.hid (Ch.of_below hb1); clear hb1)
  clear u0 u1 u2 u3 u4 lu
  have KK1 := Lib.hid (KK0.out.ch HD1.out (not_nil _))
  have u1_0 : w1.cell? ⟨w.heap.size, 0, none⟩ = some (.int .i64 k.k) := KK1.out.cell 0
  have u1_1 : w1.cell? ⟨w.heap.size, 1, none⟩ = some (.int .i64 k.p) := KK1.out.cell 1
  have u1_2 : w1.cell? ⟨w.heap.size, 2, none⟩ = some (.int .i64 k.q) := KK1.out.cell 2
  have u1_3 : w1.cell? ⟨w.heap.size, 3, none⟩ = some (.string k.s) := KK1.out.cell 3
  have u1_4 : w1.cell? ⟨w.heap.size, 4, none⟩ = some (.int .i64 k.r) := KK1.out.cell 4
  have lu1 := KK1.out.lt
  go_upto_region 6 with (go_at_call 27; (with_reducible refine (QE.out _ (HT0.out.ch0 HD1.out)).mono ?_); rintro e w3 ⟨rfl, hb3⟩; have HD3 : Hid (Ch [] w0 w3) := Lib.hid (HD1.out.trans (Ch.of_below hb3)); clear hb3)
  clear u1_0 u1_1 u1_2 u1_3 u1_4 lu1
  have KK3 := Lib.hid (KK0.out.ch HD3.out (not_nil _))
  have KA3 := Lib.hid (KA0.out.ch HD3.out (not_nil _))
  have KB3 := Lib.hid (KB0.out.ch HD3.out (not_nil _))
  have HT3 := Lib.hid (HT0.out.ch0 HD3.out)
  have HCW : Hid (Ch (tbS t va b v m) w w3) := Lib.hid ((HC0.out.trans HD3.out).mono (fun g hg => absurd hg (not_nil g)))
  have u3_0 : w3.cell? ⟨w.heap.size, 0, none⟩ = some (.int .i64 k.k) := KK3.out.cell 0
  have u3_1 : w3.cell? ⟨w.heap.size, 1, none⟩ = some (.int .i64 k.p) := KK3.out.cell 1
  have u3_2 : w3.cell? ⟨w.heap.size, 2, none⟩ = some (.int .i64 k.q) := KK3.out.cell 2
  have u3_3 : w3.cell? ⟨w.heap.size, 3, none⟩ = some (.string k.s) := KK3.out.cell 3
  have u3_4 : w3.cell? ⟨w.heap.size, 4, none⟩ = some (.int .i64 k.r) := KK3.out.cell 4
  have lu3 := KK3.out.lt
  have QX := nr_any B t va b v m s w3 HT3.out k (by have := HLL.out; omega)
  obtain ⟨y, hy⟩ : ∃ y, nrT s k = y := ⟨_, rfl⟩
  rw [hy] at QX HEE
  have HY := Lib.hid hy
  clear hy
  unfold NxV at QX
  have QXH : Hid (Calls Try.prog 38 #[.pointer (some ⟨t, 0, none⟩), .agg #[.int .i64 k.k, .int .i64 k.p, .int .i64 k.q, .string k.s, .int .i64 k.r]] w3 fun e w' => e = .returned (.tuple #[.agg #[.int .i64 y.key.k, .int .i64 y.key.p, .int .i64 y.key.q, .string y.key.s, .int .i64 y.key.r], .agg #[.int .i64 y.val.k, .int .i64 y.val.p, .int .i64 y.val.q, .string y.val.s, .int .i64 y.val.r], .bool y.ok, .int .i64 y.err]) ∧ TbSaid B t va b v m s w3 w') := Lib.hid QX
  clear QX
  go_upto_region 8 with fail
  go_upto_region 9 with (go_at_call 38; (with_reducible refine (QXH.out).mono ?_); rintro e w5 ⟨rfl, hs5⟩)
  clear u3_0 u3_1 u3_2 u3_3 u3_4 lu3
  have HS5 := Lib.hid hs5
  have KK5 := Lib.hid (KK3.out.ch hs5.2 (fun hq => by have := HNT.out _ hq; omega))
  have KA5 := Lib.hid (KA3.out.ch hs5.2 (fun hq => by have := HNT.out _ hq; omega))
  have KB5 := Lib.hid (KB3.out.ch hs5.2 (fun hq => by have := HNT.out _ hq; omega))
  have HD6 : Hid (Ch [] w5 ((w5.alloc (.cells #[.int .i64 y.key.k, .int .i64 y.key.p, .int .i64 y.key.q, .string y.key.s, .int .i64 y.key.r] 26)).alloc (.cells #[.int .i64 y.val.k, .int .i64 y.val.p, .int .i64 y.val.q, .string y.val.s, .int .i64 y.val.r] 26))) := Lib.hid (((Ch.refl [] w5).alloc _).alloc _)
  have KY6 : Hid (Blk 26 w5.heap.size #[.int .i64 y.key.k, .int .i64 y.key.p, .int .i64 y.key.q, .string y.key.s, .int .i64 y.key.r] ((w5.alloc (.cells #[.int .i64 y.key.k, .int .i64 y.key.p, .int .i64 y.key.q, .string y.key.s, .int .i64 y.key.r] 26)).alloc (.cells #[.int .i64 y.val.k, .int .i64 y.val.p, .int .i64 y.val.q, .string y.val.s, .int .i64 y.val.r] 26))) := Lib.hid ((Blk.new w5 26 _ _ rfl).ch ((Ch.refl [] _).alloc _) (not_nil _))
  have KZ6 : Hid (Blk 26 (w5.heap.size + 1) #[.int .i64 y.val.k, .int .i64 y.val.p, .int .i64 y.val.q, .string y.val.s, .int .i64 y.val.r] ((w5.alloc (.cells #[.int .i64 y.key.k, .int .i64 y.key.p, .int .i64 y.key.q, .string y.key.s, .int .i64 y.key.r] 26)).alloc (.cells #[.int .i64 y.val.k, .int .i64 y.val.p, .int .i64 y.val.q, .string y.val.s, .int .i64 y.val.r] 26))) := Lib.hid (Blk.new _ 26 _ _ (by simp))
  have HN5 : Hid (w.heap.size + 1 + 1 < w5.heap.size) := Lib.hid KB5.out.lt
  clear hs5
  generalize ((w5.alloc (.cells #[.int .i64 y.key.k, .int .i64 y.key.p, .int .i64 y.key.q, .string y.key.s, .int .i64 y.key.r] 26)).alloc (.cells #[.int .i64 y.val.k, .int .i64 y.val.p, .int .i64 y.val.q, .string y.val.s, .int .i64 y.val.r] 26)) = w6 at *
  have KK6 := Lib.hid (KK5.out.ch HD6.out (not_nil _))
  have u6_0 : w6.cell? ⟨w.heap.size, 0, none⟩ = some (.int .i64 k.k) := KK6.out.cell 0
  have u6_1 : w6.cell? ⟨w.heap.size, 1, none⟩ = some (.int .i64 k.p) := KK6.out.cell 1
  have u6_2 : w6.cell? ⟨w.heap.size, 2, none⟩ = some (.int .i64 k.q) := KK6.out.cell 2
  have u6_3 : w6.cell? ⟨w.heap.size, 3, none⟩ = some (.string k.s) := KK6.out.cell 3
  have u6_4 : w6.cell? ⟨w.heap.size, 4, none⟩ = some (.int .i64 k.r) := KK6.out.cell 4
  have lu6 := KK6.out.lt
  have QI : Hid (∀ W, Calls Try.prog 39 #[.agg #[.int .i64 k.k, .int .i64 k.p, .int .i64 k.q, .string k.s, .int .i64 k.r]] W fun e w' => e = .returned (.tuple #[.int .i64 k.p, .bool (isInt k)]) ∧ Below W.heap.size W w') := Lib.hid fun W => integer_any k W
  obtain ⟨ik, hik⟩ : ∃ ik, isInt k = ik := ⟨_, rfl⟩
  rw [hik] at QI HEE
  clear hik
  go_upto_region 10 with (go_at_call 39; (with_reducible refine (QI.out _).mono ?_); rintro e w8 ⟨rfl, hb8⟩; have HD8 : Hid (Ch [] w5 w8) := Lib.hid (HD6.out.trans (Ch.of_below hb8)); have HE8 : Hid (Ch [] w6 w8) := Lib.hid (Ch.of_below hb8); clear hb8)
  clear u6_0 u6_1 u6_2 u6_3 u6_4 lu6
  obtain ⟨ey, rfl, hp1⟩ := HEE.out
  have ey2 : (y.err != 0) = true := bne_iff_ne.2 ey
  clear ey
  obtain ⟨va2, b2, v2, m2, ht5, hf5⟩ := HS5.out.1
  have HT8 := Lib.hid (ht5.ch0 HD8.out)
  have HA5 : Hid ((w.heap.size + 1) ∉ tbS t va2 b2 v2 m2) := Lib.hid fun hq => by
    have hlt := KA3.out.lt
    rcases hf5 _ hq with q | q
    · have := HNT.out _ q; omega
    · omega
  have HB5 : Hid ((w.heap.size + 1 + 1) ∉ tbS t va2 b2 v2 m2) := Lib.hid fun hq => by
    have hlt := KB3.out.lt
    rcases hf5 _ hq with q | q
    · have := HNT.out _ q; omega
    · omega
  have HF5 := Lib.hid hf5
  clear ht5 hf5
  have KA8 := Lib.hid (KA5.out.ch HD8.out (not_nil _))
  have KB8 := Lib.hid (KB5.out.ch HD8.out (not_nil _))
  have c2 : w8.cell? ⟨t, 2, none⟩ = some (.pointer (some ⟨b2, 0, none⟩)) := HT8.out.blk.cell 2
  have hbl := HT8.out.blk.lt
  have QN0 := next_R B b2 v2 m2 s.R v5z w8 HT8.out.om (by have := HLL.out; omega)
  obtain ⟨z, hz⟩ : ∃ z, nextR s.R v5z = z := ⟨_, rfl⟩
  rw [hz] at QN0
  have HZ := Lib.hid hz
  have QN : Hid (Calls Try.prog 40 #[.pointer (some ⟨b2, 0, none⟩), .agg #[.int .i64 0, .int .i64 0, .int .i64 0, .string ⟨#[]⟩, .int .i64 0]] w8 fun e w' => e = .returned (NxV z) ∧ OmR B b2 v2 m2 s.R w' ∧ Ch (omS b2 v2 m2) w8 w') := Lib.hid QN0
  clear QN0 hz
  unfold NxV at QN
  go_upto_region 11 with fail
  go_wp2_with (go_simp; go_at_call 40; (with_reducible refine (QN.out).mono ?_); rintro e w7 ⟨rfl, ho7, hc7⟩; have HO7 := Lib.hid ho7; have HC7 := Lib.hid hc7; have KA7 := Lib.hid (KA8.out.ch hc7 (fun hq => HA5.out (by simp [tbS, hq]))); have KB7 := Lib.hid (KB8.out.ch hc7 (fun hq => HB5.out (by simp [tbS, hq]))); have r0 : w7.cell? ⟨(w.heap.size + 1), 0, none⟩ = some (.int .i64 0) := KA7.out.cell 0; have r1 : w7.cell? ⟨(w.heap.size + 1), 1, none⟩ = some (.int .i64 0) := KA7.out.cell 1; have r2 : w7.cell? ⟨(w.heap.size + 1), 2, none⟩ = some (.int .i64 0) := KA7.out.cell 2; have r3 : w7.cell? ⟨(w.heap.size + 1), 3, none⟩ = some (.string ⟨#[]⟩) := KA7.out.cell 3; have r4 : w7.cell? ⟨(w.heap.size + 1), 4, none⟩ = some (.int .i64 0) := KA7.out.cell 4; have rf0 := KA7.out.fz 0; have rf1 := KA7.out.fz 1; have rf2 := KA7.out.fz 2; have rf3 := KA7.out.fz 3; have rf4 := KA7.out.fz 4; have rl := KA7.out.lt; have q0 : w7.cell? ⟨(w.heap.size + 1 + 1), 0, none⟩ = some (.int .i64 0) := KB7.out.cell 0; have q1 : w7.cell? ⟨(w.heap.size + 1 + 1), 1, none⟩ = some (.int .i64 0) := KB7.out.cell 1; have q2 : w7.cell? ⟨(w.heap.size + 1 + 1), 2, none⟩ = some (.int .i64 0) := KB7.out.cell 2; have q3 : w7.cell? ⟨(w.heap.size + 1 + 1), 3, none⟩ = some (.string ⟨#[]⟩) := KB7.out.cell 3; have q4 : w7.cell? ⟨(w.heap.size + 1 + 1), 4, none⟩ = some (.int .i64 0) := KB7.out.cell 4; have qf0 := KB7.out.fz 0; have qf1 := KB7.out.fz 1; have qf2 := KB7.out.fz 2; have qf3 := KB7.out.fz 3; have qf4 := KB7.out.fz 4; have ql := KB7.out.lt; clear ho7 hc7)
  rw [HZ.out]
  unfold NxV
  show bodyPost _ _ _ Exit.ret _ (st5 (st5 w7 (w.heap.size + 1) (.int .i64 z.key.k) (.int .i64 z.key.p) (.int .i64 z.key.q) (.string z.key.s) (.int .i64 z.key.r)) (w.heap.size + 1 + 1) (.int .i64 z.val.k) (.int .i64 z.val.p) (.int .i64 z.val.q) (.string z.val.s) (.int .i64 z.val.r))
  have I1 : Blk 26 (w.heap.size + 1) #[.int .i64 z.key.k, .int .i64 z.key.p, .int .i64 z.key.q, .string z.key.s, .int .i64 z.key.r] (st5 (st5 w7 (w.heap.size + 1) (.int .i64 z.key.k) (.int .i64 z.key.p) (.int .i64 z.key.q) (.string z.key.s) (.int .i64 z.key.r)) (w.heap.size + 1 + 1) (.int .i64 z.val.k) (.int .i64 z.val.p) (.int .i64 z.val.q) (.string z.val.s) (.int .i64 z.val.r)) := (st5_blk KA7.out).ch (st5_ch (S := [(w.heap.size + 1 + 1)]) (Ch.refl _ _) (.inl (by simp))) (by simp)
  have I2 : Blk 26 (w.heap.size + 1 + 1) #[.int .i64 z.val.k, .int .i64 z.val.p, .int .i64 z.val.q, .string z.val.s, .int .i64 z.val.r] (st5 (st5 w7 (w.heap.size + 1) (.int .i64 z.key.k) (.int .i64 z.key.p) (.int .i64 z.key.q) (.string z.key.s) (.int .i64 z.key.r)) (w.heap.size + 1 + 1) (.int .i64 z.val.k) (.int .i64 z.val.p) (.int .i64 z.val.q) (.string z.val.s) (.int .i64 z.val.r)) := st5_blk (KB7.out.ch (st5_ch (S := [(w.heap.size + 1)]) (Ch.refl _ _) (.inl (by simp))) (by simp))
  have HS : Hid (Ch [(w.heap.size + 1), (w.heap.size + 1 + 1)] w7 (st5 (st5 w7 (w.heap.size + 1) (.int .i64 z.key.k) (.int .i64 z.key.p) (.int .i64 z.key.q) (.string z.key.s) (.int .i64 z.key.r)) (w.heap.size + 1 + 1) (.int .i64 z.val.k) (.int .i64 z.val.p) (.int .i64 z.val.q) (.string z.val.s) (.int .i64 z.val.r))) := Lib.hid (st5_ch (st5_ch (Ch.refl _ _) (.inl (by simp))) (.inl (by simp)))
  have x0 : (st5 (st5 w7 (w.heap.size + 1) (.int .i64 z.key.k) (.int .i64 z.key.p) (.int .i64 z.key.q) (.string z.key.s) (.int .i64 z.key.r)) (w.heap.size + 1 + 1) (.int .i64 z.val.k) (.int .i64 z.val.p) (.int .i64 z.val.q) (.string z.val.s) (.int .i64 z.val.r)).cell? ⟨(w.heap.size + 1), 0, none⟩ = some (.int .i64 z.key.k) := I1.cell 0
  have x1 : (st5 (st5 w7 (w.heap.size + 1) (.int .i64 z.key.k) (.int .i64 z.key.p) (.int .i64 z.key.q) (.string z.key.s) (.int .i64 z.key.r)) (w.heap.size + 1 + 1) (.int .i64 z.val.k) (.int .i64 z.val.p) (.int .i64 z.val.q) (.string z.val.s) (.int .i64 z.val.r)).cell? ⟨(w.heap.size + 1), 1, none⟩ = some (.int .i64 z.key.p) := I1.cell 1
  have x2 : (st5 (st5 w7 (w.heap.size + 1) (.int .i64 z.key.k) (.int .i64 z.key.p) (.int .i64 z.key.q) (.string z.key.s) (.int .i64 z.key.r)) (w.heap.size + 1 + 1) (.int .i64 z.val.k) (.int .i64 z.val.p) (.int .i64 z.val.q) (.string z.val.s) (.int .i64 z.val.r)).cell? ⟨(w.heap.size + 1), 2, none⟩ = some (.int .i64 z.key.q) := I1.cell 2
  have x3 : (st5 (st5 w7 (w.heap.size + 1) (.int .i64 z.key.k) (.int .i64 z.key.p) (.int .i64 z.key.q) (.string z.key.s) (.int .i64 z.key.r)) (w.heap.size + 1 + 1) (.int .i64 z.val.k) (.int .i64 z.val.p) (.int .i64 z.val.q) (.string z.val.s) (.int .i64 z.val.r)).cell? ⟨(w.heap.size + 1), 3, none⟩ = some (.string z.key.s) := I1.cell 3
  have x4 : (st5 (st5 w7 (w.heap.size + 1) (.int .i64 z.key.k) (.int .i64 z.key.p) (.int .i64 z.key.q) (.string z.key.s) (.int .i64 z.key.r)) (w.heap.size + 1 + 1) (.int .i64 z.val.k) (.int .i64 z.val.p) (.int .i64 z.val.q) (.string z.val.s) (.int .i64 z.val.r)).cell? ⟨(w.heap.size + 1), 4, none⟩ = some (.int .i64 z.key.r) := I1.cell 4
  have y0 : (st5 (st5 w7 (w.heap.size + 1) (.int .i64 z.key.k) (.int .i64 z.key.p) (.int .i64 z.key.q) (.string z.key.s) (.int .i64 z.key.r)) (w.heap.size + 1 + 1) (.int .i64 z.val.k) (.int .i64 z.val.p) (.int .i64 z.val.q) (.string z.val.s) (.int .i64 z.val.r)).cell? ⟨(w.heap.size + 1 + 1), 0, none⟩ = some (.int .i64 z.val.k) := I2.cell 0
  have y1 : (st5 (st5 w7 (w.heap.size + 1) (.int .i64 z.key.k) (.int .i64 z.key.p) (.int .i64 z.key.q) (.string z.key.s) (.int .i64 z.key.r)) (w.heap.size + 1 + 1) (.int .i64 z.val.k) (.int .i64 z.val.p) (.int .i64 z.val.q) (.string z.val.s) (.int .i64 z.val.r)).cell? ⟨(w.heap.size + 1 + 1), 1, none⟩ = some (.int .i64 z.val.p) := I2.cell 1
  have y2 : (st5 (st5 w7 (w.heap.size + 1) (.int .i64 z.key.k) (.int .i64 z.key.p) (.int .i64 z.key.q) (.string z.key.s) (.int .i64 z.key.r)) (w.heap.size + 1 + 1) (.int .i64 z.val.k) (.int .i64 z.val.p) (.int .i64 z.val.q) (.string z.val.s) (.int .i64 z.val.r)).cell? ⟨(w.heap.size + 1 + 1), 2, none⟩ = some (.int .i64 z.val.q) := I2.cell 2
  have y3 : (st5 (st5 w7 (w.heap.size + 1) (.int .i64 z.key.k) (.int .i64 z.key.p) (.int .i64 z.key.q) (.string z.key.s) (.int .i64 z.key.r)) (w.heap.size + 1 + 1) (.int .i64 z.val.k) (.int .i64 z.val.p) (.int .i64 z.val.q) (.string z.val.s) (.int .i64 z.val.r)).cell? ⟨(w.heap.size + 1 + 1), 3, none⟩ = some (.string z.val.s) := I2.cell 3
  have y4 : (st5 (st5 w7 (w.heap.size + 1) (.int .i64 z.key.k) (.int .i64 z.key.p) (.int .i64 z.key.q) (.string z.key.s) (.int .i64 z.key.r)) (w.heap.size + 1 + 1) (.int .i64 z.val.k) (.int .i64 z.val.p) (.int .i64 z.val.q) (.string z.val.s) (.int .i64 z.val.r)).cell? ⟨(w.heap.size + 1 + 1), 4, none⟩ = some (.int .i64 z.val.r) := I2.cell 4
  have HF := Lib.hid (by
    have h7 := om_tb HT8.out HO7.out HC7.out
    have c37 : TbSaid B t va b v m s w3 w7 := tb_chain HF5.out HS5.out.2 (tb_next (HD8.out.mono (fun g hg => absurd hg (not_nil g))) (tb_after h7 (HC7.out.mono (fun g hg => by simp [tbS, hg]))))
    exact tb_fin HCW.out c37 HS.out (fun g hg => by
      have hA := KA3.out.lt
      have hB := KB3.out.lt
      simp at hg
      rcases hg with rfl | rfl
      · exact ⟨fun hq => by have := HNT.out _ hq; omega, hA, by omega⟩
      · exact ⟨fun hq => by have := HNT.out _ hq; omega, hB, by omega⟩))
  generalize (st5 (st5 w7 (w.heap.size + 1) (.int .i64 z.key.k) (.int .i64 z.key.p) (.int .i64 z.key.q) (.string z.key.s) (.int .i64 z.key.r)) (w.heap.size + 1 + 1) (.int .i64 z.val.k) (.int .i64 z.val.p) (.int .i64 z.val.q) (.string z.val.s) (.int .i64 z.val.r)) = W9 at *
  refine bodyPost_ret (v := .tuple #[.agg #[.int .i64 z.key.k, .int .i64 z.key.p, .int .i64 z.key.q, .string z.key.s, .int .i64 z.key.r], .agg #[.int .i64 z.val.k, .int .i64 z.val.p, .int .i64 z.val.q, .string z.val.s, .int .i64 z.val.r], .bool z.ok, .int .i64 z.err]) (by simp [results, Try.results18, go_sem, x0, x1, x2, x3, x4, y0, y1, y2, y3, y4]) rfl ⟨rfl, HF.out⟩
set_option maxHeartbeats 8000000 in
theorem tnx_r0 (B t : Nat) (va : Value) (b : Nat) (v m : Value) (s : TS) (w : World) (h : Tb B t va b v m s w) (k : V5) (hL : s.arr.length + s.R.length ≤ 900000) (hk1 : okV k = true) (he : elF s.arr.length k = none) (hk : k.k ≠ 0) (hc : ¬ ((nrT s k).err ≠ 0 ∧ isInt k = true ∧ 1 ≤ k.p)) :
    Calls Try.prog 18 #[.pointer (some ⟨t, 0, none⟩), .agg #[.int .i64 k.k, .int .i64 k.p, .int .i64 k.q, .string k.s, .int .i64 k.r]] w fun e w' => e = .returned (NxV (nrT s k)) ∧ TbSaid B t va b v m (s) w w' := by
  have KK0 : Hid (Blk 26 w.heap.size #[.int .i64 k.k, .int .i64 k.p, .int .i64 k.q, .string k.s, .int .i64 k.r] (((w.alloc (.cells #[.int .i64 k.k, .int .i64 k.p, .int .i64 k.q, .string k.s, .int .i64 k.r] 26)).alloc (.cells #[.int .i64 0, .int .i64 0, .int .i64 0, .string ⟨#[]⟩, .int .i64 0] 26)).alloc (.cells #[.int .i64 0, .int .i64 0, .int .i64 0, .string ⟨#[]⟩, .int .i64 0] 26))) := Lib.hid ((Blk.new w 26 _ _ rfl).ch (((Ch.refl [] _).alloc _).alloc _) (not_nil _))
  have KA0 : Hid (Blk 26 (w.heap.size + 1) #[.int .i64 0, .int .i64 0, .int .i64 0, .string ⟨#[]⟩, .int .i64 0] (((w.alloc (.cells #[.int .i64 k.k, .int .i64 k.p, .int .i64 k.q, .string k.s, .int .i64 k.r] 26)).alloc (.cells #[.int .i64 0, .int .i64 0, .int .i64 0, .string ⟨#[]⟩, .int .i64 0] 26)).alloc (.cells #[.int .i64 0, .int .i64 0, .int .i64 0, .string ⟨#[]⟩, .int .i64 0] 26))) := Lib.hid ((Blk.new (w.alloc (.cells #[.int .i64 k.k, .int .i64 k.p, .int .i64 k.q, .string k.s, .int .i64 k.r] 26)) 26 _ _ (by simp)).ch ((Ch.refl [] _).alloc _) (not_nil _))
  have KB0 : Hid (Blk 26 (w.heap.size + 1 + 1) #[.int .i64 0, .int .i64 0, .int .i64 0, .string ⟨#[]⟩, .int .i64 0] (((w.alloc (.cells #[.int .i64 k.k, .int .i64 k.p, .int .i64 k.q, .string k.s, .int .i64 k.r] 26)).alloc (.cells #[.int .i64 0, .int .i64 0, .int .i64 0, .string ⟨#[]⟩, .int .i64 0] 26)).alloc (.cells #[.int .i64 0, .int .i64 0, .int .i64 0, .string ⟨#[]⟩, .int .i64 0] 26))) := Lib.hid (Blk.new _ 26 _ _ (by simp))
  have HC0 : Hid (Ch [] w (((w.alloc (.cells #[.int .i64 k.k, .int .i64 k.p, .int .i64 k.q, .string k.s, .int .i64 k.r] 26)).alloc (.cells #[.int .i64 0, .int .i64 0, .int .i64 0, .string ⟨#[]⟩, .int .i64 0] 26)).alloc (.cells #[.int .i64 0, .int .i64 0, .int .i64 0, .string ⟨#[]⟩, .int .i64 0] 26))) := Lib.hid ((((Ch.refl [] w).alloc _).alloc _).alloc _)
  have HT0 : Hid (Tb B t va b v m s (((w.alloc (.cells #[.int .i64 k.k, .int .i64 k.p, .int .i64 k.q, .string k.s, .int .i64 k.r] 26)).alloc (.cells #[.int .i64 0, .int .i64 0, .int .i64 0, .string ⟨#[]⟩, .int .i64 0] 26)).alloc (.cells #[.int .i64 0, .int .i64 0, .int .i64 0, .string ⟨#[]⟩, .int .i64 0] 26))) := Lib.hid (h.ch0 ((((Ch.refl [] w).alloc _).alloc _).alloc _))
  have HNT : Hid (∀ g ∈ tbS t va b v m, g < w.heap.size) := Lib.hid fun g hg => (h.lt g hg).2
  have HLL := Lib.hid hL
  have Q1 : Hid (∀ W, Calls Try.prog 26 #[.agg #[.int .i64 k.k, .int .i64 k.p, .int .i64 k.q, .string k.s, .int .i64 k.r]] W fun e w' => e = .returned (.bool true) ∧ Below W.heap.size W w') := Lib.hid fun W => by rw [← (show okV k = true from hk1)]; exact valid5 k.k k.p k.q k.s k.r W
  have QE : Hid (∀ W, Tb B t va b v m s W → Calls Try.prog 27 #[.pointer (some ⟨t, 0, none⟩), .agg #[.int .i64 k.k, .int .i64 k.p, .int .i64 k.q, .string k.s, .int .i64 k.r]] W fun e w' => e = .returned (.tuple #[.int .i64 0, .bool false]) ∧ Below W.heap.size W w') := Lib.hid fun W hw => element_none B t va b v m s W hw k he
  have ek : (k.k == 0) = false := beq_eq_false_iff_ne.2 hk
  have HEE := Lib.hid hc
  clear he hk hc
  clear h hk1 hL
  go_enter Try.func18, Try.ntmps18
  go_upto_region 1 with fail
  generalize (((w.alloc (.cells #[.int .i64 k.k, .int .i64 k.p, .int .i64 k.q, .string k.s, .int .i64 k.r] 26)).alloc (.cells #[.int .i64 0, .int .i64 0, .int .i64 0, .string ⟨#[]⟩, .int .i64 0] 26)).alloc (.cells #[.int .i64 0, .int .i64 0, .int .i64 0, .string ⟨#[]⟩, .int .i64 0] 26)) = w0 at *
  have u0 : w0.cell? ⟨w.heap.size, 0, none⟩ = some (.int .i64 k.k) := KK0.out.cell 0
  have u1 : w0.cell? ⟨w.heap.size, 1, none⟩ = some (.int .i64 k.p) := KK0.out.cell 1
  have u2 : w0.cell? ⟨w.heap.size, 2, none⟩ = some (.int .i64 k.q) := KK0.out.cell 2
  have u3 : w0.cell? ⟨w.heap.size, 3, none⟩ = some (.string k.s) := KK0.out.cell 3
  have u4 : w0.cell? ⟨w.heap.size, 4, none⟩ = some (.int .i64 k.r) := KK0.out.cell 4
  have lu := KK0.out.lt
  go_upto_region 5 with (go_at_call 26; (with_reducible refine (Q1.out _).mono ?_); rintro e w1 ⟨rfl, hb1⟩; have HD1 : Hid (Ch [] w0 w1) := Lib.hid (Ch.of_below hb1); clear hb1)
  clear u0 u1 u2 u3 u4 lu
  have KK1 := Lib.hid (KK0.out.ch HD1.out (not_nil _))
  have u1_0 : w1.cell? ⟨w.heap.size, 0, none⟩ = some (.int .i64 k.k) := KK1.out.cell 0
  have u1_1 : w1.cell? ⟨w.heap.size, 1, none⟩ = some (.int .i64 k.p) := KK1.out.cell 1
  have u1_2 : w1.cell? ⟨w.heap.size, 2, none⟩ = some (.int .i64 k.q) := KK1.out.cell 2
  have u1_3 : w1.cell? ⟨w.heap.size, 3, none⟩ = some (.string k.s) := KK1.out.cell 3
  have u1_4 : w1.cell? ⟨w.heap.size, 4, none⟩ = some (.int .i64 k.r) := KK1.out.cell 4
  have lu1 := KK1.out.lt
  go_upto_region 6 with (go_at_call 27; (with_reducible refine (QE.out _ (HT0.out.ch0 HD1.out)).mono ?_); rintro e w3 ⟨rfl, hb3⟩; have HD3 : Hid (Ch [] w0 w3) := Lib.hid (HD1.out.trans (Ch.of_below hb3)); clear hb3)
  clear u1_0 u1_1 u1_2 u1_3 u1_4 lu1
  have KK3 := Lib.hid (KK0.out.ch HD3.out (not_nil _))
  have KA3 := Lib.hid (KA0.out.ch HD3.out (not_nil _))
  have KB3 := Lib.hid (KB0.out.ch HD3.out (not_nil _))
  have HT3 := Lib.hid (HT0.out.ch0 HD3.out)
  have HCW : Hid (Ch (tbS t va b v m) w w3) := Lib.hid ((HC0.out.trans HD3.out).mono (fun g hg => absurd hg (not_nil g)))
  have u3_0 : w3.cell? ⟨w.heap.size, 0, none⟩ = some (.int .i64 k.k) := KK3.out.cell 0
  have u3_1 : w3.cell? ⟨w.heap.size, 1, none⟩ = some (.int .i64 k.p) := KK3.out.cell 1
  have u3_2 : w3.cell? ⟨w.heap.size, 2, none⟩ = some (.int .i64 k.q) := KK3.out.cell 2
  have u3_3 : w3.cell? ⟨w.heap.size, 3, none⟩ = some (.string k.s) := KK3.out.cell 3
  have u3_4 : w3.cell? ⟨w.heap.size, 4, none⟩ = some (.int .i64 k.r) := KK3.out.cell 4
  have lu3 := KK3.out.lt
  have QX := nr_any B t va b v m s w3 HT3.out k (by have := HLL.out; omega)
  obtain ⟨y, hy⟩ : ∃ y, nrT s k = y := ⟨_, rfl⟩
  rw [hy] at QX HEE
  have HY := Lib.hid hy
  clear hy
  unfold NxV at QX
  have QXH : Hid (Calls Try.prog 38 #[.pointer (some ⟨t, 0, none⟩), .agg #[.int .i64 k.k, .int .i64 k.p, .int .i64 k.q, .string k.s, .int .i64 k.r]] w3 fun e w' => e = .returned (.tuple #[.agg #[.int .i64 y.key.k, .int .i64 y.key.p, .int .i64 y.key.q, .string y.key.s, .int .i64 y.key.r], .agg #[.int .i64 y.val.k, .int .i64 y.val.p, .int .i64 y.val.q, .string y.val.s, .int .i64 y.val.r], .bool y.ok, .int .i64 y.err]) ∧ TbSaid B t va b v m s w3 w') := Lib.hid QX
  clear QX
  go_upto_region 8 with fail
  go_upto_region 9 with (go_at_call 38; (with_reducible refine (QXH.out).mono ?_); rintro e w5 ⟨rfl, hs5⟩)
  clear u3_0 u3_1 u3_2 u3_3 u3_4 lu3
  have HS5 := Lib.hid hs5
  have KK5 := Lib.hid (KK3.out.ch hs5.2 (fun hq => by have := HNT.out _ hq; omega))
  have KA5 := Lib.hid (KA3.out.ch hs5.2 (fun hq => by have := HNT.out _ hq; omega))
  have KB5 := Lib.hid (KB3.out.ch hs5.2 (fun hq => by have := HNT.out _ hq; omega))
  have HD6 : Hid (Ch [] w5 ((w5.alloc (.cells #[.int .i64 y.key.k, .int .i64 y.key.p, .int .i64 y.key.q, .string y.key.s, .int .i64 y.key.r] 26)).alloc (.cells #[.int .i64 y.val.k, .int .i64 y.val.p, .int .i64 y.val.q, .string y.val.s, .int .i64 y.val.r] 26))) := Lib.hid (((Ch.refl [] w5).alloc _).alloc _)
  have KY6 : Hid (Blk 26 w5.heap.size #[.int .i64 y.key.k, .int .i64 y.key.p, .int .i64 y.key.q, .string y.key.s, .int .i64 y.key.r] ((w5.alloc (.cells #[.int .i64 y.key.k, .int .i64 y.key.p, .int .i64 y.key.q, .string y.key.s, .int .i64 y.key.r] 26)).alloc (.cells #[.int .i64 y.val.k, .int .i64 y.val.p, .int .i64 y.val.q, .string y.val.s, .int .i64 y.val.r] 26))) := Lib.hid ((Blk.new w5 26 _ _ rfl).ch ((Ch.refl [] _).alloc _) (not_nil _))
  have KZ6 : Hid (Blk 26 (w5.heap.size + 1) #[.int .i64 y.val.k, .int .i64 y.val.p, .int .i64 y.val.q, .string y.val.s, .int .i64 y.val.r] ((w5.alloc (.cells #[.int .i64 y.key.k, .int .i64 y.key.p, .int .i64 y.key.q, .string y.key.s, .int .i64 y.key.r] 26)).alloc (.cells #[.int .i64 y.val.k, .int .i64 y.val.p, .int .i64 y.val.q, .string y.val.s, .int .i64 y.val.r] 26))) := Lib.hid (Blk.new _ 26 _ _ (by simp))
  have HN5 : Hid (w.heap.size + 1 + 1 < w5.heap.size) := Lib.hid KB5.out.lt
  clear hs5
  generalize ((w5.alloc (.cells #[.int .i64 y.key.k, .int .i64 y.key.p, .int .i64 y.key.q, .string y.key.s, .int .i64 y.key.r] 26)).alloc (.cells #[.int .i64 y.val.k, .int .i64 y.val.p, .int .i64 y.val.q, .string y.val.s, .int .i64 y.val.r] 26)) = w6 at *
  have KK6 := Lib.hid (KK5.out.ch HD6.out (not_nil _))
  have u6_0 : w6.cell? ⟨w.heap.size, 0, none⟩ = some (.int .i64 k.k) := KK6.out.cell 0
  have u6_1 : w6.cell? ⟨w.heap.size, 1, none⟩ = some (.int .i64 k.p) := KK6.out.cell 1
  have u6_2 : w6.cell? ⟨w.heap.size, 2, none⟩ = some (.int .i64 k.q) := KK6.out.cell 2
  have u6_3 : w6.cell? ⟨w.heap.size, 3, none⟩ = some (.string k.s) := KK6.out.cell 3
  have u6_4 : w6.cell? ⟨w.heap.size, 4, none⟩ = some (.int .i64 k.r) := KK6.out.cell 4
  have lu6 := KK6.out.lt
  have QI : Hid (∀ W, Calls Try.prog 39 #[.agg #[.int .i64 k.k, .int .i64 k.p, .int .i64 k.q, .string k.s, .int .i64 k.r]] W fun e w' => e = .returned (.tuple #[.int .i64 k.p, .bool (isInt k)]) ∧ Below W.heap.size W w') := Lib.hid fun W => integer_any k W
  obtain ⟨ik, hik⟩ : ∃ ik, isInt k = ik := ⟨_, rfl⟩
  rw [hik] at QI HEE
  clear hik
  go_upto_region 10 with (go_at_call 39; (with_reducible refine (QI.out _).mono ?_); rintro e w8 ⟨rfl, hb8⟩; have HD8 : Hid (Ch [] w5 w8) := Lib.hid (HD6.out.trans (Ch.of_below hb8)); have HE8 : Hid (Ch [] w6 w8) := Lib.hid (Ch.of_below hb8); clear hb8)
  clear u6_0 u6_1 u6_2 u6_3 u6_4 lu6
  have KA8 := Lib.hid (KA5.out.ch HD8.out (not_nil _))
  have KB8 := Lib.hid (KB5.out.ch HD8.out (not_nil _))
  have KY8 := Lib.hid (KY6.out.ch HE8.out (not_nil _))
  have KZ8 := Lib.hid (KZ6.out.ch HE8.out (not_nil _))
  have nn : w.heap.size + 1 + 1 < w5.heap.size := HN5.out
  have n1 : ¬ w5.heap.size = (w.heap.size + 1) := by omega
  have n2 : ¬ w5.heap.size = (w.heap.size + 1 + 1) := by omega
  have n3 : ¬ (w.heap.size + 1) = w5.heap.size := by omega
  have n4 : ¬ (w.heap.size + 1 + 1) = w5.heap.size := by omega
  have n5 : ¬ w5.heap.size + 1 = (w.heap.size + 1) := by omega
  have n6 : ¬ w5.heap.size + 1 = (w.heap.size + 1 + 1) := by omega
  have n7 : ¬ (w.heap.size + 1) = w5.heap.size + 1 := by omega
  have n8 : ¬ (w.heap.size + 1 + 1) = w5.heap.size + 1 := by omega
  clear nn
  generalize w5.heap.size = ny at *
  have yk0 : w8.cell? ⟨ny, 0, none⟩ = some (.int .i64 y.key.k) := KY8.out.cell 0
  have yk1 : w8.cell? ⟨ny, 1, none⟩ = some (.int .i64 y.key.p) := KY8.out.cell 1
  have yk2 : w8.cell? ⟨ny, 2, none⟩ = some (.int .i64 y.key.q) := KY8.out.cell 2
  have yk3 : w8.cell? ⟨ny, 3, none⟩ = some (.string y.key.s) := KY8.out.cell 3
  have yk4 : w8.cell? ⟨ny, 4, none⟩ = some (.int .i64 y.key.r) := KY8.out.cell 4
  have lyk := KY8.out.lt
  have yv0 : w8.cell? ⟨(ny + 1), 0, none⟩ = some (.int .i64 y.val.k) := KZ8.out.cell 0
  have yv1 : w8.cell? ⟨(ny + 1), 1, none⟩ = some (.int .i64 y.val.p) := KZ8.out.cell 1
  have yv2 : w8.cell? ⟨(ny + 1), 2, none⟩ = some (.int .i64 y.val.q) := KZ8.out.cell 2
  have yv3 : w8.cell? ⟨(ny + 1), 3, none⟩ = some (.string y.val.s) := KZ8.out.cell 3
  have yv4 : w8.cell? ⟨(ny + 1), 4, none⟩ = some (.int .i64 y.val.r) := KZ8.out.cell 4
  have lyv := KZ8.out.lt
  have r0 : w8.cell? ⟨(w.heap.size + 1), 0, none⟩ = some (.int .i64 0) := KA8.out.cell 0
  have r1 : w8.cell? ⟨(w.heap.size + 1), 1, none⟩ = some (.int .i64 0) := KA8.out.cell 1
  have r2 : w8.cell? ⟨(w.heap.size + 1), 2, none⟩ = some (.int .i64 0) := KA8.out.cell 2
  have r3 : w8.cell? ⟨(w.heap.size + 1), 3, none⟩ = some (.string ⟨#[]⟩) := KA8.out.cell 3
  have r4 : w8.cell? ⟨(w.heap.size + 1), 4, none⟩ = some (.int .i64 0) := KA8.out.cell 4
  have rf0 := KA8.out.fz 0
  have rf1 := KA8.out.fz 1
  have rf2 := KA8.out.fz 2
  have rf3 := KA8.out.fz 3
  have rf4 := KA8.out.fz 4
  have rl := KA8.out.lt
  have q0 : w8.cell? ⟨(w.heap.size + 1 + 1), 0, none⟩ = some (.int .i64 0) := KB8.out.cell 0
  have q1 : w8.cell? ⟨(w.heap.size + 1 + 1), 1, none⟩ = some (.int .i64 0) := KB8.out.cell 1
  have q2 : w8.cell? ⟨(w.heap.size + 1 + 1), 2, none⟩ = some (.int .i64 0) := KB8.out.cell 2
  have q3 : w8.cell? ⟨(w.heap.size + 1 + 1), 3, none⟩ = some (.string ⟨#[]⟩) := KB8.out.cell 3
  have q4 : w8.cell? ⟨(w.heap.size + 1 + 1), 4, none⟩ = some (.int .i64 0) := KB8.out.cell 4
  have qf0 := KB8.out.fz 0
  have qf1 := KB8.out.fz 1
  have qf2 := KB8.out.fz 2
  have qf3 := KB8.out.fz 3
  have qf4 := KB8.out.fz 4
  have ql := KB8.out.lt
  by_cases e1 : y.err = 0
  · have e2 : (y.err != 0) = false := by simp [e1]
    clear e1
    go_upto_region 12 with fail
    go_region
    all_goals (
      go_wp2
      rw [HY.out]
      unfold NxV
      show bodyPost _ _ _ Exit.ret _ (st5 (st5 w8 (w.heap.size + 1) (.int .i64 y.key.k) (.int .i64 y.key.p) (.int .i64 y.key.q) (.string y.key.s) (.int .i64 y.key.r)) (w.heap.size + 1 + 1) (.int .i64 y.val.k) (.int .i64 y.val.p) (.int .i64 y.val.q) (.string y.val.s) (.int .i64 y.val.r)).drew
      have I1 : Blk 26 (w.heap.size + 1) #[.int .i64 y.key.k, .int .i64 y.key.p, .int .i64 y.key.q, .string y.key.s, .int .i64 y.key.r] (st5 (st5 w8 (w.heap.size + 1) (.int .i64 y.key.k) (.int .i64 y.key.p) (.int .i64 y.key.q) (.string y.key.s) (.int .i64 y.key.r)) (w.heap.size + 1 + 1) (.int .i64 y.val.k) (.int .i64 y.val.p) (.int .i64 y.val.q) (.string y.val.s) (.int .i64 y.val.r)).drew := ((st5_blk KA8.out).ch (st5_ch (S := [(w.heap.size + 1 + 1)]) (Ch.refl _ _) (.inl (by simp))) (by simp)).ch ((Ch.refl [] _).drew) (not_nil _)
      have I2 : Blk 26 (w.heap.size + 1 + 1) #[.int .i64 y.val.k, .int .i64 y.val.p, .int .i64 y.val.q, .string y.val.s, .int .i64 y.val.r] (st5 (st5 w8 (w.heap.size + 1) (.int .i64 y.key.k) (.int .i64 y.key.p) (.int .i64 y.key.q) (.string y.key.s) (.int .i64 y.key.r)) (w.heap.size + 1 + 1) (.int .i64 y.val.k) (.int .i64 y.val.p) (.int .i64 y.val.q) (.string y.val.s) (.int .i64 y.val.r)).drew := (st5_blk (KB8.out.ch (st5_ch (S := [(w.heap.size + 1)]) (Ch.refl _ _) (.inl (by simp))) (by simp))).ch ((Ch.refl [] _).drew) (not_nil _)
      have HS : Hid (Ch [(w.heap.size + 1), (w.heap.size + 1 + 1)] w8 (st5 (st5 w8 (w.heap.size + 1) (.int .i64 y.key.k) (.int .i64 y.key.p) (.int .i64 y.key.q) (.string y.key.s) (.int .i64 y.key.r)) (w.heap.size + 1 + 1) (.int .i64 y.val.k) (.int .i64 y.val.p) (.int .i64 y.val.q) (.string y.val.s) (.int .i64 y.val.r)).drew) := Lib.hid ((st5_ch (st5_ch (Ch.refl _ _) (.inl (by simp))) (.inl (by simp))).drew)
      have x0 : (st5 (st5 w8 (w.heap.size + 1) (.int .i64 y.key.k) (.int .i64 y.key.p) (.int .i64 y.key.q) (.string y.key.s) (.int .i64 y.key.r)) (w.heap.size + 1 + 1) (.int .i64 y.val.k) (.int .i64 y.val.p) (.int .i64 y.val.q) (.string y.val.s) (.int .i64 y.val.r)).drew.cell? ⟨(w.heap.size + 1), 0, none⟩ = some (.int .i64 y.key.k) := I1.cell 0
      have x1 : (st5 (st5 w8 (w.heap.size + 1) (.int .i64 y.key.k) (.int .i64 y.key.p) (.int .i64 y.key.q) (.string y.key.s) (.int .i64 y.key.r)) (w.heap.size + 1 + 1) (.int .i64 y.val.k) (.int .i64 y.val.p) (.int .i64 y.val.q) (.string y.val.s) (.int .i64 y.val.r)).drew.cell? ⟨(w.heap.size + 1), 1, none⟩ = some (.int .i64 y.key.p) := I1.cell 1
      have x2 : (st5 (st5 w8 (w.heap.size + 1) (.int .i64 y.key.k) (.int .i64 y.key.p) (.int .i64 y.key.q) (.string y.key.s) (.int .i64 y.key.r)) (w.heap.size + 1 + 1) (.int .i64 y.val.k) (.int .i64 y.val.p) (.int .i64 y.val.q) (.string y.val.s) (.int .i64 y.val.r)).drew.cell? ⟨(w.heap.size + 1), 2, none⟩ = some (.int .i64 y.key.q) := I1.cell 2
      have x3 : (st5 (st5 w8 (w.heap.size + 1) (.int .i64 y.key.k) (.int .i64 y.key.p) (.int .i64 y.key.q) (.string y.key.s) (.int .i64 y.key.r)) (w.heap.size + 1 + 1) (.int .i64 y.val.k) (.int .i64 y.val.p) (.int .i64 y.val.q) (.string y.val.s) (.int .i64 y.val.r)).drew.cell? ⟨(w.heap.size + 1), 3, none⟩ = some (.string y.key.s) := I1.cell 3
      have x4 : (st5 (st5 w8 (w.heap.size + 1) (.int .i64 y.key.k) (.int .i64 y.key.p) (.int .i64 y.key.q) (.string y.key.s) (.int .i64 y.key.r)) (w.heap.size + 1 + 1) (.int .i64 y.val.k) (.int .i64 y.val.p) (.int .i64 y.val.q) (.string y.val.s) (.int .i64 y.val.r)).drew.cell? ⟨(w.heap.size + 1), 4, none⟩ = some (.int .i64 y.key.r) := I1.cell 4
      have y0 : (st5 (st5 w8 (w.heap.size + 1) (.int .i64 y.key.k) (.int .i64 y.key.p) (.int .i64 y.key.q) (.string y.key.s) (.int .i64 y.key.r)) (w.heap.size + 1 + 1) (.int .i64 y.val.k) (.int .i64 y.val.p) (.int .i64 y.val.q) (.string y.val.s) (.int .i64 y.val.r)).drew.cell? ⟨(w.heap.size + 1 + 1), 0, none⟩ = some (.int .i64 y.val.k) := I2.cell 0
      have y1 : (st5 (st5 w8 (w.heap.size + 1) (.int .i64 y.key.k) (.int .i64 y.key.p) (.int .i64 y.key.q) (.string y.key.s) (.int .i64 y.key.r)) (w.heap.size + 1 + 1) (.int .i64 y.val.k) (.int .i64 y.val.p) (.int .i64 y.val.q) (.string y.val.s) (.int .i64 y.val.r)).drew.cell? ⟨(w.heap.size + 1 + 1), 1, none⟩ = some (.int .i64 y.val.p) := I2.cell 1
      have y2 : (st5 (st5 w8 (w.heap.size + 1) (.int .i64 y.key.k) (.int .i64 y.key.p) (.int .i64 y.key.q) (.string y.key.s) (.int .i64 y.key.r)) (w.heap.size + 1 + 1) (.int .i64 y.val.k) (.int .i64 y.val.p) (.int .i64 y.val.q) (.string y.val.s) (.int .i64 y.val.r)).drew.cell? ⟨(w.heap.size + 1 + 1), 2, none⟩ = some (.int .i64 y.val.q) := I2.cell 2
      have y3 : (st5 (st5 w8 (w.heap.size + 1) (.int .i64 y.key.k) (.int .i64 y.key.p) (.int .i64 y.key.q) (.string y.key.s) (.int .i64 y.key.r)) (w.heap.size + 1 + 1) (.int .i64 y.val.k) (.int .i64 y.val.p) (.int .i64 y.val.q) (.string y.val.s) (.int .i64 y.val.r)).drew.cell? ⟨(w.heap.size + 1 + 1), 3, none⟩ = some (.string y.val.s) := I2.cell 3
      have y4 : (st5 (st5 w8 (w.heap.size + 1) (.int .i64 y.key.k) (.int .i64 y.key.p) (.int .i64 y.key.q) (.string y.key.s) (.int .i64 y.key.r)) (w.heap.size + 1 + 1) (.int .i64 y.val.k) (.int .i64 y.val.p) (.int .i64 y.val.q) (.string y.val.s) (.int .i64 y.val.r)).drew.cell? ⟨(w.heap.size + 1 + 1), 4, none⟩ = some (.int .i64 y.val.r) := I2.cell 4
      have HF := Lib.hid (by
        have c38 : TbSaid B t va b v m s w3 w8 := HS5.out.trans (fun _ _ _ _ ht => tb_0 ht HD8.out)
        exact tb_fin HCW.out c38 HS.out (fun g hg => by
          have hA := KA3.out.lt
          have hB := KB3.out.lt
          simp at hg
          rcases hg with rfl | rfl
          · exact ⟨fun hq => by have := HNT.out _ hq; omega, hA, by omega⟩
          · exact ⟨fun hq => by have := HNT.out _ hq; omega, hB, by omega⟩))
      generalize (st5 (st5 w8 (w.heap.size + 1) (.int .i64 y.key.k) (.int .i64 y.key.p) (.int .i64 y.key.q) (.string y.key.s) (.int .i64 y.key.r)) (w.heap.size + 1 + 1) (.int .i64 y.val.k) (.int .i64 y.val.p) (.int .i64 y.val.q) (.string y.val.s) (.int .i64 y.val.r)).drew = W9 at *
      refine bodyPost_ret (v := .tuple #[.agg #[.int .i64 y.key.k, .int .i64 y.key.p, .int .i64 y.key.q, .string y.key.s, .int .i64 y.key.r], .agg #[.int .i64 y.val.k, .int .i64 y.val.p, .int .i64 y.val.q, .string y.val.s, .int .i64 y.val.r], .bool y.ok, .int .i64 y.err]) (by simp [results, Try.results18, go_sem, x0, x1, x2, x3, x4, y0, y1, y2, y3, y4]) rfl ⟨rfl, HF.out⟩)
  · have e2 : (y.err != 0) = true := bne_iff_ne.2 e1
    cases ik with
    | false =>
      clear e1
      go_upto_region 12 with fail
      go_region
      all_goals (
        go_wp2
        rw [HY.out]
        unfold NxV
        show bodyPost _ _ _ Exit.ret _ (st5 (st5 w8 (w.heap.size + 1) (.int .i64 y.key.k) (.int .i64 y.key.p) (.int .i64 y.key.q) (.string y.key.s) (.int .i64 y.key.r)) (w.heap.size + 1 + 1) (.int .i64 y.val.k) (.int .i64 y.val.p) (.int .i64 y.val.q) (.string y.val.s) (.int .i64 y.val.r)).drew
        have I1 : Blk 26 (w.heap.size + 1) #[.int .i64 y.key.k, .int .i64 y.key.p, .int .i64 y.key.q, .string y.key.s, .int .i64 y.key.r] (st5 (st5 w8 (w.heap.size + 1) (.int .i64 y.key.k) (.int .i64 y.key.p) (.int .i64 y.key.q) (.string y.key.s) (.int .i64 y.key.r)) (w.heap.size + 1 + 1) (.int .i64 y.val.k) (.int .i64 y.val.p) (.int .i64 y.val.q) (.string y.val.s) (.int .i64 y.val.r)).drew := ((st5_blk KA8.out).ch (st5_ch (S := [(w.heap.size + 1 + 1)]) (Ch.refl _ _) (.inl (by simp))) (by simp)).ch ((Ch.refl [] _).drew) (not_nil _)
        have I2 : Blk 26 (w.heap.size + 1 + 1) #[.int .i64 y.val.k, .int .i64 y.val.p, .int .i64 y.val.q, .string y.val.s, .int .i64 y.val.r] (st5 (st5 w8 (w.heap.size + 1) (.int .i64 y.key.k) (.int .i64 y.key.p) (.int .i64 y.key.q) (.string y.key.s) (.int .i64 y.key.r)) (w.heap.size + 1 + 1) (.int .i64 y.val.k) (.int .i64 y.val.p) (.int .i64 y.val.q) (.string y.val.s) (.int .i64 y.val.r)).drew := (st5_blk (KB8.out.ch (st5_ch (S := [(w.heap.size + 1)]) (Ch.refl _ _) (.inl (by simp))) (by simp))).ch ((Ch.refl [] _).drew) (not_nil _)
        have HS : Hid (Ch [(w.heap.size + 1), (w.heap.size + 1 + 1)] w8 (st5 (st5 w8 (w.heap.size + 1) (.int .i64 y.key.k) (.int .i64 y.key.p) (.int .i64 y.key.q) (.string y.key.s) (.int .i64 y.key.r)) (w.heap.size + 1 + 1) (.int .i64 y.val.k) (.int .i64 y.val.p) (.int .i64 y.val.q) (.string y.val.s) (.int .i64 y.val.r)).drew) := Lib.hid ((st5_ch (st5_ch (Ch.refl _ _) (.inl (by simp))) (.inl (by simp))).drew)
        have x0 : (st5 (st5 w8 (w.heap.size + 1) (.int .i64 y.key.k) (.int .i64 y.key.p) (.int .i64 y.key.q) (.string y.key.s) (.int .i64 y.key.r)) (w.heap.size + 1 + 1) (.int .i64 y.val.k) (.int .i64 y.val.p) (.int .i64 y.val.q) (.string y.val.s) (.int .i64 y.val.r)).drew.cell? ⟨(w.heap.size + 1), 0, none⟩ = some (.int .i64 y.key.k) := I1.cell 0
        have x1 : (st5 (st5 w8 (w.heap.size + 1) (.int .i64 y.key.k) (.int .i64 y.key.p) (.int .i64 y.key.q) (.string y.key.s) (.int .i64 y.key.r)) (w.heap.size + 1 + 1) (.int .i64 y.val.k) (.int .i64 y.val.p) (.int .i64 y.val.q) (.string y.val.s) (.int .i64 y.val.r)).drew.cell? ⟨(w.heap.size + 1), 1, none⟩ = some (.int .i64 y.key.p) := I1.cell 1
        have x2 : (st5 (st5 w8 (w.heap.size + 1) (.int .i64 y.key.k) (.int .i64 y.key.p) (.int .i64 y.key.q) (.string y.key.s) (.int .i64 y.key.r)) (w.heap.size + 1 + 1) (.int .i64 y.val.k) (.int .i64 y.val.p) (.int .i64 y.val.q) (.string y.val.s) (.int .i64 y.val.r)).drew.cell? ⟨(w.heap.size + 1), 2, none⟩ = some (.int .i64 y.key.q) := I1.cell 2
        have x3 : (st5 (st5 w8 (w.heap.size + 1) (.int .i64 y.key.k) (.int .i64 y.key.p) (.int .i64 y.key.q) (.string y.key.s) (.int .i64 y.key.r)) (w.heap.size + 1 + 1) (.int .i64 y.val.k) (.int .i64 y.val.p) (.int .i64 y.val.q) (.string y.val.s) (.int .i64 y.val.r)).drew.cell? ⟨(w.heap.size + 1), 3, none⟩ = some (.string y.key.s) := I1.cell 3
        have x4 : (st5 (st5 w8 (w.heap.size + 1) (.int .i64 y.key.k) (.int .i64 y.key.p) (.int .i64 y.key.q) (.string y.key.s) (.int .i64 y.key.r)) (w.heap.size + 1 + 1) (.int .i64 y.val.k) (.int .i64 y.val.p) (.int .i64 y.val.q) (.string y.val.s) (.int .i64 y.val.r)).drew.cell? ⟨(w.heap.size + 1), 4, none⟩ = some (.int .i64 y.key.r) := I1.cell 4
        have y0 : (st5 (st5 w8 (w.heap.size + 1) (.int .i64 y.key.k) (.int .i64 y.key.p) (.int .i64 y.key.q) (.string y.key.s) (.int .i64 y.key.r)) (w.heap.size + 1 + 1) (.int .i64 y.val.k) (.int .i64 y.val.p) (.int .i64 y.val.q) (.string y.val.s) (.int .i64 y.val.r)).drew.cell? ⟨(w.heap.size + 1 + 1), 0, none⟩ = some (.int .i64 y.val.k) := I2.cell 0
        have y1 : (st5 (st5 w8 (w.heap.size + 1) (.int .i64 y.key.k) (.int .i64 y.key.p) (.int .i64 y.key.q) (.string y.key.s) (.int .i64 y.key.r)) (w.heap.size + 1 + 1) (.int .i64 y.val.k) (.int .i64 y.val.p) (.int .i64 y.val.q) (.string y.val.s) (.int .i64 y.val.r)).drew.cell? ⟨(w.heap.size + 1 + 1), 1, none⟩ = some (.int .i64 y.val.p) := I2.cell 1
        have y2 : (st5 (st5 w8 (w.heap.size + 1) (.int .i64 y.key.k) (.int .i64 y.key.p) (.int .i64 y.key.q) (.string y.key.s) (.int .i64 y.key.r)) (w.heap.size + 1 + 1) (.int .i64 y.val.k) (.int .i64 y.val.p) (.int .i64 y.val.q) (.string y.val.s) (.int .i64 y.val.r)).drew.cell? ⟨(w.heap.size + 1 + 1), 2, none⟩ = some (.int .i64 y.val.q) := I2.cell 2
        have y3 : (st5 (st5 w8 (w.heap.size + 1) (.int .i64 y.key.k) (.int .i64 y.key.p) (.int .i64 y.key.q) (.string y.key.s) (.int .i64 y.key.r)) (w.heap.size + 1 + 1) (.int .i64 y.val.k) (.int .i64 y.val.p) (.int .i64 y.val.q) (.string y.val.s) (.int .i64 y.val.r)).drew.cell? ⟨(w.heap.size + 1 + 1), 3, none⟩ = some (.string y.val.s) := I2.cell 3
        have y4 : (st5 (st5 w8 (w.heap.size + 1) (.int .i64 y.key.k) (.int .i64 y.key.p) (.int .i64 y.key.q) (.string y.key.s) (.int .i64 y.key.r)) (w.heap.size + 1 + 1) (.int .i64 y.val.k) (.int .i64 y.val.p) (.int .i64 y.val.q) (.string y.val.s) (.int .i64 y.val.r)).drew.cell? ⟨(w.heap.size + 1 + 1), 4, none⟩ = some (.int .i64 y.val.r) := I2.cell 4
        have HF := Lib.hid (by
          have c38 : TbSaid B t va b v m s w3 w8 := HS5.out.trans (fun _ _ _ _ ht => tb_0 ht HD8.out)
          exact tb_fin HCW.out c38 HS.out (fun g hg => by
            have hA := KA3.out.lt
            have hB := KB3.out.lt
            simp at hg
            rcases hg with rfl | rfl
            · exact ⟨fun hq => by have := HNT.out _ hq; omega, hA, by omega⟩
            · exact ⟨fun hq => by have := HNT.out _ hq; omega, hB, by omega⟩))
        generalize (st5 (st5 w8 (w.heap.size + 1) (.int .i64 y.key.k) (.int .i64 y.key.p) (.int .i64 y.key.q) (.string y.key.s) (.int .i64 y.key.r)) (w.heap.size + 1 + 1) (.int .i64 y.val.k) (.int .i64 y.val.p) (.int .i64 y.val.q) (.string y.val.s) (.int .i64 y.val.r)).drew = W9 at *
        refine bodyPost_ret (v := .tuple #[.agg #[.int .i64 y.key.k, .int .i64 y.key.p, .int .i64 y.key.q, .string y.key.s, .int .i64 y.key.r], .agg #[.int .i64 y.val.k, .int .i64 y.val.p, .int .i64 y.val.q, .string y.val.s, .int .i64 y.val.r], .bool y.ok, .int .i64 y.err]) (by simp [results, Try.results18, go_sem, x0, x1, x2, x3, x4, y0, y1, y2, y3, y4]) rfl ⟨rfl, HF.out⟩)
    | true =>
      have e3 : ¬ (1 : Int) ≤ k.p := fun h => HEE.out ⟨e1, rfl, h⟩
      clear e1
      go_upto_region 12 with fail
      go_region
      all_goals (
        go_wp2
        rw [HY.out]
        unfold NxV
        show bodyPost _ _ _ Exit.ret _ (st5 (st5 w8 (w.heap.size + 1) (.int .i64 y.key.k) (.int .i64 y.key.p) (.int .i64 y.key.q) (.string y.key.s) (.int .i64 y.key.r)) (w.heap.size + 1 + 1) (.int .i64 y.val.k) (.int .i64 y.val.p) (.int .i64 y.val.q) (.string y.val.s) (.int .i64 y.val.r)).drew
        have I1 : Blk 26 (w.heap.size + 1) #[.int .i64 y.key.k, .int .i64 y.key.p, .int .i64 y.key.q, .string y.key.s, .int .i64 y.key.r] (st5 (st5 w8 (w.heap.size + 1) (.int .i64 y.key.k) (.int .i64 y.key.p) (.int .i64 y.key.q) (.string y.key.s) (.int .i64 y.key.r)) (w.heap.size + 1 + 1) (.int .i64 y.val.k) (.int .i64 y.val.p) (.int .i64 y.val.q) (.string y.val.s) (.int .i64 y.val.r)).drew := ((st5_blk KA8.out).ch (st5_ch (S := [(w.heap.size + 1 + 1)]) (Ch.refl _ _) (.inl (by simp))) (by simp)).ch ((Ch.refl [] _).drew) (not_nil _)
        have I2 : Blk 26 (w.heap.size + 1 + 1) #[.int .i64 y.val.k, .int .i64 y.val.p, .int .i64 y.val.q, .string y.val.s, .int .i64 y.val.r] (st5 (st5 w8 (w.heap.size + 1) (.int .i64 y.key.k) (.int .i64 y.key.p) (.int .i64 y.key.q) (.string y.key.s) (.int .i64 y.key.r)) (w.heap.size + 1 + 1) (.int .i64 y.val.k) (.int .i64 y.val.p) (.int .i64 y.val.q) (.string y.val.s) (.int .i64 y.val.r)).drew := (st5_blk (KB8.out.ch (st5_ch (S := [(w.heap.size + 1)]) (Ch.refl _ _) (.inl (by simp))) (by simp))).ch ((Ch.refl [] _).drew) (not_nil _)
        have HS : Hid (Ch [(w.heap.size + 1), (w.heap.size + 1 + 1)] w8 (st5 (st5 w8 (w.heap.size + 1) (.int .i64 y.key.k) (.int .i64 y.key.p) (.int .i64 y.key.q) (.string y.key.s) (.int .i64 y.key.r)) (w.heap.size + 1 + 1) (.int .i64 y.val.k) (.int .i64 y.val.p) (.int .i64 y.val.q) (.string y.val.s) (.int .i64 y.val.r)).drew) := Lib.hid ((st5_ch (st5_ch (Ch.refl _ _) (.inl (by simp))) (.inl (by simp))).drew)
        have x0 : (st5 (st5 w8 (w.heap.size + 1) (.int .i64 y.key.k) (.int .i64 y.key.p) (.int .i64 y.key.q) (.string y.key.s) (.int .i64 y.key.r)) (w.heap.size + 1 + 1) (.int .i64 y.val.k) (.int .i64 y.val.p) (.int .i64 y.val.q) (.string y.val.s) (.int .i64 y.val.r)).drew.cell? ⟨(w.heap.size + 1), 0, none⟩ = some (.int .i64 y.key.k) := I1.cell 0
        have x1 : (st5 (st5 w8 (w.heap.size + 1) (.int .i64 y.key.k) (.int .i64 y.key.p) (.int .i64 y.key.q) (.string y.key.s) (.int .i64 y.key.r)) (w.heap.size + 1 + 1) (.int .i64 y.val.k) (.int .i64 y.val.p) (.int .i64 y.val.q) (.string y.val.s) (.int .i64 y.val.r)).drew.cell? ⟨(w.heap.size + 1), 1, none⟩ = some (.int .i64 y.key.p) := I1.cell 1
        have x2 : (st5 (st5 w8 (w.heap.size + 1) (.int .i64 y.key.k) (.int .i64 y.key.p) (.int .i64 y.key.q) (.string y.key.s) (.int .i64 y.key.r)) (w.heap.size + 1 + 1) (.int .i64 y.val.k) (.int .i64 y.val.p) (.int .i64 y.val.q) (.string y.val.s) (.int .i64 y.val.r)).drew.cell? ⟨(w.heap.size + 1), 2, none⟩ = some (.int .i64 y.key.q) := I1.cell 2
        have x3 : (st5 (st5 w8 (w.heap.size + 1) (.int .i64 y.key.k) (.int .i64 y.key.p) (.int .i64 y.key.q) (.string y.key.s) (.int .i64 y.key.r)) (w.heap.size + 1 + 1) (.int .i64 y.val.k) (.int .i64 y.val.p) (.int .i64 y.val.q) (.string y.val.s) (.int .i64 y.val.r)).drew.cell? ⟨(w.heap.size + 1), 3, none⟩ = some (.string y.key.s) := I1.cell 3
        have x4 : (st5 (st5 w8 (w.heap.size + 1) (.int .i64 y.key.k) (.int .i64 y.key.p) (.int .i64 y.key.q) (.string y.key.s) (.int .i64 y.key.r)) (w.heap.size + 1 + 1) (.int .i64 y.val.k) (.int .i64 y.val.p) (.int .i64 y.val.q) (.string y.val.s) (.int .i64 y.val.r)).drew.cell? ⟨(w.heap.size + 1), 4, none⟩ = some (.int .i64 y.key.r) := I1.cell 4
        have y0 : (st5 (st5 w8 (w.heap.size + 1) (.int .i64 y.key.k) (.int .i64 y.key.p) (.int .i64 y.key.q) (.string y.key.s) (.int .i64 y.key.r)) (w.heap.size + 1 + 1) (.int .i64 y.val.k) (.int .i64 y.val.p) (.int .i64 y.val.q) (.string y.val.s) (.int .i64 y.val.r)).drew.cell? ⟨(w.heap.size + 1 + 1), 0, none⟩ = some (.int .i64 y.val.k) := I2.cell 0
        have y1 : (st5 (st5 w8 (w.heap.size + 1) (.int .i64 y.key.k) (.int .i64 y.key.p) (.int .i64 y.key.q) (.string y.key.s) (.int .i64 y.key.r)) (w.heap.size + 1 + 1) (.int .i64 y.val.k) (.int .i64 y.val.p) (.int .i64 y.val.q) (.string y.val.s) (.int .i64 y.val.r)).drew.cell? ⟨(w.heap.size + 1 + 1), 1, none⟩ = some (.int .i64 y.val.p) := I2.cell 1
        have y2 : (st5 (st5 w8 (w.heap.size + 1) (.int .i64 y.key.k) (.int .i64 y.key.p) (.int .i64 y.key.q) (.string y.key.s) (.int .i64 y.key.r)) (w.heap.size + 1 + 1) (.int .i64 y.val.k) (.int .i64 y.val.p) (.int .i64 y.val.q) (.string y.val.s) (.int .i64 y.val.r)).drew.cell? ⟨(w.heap.size + 1 + 1), 2, none⟩ = some (.int .i64 y.val.q) := I2.cell 2
        have y3 : (st5 (st5 w8 (w.heap.size + 1) (.int .i64 y.key.k) (.int .i64 y.key.p) (.int .i64 y.key.q) (.string y.key.s) (.int .i64 y.key.r)) (w.heap.size + 1 + 1) (.int .i64 y.val.k) (.int .i64 y.val.p) (.int .i64 y.val.q) (.string y.val.s) (.int .i64 y.val.r)).drew.cell? ⟨(w.heap.size + 1 + 1), 3, none⟩ = some (.string y.val.s) := I2.cell 3
        have y4 : (st5 (st5 w8 (w.heap.size + 1) (.int .i64 y.key.k) (.int .i64 y.key.p) (.int .i64 y.key.q) (.string y.key.s) (.int .i64 y.key.r)) (w.heap.size + 1 + 1) (.int .i64 y.val.k) (.int .i64 y.val.p) (.int .i64 y.val.q) (.string y.val.s) (.int .i64 y.val.r)).drew.cell? ⟨(w.heap.size + 1 + 1), 4, none⟩ = some (.int .i64 y.val.r) := I2.cell 4
        have HF := Lib.hid (by
          have c38 : TbSaid B t va b v m s w3 w8 := HS5.out.trans (fun _ _ _ _ ht => tb_0 ht HD8.out)
          exact tb_fin HCW.out c38 HS.out (fun g hg => by
            have hA := KA3.out.lt
            have hB := KB3.out.lt
            simp at hg
            rcases hg with rfl | rfl
            · exact ⟨fun hq => by have := HNT.out _ hq; omega, hA, by omega⟩
            · exact ⟨fun hq => by have := HNT.out _ hq; omega, hB, by omega⟩))
        generalize (st5 (st5 w8 (w.heap.size + 1) (.int .i64 y.key.k) (.int .i64 y.key.p) (.int .i64 y.key.q) (.string y.key.s) (.int .i64 y.key.r)) (w.heap.size + 1 + 1) (.int .i64 y.val.k) (.int .i64 y.val.p) (.int .i64 y.val.q) (.string y.val.s) (.int .i64 y.val.r)).drew = W9 at *
        refine bodyPost_ret (v := .tuple #[.agg #[.int .i64 y.key.k, .int .i64 y.key.p, .int .i64 y.key.q, .string y.key.s, .int .i64 y.key.r], .agg #[.int .i64 y.val.k, .int .i64 y.val.p, .int .i64 y.val.q, .string y.val.s, .int .i64 y.val.r], .bool y.ok, .int .i64 y.err]) (by simp [results, Try.results18, go_sem, x0, x1, x2, x3, x4, y0, y1, y2, y3, y4]) rfl ⟨rfl, HF.out⟩)
end Go.Proofs.Ytaaelhhiceildaa
