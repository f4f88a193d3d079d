/- Layer 13: Set. -/
import Derived.Test.YtaaelhhiceildaaTbH
import Derived.Test.YtaaelhhiceildaaTbW
namespace Go.Proofs.Ytaaelhhiceildaa
open Go.RowKit Go.Joins M1
set_option linter.unusedVariables false
set_option maxHeartbeats 8000000 in
theorem tset_k0 (t : Nat) (k x : V5) (w : World) (hk : k.k = 0) :
    Calls Try.prog 12 #[.pointer (some ⟨t, 0, none⟩), .agg #[.int .i64 k.k, .int .i64 k.p, .int .i64 k.q, .string k.s, .int .i64 k.r], .agg #[.int .i64 x.k, .int .i64 x.p, .int .i64 x.q, .string x.s, .int .i64 x.r]] w fun e w' => e = .returned (.int .i64 13) ∧ Ch [] w w' := by
  have KK0 : Hid (Blk 26 w.heap.size #[.int .i64 k.k, .int .i64 k.p, .int .i64 k.q, .string k.s, .int .i64 k.r] ((w.alloc (.cells #[.int .i64 k.k, .int .i64 k.p, .int .i64 k.q, .string k.s, .int .i64 k.r] 26)).alloc (.cells #[.int .i64 x.k, .int .i64 x.p, .int .i64 x.q, .string x.s, .int .i64 x.r] 26))) := Lib.hid ((Blk.new w 26 _ _ rfl).ch ((Ch.refl [] _).alloc _) (not_nil _))
  have KX0 : Hid (Blk 26 (w.heap.size + 1) #[.int .i64 x.k, .int .i64 x.p, .int .i64 x.q, .string x.s, .int .i64 x.r] ((w.alloc (.cells #[.int .i64 k.k, .int .i64 k.p, .int .i64 k.q, .string k.s, .int .i64 k.r] 26)).alloc (.cells #[.int .i64 x.k, .int .i64 x.p, .int .i64 x.q, .string x.s, .int .i64 x.r] 26))) := Lib.hid (Blk.new _ 26 _ _ (by simp))
  have HC0 : Hid (Ch [] w ((w.alloc (.cells #[.int .i64 k.k, .int .i64 k.p, .int .i64 k.q, .string k.s, .int .i64 k.r] 26)).alloc (.cells #[.int .i64 x.k, .int .i64 x.p, .int .i64 x.q, .string x.s, .int .i64 x.r] 26))) := Lib.hid (((Ch.refl [] w).alloc _).alloc _)
  have ek : (k.k == 0) = true := beq_iff_eq.2 hk
  clear hk
  go_enter Try.func12, Try.ntmps12
  go_upto_region 1 with fail
  generalize ((w.alloc (.cells #[.int .i64 k.k, .int .i64 k.p, .int .i64 k.q, .string k.s, .int .i64 k.r] 26)).alloc (.cells #[.int .i64 x.k, .int .i64 x.p, .int .i64 x.q, .string x.s, .int .i64 x.r] 26)) = w0 at *
  have u0 : w0.cell? ⟨w.heap.size, 0, none⟩ = some (.int .i64 k.k) := KK0.out.cell 0
  have u1 : w0.cell? ⟨w.heap.size, 1, none⟩ = some (.int .i64 k.p) := KK0.out.cell 1
  have u2 : w0.cell? ⟨w.heap.size, 2, none⟩ = some (.int .i64 k.q) := KK0.out.cell 2
  have u3 : w0.cell? ⟨w.heap.size, 3, none⟩ = some (.string k.s) := KK0.out.cell 3
  have u4 : w0.cell? ⟨w.heap.size, 4, none⟩ = some (.int .i64 k.r) := KK0.out.cell 4
  have z0 : w0.cell? ⟨(w.heap.size + 1), 0, none⟩ = some (.int .i64 x.k) := KX0.out.cell 0
  have z1 : w0.cell? ⟨(w.heap.size + 1), 1, none⟩ = some (.int .i64 x.p) := KX0.out.cell 1
  have z2 : w0.cell? ⟨(w.heap.size + 1), 2, none⟩ = some (.int .i64 x.q) := KX0.out.cell 2
  have z3 : w0.cell? ⟨(w.heap.size + 1), 3, none⟩ = some (.string x.s) := KX0.out.cell 3
  have z4 : w0.cell? ⟨(w.heap.size + 1), 4, none⟩ = some (.int .i64 x.r) := KX0.out.cell 4
  have lu := KK0.out.lt
  have lz := KX0.out.lt
  go_wp2_with fail
  go_ret
  exact ⟨rfl, HC0.out⟩
set_option maxHeartbeats 8000000 in
theorem tset_k1 (t : Nat) (k x : V5) (w : World) (hk : k.k ≠ 0) (hk1 : okV k = false) :
    Calls Try.prog 12 #[.pointer (some ⟨t, 0, none⟩), .agg #[.int .i64 k.k, .int .i64 k.p, .int .i64 k.q, .string k.s, .int .i64 k.r], .agg #[.int .i64 x.k, .int .i64 x.p, .int .i64 x.q, .string x.s, .int .i64 x.r]] w fun e w' => e = .returned (.int .i64 13) ∧ Ch [] w w' := by
  have KK0 : Hid (Blk 26 w.heap.size #[.int .i64 k.k, .int .i64 k.p, .int .i64 k.q, .string k.s, .int .i64 k.r] ((w.alloc (.cells #[.int .i64 k.k, .int .i64 k.p, .int .i64 k.q, .string k.s, .int .i64 k.r] 26)).alloc (.cells #[.int .i64 x.k, .int .i64 x.p, .int .i64 x.q, .string x.s, .int .i64 x.r] 26))) := Lib.hid ((Blk.new w 26 _ _ rfl).ch ((Ch.refl [] _).alloc _) (not_nil _))
  have KX0 : Hid (Blk 26 (w.heap.size + 1) #[.int .i64 x.k, .int .i64 x.p, .int .i64 x.q, .string x.s, .int .i64 x.r] ((w.alloc (.cells #[.int .i64 k.k, .int .i64 k.p, .int .i64 k.q, .string k.s, .int .i64 k.r] 26)).alloc (.cells #[.int .i64 x.k, .int .i64 x.p, .int .i64 x.q, .string x.s, .int .i64 x.r] 26))) := Lib.hid (Blk.new _ 26 _ _ (by simp))
  have HC0 : Hid (Ch [] w ((w.alloc (.cells #[.int .i64 k.k, .int .i64 k.p, .int .i64 k.q, .string k.s, .int .i64 k.r] 26)).alloc (.cells #[.int .i64 x.k, .int .i64 x.p, .int .i64 x.q, .string x.s, .int .i64 x.r] 26))) := Lib.hid (((Ch.refl [] w).alloc _).alloc _)
  have ek : (k.k == 0) = false := beq_eq_false_iff_ne.2 hk
  have Q1 : Hid (∀ W, Calls Try.prog 26 #[.agg #[.int .i64 k.k, .int .i64 k.p, .int .i64 k.q, .string k.s, .int .i64 k.r]] W fun e w' => e = .returned (.bool false) ∧ Below W.heap.size W w') := Lib.hid fun W => by rw [← (show okV k = false from hk1)]; exact valid5 k.k k.p k.q k.s k.r W
  clear hk hk1
  go_enter Try.func12, Try.ntmps12
  go_upto_region 1 with fail
  generalize ((w.alloc (.cells #[.int .i64 k.k, .int .i64 k.p, .int .i64 k.q, .string k.s, .int .i64 k.r] 26)).alloc (.cells #[.int .i64 x.k, .int .i64 x.p, .int .i64 x.q, .string x.s, .int .i64 x.r] 26)) = w0 at *
  have u0 : w0.cell? ⟨w.heap.size, 0, none⟩ = some (.int .i64 k.k) := KK0.out.cell 0
  have u1 : w0.cell? ⟨w.heap.size, 1, none⟩ = some (.int .i64 k.p) := KK0.out.cell 1
  have u2 : w0.cell? ⟨w.heap.size, 2, none⟩ = some (.int .i64 k.q) := KK0.out.cell 2
  have u3 : w0.cell? ⟨w.heap.size, 3, none⟩ = some (.string k.s) := KK0.out.cell 3
  have u4 : w0.cell? ⟨w.heap.size, 4, none⟩ = some (.int .i64 k.r) := KK0.out.cell 4
  have z0 : w0.cell? ⟨(w.heap.size + 1), 0, none⟩ = some (.int .i64 x.k) := KX0.out.cell 0
  have z1 : w0.cell? ⟨(w.heap.size + 1), 1, none⟩ = some (.int .i64 x.p) := KX0.out.cell 1
  have z2 : w0.cell? ⟨(w.heap.size + 1), 2, none⟩ = some (.int .i64 x.q) := KX0.out.cell 2
  have z3 : w0.cell? ⟨(w.heap.size + 1), 3, none⟩ = some (.string x.s) := KX0.out.cell 3
  have z4 : w0.cell? ⟨(w.heap.size + 1), 4, none⟩ = some (.int .i64 x.r) := KX0.out.cell 4
  have lu := KK0.out.lt
  have lz := KX0.out.lt
  go_wp2_with (go_at_call 26; (with_reducible refine (Q1.out _).mono ?_); rintro e w1 ⟨rfl, hb1⟩; have HD1 : Hid (Ch [] w0 w1) := Lib.hid ((Ch.refl [] w0).trans (Ch.of_below hb1)); clear hb1; have KK1 := Lib.hid (KK0.out.ch HD1.out (not_nil _)); have KX1 := Lib.hid (KX0.out.ch HD1.out (not_nil _)); have u1_0 : w1.cell? ⟨w.heap.size, 0, none⟩ = some (.int .i64 k.k) := KK1.out.cell 0; have u1_1 : w1.cell? ⟨w.heap.size, 1, none⟩ = some (.int .i64 k.p) := KK1.out.cell 1; have u1_2 : w1.cell? ⟨w.heap.size, 2, none⟩ = some (.int .i64 k.q) := KK1.out.cell 2; have u1_3 : w1.cell? ⟨w.heap.size, 3, none⟩ = some (.string k.s) := KK1.out.cell 3; have u1_4 : w1.cell? ⟨w.heap.size, 4, none⟩ = some (.int .i64 k.r) := KK1.out.cell 4; have z1_0 : w1.cell? ⟨(w.heap.size + 1), 0, none⟩ = some (.int .i64 x.k) := KX1.out.cell 0; have z1_1 : w1.cell? ⟨(w.heap.size + 1), 1, none⟩ = some (.int .i64 x.p) := KX1.out.cell 1; have z1_2 : w1.cell? ⟨(w.heap.size + 1), 2, none⟩ = some (.int .i64 x.q) := KX1.out.cell 2; have z1_3 : w1.cell? ⟨(w.heap.size + 1), 3, none⟩ = some (.string x.s) := KX1.out.cell 3; have z1_4 : w1.cell? ⟨(w.heap.size + 1), 4, none⟩ = some (.int .i64 x.r) := KX1.out.cell 4; have lu1 := KK1.out.lt; have lz1 := KX1.out.lt)
  go_ret
  exact ⟨rfl, HC0.out.trans HD1.out⟩
set_option maxHeartbeats 8000000 in
theorem tset_x1 (t : Nat) (k x : V5) (w : World) (hk : k.k ≠ 0) (hk1 : okV k = true) (hx1 : okV x = false) :
    Calls Try.prog 12 #[.pointer (some ⟨t, 0, none⟩), .agg #[.int .i64 k.k, .int .i64 k.p, .int .i64 k.q, .string k.s, .int .i64 k.r], .agg #[.int .i64 x.k, .int .i64 x.p, .int .i64 x.q, .string x.s, .int .i64 x.r]] w fun e w' => e = .returned (.int .i64 2) ∧ Ch [] w w' := by
  have KK0 : Hid (Blk 26 w.heap.size #[.int .i64 k.k, .int .i64 k.p, .int .i64 k.q, .string k.s, .int .i64 k.r] ((w.alloc (.cells #[.int .i64 k.k, .int .i64 k.p, .int .i64 k.q, .string k.s, .int .i64 k.r] 26)).alloc (.cells #[.int .i64 x.k, .int .i64 x.p, .int .i64 x.q, .string x.s, .int .i64 x.r] 26))) := Lib.hid ((Blk.new w 26 _ _ rfl).ch ((Ch.refl [] _).alloc _) (not_nil _))
  have KX0 : Hid (Blk 26 (w.heap.size + 1) #[.int .i64 x.k, .int .i64 x.p, .int .i64 x.q, .string x.s, .int .i64 x.r] ((w.alloc (.cells #[.int .i64 k.k, .int .i64 k.p, .int .i64 k.q, .string k.s, .int .i64 k.r] 26)).alloc (.cells #[.int .i64 x.k, .int .i64 x.p, .int .i64 x.q, .string x.s, .int .i64 x.r] 26))) := Lib.hid (Blk.new _ 26 _ _ (by simp))
  have HC0 : Hid (Ch [] w ((w.alloc (.cells #[.int .i64 k.k, .int .i64 k.p, .int .i64 k.q, .string k.s, .int .i64 k.r] 26)).alloc (.cells #[.int .i64 x.k, .int .i64 x.p, .int .i64 x.q, .string x.s, .int .i64 x.r] 26))) := Lib.hid (((Ch.refl [] w).alloc _).alloc _)
  have ek : (k.k == 0) = false := beq_eq_false_iff_ne.2 hk
  have Q1 : Hid (∀ W, Calls Try.prog 26 #[.agg #[.int .i64 k.k, .int .i64 k.p, .int .i64 k.q, .string k.s, .int .i64 k.r]] W fun e w' => e = .returned (.bool true) ∧ Below W.heap.size W w') := Lib.hid fun W => by rw [← (show okV k = true from hk1)]; exact valid5 k.k k.p k.q k.s k.r W
  have Q2 : Hid (∀ W, Calls Try.prog 26 #[.agg #[.int .i64 x.k, .int .i64 x.p, .int .i64 x.q, .string x.s, .int .i64 x.r]] W fun e w' => e = .returned (.bool false) ∧ Below W.heap.size W w') := Lib.hid fun W => by rw [← (show okV x = false from hx1)]; exact valid5 x.k x.p x.q x.s x.r W
  clear hk hk1 hx1
  go_enter Try.func12, Try.ntmps12
  go_upto_region 1 with fail
  generalize ((w.alloc (.cells #[.int .i64 k.k, .int .i64 k.p, .int .i64 k.q, .string k.s, .int .i64 k.r] 26)).alloc (.cells #[.int .i64 x.k, .int .i64 x.p, .int .i64 x.q, .string x.s, .int .i64 x.r] 26)) = w0 at *
  have u0 : w0.cell? ⟨w.heap.size, 0, none⟩ = some (.int .i64 k.k) := KK0.out.cell 0
  have u1 : w0.cell? ⟨w.heap.size, 1, none⟩ = some (.int .i64 k.p) := KK0.out.cell 1
  have u2 : w0.cell? ⟨w.heap.size, 2, none⟩ = some (.int .i64 k.q) := KK0.out.cell 2
  have u3 : w0.cell? ⟨w.heap.size, 3, none⟩ = some (.string k.s) := KK0.out.cell 3
  have u4 : w0.cell? ⟨w.heap.size, 4, none⟩ = some (.int .i64 k.r) := KK0.out.cell 4
  have z0 : w0.cell? ⟨(w.heap.size + 1), 0, none⟩ = some (.int .i64 x.k) := KX0.out.cell 0
  have z1 : w0.cell? ⟨(w.heap.size + 1), 1, none⟩ = some (.int .i64 x.p) := KX0.out.cell 1
  have z2 : w0.cell? ⟨(w.heap.size + 1), 2, none⟩ = some (.int .i64 x.q) := KX0.out.cell 2
  have z3 : w0.cell? ⟨(w.heap.size + 1), 3, none⟩ = some (.string x.s) := KX0.out.cell 3
  have z4 : w0.cell? ⟨(w.heap.size + 1), 4, none⟩ = some (.int .i64 x.r) := KX0.out.cell 4
  have lu := KK0.out.lt
  have lz := KX0.out.lt
  go_upto_region 5 with (go_at_call 26; (with_reducible refine (Q1.out _).mono ?_); rintro e w1 ⟨rfl, hb1⟩; have HD1 : Hid (Ch [] w0 w1) := Lib.hid ((Ch.refl [] w0).trans (Ch.of_below hb1)); clear hb1; have KK1 := Lib.hid (KK0.out.ch HD1.out (not_nil _)); have KX1 := Lib.hid (KX0.out.ch HD1.out (not_nil _)); have u1_0 : w1.cell? ⟨w.heap.size, 0, none⟩ = some (.int .i64 k.k) := KK1.out.cell 0; have u1_1 : w1.cell? ⟨w.heap.size, 1, none⟩ = some (.int .i64 k.p) := KK1.out.cell 1; have u1_2 : w1.cell? ⟨w.heap.size, 2, none⟩ = some (.int .i64 k.q) := KK1.out.cell 2; have u1_3 : w1.cell? ⟨w.heap.size, 3, none⟩ = some (.string k.s) := KK1.out.cell 3; have u1_4 : w1.cell? ⟨w.heap.size, 4, none⟩ = some (.int .i64 k.r) := KK1.out.cell 4; have z1_0 : w1.cell? ⟨(w.heap.size + 1), 0, none⟩ = some (.int .i64 x.k) := KX1.out.cell 0; have z1_1 : w1.cell? ⟨(w.heap.size + 1), 1, none⟩ = some (.int .i64 x.p) := KX1.out.cell 1; have z1_2 : w1.cell? ⟨(w.heap.size + 1), 2, none⟩ = some (.int .i64 x.q) := KX1.out.cell 2; have z1_3 : w1.cell? ⟨(w.heap.size + 1), 3, none⟩ = some (.string x.s) := KX1.out.cell 3; have z1_4 : w1.cell? ⟨(w.heap.size + 1), 4, none⟩ = some (.int .i64 x.r) := KX1.out.cell 4; have lu1 := KK1.out.lt; have lz1 := KX1.out.lt)
  clear u0 u1 u2 u3 u4 z0 z1 z2 z3 z4 lu lz
  go_wp2_with (go_at_call 26; (with_reducible refine (Q2.out _).mono ?_); rintro e w2 ⟨rfl, hb2⟩; have HD2 : Hid (Ch [] w0 w2) := Lib.hid (HD1.out.trans (Ch.of_below hb2)); clear hb2; have KK2 := Lib.hid (KK0.out.ch HD2.out (not_nil _)); have KX2 := Lib.hid (KX0.out.ch HD2.out (not_nil _)); have u2_0 : w2.cell? ⟨w.heap.size, 0, none⟩ = some (.int .i64 k.k) := KK2.out.cell 0; have u2_1 : w2.cell? ⟨w.heap.size, 1, none⟩ = some (.int .i64 k.p) := KK2.out.cell 1; have u2_2 : w2.cell? ⟨w.heap.size, 2, none⟩ = some (.int .i64 k.q) := KK2.out.cell 2; have u2_3 : w2.cell? ⟨w.heap.size, 3, none⟩ = some (.string k.s) := KK2.out.cell 3; have u2_4 : w2.cell? ⟨w.heap.size, 4, none⟩ = some (.int .i64 k.r) := KK2.out.cell 4; have z2_0 : w2.cell? ⟨(w.heap.size + 1), 0, none⟩ = some (.int .i64 x.k) := KX2.out.cell 0; have z2_1 : w2.cell? ⟨(w.heap.size + 1), 1, none⟩ = some (.int .i64 x.p) := KX2.out.cell 1; have z2_2 : w2.cell? ⟨(w.heap.size + 1), 2, none⟩ = some (.int .i64 x.q) := KX2.out.cell 2; have z2_3 : w2.cell? ⟨(w.heap.size + 1), 3, none⟩ = some (.string x.s) := KX2.out.cell 3; have z2_4 : w2.cell? ⟨(w.heap.size + 1), 4, none⟩ = some (.int .i64 x.r) := KX2.out.cell 4; have lu2 := KK2.out.lt; have lz2 := KX2.out.lt)
  go_ret
  exact ⟨rfl, HC0.out.trans HD2.out⟩
set_option maxHeartbeats 8000000 in
theorem tset_some (B t : Nat) (va : Value) (b : Nat) (v m : Value) (s : TS) (w : World) (h : Tb B t va b v m s w) (k x : V5) (hL : s.arr.length + s.R.length ≤ 900000) (hBw : B ≤ w.heap.size) (hk : k.k ≠ 0) (hk1 : okV k = true) (hx1 : okV x = true) (j : Nat) (hj : j < s.arr.length) (he : elF s.arr.length k = some (j + 1)) :
    Calls Try.prog 12 #[.pointer (some ⟨t, 0, none⟩), .agg #[.int .i64 k.k, .int .i64 k.p, .int .i64 k.q, .string k.s, .int .i64 k.r], .agg #[.int .i64 x.k, .int .i64 x.p, .int .i64 x.q, .string x.s, .int .i64 x.r]] w fun e w' => e = .returned (.int .i64 0) ∧ TbSaid B t va b v m (putS s j x) w w' := by
  have HT0 : Hid (Tb B t va b v m s ((w.alloc (.cells #[.int .i64 k.k, .int .i64 k.p, .int .i64 k.q, .string k.s, .int .i64 k.r] 26)).alloc (.cells #[.int .i64 x.k, .int .i64 x.p, .int .i64 x.q, .string x.s, .int .i64 x.r] 26))) := Lib.hid (h.ch0 (((Ch.refl [] w).alloc _).alloc _))
  have KK0 : Hid (Blk 26 w.heap.size #[.int .i64 k.k, .int .i64 k.p, .int .i64 k.q, .string k.s, .int .i64 k.r] ((w.alloc (.cells #[.int .i64 k.k, .int .i64 k.p, .int .i64 k.q, .string k.s, .int .i64 k.r] 26)).alloc (.cells #[.int .i64 x.k, .int .i64 x.p, .int .i64 x.q, .string x.s, .int .i64 x.r] 26))) := Lib.hid ((Blk.new w 26 _ _ rfl).ch ((Ch.refl [] _).alloc _) (not_nil _))
  have KX0 : Hid (Blk 26 (w.heap.size + 1) #[.int .i64 x.k, .int .i64 x.p, .int .i64 x.q, .string x.s, .int .i64 x.r] ((w.alloc (.cells #[.int .i64 k.k, .int .i64 k.p, .int .i64 k.q, .string k.s, .int .i64 k.r] 26)).alloc (.cells #[.int .i64 x.k, .int .i64 x.p, .int .i64 x.q, .string x.s, .int .i64 x.r] 26))) := Lib.hid (Blk.new _ 26 _ _ (by simp))
  have HC0 : Hid (Ch [] w ((w.alloc (.cells #[.int .i64 k.k, .int .i64 k.p, .int .i64 k.q, .string k.s, .int .i64 k.r] 26)).alloc (.cells #[.int .i64 x.k, .int .i64 x.p, .int .i64 x.q, .string x.s, .int .i64 x.r] 26))) := Lib.hid (((Ch.refl [] w).alloc _).alloc _)
  have HBW := Lib.hid hBw
  have HLL := Lib.hid hL
  have ek : (k.k == 0) = false := beq_eq_false_iff_ne.2 hk
  have Q1 : Hid (∀ W, Calls Try.prog 26 #[.agg #[.int .i64 k.k, .int .i64 k.p, .int .i64 k.q, .string k.s, .int .i64 k.r]] W fun e w' => e = .returned (.bool true) ∧ Below W.heap.size W w') := Lib.hid fun W => by rw [← (show okV k = true from hk1)]; exact valid5 k.k k.p k.q k.s k.r W
  have Q2 : Hid (∀ W, Calls Try.prog 26 #[.agg #[.int .i64 x.k, .int .i64 x.p, .int .i64 x.q, .string x.s, .int .i64 x.r]] W fun e w' => e = .returned (.bool true) ∧ Below W.heap.size W w') := Lib.hid fun W => by rw [← (show okV x = true from hx1)]; exact valid5 x.k x.p x.q x.s x.r W
  have QE : Hid (∀ W, Tb B t va b v m s W → Calls Try.prog 27 #[.pointer (some ⟨t, 0, none⟩), .agg #[.int .i64 k.k, .int .i64 k.p, .int .i64 k.q, .string k.s, .int .i64 k.r]] W fun e w' => e = .returned (.tuple #[.int .i64 ((j : Int) + 1), .bool true]) ∧ Below W.heap.size W w') := Lib.hid fun W hw => element_some B t va b v m s W hw k (j + 1) he
  have HJ := Lib.hid hj
  clear he hj
  clear h hBw hk hk1 hx1
  go_enter Try.func12, Try.ntmps12
  go_upto_region 1 with fail
  generalize ((w.alloc (.cells #[.int .i64 k.k, .int .i64 k.p, .int .i64 k.q, .string k.s, .int .i64 k.r] 26)).alloc (.cells #[.int .i64 x.k, .int .i64 x.p, .int .i64 x.q, .string x.s, .int .i64 x.r] 26)) = w0 at *
  have u0 : w0.cell? ⟨w.heap.size, 0, none⟩ = some (.int .i64 k.k) := KK0.out.cell 0
  have u1 : w0.cell? ⟨w.heap.size, 1, none⟩ = some (.int .i64 k.p) := KK0.out.cell 1
  have u2 : w0.cell? ⟨w.heap.size, 2, none⟩ = some (.int .i64 k.q) := KK0.out.cell 2
  have u3 : w0.cell? ⟨w.heap.size, 3, none⟩ = some (.string k.s) := KK0.out.cell 3
  have u4 : w0.cell? ⟨w.heap.size, 4, none⟩ = some (.int .i64 k.r) := KK0.out.cell 4
  have z0 : w0.cell? ⟨(w.heap.size + 1), 0, none⟩ = some (.int .i64 x.k) := KX0.out.cell 0
  have z1 : w0.cell? ⟨(w.heap.size + 1), 1, none⟩ = some (.int .i64 x.p) := KX0.out.cell 1
  have z2 : w0.cell? ⟨(w.heap.size + 1), 2, none⟩ = some (.int .i64 x.q) := KX0.out.cell 2
  have z3 : w0.cell? ⟨(w.heap.size + 1), 3, none⟩ = some (.string x.s) := KX0.out.cell 3
  have z4 : w0.cell? ⟨(w.heap.size + 1), 4, none⟩ = some (.int .i64 x.r) := KX0.out.cell 4
  have lu := KK0.out.lt
  have lz := KX0.out.lt
  go_upto_region 5 with (go_at_call 26; (with_reducible refine (Q1.out _).mono ?_); rintro e w1 ⟨rfl, hb1⟩; have HD1 : Hid (Ch [] w0 w1) := Lib.hid ((Ch.refl [] w0).trans (Ch.of_below hb1)); clear hb1; have KK1 := Lib.hid (KK0.out.ch HD1.out (not_nil _)); have KX1 := Lib.hid (KX0.out.ch HD1.out (not_nil _)); have u1_0 : w1.cell? ⟨w.heap.size, 0, none⟩ = some (.int .i64 k.k) := KK1.out.cell 0; have u1_1 : w1.cell? ⟨w.heap.size, 1, none⟩ = some (.int .i64 k.p) := KK1.out.cell 1; have u1_2 : w1.cell? ⟨w.heap.size, 2, none⟩ = some (.int .i64 k.q) := KK1.out.cell 2; have u1_3 : w1.cell? ⟨w.heap.size, 3, none⟩ = some (.string k.s) := KK1.out.cell 3; have u1_4 : w1.cell? ⟨w.heap.size, 4, none⟩ = some (.int .i64 k.r) := KK1.out.cell 4; have z1_0 : w1.cell? ⟨(w.heap.size + 1), 0, none⟩ = some (.int .i64 x.k) := KX1.out.cell 0; have z1_1 : w1.cell? ⟨(w.heap.size + 1), 1, none⟩ = some (.int .i64 x.p) := KX1.out.cell 1; have z1_2 : w1.cell? ⟨(w.heap.size + 1), 2, none⟩ = some (.int .i64 x.q) := KX1.out.cell 2; have z1_3 : w1.cell? ⟨(w.heap.size + 1), 3, none⟩ = some (.string x.s) := KX1.out.cell 3; have z1_4 : w1.cell? ⟨(w.heap.size + 1), 4, none⟩ = some (.int .i64 x.r) := KX1.out.cell 4; have lu1 := KK1.out.lt; have lz1 := KX1.out.lt)
  clear u0 u1 u2 u3 u4 z0 z1 z2 z3 z4 lu lz
  go_upto_region 7 with (go_at_call 26; (with_reducible refine (Q2.out _).mono ?_); rintro e w2 ⟨rfl, hb2⟩; have HD2 : Hid (Ch [] w0 w2) := Lib.hid (HD1.out.trans (Ch.of_below hb2)); clear hb2; have KK2 := Lib.hid (KK0.out.ch HD2.out (not_nil _)); have KX2 := Lib.hid (KX0.out.ch HD2.out (not_nil _)); have u2_0 : w2.cell? ⟨w.heap.size, 0, none⟩ = some (.int .i64 k.k) := KK2.out.cell 0; have u2_1 : w2.cell? ⟨w.heap.size, 1, none⟩ = some (.int .i64 k.p) := KK2.out.cell 1; have u2_2 : w2.cell? ⟨w.heap.size, 2, none⟩ = some (.int .i64 k.q) := KK2.out.cell 2; have u2_3 : w2.cell? ⟨w.heap.size, 3, none⟩ = some (.string k.s) := KK2.out.cell 3; have u2_4 : w2.cell? ⟨w.heap.size, 4, none⟩ = some (.int .i64 k.r) := KK2.out.cell 4; have z2_0 : w2.cell? ⟨(w.heap.size + 1), 0, none⟩ = some (.int .i64 x.k) := KX2.out.cell 0; have z2_1 : w2.cell? ⟨(w.heap.size + 1), 1, none⟩ = some (.int .i64 x.p) := KX2.out.cell 1; have z2_2 : w2.cell? ⟨(w.heap.size + 1), 2, none⟩ = some (.int .i64 x.q) := KX2.out.cell 2; have z2_3 : w2.cell? ⟨(w.heap.size + 1), 3, none⟩ = some (.string x.s) := KX2.out.cell 3; have z2_4 : w2.cell? ⟨(w.heap.size + 1), 4, none⟩ = some (.int .i64 x.r) := KX2.out.cell 4; have lu2 := KK2.out.lt; have lz2 := KX2.out.lt)
  clear u1_0 z1_0 u1_1 z1_1 u1_2 z1_2 u1_3 z1_3 u1_4 z1_4 lu1 lz1
  go_upto_region 8 with (go_at_call 27; (with_reducible refine (QE.out _ (HT0.out.ch0 HD2.out)).mono ?_); rintro e w3 ⟨rfl, hb3⟩; have HD3 : Hid (Ch [] w0 w3) := Lib.hid (HD2.out.trans (Ch.of_below hb3)); clear hb3; have HT3 := Lib.hid (HT0.out.ch0 HD3.out); have KK3 := Lib.hid (KK0.out.ch HD3.out (not_nil _)); have KX3 := Lib.hid (KX0.out.ch HD3.out (not_nil _)); have u3_0 : w3.cell? ⟨w.heap.size, 0, none⟩ = some (.int .i64 k.k) := KK3.out.cell 0; have u3_1 : w3.cell? ⟨w.heap.size, 1, none⟩ = some (.int .i64 k.p) := KK3.out.cell 1; have u3_2 : w3.cell? ⟨w.heap.size, 2, none⟩ = some (.int .i64 k.q) := KK3.out.cell 2; have u3_3 : w3.cell? ⟨w.heap.size, 3, none⟩ = some (.string k.s) := KK3.out.cell 3; have u3_4 : w3.cell? ⟨w.heap.size, 4, none⟩ = some (.int .i64 k.r) := KK3.out.cell 4; have z3_0 : w3.cell? ⟨(w.heap.size + 1), 0, none⟩ = some (.int .i64 x.k) := KX3.out.cell 0; have z3_1 : w3.cell? ⟨(w.heap.size + 1), 1, none⟩ = some (.int .i64 x.p) := KX3.out.cell 1; have z3_2 : w3.cell? ⟨(w.heap.size + 1), 2, none⟩ = some (.int .i64 x.q) := KX3.out.cell 2; have z3_3 : w3.cell? ⟨(w.heap.size + 1), 3, none⟩ = some (.string x.s) := KX3.out.cell 3; have z3_4 : w3.cell? ⟨(w.heap.size + 1), 4, none⟩ = some (.int .i64 x.r) := KX3.out.cell 4; have lu3 := KK3.out.lt; have lz3 := KX3.out.lt)
  clear u2_0 z2_0 u2_1 z2_1 u2_2 z2_2 u2_3 z2_3 u2_4 z2_4 lu2 lz2
  have HC3 : Hid (Ch (tbS t va b v m) w w3) := Lib.hid ((HC0.out.trans HD3.out).mono (fun g hg => absurd hg (not_nil g)))
  have QP := Lib.hid (put_any B t va b v m s w3 HT3.out j x HJ.out (by have := HLL.out; omega))
  go_wp2_with (go_at_call 28; (with_reducible refine (QP.out).mono ?_); rintro e w4 ⟨rfl, hs4⟩; have HS4 := Lib.hid hs4; clear hs4)
  go_ret
  exact ⟨rfl, tb_chain (fun g hg => .inl hg) HC3.out HS4.out⟩
set_option maxHeartbeats 8000000 in
theorem tset_ext (B t : Nat) (va : Value) (b : Nat) (v m : Value) (s : TS) (w : World) (h : Tb B t va b v m s w) (k x : V5) (hL : s.arr.length + s.R.length ≤ 900000) (hBw : B ≤ w.heap.size) (hk : k.k ≠ 0) (hk1 : okV k = true) (hx1 : okV x = true) (he : elF s.arr.length k = none) (hx : x.k ≠ 0) (hke : k = keyV ((s.arr.length : Int) + 1)) (hg : Good s.R) :
    Calls Try.prog 12 #[.pointer (some ⟨t, 0, none⟩), .agg #[.int .i64 k.k, .int .i64 k.p, .int .i64 k.q, .string k.s, .int .i64 k.r], .agg #[.int .i64 x.k, .int .i64 x.p, .int .i64 x.q, .string x.s, .int .i64 x.r]] w fun e w' => e = .returned (.int .i64 0) ∧ TbSaid B t va b v m (extS s x) w w' := by
  have HT0 : Hid (Tb B t va b v m s ((w.alloc (.cells #[.int .i64 k.k, .int .i64 k.p, .int .i64 k.q, .string k.s, .int .i64 k.r] 26)).alloc (.cells #[.int .i64 x.k, .int .i64 x.p, .int .i64 x.q, .string x.s, .int .i64 x.r] 26))) := Lib.hid (h.ch0 (((Ch.refl [] w).alloc _).alloc _))
  have KK0 : Hid (Blk 26 w.heap.size #[.int .i64 k.k, .int .i64 k.p, .int .i64 k.q, .string k.s, .int .i64 k.r] ((w.alloc (.cells #[.int .i64 k.k, .int .i64 k.p, .int .i64 k.q, .string k.s, .int .i64 k.r] 26)).alloc (.cells #[.int .i64 x.k, .int .i64 x.p, .int .i64 x.q, .string x.s, .int .i64 x.r] 26))) := Lib.hid ((Blk.new w 26 _ _ rfl).ch ((Ch.refl [] _).alloc _) (not_nil _))
  have KX0 : Hid (Blk 26 (w.heap.size + 1) #[.int .i64 x.k, .int .i64 x.p, .int .i64 x.q, .string x.s, .int .i64 x.r] ((w.alloc (.cells #[.int .i64 k.k, .int .i64 k.p, .int .i64 k.q, .string k.s, .int .i64 k.r] 26)).alloc (.cells #[.int .i64 x.k, .int .i64 x.p, .int .i64 x.q, .string x.s, .int .i64 x.r] 26))) := Lib.hid (Blk.new _ 26 _ _ (by simp))
  have HC0 : Hid (Ch [] w ((w.alloc (.cells #[.int .i64 k.k, .int .i64 k.p, .int .i64 k.q, .string k.s, .int .i64 k.r] 26)).alloc (.cells #[.int .i64 x.k, .int .i64 x.p, .int .i64 x.q, .string x.s, .int .i64 x.r] 26))) := Lib.hid (((Ch.refl [] w).alloc _).alloc _)
  have HBW := Lib.hid hBw
  have HLL := Lib.hid hL
  have ek : (k.k == 0) = false := beq_eq_false_iff_ne.2 hk
  have Q1 : Hid (∀ W, Calls Try.prog 26 #[.agg #[.int .i64 k.k, .int .i64 k.p, .int .i64 k.q, .string k.s, .int .i64 k.r]] W fun e w' => e = .returned (.bool true) ∧ Below W.heap.size W w') := Lib.hid fun W => by rw [← (show okV k = true from hk1)]; exact valid5 k.k k.p k.q k.s k.r W
  have Q2 : Hid (∀ W, Calls Try.prog 26 #[.agg #[.int .i64 x.k, .int .i64 x.p, .int .i64 x.q, .string x.s, .int .i64 x.r]] W fun e w' => e = .returned (.bool true) ∧ Below W.heap.size W w') := Lib.hid fun W => by rw [← (show okV x = true from hx1)]; exact valid5 x.k x.p x.q x.s x.r W
  have QE : Hid (∀ W, Tb B t va b v m s W → Calls Try.prog 27 #[.pointer (some ⟨t, 0, none⟩), .agg #[.int .i64 k.k, .int .i64 k.p, .int .i64 k.q, .string k.s, .int .i64 k.r]] W fun e w' => e = .returned (.tuple #[.int .i64 0, .bool false]) ∧ Below W.heap.size W w') := Lib.hid fun W hw => element_none B t va b v m s W hw k he
  have ex : (x.k != 0) = true := bne_iff_ne.2 hx
  have HX := Lib.hid hx
  have HKE := Lib.hid hke
  have HG := Lib.hid hg
  clear he hx hke hg
  clear h hBw hk hk1 hx1
  go_enter Try.func12, Try.ntmps12
  go_upto_region 1 with fail
  generalize ((w.alloc (.cells #[.int .i64 k.k, .int .i64 k.p, .int .i64 k.q, .string k.s, .int .i64 k.r] 26)).alloc (.cells #[.int .i64 x.k, .int .i64 x.p, .int .i64 x.q, .string x.s, .int .i64 x.r] 26)) = w0 at *
  have u0 : w0.cell? ⟨w.heap.size, 0, none⟩ = some (.int .i64 k.k) := KK0.out.cell 0
  have u1 : w0.cell? ⟨w.heap.size, 1, none⟩ = some (.int .i64 k.p) := KK0.out.cell 1
  have u2 : w0.cell? ⟨w.heap.size, 2, none⟩ = some (.int .i64 k.q) := KK0.out.cell 2
  have u3 : w0.cell? ⟨w.heap.size, 3, none⟩ = some (.string k.s) := KK0.out.cell 3
  have u4 : w0.cell? ⟨w.heap.size, 4, none⟩ = some (.int .i64 k.r) := KK0.out.cell 4
  have z0 : w0.cell? ⟨(w.heap.size + 1), 0, none⟩ = some (.int .i64 x.k) := KX0.out.cell 0
  have z1 : w0.cell? ⟨(w.heap.size + 1), 1, none⟩ = some (.int .i64 x.p) := KX0.out.cell 1
  have z2 : w0.cell? ⟨(w.heap.size + 1), 2, none⟩ = some (.int .i64 x.q) := KX0.out.cell 2
  have z3 : w0.cell? ⟨(w.heap.size + 1), 3, none⟩ = some (.string x.s) := KX0.out.cell 3
  have z4 : w0.cell? ⟨(w.heap.size + 1), 4, none⟩ = some (.int .i64 x.r) := KX0.out.cell 4
  have lu := KK0.out.lt
  have lz := KX0.out.lt
  go_upto_region 5 with (go_at_call 26; (with_reducible refine (Q1.out _).mono ?_); rintro e w1 ⟨rfl, hb1⟩; have HD1 : Hid (Ch [] w0 w1) := Lib.hid ((Ch.refl [] w0).trans (Ch.of_below hb1)); clear hb1; have KK1 := Lib.hid (KK0.out.ch HD1.out (not_nil _)); have KX1 := Lib.hid (KX0.out.ch HD1.out (not_nil _)); have u1_0 : w1.cell? ⟨w.heap.size, 0, none⟩ = some (.int .i64 k.k) := KK1.out.cell 0; have u1_1 : w1.cell? ⟨w.heap.size, 1, none⟩ = some (.int .i64 k.p) := KK1.out.cell 1; have u1_2 : w1.cell? ⟨w.heap.size, 2, none⟩ = some (.int .i64 k.q) := KK1.out.cell 2; have u1_3 : w1.cell? ⟨w.heap.size, 3, none⟩ = some (.string k.s) := KK1.out.cell 3; have u1_4 : w1.cell? ⟨w.heap.size, 4, none⟩ = some (.int .i64 k.r) := KK1.out.cell 4; have z1_0 : w1.cell? ⟨(w.heap.size + 1), 0, none⟩ = some (.int .i64 x.k) := KX1.out.cell 0; have z1_1 : w1.cell? ⟨(w.heap.size + 1), 1, none⟩ = some (.int .i64 x.p) := KX1.out.cell 1; have z1_2 : w1.cell? ⟨(w.heap.size + 1), 2, none⟩ = some (.int .i64 x.q) := KX1.out.cell 2; have z1_3 : w1.cell? ⟨(w.heap.size + 1), 3, none⟩ = some (.string x.s) := KX1.out.cell 3; have z1_4 : w1.cell? ⟨(w.heap.size + 1), 4, none⟩ = some (.int .i64 x.r) := KX1.out.cell 4; have lu1 := KK1.out.lt; have lz1 := KX1.out.lt)
  clear u0 u1 u2 u3 u4 z0 z1 z2 z3 z4 lu lz
  go_upto_region 7 with (go_at_call 26; (with_reducible refine (Q2.out _).mono ?_); rintro e w2 ⟨rfl, hb2⟩; have HD2 : Hid (Ch [] w0 w2) := Lib.hid (HD1.out.trans (Ch.of_below hb2)); clear hb2; have KK2 := Lib.hid (KK0.out.ch HD2.out (not_nil _)); have KX2 := Lib.hid (KX0.out.ch HD2.out (not_nil _)); have u2_0 : w2.cell? ⟨w.heap.size, 0, none⟩ = some (.int .i64 k.k) := KK2.out.cell 0; have u2_1 : w2.cell? ⟨w.heap.size, 1, none⟩ = some (.int .i64 k.p) := KK2.out.cell 1; have u2_2 : w2.cell? ⟨w.heap.size, 2, none⟩ = some (.int .i64 k.q) := KK2.out.cell 2; have u2_3 : w2.cell? ⟨w.heap.size, 3, none⟩ = some (.string k.s) := KK2.out.cell 3; have u2_4 : w2.cell? ⟨w.heap.size, 4, none⟩ = some (.int .i64 k.r) := KK2.out.cell 4; have z2_0 : w2.cell? ⟨(w.heap.size + 1), 0, none⟩ = some (.int .i64 x.k) := KX2.out.cell 0; have z2_1 : w2.cell? ⟨(w.heap.size + 1), 1, none⟩ = some (.int .i64 x.p) := KX2.out.cell 1; have z2_2 : w2.cell? ⟨(w.heap.size + 1), 2, none⟩ = some (.int .i64 x.q) := KX2.out.cell 2; have z2_3 : w2.cell? ⟨(w.heap.size + 1), 3, none⟩ = some (.string x.s) := KX2.out.cell 3; have z2_4 : w2.cell? ⟨(w.heap.size + 1), 4, none⟩ = some (.int .i64 x.r) := KX2.out.cell 4; have lu2 := KK2.out.lt; have lz2 := KX2.out.lt)
  clear u1_0 z1_0 u1_1 z1_1 u1_2 z1_2 u1_3 z1_3 u1_4 z1_4 lu1 lz1
  go_upto_region 8 with (go_at_call 27; (with_reducible refine (QE.out _ (HT0.out.ch0 HD2.out)).mono ?_); rintro e w3 ⟨rfl, hb3⟩; have HD3 : Hid (Ch [] w0 w3) := Lib.hid (HD2.out.trans (Ch.of_below hb3)); clear hb3; have HT3 := Lib.hid (HT0.out.ch0 HD3.out); have KK3 := Lib.hid (KK0.out.ch HD3.out (not_nil _)); have KX3 := Lib.hid (KX0.out.ch HD3.out (not_nil _)); have u3_0 : w3.cell? ⟨w.heap.size, 0, none⟩ = some (.int .i64 k.k) := KK3.out.cell 0; have u3_1 : w3.cell? ⟨w.heap.size, 1, none⟩ = some (.int .i64 k.p) := KK3.out.cell 1; have u3_2 : w3.cell? ⟨w.heap.size, 2, none⟩ = some (.int .i64 k.q) := KK3.out.cell 2; have u3_3 : w3.cell? ⟨w.heap.size, 3, none⟩ = some (.string k.s) := KK3.out.cell 3; have u3_4 : w3.cell? ⟨w.heap.size, 4, none⟩ = some (.int .i64 k.r) := KK3.out.cell 4; have z3_0 : w3.cell? ⟨(w.heap.size + 1), 0, none⟩ = some (.int .i64 x.k) := KX3.out.cell 0; have z3_1 : w3.cell? ⟨(w.heap.size + 1), 1, none⟩ = some (.int .i64 x.p) := KX3.out.cell 1; have z3_2 : w3.cell? ⟨(w.heap.size + 1), 2, none⟩ = some (.int .i64 x.q) := KX3.out.cell 2; have z3_3 : w3.cell? ⟨(w.heap.size + 1), 3, none⟩ = some (.string x.s) := KX3.out.cell 3; have z3_4 : w3.cell? ⟨(w.heap.size + 1), 4, none⟩ = some (.int .i64 x.r) := KX3.out.cell 4; have lu3 := KK3.out.lt; have lz3 := KX3.out.lt)
  clear u2_0 z2_0 u2_1 z2_1 u2_2 z2_2 u2_3 z2_3 u2_4 z2_4 lu2 lz2
  have HC3 : Hid (Ch (tbS t va b v m) w w3) := Lib.hid ((HC0.out.trans HD3.out).mono (fun g hg => absurd hg (not_nil g)))
  obtain ⟨y, hy⟩ : ∃ y, keyV ((s.arr.length : Int) + 1) = y := ⟨_, rfl⟩
  rw [hy] at HKE
  have HKY := Lib.hid hy
  have QI : Hid (∀ W, Calls Try.prog 29 #[.int .i64 ((s.arr.length : Int) + 1)] W fun e w' => e = .returned (.agg #[.int .i64 y.k, .int .i64 y.p, .int .i64 y.q, .string y.s, .int .i64 y.r]) ∧ Below W.heap.size W w') := Lib.hid fun W => by rw [← HKY.out]; exact ofInt_any _ W
  have EQ : ∀ W, (binOp .eql 26 (.agg #[.int .i64 k.k, .int .i64 k.p, .int .i64 k.q, .string k.s, .int .i64 k.r]) (.agg #[.int .i64 y.k, .int .i64 y.p, .int .i64 y.q, .string y.s, .int .i64 y.r])).run Try.prog W = .ok (.bool true) W := fun W => by have := eq_v5 k y W; rw [decide_eq_true HKE.out] at this; exact this
  clear hy
  have dl : IntKind.i64.wrap ((s.arr.length : Int) + 1) = (s.arr.length : Int) + 1 := IntWalk.i64_in _ (by have := HLL.out; omega)
  obtain ⟨p, cap, rfl, hp⟩ := HT3.out.form
  clear hp
  have c0 : w3.cell? ⟨t, 0, none⟩ = some (.slice p s.arr.length cap) := HT3.out.blk.cell 0
  have hbl := HT3.out.blk.lt
  have hW := Below.refl w3.heap.size w3
  have hcc : ∀ c o, c < w3.heap.size → w3.drew.cell? ⟨c, o, none⟩ = w3.cell? ⟨c, o, none⟩ := fun _ _ _ => rfl
  go_upto_region 11 with fail
  go_region_held3 (fun w' => (∀ c o, c < w3.heap.size → w'.cell? ⟨c, o, none⟩ = w3.cell? ⟨c, o, none⟩) ∧ Below w3.heap.size w3 w') (first | assumption | exact ⟨hcc, hW.drew⟩ | exact keepB (by assumption) hb1) (first | (go_at_call 29; (with_reducible refine (QI.out _).mono ?_); rintro e w1 ⟨rfl, hb1⟩))
  all_goals (
    have hS := ‹_ ∧ Below _ _ _›
    rename World => V1
    have HC1 : Hid (Ch [] w3 V1) := Lib.hid (Ch.of_below hS.2)
    have HT1 := Lib.hid (HT3.out.ch0 HC1.out)
    have KK1 := Lib.hid (KK3.out.ch HC1.out (not_nil _))
    have KX1 := Lib.hid (KX3.out.ch HC1.out (not_nil _))
    have HBV : Hid (B ≤ V1.heap.size) := Lib.hid (Nat.le_trans HBW.out (Nat.le_trans HC3.out.size HC1.out.size))
    have HCV : Hid (Ch (tbS t (.slice p s.arr.length cap) b v m) w V1) := Lib.hid (HC3.out.trans (HC1.out.mono (fun g hg => absurd hg (not_nil g))))
    clear hS hW hcc c0 hbl EQ dl
    clear u3_0 z3_0 u3_1 z3_1 u3_2 z3_2 u3_3 z3_3 u3_4 z3_4 lu3 lz3
    have u0 : V1.cell? ⟨w.heap.size, 0, none⟩ = some (.int .i64 k.k) := KK1.out.cell 0
    have u1 : V1.cell? ⟨w.heap.size, 1, none⟩ = some (.int .i64 k.p) := KK1.out.cell 1
    have u2 : V1.cell? ⟨w.heap.size, 2, none⟩ = some (.int .i64 k.q) := KK1.out.cell 2
    have u3 : V1.cell? ⟨w.heap.size, 3, none⟩ = some (.string k.s) := KK1.out.cell 3
    have u4 : V1.cell? ⟨w.heap.size, 4, none⟩ = some (.int .i64 k.r) := KK1.out.cell 4
    have z0 : V1.cell? ⟨(w.heap.size + 1), 0, none⟩ = some (.int .i64 x.k) := KX1.out.cell 0
    have z1 : V1.cell? ⟨(w.heap.size + 1), 1, none⟩ = some (.int .i64 x.p) := KX1.out.cell 1
    have z2 : V1.cell? ⟨(w.heap.size + 1), 2, none⟩ = some (.int .i64 x.q) := KX1.out.cell 2
    have z3 : V1.cell? ⟨(w.heap.size + 1), 3, none⟩ = some (.string x.s) := KX1.out.cell 3
    have z4 : V1.cell? ⟨(w.heap.size + 1), 4, none⟩ = some (.int .i64 x.r) := KX1.out.cell 4
    have lu := KK1.out.lt
    have lz := KX1.out.lt
    have QX := Lib.hid (ext_any B t _ b v m s V1 HT1.out x HG.out HLL.out HBV.out)
    go_wp2_with (go_at_call 30; (with_reducible refine (QX.out).mono ?_); rintro e w4 ⟨rfl, hs4⟩; have HS4 := Lib.hid hs4; clear hs4)
    go_ret
    exact ⟨rfl, tb_chain (fun g hg => .inl hg) HCV.out HS4.out⟩)
set_option maxHeartbeats 8000000 in
theorem tset_rest1 (B t : Nat) (va : Value) (b : Nat) (v m : Value) (s : TS) (w : World) (h : Tb B t va b v m s w) (k x : V5) (hL : s.arr.length + s.R.length ≤ 900000) (hBw : B ≤ w.heap.size) (hk : k.k ≠ 0) (hk1 : okV k = true) (hx1 : okV x = true) (he : elF s.arr.length k = none) (hx : x.k ≠ 0) (hke : k ≠ keyV ((s.arr.length : Int) + 1)) :
    Calls Try.prog 12 #[.pointer (some ⟨t, 0, none⟩), .agg #[.int .i64 k.k, .int .i64 k.p, .int .i64 k.q, .string k.s, .int .i64 k.r], .agg #[.int .i64 x.k, .int .i64 x.p, .int .i64 x.q, .string x.s, .int .i64 x.r]] w fun e w' => e = .returned (.int .i64 (errR k x)) ∧ TbSaid B t va b v m (restS s k x) w w' := by
  have HT0 : Hid (Tb B t va b v m s ((w.alloc (.cells #[.int .i64 k.k, .int .i64 k.p, .int .i64 k.q, .string k.s, .int .i64 k.r] 26)).alloc (.cells #[.int .i64 x.k, .int .i64 x.p, .int .i64 x.q, .string x.s, .int .i64 x.r] 26))) := Lib.hid (h.ch0 (((Ch.refl [] w).alloc _).alloc _))
  have KK0 : Hid (Blk 26 w.heap.size #[.int .i64 k.k, .int .i64 k.p, .int .i64 k.q, .string k.s, .int .i64 k.r] ((w.alloc (.cells #[.int .i64 k.k, .int .i64 k.p, .int .i64 k.q, .string k.s, .int .i64 k.r] 26)).alloc (.cells #[.int .i64 x.k, .int .i64 x.p, .int .i64 x.q, .string x.s, .int .i64 x.r] 26))) := Lib.hid ((Blk.new w 26 _ _ rfl).ch ((Ch.refl [] _).alloc _) (not_nil _))
  have KX0 : Hid (Blk 26 (w.heap.size + 1) #[.int .i64 x.k, .int .i64 x.p, .int .i64 x.q, .string x.s, .int .i64 x.r] ((w.alloc (.cells #[.int .i64 k.k, .int .i64 k.p, .int .i64 k.q, .string k.s, .int .i64 k.r] 26)).alloc (.cells #[.int .i64 x.k, .int .i64 x.p, .int .i64 x.q, .string x.s, .int .i64 x.r] 26))) := Lib.hid (Blk.new _ 26 _ _ (by simp))
  have HC0 : Hid (Ch [] w ((w.alloc (.cells #[.int .i64 k.k, .int .i64 k.p, .int .i64 k.q, .string k.s, .int .i64 k.r] 26)).alloc (.cells #[.int .i64 x.k, .int .i64 x.p, .int .i64 x.q, .string x.s, .int .i64 x.r] 26))) := Lib.hid (((Ch.refl [] w).alloc _).alloc _)
  have HBW := Lib.hid hBw
  have HLL := Lib.hid hL
  have ek : (k.k == 0) = false := beq_eq_false_iff_ne.2 hk
  have Q1 : Hid (∀ W, Calls Try.prog 26 #[.agg #[.int .i64 k.k, .int .i64 k.p, .int .i64 k.q, .string k.s, .int .i64 k.r]] W fun e w' => e = .returned (.bool true) ∧ Below W.heap.size W w') := Lib.hid fun W => by rw [← (show okV k = true from hk1)]; exact valid5 k.k k.p k.q k.s k.r W
  have Q2 : Hid (∀ W, Calls Try.prog 26 #[.agg #[.int .i64 x.k, .int .i64 x.p, .int .i64 x.q, .string x.s, .int .i64 x.r]] W fun e w' => e = .returned (.bool true) ∧ Below W.heap.size W w') := Lib.hid fun W => by rw [← (show okV x = true from hx1)]; exact valid5 x.k x.p x.q x.s x.r W
  have QE : Hid (∀ W, Tb B t va b v m s W → Calls Try.prog 27 #[.pointer (some ⟨t, 0, none⟩), .agg #[.int .i64 k.k, .int .i64 k.p, .int .i64 k.q, .string k.s, .int .i64 k.r]] W fun e w' => e = .returned (.tuple #[.int .i64 0, .bool false]) ∧ Below W.heap.size W w') := Lib.hid fun W hw => element_none B t va b v m s W hw k he
  have ex : (x.k != 0) = true := bne_iff_ne.2 hx
  have HX := Lib.hid hx
  have HKE := Lib.hid hke
  clear he hx hke
  clear h hBw hk hk1 hx1
  go_enter Try.func12, Try.ntmps12
  go_upto_region 1 with fail
  generalize ((w.alloc (.cells #[.int .i64 k.k, .int .i64 k.p, .int .i64 k.q, .string k.s, .int .i64 k.r] 26)).alloc (.cells #[.int .i64 x.k, .int .i64 x.p, .int .i64 x.q, .string x.s, .int .i64 x.r] 26)) = w0 at *
  have u0 : w0.cell? ⟨w.heap.size, 0, none⟩ = some (.int .i64 k.k) := KK0.out.cell 0
  have u1 : w0.cell? ⟨w.heap.size, 1, none⟩ = some (.int .i64 k.p) := KK0.out.cell 1
  have u2 : w0.cell? ⟨w.heap.size, 2, none⟩ = some (.int .i64 k.q) := KK0.out.cell 2
  have u3 : w0.cell? ⟨w.heap.size, 3, none⟩ = some (.string k.s) := KK0.out.cell 3
  have u4 : w0.cell? ⟨w.heap.size, 4, none⟩ = some (.int .i64 k.r) := KK0.out.cell 4
  have z0 : w0.cell? ⟨(w.heap.size + 1), 0, none⟩ = some (.int .i64 x.k) := KX0.out.cell 0
  have z1 : w0.cell? ⟨(w.heap.size + 1), 1, none⟩ = some (.int .i64 x.p) := KX0.out.cell 1
  have z2 : w0.cell? ⟨(w.heap.size + 1), 2, none⟩ = some (.int .i64 x.q) := KX0.out.cell 2
  have z3 : w0.cell? ⟨(w.heap.size + 1), 3, none⟩ = some (.string x.s) := KX0.out.cell 3
  have z4 : w0.cell? ⟨(w.heap.size + 1), 4, none⟩ = some (.int .i64 x.r) := KX0.out.cell 4
  have lu := KK0.out.lt
  have lz := KX0.out.lt
  go_upto_region 5 with (go_at_call 26; (with_reducible refine (Q1.out _).mono ?_); rintro e w1 ⟨rfl, hb1⟩; have HD1 : Hid (Ch [] w0 w1) := Lib.hid ((Ch.refl [] w0).trans (Ch.of_below hb1)); clear hb1; have KK1 := Lib.hid (KK0.out.ch HD1.out (not_nil _)); have KX1 := Lib.hid (KX0.out.ch HD1.out (not_nil _)); have u1_0 : w1.cell? ⟨w.heap.size, 0, none⟩ = some (.int .i64 k.k) := KK1.out.cell 0; have u1_1 : w1.cell? ⟨w.heap.size, 1, none⟩ = some (.int .i64 k.p) := KK1.out.cell 1; have u1_2 : w1.cell? ⟨w.heap.size, 2, none⟩ = some (.int .i64 k.q) := KK1.out.cell 2; have u1_3 : w1.cell? ⟨w.heap.size, 3, none⟩ = some (.string k.s) := KK1.out.cell 3; have u1_4 : w1.cell? ⟨w.heap.size, 4, none⟩ = some (.int .i64 k.r) := KK1.out.cell 4; have z1_0 : w1.cell? ⟨(w.heap.size + 1), 0, none⟩ = some (.int .i64 x.k) := KX1.out.cell 0; have z1_1 : w1.cell? ⟨(w.heap.size + 1), 1, none⟩ = some (.int .i64 x.p) := KX1.out.cell 1; have z1_2 : w1.cell? ⟨(w.heap.size + 1), 2, none⟩ = some (.int .i64 x.q) := KX1.out.cell 2; have z1_3 : w1.cell? ⟨(w.heap.size + 1), 3, none⟩ = some (.string x.s) := KX1.out.cell 3; have z1_4 : w1.cell? ⟨(w.heap.size + 1), 4, none⟩ = some (.int .i64 x.r) := KX1.out.cell 4; have lu1 := KK1.out.lt; have lz1 := KX1.out.lt)
  clear u0 u1 u2 u3 u4 z0 z1 z2 z3 z4 lu lz
  go_upto_region 7 with (go_at_call 26; (with_reducible refine (Q2.out _).mono ?_); rintro e w2 ⟨rfl, hb2⟩; have HD2 : Hid (Ch [] w0 w2) := Lib.hid (HD1.out.trans (Ch.of_below hb2)); clear hb2; have KK2 := Lib.hid (KK0.out.ch HD2.out (not_nil _)); have KX2 := Lib.hid (KX0.out.ch HD2.out (not_nil _)); have u2_0 : w2.cell? ⟨w.heap.size, 0, none⟩ = some (.int .i64 k.k) := KK2.out.cell 0; have u2_1 : w2.cell? ⟨w.heap.size, 1, none⟩ = some (.int .i64 k.p) := KK2.out.cell 1; have u2_2 : w2.cell? ⟨w.heap.size, 2, none⟩ = some (.int .i64 k.q) := KK2.out.cell 2; have u2_3 : w2.cell? ⟨w.heap.size, 3, none⟩ = some (.string k.s) := KK2.out.cell 3; have u2_4 : w2.cell? ⟨w.heap.size, 4, none⟩ = some (.int .i64 k.r) := KK2.out.cell 4; have z2_0 : w2.cell? ⟨(w.heap.size + 1), 0, none⟩ = some (.int .i64 x.k) := KX2.out.cell 0; have z2_1 : w2.cell? ⟨(w.heap.size + 1), 1, none⟩ = some (.int .i64 x.p) := KX2.out.cell 1; have z2_2 : w2.cell? ⟨(w.heap.size + 1), 2, none⟩ = some (.int .i64 x.q) := KX2.out.cell 2; have z2_3 : w2.cell? ⟨(w.heap.size + 1), 3, none⟩ = some (.string x.s) := KX2.out.cell 3; have z2_4 : w2.cell? ⟨(w.heap.size + 1), 4, none⟩ = some (.int .i64 x.r) := KX2.out.cell 4; have lu2 := KK2.out.lt; have lz2 := KX2.out.lt)
  clear u1_0 z1_0 u1_1 z1_1 u1_2 z1_2 u1_3 z1_3 u1_4 z1_4 lu1 lz1
  go_upto_region 8 with (go_at_call 27; (with_reducible refine (QE.out _ (HT0.out.ch0 HD2.out)).mono ?_); rintro e w3 ⟨rfl, hb3⟩; have HD3 : Hid (Ch [] w0 w3) := Lib.hid (HD2.out.trans (Ch.of_below hb3)); clear hb3; have HT3 := Lib.hid (HT0.out.ch0 HD3.out); have KK3 := Lib.hid (KK0.out.ch HD3.out (not_nil _)); have KX3 := Lib.hid (KX0.out.ch HD3.out (not_nil _)); have u3_0 : w3.cell? ⟨w.heap.size, 0, none⟩ = some (.int .i64 k.k) := KK3.out.cell 0; have u3_1 : w3.cell? ⟨w.heap.size, 1, none⟩ = some (.int .i64 k.p) := KK3.out.cell 1; have u3_2 : w3.cell? ⟨w.heap.size, 2, none⟩ = some (.int .i64 k.q) := KK3.out.cell 2; have u3_3 : w3.cell? ⟨w.heap.size, 3, none⟩ = some (.string k.s) := KK3.out.cell 3; have u3_4 : w3.cell? ⟨w.heap.size, 4, none⟩ = some (.int .i64 k.r) := KK3.out.cell 4; have z3_0 : w3.cell? ⟨(w.heap.size + 1), 0, none⟩ = some (.int .i64 x.k) := KX3.out.cell 0; have z3_1 : w3.cell? ⟨(w.heap.size + 1), 1, none⟩ = some (.int .i64 x.p) := KX3.out.cell 1; have z3_2 : w3.cell? ⟨(w.heap.size + 1), 2, none⟩ = some (.int .i64 x.q) := KX3.out.cell 2; have z3_3 : w3.cell? ⟨(w.heap.size + 1), 3, none⟩ = some (.string x.s) := KX3.out.cell 3; have z3_4 : w3.cell? ⟨(w.heap.size + 1), 4, none⟩ = some (.int .i64 x.r) := KX3.out.cell 4; have lu3 := KK3.out.lt; have lz3 := KX3.out.lt)
  clear u2_0 z2_0 u2_1 z2_1 u2_2 z2_2 u2_3 z2_3 u2_4 z2_4 lu2 lz2
  have HC3 : Hid (Ch (tbS t va b v m) w w3) := Lib.hid ((HC0.out.trans HD3.out).mono (fun g hg => absurd hg (not_nil g)))
  obtain ⟨y, hy⟩ : ∃ y, keyV ((s.arr.length : Int) + 1) = y := ⟨_, rfl⟩
  rw [hy] at HKE
  have HKY := Lib.hid hy
  have QI : Hid (∀ W, Calls Try.prog 29 #[.int .i64 ((s.arr.length : Int) + 1)] W fun e w' => e = .returned (.agg #[.int .i64 y.k, .int .i64 y.p, .int .i64 y.q, .string y.s, .int .i64 y.r]) ∧ Below W.heap.size W w') := Lib.hid fun W => by rw [← HKY.out]; exact ofInt_any _ W
  have EQ : ∀ W, (binOp .eql 26 (.agg #[.int .i64 k.k, .int .i64 k.p, .int .i64 k.q, .string k.s, .int .i64 k.r]) (.agg #[.int .i64 y.k, .int .i64 y.p, .int .i64 y.q, .string y.s, .int .i64 y.r])).run Try.prog W = .ok (.bool false) W := fun W => by have := eq_v5 k y W; rw [decide_eq_false HKE.out] at this; exact this
  clear hy
  have dl : IntKind.i64.wrap ((s.arr.length : Int) + 1) = (s.arr.length : Int) + 1 := IntWalk.i64_in _ (by have := HLL.out; omega)
  obtain ⟨p, cap, rfl, hp⟩ := HT3.out.form
  clear hp
  have c0 : w3.cell? ⟨t, 0, none⟩ = some (.slice p s.arr.length cap) := HT3.out.blk.cell 0
  have hbl := HT3.out.blk.lt
  have hW := Below.refl w3.heap.size w3
  have hcc : ∀ c o, c < w3.heap.size → w3.drew.cell? ⟨c, o, none⟩ = w3.cell? ⟨c, o, none⟩ := fun _ _ _ => rfl
  go_upto_region 11 with fail
  go_region_held3 (fun w' => (∀ c o, c < w3.heap.size → w'.cell? ⟨c, o, none⟩ = w3.cell? ⟨c, o, none⟩) ∧ Below w3.heap.size w3 w') (first | assumption | exact ⟨hcc, hW.drew⟩ | exact keepB (by assumption) hb1) (first | (go_at_call 29; (with_reducible refine (QI.out _).mono ?_); rintro e w1 ⟨rfl, hb1⟩))
  all_goals (
    have hS := ‹_ ∧ Below _ _ _›
    rename World => V1
    have HC1 : Hid (Ch [] w3 V1) := Lib.hid (Ch.of_below hS.2)
    have HT1 := Lib.hid (HT3.out.ch0 HC1.out)
    have KK1 := Lib.hid (KK3.out.ch HC1.out (not_nil _))
    have KX1 := Lib.hid (KX3.out.ch HC1.out (not_nil _))
    have HBV : Hid (B ≤ V1.heap.size) := Lib.hid (Nat.le_trans HBW.out (Nat.le_trans HC3.out.size HC1.out.size))
    have HCV : Hid (Ch (tbS t (.slice p s.arr.length cap) b v m) w V1) := Lib.hid (HC3.out.trans (HC1.out.mono (fun g hg => absurd hg (not_nil g))))
    clear hS hW hcc c0 hbl EQ dl
    clear u3_0 z3_0 u3_1 z3_1 u3_2 z3_2 u3_3 z3_3 u3_4 z3_4 lu3 lz3
    have u0 : V1.cell? ⟨w.heap.size, 0, none⟩ = some (.int .i64 k.k) := KK1.out.cell 0
    have u1 : V1.cell? ⟨w.heap.size, 1, none⟩ = some (.int .i64 k.p) := KK1.out.cell 1
    have u2 : V1.cell? ⟨w.heap.size, 2, none⟩ = some (.int .i64 k.q) := KK1.out.cell 2
    have u3 : V1.cell? ⟨w.heap.size, 3, none⟩ = some (.string k.s) := KK1.out.cell 3
    have u4 : V1.cell? ⟨w.heap.size, 4, none⟩ = some (.int .i64 k.r) := KK1.out.cell 4
    have z0 : V1.cell? ⟨(w.heap.size + 1), 0, none⟩ = some (.int .i64 x.k) := KX1.out.cell 0
    have z1 : V1.cell? ⟨(w.heap.size + 1), 1, none⟩ = some (.int .i64 x.p) := KX1.out.cell 1
    have z2 : V1.cell? ⟨(w.heap.size + 1), 2, none⟩ = some (.int .i64 x.q) := KX1.out.cell 2
    have z3 : V1.cell? ⟨(w.heap.size + 1), 3, none⟩ = some (.string x.s) := KX1.out.cell 3
    have z4 : V1.cell? ⟨(w.heap.size + 1), 4, none⟩ = some (.int .i64 x.r) := KX1.out.cell 4
    have lu := KK1.out.lt
    have lz := KX1.out.lt
    have QR := Lib.hid (rest_any B t _ b v m s V1 HT1.out k x (by have := HLL.out; omega) HBV.out)
    go_wp2_with (go_at_call 31; (with_reducible refine (QR.out).mono ?_); rintro e w4 ⟨rfl, hs4⟩; have HS4 := Lib.hid hs4; clear hs4)
    go_ret
    exact ⟨rfl, tb_chain (fun g hg => .inl hg) HCV.out HS4.out⟩)
set_option maxHeartbeats 8000000 in
theorem tset_rest0 (B t : Nat) (va : Value) (b : Nat) (v m : Value) (s : TS) (w : World) (h : Tb B t va b v m s w) (k x : V5) (hL : s.arr.length + s.R.length ≤ 900000) (hBw : B ≤ w.heap.size) (hk : k.k ≠ 0) (hk1 : okV k = true) (hx1 : okV x = true) (he : elF s.arr.length k = none) (hx : x.k = 0) :
    Calls Try.prog 12 #[.pointer (some ⟨t, 0, none⟩), .agg #[.int .i64 k.k, .int .i64 k.p, .int .i64 k.q, .string k.s, .int .i64 k.r], .agg #[.int .i64 x.k, .int .i64 x.p, .int .i64 x.q, .string x.s, .int .i64 x.r]] w fun e w' => e = .returned (.int .i64 (errR k x)) ∧ TbSaid B t va b v m (restS s k x) w w' := by
  have HT0 : Hid (Tb B t va b v m s ((w.alloc (.cells #[.int .i64 k.k, .int .i64 k.p, .int .i64 k.q, .string k.s, .int .i64 k.r] 26)).alloc (.cells #[.int .i64 x.k, .int .i64 x.p, .int .i64 x.q, .string x.s, .int .i64 x.r] 26))) := Lib.hid (h.ch0 (((Ch.refl [] w).alloc _).alloc _))
  have KK0 : Hid (Blk 26 w.heap.size #[.int .i64 k.k, .int .i64 k.p, .int .i64 k.q, .string k.s, .int .i64 k.r] ((w.alloc (.cells #[.int .i64 k.k, .int .i64 k.p, .int .i64 k.q, .string k.s, .int .i64 k.r] 26)).alloc (.cells #[.int .i64 x.k, .int .i64 x.p, .int .i64 x.q, .string x.s, .int .i64 x.r] 26))) := Lib.hid ((Blk.new w 26 _ _ rfl).ch ((Ch.refl [] _).alloc _) (not_nil _))
  have KX0 : Hid (Blk 26 (w.heap.size + 1) #[.int .i64 x.k, .int .i64 x.p, .int .i64 x.q, .string x.s, .int .i64 x.r] ((w.alloc (.cells #[.int .i64 k.k, .int .i64 k.p, .int .i64 k.q, .string k.s, .int .i64 k.r] 26)).alloc (.cells #[.int .i64 x.k, .int .i64 x.p, .int .i64 x.q, .string x.s, .int .i64 x.r] 26))) := Lib.hid (Blk.new _ 26 _ _ (by simp))
  have HC0 : Hid (Ch [] w ((w.alloc (.cells #[.int .i64 k.k, .int .i64 k.p, .int .i64 k.q, .string k.s, .int .i64 k.r] 26)).alloc (.cells #[.int .i64 x.k, .int .i64 x.p, .int .i64 x.q, .string x.s, .int .i64 x.r] 26))) := Lib.hid (((Ch.refl [] w).alloc _).alloc _)
  have HBW := Lib.hid hBw
  have HLL := Lib.hid hL
  have ek : (k.k == 0) = false := beq_eq_false_iff_ne.2 hk
  have Q1 : Hid (∀ W, Calls Try.prog 26 #[.agg #[.int .i64 k.k, .int .i64 k.p, .int .i64 k.q, .string k.s, .int .i64 k.r]] W fun e w' => e = .returned (.bool true) ∧ Below W.heap.size W w') := Lib.hid fun W => by rw [← (show okV k = true from hk1)]; exact valid5 k.k k.p k.q k.s k.r W
  have Q2 : Hid (∀ W, Calls Try.prog 26 #[.agg #[.int .i64 x.k, .int .i64 x.p, .int .i64 x.q, .string x.s, .int .i64 x.r]] W fun e w' => e = .returned (.bool true) ∧ Below W.heap.size W w') := Lib.hid fun W => by rw [← (show okV x = true from hx1)]; exact valid5 x.k x.p x.q x.s x.r W
  have QE : Hid (∀ W, Tb B t va b v m s W → Calls Try.prog 27 #[.pointer (some ⟨t, 0, none⟩), .agg #[.int .i64 k.k, .int .i64 k.p, .int .i64 k.q, .string k.s, .int .i64 k.r]] W fun e w' => e = .returned (.tuple #[.int .i64 0, .bool false]) ∧ Below W.heap.size W w') := Lib.hid fun W hw => element_none B t va b v m s W hw k he
  have ex : (x.k != 0) = false := by simp [hx]
  clear he hx
  clear h hBw hk hk1 hx1
  go_enter Try.func12, Try.ntmps12
  go_upto_region 1 with fail
  generalize ((w.alloc (.cells #[.int .i64 k.k, .int .i64 k.p, .int .i64 k.q, .string k.s, .int .i64 k.r] 26)).alloc (.cells #[.int .i64 x.k, .int .i64 x.p, .int .i64 x.q, .string x.s, .int .i64 x.r] 26)) = w0 at *
  have u0 : w0.cell? ⟨w.heap.size, 0, none⟩ = some (.int .i64 k.k) := KK0.out.cell 0
  have u1 : w0.cell? ⟨w.heap.size, 1, none⟩ = some (.int .i64 k.p) := KK0.out.cell 1
  have u2 : w0.cell? ⟨w.heap.size, 2, none⟩ = some (.int .i64 k.q) := KK0.out.cell 2
  have u3 : w0.cell? ⟨w.heap.size, 3, none⟩ = some (.string k.s) := KK0.out.cell 3
  have u4 : w0.cell? ⟨w.heap.size, 4, none⟩ = some (.int .i64 k.r) := KK0.out.cell 4
  have z0 : w0.cell? ⟨(w.heap.size + 1), 0, none⟩ = some (.int .i64 x.k) := KX0.out.cell 0
  have z1 : w0.cell? ⟨(w.heap.size + 1), 1, none⟩ = some (.int .i64 x.p) := KX0.out.cell 1
  have z2 : w0.cell? ⟨(w.heap.size + 1), 2, none⟩ = some (.int .i64 x.q) := KX0.out.cell 2
  have z3 : w0.cell? ⟨(w.heap.size + 1), 3, none⟩ = some (.string x.s) := KX0.out.cell 3
  have z4 : w0.cell? ⟨(w.heap.size + 1), 4, none⟩ = some (.int .i64 x.r) := KX0.out.cell 4
  have lu := KK0.out.lt
  have lz := KX0.out.lt
  go_upto_region 5 with (go_at_call 26; (with_reducible refine (Q1.out _).mono ?_); rintro e w1 ⟨rfl, hb1⟩; have HD1 : Hid (Ch [] w0 w1) := Lib.hid ((Ch.refl [] w0).trans (Ch.of_below hb1)); clear hb1; have KK1 := Lib.hid (KK0.out.ch HD1.out (not_nil _)); have KX1 := Lib.hid (KX0.out.ch HD1.out (not_nil _)); have u1_0 : w1.cell? ⟨w.heap.size, 0, none⟩ = some (.int .i64 k.k) := KK1.out.cell 0; have u1_1 : w1.cell? ⟨w.heap.size, 1, none⟩ = some (.int .i64 k.p) := KK1.out.cell 1; have u1_2 : w1.cell? ⟨w.heap.size, 2, none⟩ = some (.int .i64 k.q) := KK1.out.cell 2; have u1_3 : w1.cell? ⟨w.heap.size, 3, none⟩ = some (.string k.s) := KK1.out.cell 3; have u1_4 : w1.cell? ⟨w.heap.size, 4, none⟩ = some (.int .i64 k.r) := KK1.out.cell 4; have z1_0 : w1.cell? ⟨(w.heap.size + 1), 0, none⟩ = some (.int .i64 x.k) := KX1.out.cell 0; have z1_1 : w1.cell? ⟨(w.heap.size + 1), 1, none⟩ = some (.int .i64 x.p) := KX1.out.cell 1; have z1_2 : w1.cell? ⟨(w.heap.size + 1), 2, none⟩ = some (.int .i64 x.q) := KX1.out.cell 2; have z1_3 : w1.cell? ⟨(w.heap.size + 1), 3, none⟩ = some (.string x.s) := KX1.out.cell 3; have z1_4 : w1.cell? ⟨(w.heap.size + 1), 4, none⟩ = some (.int .i64 x.r) := KX1.out.cell 4; have lu1 := KK1.out.lt; have lz1 := KX1.out.lt)
  clear u0 u1 u2 u3 u4 z0 z1 z2 z3 z4 lu lz
  go_upto_region 7 with (go_at_call 26; (with_reducible refine (Q2.out _).mono ?_); rintro e w2 ⟨rfl, hb2⟩; have HD2 : Hid (Ch [] w0 w2) := Lib.hid (HD1.out.trans (Ch.of_below hb2)); clear hb2; have KK2 := Lib.hid (KK0.out.ch HD2.out (not_nil _)); have KX2 := Lib.hid (KX0.out.ch HD2.out (not_nil _)); have u2_0 : w2.cell? ⟨w.heap.size, 0, none⟩ = some (.int .i64 k.k) := KK2.out.cell 0; have u2_1 : w2.cell? ⟨w.heap.size, 1, none⟩ = some (.int .i64 k.p) := KK2.out.cell 1; have u2_2 : w2.cell? ⟨w.heap.size, 2, none⟩ = some (.int .i64 k.q) := KK2.out.cell 2; have u2_3 : w2.cell? ⟨w.heap.size, 3, none⟩ = some (.string k.s) := KK2.out.cell 3; have u2_4 : w2.cell? ⟨w.heap.size, 4, none⟩ = some (.int .i64 k.r) := KK2.out.cell 4; have z2_0 : w2.cell? ⟨(w.heap.size + 1), 0, none⟩ = some (.int .i64 x.k) := KX2.out.cell 0; have z2_1 : w2.cell? ⟨(w.heap.size + 1), 1, none⟩ = some (.int .i64 x.p) := KX2.out.cell 1; have z2_2 : w2.cell? ⟨(w.heap.size + 1), 2, none⟩ = some (.int .i64 x.q) := KX2.out.cell 2; have z2_3 : w2.cell? ⟨(w.heap.size + 1), 3, none⟩ = some (.string x.s) := KX2.out.cell 3; have z2_4 : w2.cell? ⟨(w.heap.size + 1), 4, none⟩ = some (.int .i64 x.r) := KX2.out.cell 4; have lu2 := KK2.out.lt; have lz2 := KX2.out.lt)
  clear u1_0 z1_0 u1_1 z1_1 u1_2 z1_2 u1_3 z1_3 u1_4 z1_4 lu1 lz1
  go_upto_region 8 with (go_at_call 27; (with_reducible refine (QE.out _ (HT0.out.ch0 HD2.out)).mono ?_); rintro e w3 ⟨rfl, hb3⟩; have HD3 : Hid (Ch [] w0 w3) := Lib.hid (HD2.out.trans (Ch.of_below hb3)); clear hb3; have HT3 := Lib.hid (HT0.out.ch0 HD3.out); have KK3 := Lib.hid (KK0.out.ch HD3.out (not_nil _)); have KX3 := Lib.hid (KX0.out.ch HD3.out (not_nil _)); have u3_0 : w3.cell? ⟨w.heap.size, 0, none⟩ = some (.int .i64 k.k) := KK3.out.cell 0; have u3_1 : w3.cell? ⟨w.heap.size, 1, none⟩ = some (.int .i64 k.p) := KK3.out.cell 1; have u3_2 : w3.cell? ⟨w.heap.size, 2, none⟩ = some (.int .i64 k.q) := KK3.out.cell 2; have u3_3 : w3.cell? ⟨w.heap.size, 3, none⟩ = some (.string k.s) := KK3.out.cell 3; have u3_4 : w3.cell? ⟨w.heap.size, 4, none⟩ = some (.int .i64 k.r) := KK3.out.cell 4; have z3_0 : w3.cell? ⟨(w.heap.size + 1), 0, none⟩ = some (.int .i64 x.k) := KX3.out.cell 0; have z3_1 : w3.cell? ⟨(w.heap.size + 1), 1, none⟩ = some (.int .i64 x.p) := KX3.out.cell 1; have z3_2 : w3.cell? ⟨(w.heap.size + 1), 2, none⟩ = some (.int .i64 x.q) := KX3.out.cell 2; have z3_3 : w3.cell? ⟨(w.heap.size + 1), 3, none⟩ = some (.string x.s) := KX3.out.cell 3; have z3_4 : w3.cell? ⟨(w.heap.size + 1), 4, none⟩ = some (.int .i64 x.r) := KX3.out.cell 4; have lu3 := KK3.out.lt; have lz3 := KX3.out.lt)
  clear u2_0 z2_0 u2_1 z2_1 u2_2 z2_2 u2_3 z2_3 u2_4 z2_4 lu2 lz2
  have HC3 : Hid (Ch (tbS t va b v m) w w3) := Lib.hid ((HC0.out.trans HD3.out).mono (fun g hg => absurd hg (not_nil g)))
  go_upto_region 11 with fail
  go_quiet (fail)
  go_upto_region 14 with fail
  go_name_world V1 hV
  have HC1 : Hid (Ch [] w3 V1) := Lib.hid (by rw [← hV]; first | exact (Ch.refl [] w3).drewN _ | exact (Ch.refl [] w3).drew | exact Ch.refl [] w3)
  have HT1 := Lib.hid (HT3.out.ch0 HC1.out)
  have KK1 := Lib.hid (KK3.out.ch HC1.out (not_nil _))
  have KX1 := Lib.hid (KX3.out.ch HC1.out (not_nil _))
  have HBV : Hid (B ≤ V1.heap.size) := Lib.hid (Nat.le_trans HBW.out (Nat.le_trans HC3.out.size HC1.out.size))
  have HCV : Hid (Ch (tbS t va b v m) w V1) := Lib.hid (HC3.out.trans (HC1.out.mono (fun g hg => absurd hg (not_nil g))))
  clear hV
  clear u3_0 z3_0 u3_1 z3_1 u3_2 z3_2 u3_3 z3_3 u3_4 z3_4 lu3 lz3
  have u0 : V1.cell? ⟨w.heap.size, 0, none⟩ = some (.int .i64 k.k) := KK1.out.cell 0
  have u1 : V1.cell? ⟨w.heap.size, 1, none⟩ = some (.int .i64 k.p) := KK1.out.cell 1
  have u2 : V1.cell? ⟨w.heap.size, 2, none⟩ = some (.int .i64 k.q) := KK1.out.cell 2
  have u3 : V1.cell? ⟨w.heap.size, 3, none⟩ = some (.string k.s) := KK1.out.cell 3
  have u4 : V1.cell? ⟨w.heap.size, 4, none⟩ = some (.int .i64 k.r) := KK1.out.cell 4
  have z0 : V1.cell? ⟨(w.heap.size + 1), 0, none⟩ = some (.int .i64 x.k) := KX1.out.cell 0
  have z1 : V1.cell? ⟨(w.heap.size + 1), 1, none⟩ = some (.int .i64 x.p) := KX1.out.cell 1
  have z2 : V1.cell? ⟨(w.heap.size + 1), 2, none⟩ = some (.int .i64 x.q) := KX1.out.cell 2
  have z3 : V1.cell? ⟨(w.heap.size + 1), 3, none⟩ = some (.string x.s) := KX1.out.cell 3
  have z4 : V1.cell? ⟨(w.heap.size + 1), 4, none⟩ = some (.int .i64 x.r) := KX1.out.cell 4
  have lu := KK1.out.lt
  have lz := KX1.out.lt
  have QR := Lib.hid (rest_any B t va b v m s V1 HT1.out k x (by have := HLL.out; omega) HBV.out)
  go_wp2_with (go_at_call 31; (with_reducible refine (QR.out).mono ?_); rintro e w4 ⟨rfl, hs4⟩; have HS4 := Lib.hid hs4; clear hs4)
  go_ret
  exact ⟨rfl, tb_chain (fun g hg => .inl hg) HCV.out HS4.out⟩
theorem tset_any (B t : Nat) (va : Value) (b : Nat) (v m : Value) (s : TS) (w : World) (h : Tb B t va b v m s w) (k x : V5) (hL : s.arr.length + s.R.length ≤ 900000) (hBw : B ≤ w.heap.size) (hg : Good s.R) :
    Calls Try.prog 12 #[.pointer (some ⟨t, 0, none⟩), .agg #[.int .i64 k.k, .int .i64 k.p, .int .i64 k.q, .string k.s, .int .i64 k.r], .agg #[.int .i64 x.k, .int .i64 x.p, .int .i64 x.q, .string x.s, .int .i64 x.r]] w fun e w' => e = .returned (.int .i64 (errR k x)) ∧ TbSaid B t va b v m (setT s k x) w w' := by
  have keep : ∀ (c : Int), errR k x = c → c ≠ 0 → ∀ (e : Ending) (w' : World), (e = .returned (.int .i64 c) ∧ Ch [] w w') → e = .returned (.int .i64 (errR k x)) ∧ TbSaid B t va b v m (setT s k x) w w' := fun c hc h0 e w' hh => ⟨by rw [hc]; exact hh.1, by unfold setT; rw [if_pos (by rw [hc]; exact h0)]; exact tb_0 h hh.2⟩
  by_cases hk : k.k = 0
  · exact (tset_k0 t k x w hk).mono (keep 13 (by unfold errR; rw [if_pos (.inl hk)]) (by decide))
  · cases hk1 : okV k with
    | false => exact (tset_k1 t k x w hk hk1).mono (keep 13 (by unfold errR; rw [if_pos (.inr hk1)]) (by decide))
    | true =>
      cases hx1 : okV x with
      | false => exact (tset_x1 t k x w hk hk1 hx1).mono (keep 2 (by unfold errR; rw [if_neg (by simp [hk, hk1]), if_pos hx1]) (by decide))
      | true =>
        have hz : errR k x = 0 := errR_ok hk hk1 hx1
        unfold setT
        rw [if_neg (by simpa using hz)]
        cases he : elF s.arr.length k with
        | some i =>
          obtain ⟨h1, h2, _⟩ := elF_some he
          obtain ⟨j, rfl⟩ : ∃ j, i = j + 1 := ⟨i - 1, by omega⟩
          rw [hz]
          exact tset_some B t va b v m s w h k x hL hBw hk hk1 hx1 j (by omega) he
        | none =>
          dsimp only
          by_cases hx : x.k = 0
          · rw [if_neg (fun q => q.1 hx)]
            exact tset_rest0 B t va b v m s w h k x hL hBw hk hk1 hx1 he hx
          · by_cases hke : k = extK s
            · rw [if_pos ⟨hx, hke⟩, hz]
              exact tset_ext B t va b v m s w h k x hL hBw hk hk1 hx1 he hx hke hg
            · rw [if_neg (fun q => hke q.2)]
              exact tset_rest1 B t va b v m s w h k x hL hBw hk hk1 hx1 he hx hke
end Go.Proofs.Ytaaelhhiceildaa
