/- Layer 20: Check of the code. -/
import Derived.Test.YtdgdpckjcpgoaaaPrH
namespace Go.Proofs.Ytdgdpckjcpgoaaa
open Go.RowKit Go.Joins M1
set_option linter.unusedVariables false
def checkE (a : Act) : Int := if formB a = false then 4 else if 200 < a.l.length then 3 else if 32 < a.kp.length then 3 else if okV a.f = false then 2 else if a.l.all okV = false then 2 else if a.kp.all okV = false then 2 else if 65536 < a.s.size then 14 else 0
set_option maxHeartbeats 4000000 in
theorem ck_a (a : Act) (p1 p2 : Option Addr) (c1 c2 : Nat) (w : World) (h1 : VA w (.slice p1 a.l.length c1) a.l) (h2 : VA w (.slice p2 a.kp.length c2) a.kp) (n1 : a.l.length ≤ 1000000) (n2 : a.kp.length ≤ 1000000) (hf : formB a = false) :
    Calls Try.prog 24 #[.agg #[.int .i64 a.k, .int .i64 a.op, .int .i64 a.f.k, .int .i64 a.f.p, .int .i64 a.f.q, .string a.f.s, .int .i64 a.f.r, .slice p1 a.l.length c1, .string a.s, .int .i64 a.lv, .int .i64 a.nx, .slice p2 a.kp.length c2]] w fun e w' => e = .returned (.int .i64 4) ∧ Ch [] w w' := by
  obtain ⟨w0, hw0⟩ : ∃ w0, w0 = w.alloc (.cells #[.int .i64 a.k, .int .i64 a.op, .int .i64 a.f.k, .int .i64 a.f.p, .int .i64 a.f.q, .string a.f.s, .int .i64 a.f.r, .slice p1 a.l.length c1, .string a.s, .int .i64 a.lv, .int .i64 a.nx, .slice p2 a.kp.length c2] 31) := ⟨_, rfl⟩
  have HC0 : Hid (Ch [] w w0) := Lib.hid (by rw [hw0]; exact (Ch.refl [] w).alloc _)
  have HA : Hid (Blk 31 w.heap.size #[.int .i64 a.k, .int .i64 a.op, .int .i64 a.f.k, .int .i64 a.f.p, .int .i64 a.f.q, .string a.f.s, .int .i64 a.f.r, .slice p1 a.l.length c1, .string a.s, .int .i64 a.lv, .int .i64 a.nx, .slice p2 a.kp.length c2] w0) := Lib.hid (by rw [hw0]; exact Blk.new w _ _ _ rfl)
  have QF : Hid (Calls Try.prog 36 #[.agg #[.int .i64 a.k, .int .i64 a.op, .int .i64 a.f.k, .int .i64 a.f.p, .int .i64 a.f.q, .string a.f.s, .int .i64 a.f.r, .slice p1 a.l.length c1, .string a.s, .int .i64 a.lv, .int .i64 a.nx, .slice p2 a.kp.length c2]] w0 fun e w' => e = .returned (.bool false) ∧ Ch [] w0 w') := Lib.hid (by rw [← hf]; exact hasForm_any a _ _ w0 (h1.below HC0.out) (h2.below HC0.out) n1 n2)
  have HW := Lib.hid hw0
  clear hw0 h1 h2 n1 n2 hf
  go_enter Try.func24, Try.ntmps24
  go_upto_region 1 with fail
  rw [← HW.out]
  have a0 : w0.cell? ⟨w.heap.size, 0, none⟩ = some (.int .i64 a.k) := HA.out.cell 0
  have a1 : w0.cell? ⟨w.heap.size, 1, none⟩ = some (.int .i64 a.op) := HA.out.cell 1
  have a2 : w0.cell? ⟨w.heap.size, 2, none⟩ = some (.int .i64 a.f.k) := HA.out.cell 2
  have a3 : w0.cell? ⟨w.heap.size, 3, none⟩ = some (.int .i64 a.f.p) := HA.out.cell 3
  have a4 : w0.cell? ⟨w.heap.size, 4, none⟩ = some (.int .i64 a.f.q) := HA.out.cell 4
  have a5 : w0.cell? ⟨w.heap.size, 5, none⟩ = some (.string a.f.s) := HA.out.cell 5
  have a6 : w0.cell? ⟨w.heap.size, 6, none⟩ = some (.int .i64 a.f.r) := HA.out.cell 6
  have a7 : w0.cell? ⟨w.heap.size, 7, none⟩ = some (.slice p1 a.l.length c1) := HA.out.cell 7
  have a8 : w0.cell? ⟨w.heap.size, 8, none⟩ = some (.string a.s) := HA.out.cell 8
  have a9 : w0.cell? ⟨w.heap.size, 9, none⟩ = some (.int .i64 a.lv) := HA.out.cell 9
  have a10 : w0.cell? ⟨w.heap.size, 10, none⟩ = some (.int .i64 a.nx) := HA.out.cell 10
  have a11 : w0.cell? ⟨w.heap.size, 11, none⟩ = some (.slice p2 a.kp.length c2) := HA.out.cell 11
  have la := HA.out.lt
  go_wp2_with (first | (go_at_call 36; (with_reducible refine (QF.out).mono ?_); rintro e w1 ⟨rfl, hc⟩; have HC1 := Lib.hid hc; clear hc; have b0 : w1.cell? ⟨w.heap.size, 0, none⟩ = some (.int .i64 a.k) := (HA.out.ch HC1.out (not_nil _)).cell 0; have b1 : w1.cell? ⟨w.heap.size, 1, none⟩ = some (.int .i64 a.op) := (HA.out.ch HC1.out (not_nil _)).cell 1; have b2 : w1.cell? ⟨w.heap.size, 2, none⟩ = some (.int .i64 a.f.k) := (HA.out.ch HC1.out (not_nil _)).cell 2; have b3 : w1.cell? ⟨w.heap.size, 3, none⟩ = some (.int .i64 a.f.p) := (HA.out.ch HC1.out (not_nil _)).cell 3; have b4 : w1.cell? ⟨w.heap.size, 4, none⟩ = some (.int .i64 a.f.q) := (HA.out.ch HC1.out (not_nil _)).cell 4; have b5 : w1.cell? ⟨w.heap.size, 5, none⟩ = some (.string a.f.s) := (HA.out.ch HC1.out (not_nil _)).cell 5; have b6 : w1.cell? ⟨w.heap.size, 6, none⟩ = some (.int .i64 a.f.r) := (HA.out.ch HC1.out (not_nil _)).cell 6; have b7 : w1.cell? ⟨w.heap.size, 7, none⟩ = some (.slice p1 a.l.length c1) := (HA.out.ch HC1.out (not_nil _)).cell 7; have b8 : w1.cell? ⟨w.heap.size, 8, none⟩ = some (.string a.s) := (HA.out.ch HC1.out (not_nil _)).cell 8; have b9 : w1.cell? ⟨w.heap.size, 9, none⟩ = some (.int .i64 a.lv) := (HA.out.ch HC1.out (not_nil _)).cell 9; have b10 : w1.cell? ⟨w.heap.size, 10, none⟩ = some (.int .i64 a.nx) := (HA.out.ch HC1.out (not_nil _)).cell 10; have b11 : w1.cell? ⟨w.heap.size, 11, none⟩ = some (.slice p2 a.kp.length c2) := (HA.out.ch HC1.out (not_nil _)).cell 11; have bl := (HA.out.ch HC1.out (not_nil _)).lt))
  go_ret
  exact ⟨rfl, HC0.out.trans HC1.out⟩
set_option maxHeartbeats 4000000 in
theorem ck_b (a : Act) (p1 p2 : Option Addr) (c1 c2 : Nat) (w : World) (h1 : VA w (.slice p1 a.l.length c1) a.l) (h2 : VA w (.slice p2 a.kp.length c2) a.kp) (n1 : a.l.length ≤ 1000000) (n2 : a.kp.length ≤ 1000000) (hf : formB a = true) (m1 : 200 < a.l.length) :
    Calls Try.prog 24 #[.agg #[.int .i64 a.k, .int .i64 a.op, .int .i64 a.f.k, .int .i64 a.f.p, .int .i64 a.f.q, .string a.f.s, .int .i64 a.f.r, .slice p1 a.l.length c1, .string a.s, .int .i64 a.lv, .int .i64 a.nx, .slice p2 a.kp.length c2]] w fun e w' => e = .returned (.int .i64 3) ∧ Ch [] w w' := by
  obtain ⟨w0, hw0⟩ : ∃ w0, w0 = w.alloc (.cells #[.int .i64 a.k, .int .i64 a.op, .int .i64 a.f.k, .int .i64 a.f.p, .int .i64 a.f.q, .string a.f.s, .int .i64 a.f.r, .slice p1 a.l.length c1, .string a.s, .int .i64 a.lv, .int .i64 a.nx, .slice p2 a.kp.length c2] 31) := ⟨_, rfl⟩
  have HC0 : Hid (Ch [] w w0) := Lib.hid (by rw [hw0]; exact (Ch.refl [] w).alloc _)
  have HA : Hid (Blk 31 w.heap.size #[.int .i64 a.k, .int .i64 a.op, .int .i64 a.f.k, .int .i64 a.f.p, .int .i64 a.f.q, .string a.f.s, .int .i64 a.f.r, .slice p1 a.l.length c1, .string a.s, .int .i64 a.lv, .int .i64 a.nx, .slice p2 a.kp.length c2] w0) := Lib.hid (by rw [hw0]; exact Blk.new w _ _ _ rfl)
  have QF : Hid (Calls Try.prog 36 #[.agg #[.int .i64 a.k, .int .i64 a.op, .int .i64 a.f.k, .int .i64 a.f.p, .int .i64 a.f.q, .string a.f.s, .int .i64 a.f.r, .slice p1 a.l.length c1, .string a.s, .int .i64 a.lv, .int .i64 a.nx, .slice p2 a.kp.length c2]] w0 fun e w' => e = .returned (.bool true) ∧ Ch [] w0 w') := Lib.hid (by rw [← hf]; exact hasForm_any a _ _ w0 (h1.below HC0.out) (h2.below HC0.out) n1 n2)
  have i1 : (200 : Int) < (a.l.length : Int) := by omega
  have HW := Lib.hid hw0
  clear hw0 h1 h2 n1 n2 hf
  go_enter Try.func24, Try.ntmps24
  go_upto_region 1 with fail
  rw [← HW.out]
  have a0 : w0.cell? ⟨w.heap.size, 0, none⟩ = some (.int .i64 a.k) := HA.out.cell 0
  have a1 : w0.cell? ⟨w.heap.size, 1, none⟩ = some (.int .i64 a.op) := HA.out.cell 1
  have a2 : w0.cell? ⟨w.heap.size, 2, none⟩ = some (.int .i64 a.f.k) := HA.out.cell 2
  have a3 : w0.cell? ⟨w.heap.size, 3, none⟩ = some (.int .i64 a.f.p) := HA.out.cell 3
  have a4 : w0.cell? ⟨w.heap.size, 4, none⟩ = some (.int .i64 a.f.q) := HA.out.cell 4
  have a5 : w0.cell? ⟨w.heap.size, 5, none⟩ = some (.string a.f.s) := HA.out.cell 5
  have a6 : w0.cell? ⟨w.heap.size, 6, none⟩ = some (.int .i64 a.f.r) := HA.out.cell 6
  have a7 : w0.cell? ⟨w.heap.size, 7, none⟩ = some (.slice p1 a.l.length c1) := HA.out.cell 7
  have a8 : w0.cell? ⟨w.heap.size, 8, none⟩ = some (.string a.s) := HA.out.cell 8
  have a9 : w0.cell? ⟨w.heap.size, 9, none⟩ = some (.int .i64 a.lv) := HA.out.cell 9
  have a10 : w0.cell? ⟨w.heap.size, 10, none⟩ = some (.int .i64 a.nx) := HA.out.cell 10
  have a11 : w0.cell? ⟨w.heap.size, 11, none⟩ = some (.slice p2 a.kp.length c2) := HA.out.cell 11
  have la := HA.out.lt
  go_wp2_with (first | (go_at_call 36; (with_reducible refine (QF.out).mono ?_); rintro e w1 ⟨rfl, hc⟩; have HC1 := Lib.hid hc; clear hc; have b0 : w1.cell? ⟨w.heap.size, 0, none⟩ = some (.int .i64 a.k) := (HA.out.ch HC1.out (not_nil _)).cell 0; have b1 : w1.cell? ⟨w.heap.size, 1, none⟩ = some (.int .i64 a.op) := (HA.out.ch HC1.out (not_nil _)).cell 1; have b2 : w1.cell? ⟨w.heap.size, 2, none⟩ = some (.int .i64 a.f.k) := (HA.out.ch HC1.out (not_nil _)).cell 2; have b3 : w1.cell? ⟨w.heap.size, 3, none⟩ = some (.int .i64 a.f.p) := (HA.out.ch HC1.out (not_nil _)).cell 3; have b4 : w1.cell? ⟨w.heap.size, 4, none⟩ = some (.int .i64 a.f.q) := (HA.out.ch HC1.out (not_nil _)).cell 4; have b5 : w1.cell? ⟨w.heap.size, 5, none⟩ = some (.string a.f.s) := (HA.out.ch HC1.out (not_nil _)).cell 5; have b6 : w1.cell? ⟨w.heap.size, 6, none⟩ = some (.int .i64 a.f.r) := (HA.out.ch HC1.out (not_nil _)).cell 6; have b7 : w1.cell? ⟨w.heap.size, 7, none⟩ = some (.slice p1 a.l.length c1) := (HA.out.ch HC1.out (not_nil _)).cell 7; have b8 : w1.cell? ⟨w.heap.size, 8, none⟩ = some (.string a.s) := (HA.out.ch HC1.out (not_nil _)).cell 8; have b9 : w1.cell? ⟨w.heap.size, 9, none⟩ = some (.int .i64 a.lv) := (HA.out.ch HC1.out (not_nil _)).cell 9; have b10 : w1.cell? ⟨w.heap.size, 10, none⟩ = some (.int .i64 a.nx) := (HA.out.ch HC1.out (not_nil _)).cell 10; have b11 : w1.cell? ⟨w.heap.size, 11, none⟩ = some (.slice p2 a.kp.length c2) := (HA.out.ch HC1.out (not_nil _)).cell 11; have bl := (HA.out.ch HC1.out (not_nil _)).lt))
  go_ret
  exact ⟨rfl, HC0.out.trans HC1.out⟩
set_option maxHeartbeats 4000000 in
theorem ck_c (a : Act) (p1 p2 : Option Addr) (c1 c2 : Nat) (w : World) (h1 : VA w (.slice p1 a.l.length c1) a.l) (h2 : VA w (.slice p2 a.kp.length c2) a.kp) (n1 : a.l.length ≤ 1000000) (n2 : a.kp.length ≤ 1000000) (hf : formB a = true) (m1 : ¬ 200 < a.l.length) (m2 : 32 < a.kp.length) :
    Calls Try.prog 24 #[.agg #[.int .i64 a.k, .int .i64 a.op, .int .i64 a.f.k, .int .i64 a.f.p, .int .i64 a.f.q, .string a.f.s, .int .i64 a.f.r, .slice p1 a.l.length c1, .string a.s, .int .i64 a.lv, .int .i64 a.nx, .slice p2 a.kp.length c2]] w fun e w' => e = .returned (.int .i64 3) ∧ Ch [] w w' := by
  obtain ⟨w0, hw0⟩ : ∃ w0, w0 = w.alloc (.cells #[.int .i64 a.k, .int .i64 a.op, .int .i64 a.f.k, .int .i64 a.f.p, .int .i64 a.f.q, .string a.f.s, .int .i64 a.f.r, .slice p1 a.l.length c1, .string a.s, .int .i64 a.lv, .int .i64 a.nx, .slice p2 a.kp.length c2] 31) := ⟨_, rfl⟩
  have HC0 : Hid (Ch [] w w0) := Lib.hid (by rw [hw0]; exact (Ch.refl [] w).alloc _)
  have HA : Hid (Blk 31 w.heap.size #[.int .i64 a.k, .int .i64 a.op, .int .i64 a.f.k, .int .i64 a.f.p, .int .i64 a.f.q, .string a.f.s, .int .i64 a.f.r, .slice p1 a.l.length c1, .string a.s, .int .i64 a.lv, .int .i64 a.nx, .slice p2 a.kp.length c2] w0) := Lib.hid (by rw [hw0]; exact Blk.new w _ _ _ rfl)
  have QF : Hid (Calls Try.prog 36 #[.agg #[.int .i64 a.k, .int .i64 a.op, .int .i64 a.f.k, .int .i64 a.f.p, .int .i64 a.f.q, .string a.f.s, .int .i64 a.f.r, .slice p1 a.l.length c1, .string a.s, .int .i64 a.lv, .int .i64 a.nx, .slice p2 a.kp.length c2]] w0 fun e w' => e = .returned (.bool true) ∧ Ch [] w0 w') := Lib.hid (by rw [← hf]; exact hasForm_any a _ _ w0 (h1.below HC0.out) (h2.below HC0.out) n1 n2)
  have i1 : ¬ (200 : Int) < (a.l.length : Int) := by omega
  have i2 : (32 : Int) < (a.kp.length : Int) := by omega
  have HW := Lib.hid hw0
  clear hw0 h1 h2 n1 n2 hf
  go_enter Try.func24, Try.ntmps24
  go_upto_region 1 with fail
  rw [← HW.out]
  have a0 : w0.cell? ⟨w.heap.size, 0, none⟩ = some (.int .i64 a.k) := HA.out.cell 0
  have a1 : w0.cell? ⟨w.heap.size, 1, none⟩ = some (.int .i64 a.op) := HA.out.cell 1
  have a2 : w0.cell? ⟨w.heap.size, 2, none⟩ = some (.int .i64 a.f.k) := HA.out.cell 2
  have a3 : w0.cell? ⟨w.heap.size, 3, none⟩ = some (.int .i64 a.f.p) := HA.out.cell 3
  have a4 : w0.cell? ⟨w.heap.size, 4, none⟩ = some (.int .i64 a.f.q) := HA.out.cell 4
  have a5 : w0.cell? ⟨w.heap.size, 5, none⟩ = some (.string a.f.s) := HA.out.cell 5
  have a6 : w0.cell? ⟨w.heap.size, 6, none⟩ = some (.int .i64 a.f.r) := HA.out.cell 6
  have a7 : w0.cell? ⟨w.heap.size, 7, none⟩ = some (.slice p1 a.l.length c1) := HA.out.cell 7
  have a8 : w0.cell? ⟨w.heap.size, 8, none⟩ = some (.string a.s) := HA.out.cell 8
  have a9 : w0.cell? ⟨w.heap.size, 9, none⟩ = some (.int .i64 a.lv) := HA.out.cell 9
  have a10 : w0.cell? ⟨w.heap.size, 10, none⟩ = some (.int .i64 a.nx) := HA.out.cell 10
  have a11 : w0.cell? ⟨w.heap.size, 11, none⟩ = some (.slice p2 a.kp.length c2) := HA.out.cell 11
  have la := HA.out.lt
  go_wp2_with (first | (go_at_call 36; (with_reducible refine (QF.out).mono ?_); rintro e w1 ⟨rfl, hc⟩; have HC1 := Lib.hid hc; clear hc; have b0 : w1.cell? ⟨w.heap.size, 0, none⟩ = some (.int .i64 a.k) := (HA.out.ch HC1.out (not_nil _)).cell 0; have b1 : w1.cell? ⟨w.heap.size, 1, none⟩ = some (.int .i64 a.op) := (HA.out.ch HC1.out (not_nil _)).cell 1; have b2 : w1.cell? ⟨w.heap.size, 2, none⟩ = some (.int .i64 a.f.k) := (HA.out.ch HC1.out (not_nil _)).cell 2; have b3 : w1.cell? ⟨w.heap.size, 3, none⟩ = some (.int .i64 a.f.p) := (HA.out.ch HC1.out (not_nil _)).cell 3; have b4 : w1.cell? ⟨w.heap.size, 4, none⟩ = some (.int .i64 a.f.q) := (HA.out.ch HC1.out (not_nil _)).cell 4; have b5 : w1.cell? ⟨w.heap.size, 5, none⟩ = some (.string a.f.s) := (HA.out.ch HC1.out (not_nil _)).cell 5; have b6 : w1.cell? ⟨w.heap.size, 6, none⟩ = some (.int .i64 a.f.r) := (HA.out.ch HC1.out (not_nil _)).cell 6; have b7 : w1.cell? ⟨w.heap.size, 7, none⟩ = some (.slice p1 a.l.length c1) := (HA.out.ch HC1.out (not_nil _)).cell 7; have b8 : w1.cell? ⟨w.heap.size, 8, none⟩ = some (.string a.s) := (HA.out.ch HC1.out (not_nil _)).cell 8; have b9 : w1.cell? ⟨w.heap.size, 9, none⟩ = some (.int .i64 a.lv) := (HA.out.ch HC1.out (not_nil _)).cell 9; have b10 : w1.cell? ⟨w.heap.size, 10, none⟩ = some (.int .i64 a.nx) := (HA.out.ch HC1.out (not_nil _)).cell 10; have b11 : w1.cell? ⟨w.heap.size, 11, none⟩ = some (.slice p2 a.kp.length c2) := (HA.out.ch HC1.out (not_nil _)).cell 11; have bl := (HA.out.ch HC1.out (not_nil _)).lt))
  go_ret
  exact ⟨rfl, HC0.out.trans HC1.out⟩
set_option maxHeartbeats 4000000 in
theorem ck_d (a : Act) (p1 p2 : Option Addr) (c1 c2 : Nat) (w : World) (h1 : VA w (.slice p1 a.l.length c1) a.l) (h2 : VA w (.slice p2 a.kp.length c2) a.kp) (n1 : a.l.length ≤ 1000000) (n2 : a.kp.length ≤ 1000000) (hf : formB a = true) (m1 : ¬ 200 < a.l.length) (m2 : ¬ 32 < a.kp.length) (hv1 : okV a.f = false) :
    Calls Try.prog 24 #[.agg #[.int .i64 a.k, .int .i64 a.op, .int .i64 a.f.k, .int .i64 a.f.p, .int .i64 a.f.q, .string a.f.s, .int .i64 a.f.r, .slice p1 a.l.length c1, .string a.s, .int .i64 a.lv, .int .i64 a.nx, .slice p2 a.kp.length c2]] w fun e w' => e = .returned (.int .i64 2) ∧ Ch [] w w' := by
  obtain ⟨w0, hw0⟩ : ∃ w0, w0 = w.alloc (.cells #[.int .i64 a.k, .int .i64 a.op, .int .i64 a.f.k, .int .i64 a.f.p, .int .i64 a.f.q, .string a.f.s, .int .i64 a.f.r, .slice p1 a.l.length c1, .string a.s, .int .i64 a.lv, .int .i64 a.nx, .slice p2 a.kp.length c2] 31) := ⟨_, rfl⟩
  have HC0 : Hid (Ch [] w w0) := Lib.hid (by rw [hw0]; exact (Ch.refl [] w).alloc _)
  have HA : Hid (Blk 31 w.heap.size #[.int .i64 a.k, .int .i64 a.op, .int .i64 a.f.k, .int .i64 a.f.p, .int .i64 a.f.q, .string a.f.s, .int .i64 a.f.r, .slice p1 a.l.length c1, .string a.s, .int .i64 a.lv, .int .i64 a.nx, .slice p2 a.kp.length c2] w0) := Lib.hid (by rw [hw0]; exact Blk.new w _ _ _ rfl)
  have QF : Hid (Calls Try.prog 36 #[.agg #[.int .i64 a.k, .int .i64 a.op, .int .i64 a.f.k, .int .i64 a.f.p, .int .i64 a.f.q, .string a.f.s, .int .i64 a.f.r, .slice p1 a.l.length c1, .string a.s, .int .i64 a.lv, .int .i64 a.nx, .slice p2 a.kp.length c2]] w0 fun e w' => e = .returned (.bool true) ∧ Ch [] w0 w') := Lib.hid (by rw [← hf]; exact hasForm_any a _ _ w0 (h1.below HC0.out) (h2.below HC0.out) n1 n2)
  have QV1 : Hid (∀ W W', Ch [] w0 W → W' = W.alloc (.cells #[.int .i64 a.f.k, .int .i64 a.f.p, .int .i64 a.f.q, .string a.f.s, .int .i64 a.f.r] 26) → Calls Try.prog 37 #[.slice (some ⟨W.heap.size, 0, none⟩) 1 1] W' fun e w' => e = .returned (.bool false) ∧ Ch [] w0 w') := Lib.hid fun W W' hW hW' => by
    subst hW'
    refine (pvalid_any _ [a.f] _ (VA.one a.f W) (by simp)).mono ?_
    rintro e w' ⟨rfl, hc⟩
    exact ⟨by simp [hv1], (hW.alloc _).trans hc⟩
  have i1 : ¬ (200 : Int) < (a.l.length : Int) := by omega
  have i2 : ¬ (32 : Int) < (a.kp.length : Int) := by omega
  have HW := Lib.hid hw0
  clear hw0 h1 h2 n1 n2 hf hv1
  go_enter Try.func24, Try.ntmps24
  go_upto_region 1 with fail
  rw [← HW.out]
  have a0 : w0.cell? ⟨w.heap.size, 0, none⟩ = some (.int .i64 a.k) := HA.out.cell 0
  have a1 : w0.cell? ⟨w.heap.size, 1, none⟩ = some (.int .i64 a.op) := HA.out.cell 1
  have a2 : w0.cell? ⟨w.heap.size, 2, none⟩ = some (.int .i64 a.f.k) := HA.out.cell 2
  have a3 : w0.cell? ⟨w.heap.size, 3, none⟩ = some (.int .i64 a.f.p) := HA.out.cell 3
  have a4 : w0.cell? ⟨w.heap.size, 4, none⟩ = some (.int .i64 a.f.q) := HA.out.cell 4
  have a5 : w0.cell? ⟨w.heap.size, 5, none⟩ = some (.string a.f.s) := HA.out.cell 5
  have a6 : w0.cell? ⟨w.heap.size, 6, none⟩ = some (.int .i64 a.f.r) := HA.out.cell 6
  have a7 : w0.cell? ⟨w.heap.size, 7, none⟩ = some (.slice p1 a.l.length c1) := HA.out.cell 7
  have a8 : w0.cell? ⟨w.heap.size, 8, none⟩ = some (.string a.s) := HA.out.cell 8
  have a9 : w0.cell? ⟨w.heap.size, 9, none⟩ = some (.int .i64 a.lv) := HA.out.cell 9
  have a10 : w0.cell? ⟨w.heap.size, 10, none⟩ = some (.int .i64 a.nx) := HA.out.cell 10
  have a11 : w0.cell? ⟨w.heap.size, 11, none⟩ = some (.slice p2 a.kp.length c2) := HA.out.cell 11
  have la := HA.out.lt
  go_wp2_with (first | (go_at_call 36; (with_reducible refine (QF.out).mono ?_); rintro e w1 ⟨rfl, hc⟩; have HC1 := Lib.hid hc; clear hc; have b0 : w1.cell? ⟨w.heap.size, 0, none⟩ = some (.int .i64 a.k) := (HA.out.ch HC1.out (not_nil _)).cell 0; have b1 : w1.cell? ⟨w.heap.size, 1, none⟩ = some (.int .i64 a.op) := (HA.out.ch HC1.out (not_nil _)).cell 1; have b2 : w1.cell? ⟨w.heap.size, 2, none⟩ = some (.int .i64 a.f.k) := (HA.out.ch HC1.out (not_nil _)).cell 2; have b3 : w1.cell? ⟨w.heap.size, 3, none⟩ = some (.int .i64 a.f.p) := (HA.out.ch HC1.out (not_nil _)).cell 3; have b4 : w1.cell? ⟨w.heap.size, 4, none⟩ = some (.int .i64 a.f.q) := (HA.out.ch HC1.out (not_nil _)).cell 4; have b5 : w1.cell? ⟨w.heap.size, 5, none⟩ = some (.string a.f.s) := (HA.out.ch HC1.out (not_nil _)).cell 5; have b6 : w1.cell? ⟨w.heap.size, 6, none⟩ = some (.int .i64 a.f.r) := (HA.out.ch HC1.out (not_nil _)).cell 6; have b7 : w1.cell? ⟨w.heap.size, 7, none⟩ = some (.slice p1 a.l.length c1) := (HA.out.ch HC1.out (not_nil _)).cell 7; have b8 : w1.cell? ⟨w.heap.size, 8, none⟩ = some (.string a.s) := (HA.out.ch HC1.out (not_nil _)).cell 8; have b9 : w1.cell? ⟨w.heap.size, 9, none⟩ = some (.int .i64 a.lv) := (HA.out.ch HC1.out (not_nil _)).cell 9; have b10 : w1.cell? ⟨w.heap.size, 10, none⟩ = some (.int .i64 a.nx) := (HA.out.ch HC1.out (not_nil _)).cell 10; have b11 : w1.cell? ⟨w.heap.size, 11, none⟩ = some (.slice p2 a.kp.length c2) := (HA.out.ch HC1.out (not_nil _)).cell 11; have bl := (HA.out.ch HC1.out (not_nil _)).lt) | (go_at_call 37; (with_reducible refine (QV1.out _ _ HC1.out rfl).mono ?_); rintro e w2 ⟨rfl, hc⟩; have HC2 := Lib.hid hc; clear hc; have d0 : w2.cell? ⟨w.heap.size, 0, none⟩ = some (.int .i64 a.k) := (HA.out.ch HC2.out (not_nil _)).cell 0; have d1 : w2.cell? ⟨w.heap.size, 1, none⟩ = some (.int .i64 a.op) := (HA.out.ch HC2.out (not_nil _)).cell 1; have d2 : w2.cell? ⟨w.heap.size, 2, none⟩ = some (.int .i64 a.f.k) := (HA.out.ch HC2.out (not_nil _)).cell 2; have d3 : w2.cell? ⟨w.heap.size, 3, none⟩ = some (.int .i64 a.f.p) := (HA.out.ch HC2.out (not_nil _)).cell 3; have d4 : w2.cell? ⟨w.heap.size, 4, none⟩ = some (.int .i64 a.f.q) := (HA.out.ch HC2.out (not_nil _)).cell 4; have d5 : w2.cell? ⟨w.heap.size, 5, none⟩ = some (.string a.f.s) := (HA.out.ch HC2.out (not_nil _)).cell 5; have d6 : w2.cell? ⟨w.heap.size, 6, none⟩ = some (.int .i64 a.f.r) := (HA.out.ch HC2.out (not_nil _)).cell 6; have d7 : w2.cell? ⟨w.heap.size, 7, none⟩ = some (.slice p1 a.l.length c1) := (HA.out.ch HC2.out (not_nil _)).cell 7; have d8 : w2.cell? ⟨w.heap.size, 8, none⟩ = some (.string a.s) := (HA.out.ch HC2.out (not_nil _)).cell 8; have d9 : w2.cell? ⟨w.heap.size, 9, none⟩ = some (.int .i64 a.lv) := (HA.out.ch HC2.out (not_nil _)).cell 9; have d10 : w2.cell? ⟨w.heap.size, 10, none⟩ = some (.int .i64 a.nx) := (HA.out.ch HC2.out (not_nil _)).cell 10; have d11 : w2.cell? ⟨w.heap.size, 11, none⟩ = some (.slice p2 a.kp.length c2) := (HA.out.ch HC2.out (not_nil _)).cell 11; have dl := (HA.out.ch HC2.out (not_nil _)).lt))
  go_ret
  exact ⟨rfl, HC0.out.trans HC2.out⟩
set_option maxHeartbeats 4000000 in
theorem ck_e (a : Act) (p1 p2 : Option Addr) (c1 c2 : Nat) (w : World) (h1 : VA w (.slice p1 a.l.length c1) a.l) (h2 : VA w (.slice p2 a.kp.length c2) a.kp) (n1 : a.l.length ≤ 1000000) (n2 : a.kp.length ≤ 1000000) (hf : formB a = true) (m1 : ¬ 200 < a.l.length) (m2 : ¬ 32 < a.kp.length) (hv1 : okV a.f = true) (hv2 : a.l.all okV = false) :
    Calls Try.prog 24 #[.agg #[.int .i64 a.k, .int .i64 a.op, .int .i64 a.f.k, .int .i64 a.f.p, .int .i64 a.f.q, .string a.f.s, .int .i64 a.f.r, .slice p1 a.l.length c1, .string a.s, .int .i64 a.lv, .int .i64 a.nx, .slice p2 a.kp.length c2]] w fun e w' => e = .returned (.int .i64 2) ∧ Ch [] w w' := by
  obtain ⟨w0, hw0⟩ : ∃ w0, w0 = w.alloc (.cells #[.int .i64 a.k, .int .i64 a.op, .int .i64 a.f.k, .int .i64 a.f.p, .int .i64 a.f.q, .string a.f.s, .int .i64 a.f.r, .slice p1 a.l.length c1, .string a.s, .int .i64 a.lv, .int .i64 a.nx, .slice p2 a.kp.length c2] 31) := ⟨_, rfl⟩
  have HC0 : Hid (Ch [] w w0) := Lib.hid (by rw [hw0]; exact (Ch.refl [] w).alloc _)
  have HA : Hid (Blk 31 w.heap.size #[.int .i64 a.k, .int .i64 a.op, .int .i64 a.f.k, .int .i64 a.f.p, .int .i64 a.f.q, .string a.f.s, .int .i64 a.f.r, .slice p1 a.l.length c1, .string a.s, .int .i64 a.lv, .int .i64 a.nx, .slice p2 a.kp.length c2] w0) := Lib.hid (by rw [hw0]; exact Blk.new w _ _ _ rfl)
  have QF : Hid (Calls Try.prog 36 #[.agg #[.int .i64 a.k, .int .i64 a.op, .int .i64 a.f.k, .int .i64 a.f.p, .int .i64 a.f.q, .string a.f.s, .int .i64 a.f.r, .slice p1 a.l.length c1, .string a.s, .int .i64 a.lv, .int .i64 a.nx, .slice p2 a.kp.length c2]] w0 fun e w' => e = .returned (.bool true) ∧ Ch [] w0 w') := Lib.hid (by rw [← hf]; exact hasForm_any a _ _ w0 (h1.below HC0.out) (h2.below HC0.out) n1 n2)
  have QV1 : Hid (∀ W W', Ch [] w0 W → W' = W.alloc (.cells #[.int .i64 a.f.k, .int .i64 a.f.p, .int .i64 a.f.q, .string a.f.s, .int .i64 a.f.r] 26) → Calls Try.prog 37 #[.slice (some ⟨W.heap.size, 0, none⟩) 1 1] W' fun e w' => e = .returned (.bool true) ∧ Ch [] w0 w') := Lib.hid fun W W' hW hW' => by
    subst hW'
    refine (pvalid_any _ [a.f] _ (VA.one a.f W) (by simp)).mono ?_
    rintro e w' ⟨rfl, hc⟩
    exact ⟨by simp [hv1], (hW.alloc _).trans hc⟩
  have QV2 : Hid (∀ W, Ch [] w0 W → Calls Try.prog 37 #[.slice p1 a.l.length c1] W fun e w' => e = .returned (.bool false) ∧ Ch [] w0 w') := Lib.hid fun W hW => by
    refine (pvalid_any _ a.l _ (h1.below (HC0.out.trans hW)) n1).mono ?_
    rintro e w' ⟨rfl, hc⟩
    exact ⟨by rw [hv2], hW.trans hc⟩
  have i1 : ¬ (200 : Int) < (a.l.length : Int) := by omega
  have i2 : ¬ (32 : Int) < (a.kp.length : Int) := by omega
  have HW := Lib.hid hw0
  clear hw0 h1 h2 n1 n2 hf hv1 hv2
  go_enter Try.func24, Try.ntmps24
  go_upto_region 1 with fail
  rw [← HW.out]
  have a0 : w0.cell? ⟨w.heap.size, 0, none⟩ = some (.int .i64 a.k) := HA.out.cell 0
  have a1 : w0.cell? ⟨w.heap.size, 1, none⟩ = some (.int .i64 a.op) := HA.out.cell 1
  have a2 : w0.cell? ⟨w.heap.size, 2, none⟩ = some (.int .i64 a.f.k) := HA.out.cell 2
  have a3 : w0.cell? ⟨w.heap.size, 3, none⟩ = some (.int .i64 a.f.p) := HA.out.cell 3
  have a4 : w0.cell? ⟨w.heap.size, 4, none⟩ = some (.int .i64 a.f.q) := HA.out.cell 4
  have a5 : w0.cell? ⟨w.heap.size, 5, none⟩ = some (.string a.f.s) := HA.out.cell 5
  have a6 : w0.cell? ⟨w.heap.size, 6, none⟩ = some (.int .i64 a.f.r) := HA.out.cell 6
  have a7 : w0.cell? ⟨w.heap.size, 7, none⟩ = some (.slice p1 a.l.length c1) := HA.out.cell 7
  have a8 : w0.cell? ⟨w.heap.size, 8, none⟩ = some (.string a.s) := HA.out.cell 8
  have a9 : w0.cell? ⟨w.heap.size, 9, none⟩ = some (.int .i64 a.lv) := HA.out.cell 9
  have a10 : w0.cell? ⟨w.heap.size, 10, none⟩ = some (.int .i64 a.nx) := HA.out.cell 10
  have a11 : w0.cell? ⟨w.heap.size, 11, none⟩ = some (.slice p2 a.kp.length c2) := HA.out.cell 11
  have la := HA.out.lt
  go_wp2_with (first | (go_at_call 36; (with_reducible refine (QF.out).mono ?_); rintro e w1 ⟨rfl, hc⟩; have HC1 := Lib.hid hc; clear hc; have b0 : w1.cell? ⟨w.heap.size, 0, none⟩ = some (.int .i64 a.k) := (HA.out.ch HC1.out (not_nil _)).cell 0; have b1 : w1.cell? ⟨w.heap.size, 1, none⟩ = some (.int .i64 a.op) := (HA.out.ch HC1.out (not_nil _)).cell 1; have b2 : w1.cell? ⟨w.heap.size, 2, none⟩ = some (.int .i64 a.f.k) := (HA.out.ch HC1.out (not_nil _)).cell 2; have b3 : w1.cell? ⟨w.heap.size, 3, none⟩ = some (.int .i64 a.f.p) := (HA.out.ch HC1.out (not_nil _)).cell 3; have b4 : w1.cell? ⟨w.heap.size, 4, none⟩ = some (.int .i64 a.f.q) := (HA.out.ch HC1.out (not_nil _)).cell 4; have b5 : w1.cell? ⟨w.heap.size, 5, none⟩ = some (.string a.f.s) := (HA.out.ch HC1.out (not_nil _)).cell 5; have b6 : w1.cell? ⟨w.heap.size, 6, none⟩ = some (.int .i64 a.f.r) := (HA.out.ch HC1.out (not_nil _)).cell 6; have b7 : w1.cell? ⟨w.heap.size, 7, none⟩ = some (.slice p1 a.l.length c1) := (HA.out.ch HC1.out (not_nil _)).cell 7; have b8 : w1.cell? ⟨w.heap.size, 8, none⟩ = some (.string a.s) := (HA.out.ch HC1.out (not_nil _)).cell 8; have b9 : w1.cell? ⟨w.heap.size, 9, none⟩ = some (.int .i64 a.lv) := (HA.out.ch HC1.out (not_nil _)).cell 9; have b10 : w1.cell? ⟨w.heap.size, 10, none⟩ = some (.int .i64 a.nx) := (HA.out.ch HC1.out (not_nil _)).cell 10; have b11 : w1.cell? ⟨w.heap.size, 11, none⟩ = some (.slice p2 a.kp.length c2) := (HA.out.ch HC1.out (not_nil _)).cell 11; have bl := (HA.out.ch HC1.out (not_nil _)).lt) | (go_at_call 37; (with_reducible refine (QV1.out _ _ HC1.out rfl).mono ?_); rintro e w2 ⟨rfl, hc⟩; have HC2 := Lib.hid hc; clear hc; have d0 : w2.cell? ⟨w.heap.size, 0, none⟩ = some (.int .i64 a.k) := (HA.out.ch HC2.out (not_nil _)).cell 0; have d1 : w2.cell? ⟨w.heap.size, 1, none⟩ = some (.int .i64 a.op) := (HA.out.ch HC2.out (not_nil _)).cell 1; have d2 : w2.cell? ⟨w.heap.size, 2, none⟩ = some (.int .i64 a.f.k) := (HA.out.ch HC2.out (not_nil _)).cell 2; have d3 : w2.cell? ⟨w.heap.size, 3, none⟩ = some (.int .i64 a.f.p) := (HA.out.ch HC2.out (not_nil _)).cell 3; have d4 : w2.cell? ⟨w.heap.size, 4, none⟩ = some (.int .i64 a.f.q) := (HA.out.ch HC2.out (not_nil _)).cell 4; have d5 : w2.cell? ⟨w.heap.size, 5, none⟩ = some (.string a.f.s) := (HA.out.ch HC2.out (not_nil _)).cell 5; have d6 : w2.cell? ⟨w.heap.size, 6, none⟩ = some (.int .i64 a.f.r) := (HA.out.ch HC2.out (not_nil _)).cell 6; have d7 : w2.cell? ⟨w.heap.size, 7, none⟩ = some (.slice p1 a.l.length c1) := (HA.out.ch HC2.out (not_nil _)).cell 7; have d8 : w2.cell? ⟨w.heap.size, 8, none⟩ = some (.string a.s) := (HA.out.ch HC2.out (not_nil _)).cell 8; have d9 : w2.cell? ⟨w.heap.size, 9, none⟩ = some (.int .i64 a.lv) := (HA.out.ch HC2.out (not_nil _)).cell 9; have d10 : w2.cell? ⟨w.heap.size, 10, none⟩ = some (.int .i64 a.nx) := (HA.out.ch HC2.out (not_nil _)).cell 10; have d11 : w2.cell? ⟨w.heap.size, 11, none⟩ = some (.slice p2 a.kp.length c2) := (HA.out.ch HC2.out (not_nil _)).cell 11; have dl := (HA.out.ch HC2.out (not_nil _)).lt) | (go_at_call 37; (with_reducible refine (QV2.out _ HC2.out).mono ?_); rintro e w3 ⟨rfl, hc⟩; have HC3 := Lib.hid hc; clear hc; have g0 : w3.cell? ⟨w.heap.size, 0, none⟩ = some (.int .i64 a.k) := (HA.out.ch HC3.out (not_nil _)).cell 0; have g1 : w3.cell? ⟨w.heap.size, 1, none⟩ = some (.int .i64 a.op) := (HA.out.ch HC3.out (not_nil _)).cell 1; have g2 : w3.cell? ⟨w.heap.size, 2, none⟩ = some (.int .i64 a.f.k) := (HA.out.ch HC3.out (not_nil _)).cell 2; have g3 : w3.cell? ⟨w.heap.size, 3, none⟩ = some (.int .i64 a.f.p) := (HA.out.ch HC3.out (not_nil _)).cell 3; have g4 : w3.cell? ⟨w.heap.size, 4, none⟩ = some (.int .i64 a.f.q) := (HA.out.ch HC3.out (not_nil _)).cell 4; have g5 : w3.cell? ⟨w.heap.size, 5, none⟩ = some (.string a.f.s) := (HA.out.ch HC3.out (not_nil _)).cell 5; have g6 : w3.cell? ⟨w.heap.size, 6, none⟩ = some (.int .i64 a.f.r) := (HA.out.ch HC3.out (not_nil _)).cell 6; have g7 : w3.cell? ⟨w.heap.size, 7, none⟩ = some (.slice p1 a.l.length c1) := (HA.out.ch HC3.out (not_nil _)).cell 7; have g8 : w3.cell? ⟨w.heap.size, 8, none⟩ = some (.string a.s) := (HA.out.ch HC3.out (not_nil _)).cell 8; have g9 : w3.cell? ⟨w.heap.size, 9, none⟩ = some (.int .i64 a.lv) := (HA.out.ch HC3.out (not_nil _)).cell 9; have g10 : w3.cell? ⟨w.heap.size, 10, none⟩ = some (.int .i64 a.nx) := (HA.out.ch HC3.out (not_nil _)).cell 10; have g11 : w3.cell? ⟨w.heap.size, 11, none⟩ = some (.slice p2 a.kp.length c2) := (HA.out.ch HC3.out (not_nil _)).cell 11; have gl := (HA.out.ch HC3.out (not_nil _)).lt))
  go_ret
  exact ⟨rfl, HC0.out.trans HC3.out⟩
set_option maxHeartbeats 4000000 in
theorem ck_f (a : Act) (p1 p2 : Option Addr) (c1 c2 : Nat) (w : World) (h1 : VA w (.slice p1 a.l.length c1) a.l) (h2 : VA w (.slice p2 a.kp.length c2) a.kp) (n1 : a.l.length ≤ 1000000) (n2 : a.kp.length ≤ 1000000) (hf : formB a = true) (m1 : ¬ 200 < a.l.length) (m2 : ¬ 32 < a.kp.length) (hv1 : okV a.f = true) (hv2 : a.l.all okV = true) (hv3 : a.kp.all okV = false) :
    Calls Try.prog 24 #[.agg #[.int .i64 a.k, .int .i64 a.op, .int .i64 a.f.k, .int .i64 a.f.p, .int .i64 a.f.q, .string a.f.s, .int .i64 a.f.r, .slice p1 a.l.length c1, .string a.s, .int .i64 a.lv, .int .i64 a.nx, .slice p2 a.kp.length c2]] w fun e w' => e = .returned (.int .i64 2) ∧ Ch [] w w' := by
  obtain ⟨w0, hw0⟩ : ∃ w0, w0 = w.alloc (.cells #[.int .i64 a.k, .int .i64 a.op, .int .i64 a.f.k, .int .i64 a.f.p, .int .i64 a.f.q, .string a.f.s, .int .i64 a.f.r, .slice p1 a.l.length c1, .string a.s, .int .i64 a.lv, .int .i64 a.nx, .slice p2 a.kp.length c2] 31) := ⟨_, rfl⟩
  have HC0 : Hid (Ch [] w w0) := Lib.hid (by rw [hw0]; exact (Ch.refl [] w).alloc _)
  have HA : Hid (Blk 31 w.heap.size #[.int .i64 a.k, .int .i64 a.op, .int .i64 a.f.k, .int .i64 a.f.p, .int .i64 a.f.q, .string a.f.s, .int .i64 a.f.r, .slice p1 a.l.length c1, .string a.s, .int .i64 a.lv, .int .i64 a.nx, .slice p2 a.kp.length c2] w0) := Lib.hid (by rw [hw0]; exact Blk.new w _ _ _ rfl)
  have QF : Hid (Calls Try.prog 36 #[.agg #[.int .i64 a.k, .int .i64 a.op, .int .i64 a.f.k, .int .i64 a.f.p, .int .i64 a.f.q, .string a.f.s, .int .i64 a.f.r, .slice p1 a.l.length c1, .string a.s, .int .i64 a.lv, .int .i64 a.nx, .slice p2 a.kp.length c2]] w0 fun e w' => e = .returned (.bool true) ∧ Ch [] w0 w') := Lib.hid (by rw [← hf]; exact hasForm_any a _ _ w0 (h1.below HC0.out) (h2.below HC0.out) n1 n2)
  have QV1 : Hid (∀ W W', Ch [] w0 W → W' = W.alloc (.cells #[.int .i64 a.f.k, .int .i64 a.f.p, .int .i64 a.f.q, .string a.f.s, .int .i64 a.f.r] 26) → Calls Try.prog 37 #[.slice (some ⟨W.heap.size, 0, none⟩) 1 1] W' fun e w' => e = .returned (.bool true) ∧ Ch [] w0 w') := Lib.hid fun W W' hW hW' => by
    subst hW'
    refine (pvalid_any _ [a.f] _ (VA.one a.f W) (by simp)).mono ?_
    rintro e w' ⟨rfl, hc⟩
    exact ⟨by simp [hv1], (hW.alloc _).trans hc⟩
  have QV2 : Hid (∀ W, Ch [] w0 W → Calls Try.prog 37 #[.slice p1 a.l.length c1] W fun e w' => e = .returned (.bool true) ∧ Ch [] w0 w') := Lib.hid fun W hW => by
    refine (pvalid_any _ a.l _ (h1.below (HC0.out.trans hW)) n1).mono ?_
    rintro e w' ⟨rfl, hc⟩
    exact ⟨by rw [hv2], hW.trans hc⟩
  have QV3 : Hid (∀ W, Ch [] w0 W → Calls Try.prog 37 #[.slice p2 a.kp.length c2] W fun e w' => e = .returned (.bool false) ∧ Ch [] w0 w') := Lib.hid fun W hW => by
    refine (pvalid_any _ a.kp _ (h2.below (HC0.out.trans hW)) n2).mono ?_
    rintro e w' ⟨rfl, hc⟩
    exact ⟨by rw [hv3], hW.trans hc⟩
  have i1 : ¬ (200 : Int) < (a.l.length : Int) := by omega
  have i2 : ¬ (32 : Int) < (a.kp.length : Int) := by omega
  have HW := Lib.hid hw0
  clear hw0 h1 h2 n1 n2 hf hv1 hv2 hv3
  go_enter Try.func24, Try.ntmps24
  go_upto_region 1 with fail
  rw [← HW.out]
  have a0 : w0.cell? ⟨w.heap.size, 0, none⟩ = some (.int .i64 a.k) := HA.out.cell 0
  have a1 : w0.cell? ⟨w.heap.size, 1, none⟩ = some (.int .i64 a.op) := HA.out.cell 1
  have a2 : w0.cell? ⟨w.heap.size, 2, none⟩ = some (.int .i64 a.f.k) := HA.out.cell 2
  have a3 : w0.cell? ⟨w.heap.size, 3, none⟩ = some (.int .i64 a.f.p) := HA.out.cell 3
  have a4 : w0.cell? ⟨w.heap.size, 4, none⟩ = some (.int .i64 a.f.q) := HA.out.cell 4
  have a5 : w0.cell? ⟨w.heap.size, 5, none⟩ = some (.string a.f.s) := HA.out.cell 5
  have a6 : w0.cell? ⟨w.heap.size, 6, none⟩ = some (.int .i64 a.f.r) := HA.out.cell 6
  have a7 : w0.cell? ⟨w.heap.size, 7, none⟩ = some (.slice p1 a.l.length c1) := HA.out.cell 7
  have a8 : w0.cell? ⟨w.heap.size, 8, none⟩ = some (.string a.s) := HA.out.cell 8
  have a9 : w0.cell? ⟨w.heap.size, 9, none⟩ = some (.int .i64 a.lv) := HA.out.cell 9
  have a10 : w0.cell? ⟨w.heap.size, 10, none⟩ = some (.int .i64 a.nx) := HA.out.cell 10
  have a11 : w0.cell? ⟨w.heap.size, 11, none⟩ = some (.slice p2 a.kp.length c2) := HA.out.cell 11
  have la := HA.out.lt
  go_wp2_with (first | (go_at_call 36; (with_reducible refine (QF.out).mono ?_); rintro e w1 ⟨rfl, hc⟩; have HC1 := Lib.hid hc; clear hc; have b0 : w1.cell? ⟨w.heap.size, 0, none⟩ = some (.int .i64 a.k) := (HA.out.ch HC1.out (not_nil _)).cell 0; have b1 : w1.cell? ⟨w.heap.size, 1, none⟩ = some (.int .i64 a.op) := (HA.out.ch HC1.out (not_nil _)).cell 1; have b2 : w1.cell? ⟨w.heap.size, 2, none⟩ = some (.int .i64 a.f.k) := (HA.out.ch HC1.out (not_nil _)).cell 2; have b3 : w1.cell? ⟨w.heap.size, 3, none⟩ = some (.int .i64 a.f.p) := (HA.out.ch HC1.out (not_nil _)).cell 3; have b4 : w1.cell? ⟨w.heap.size, 4, none⟩ = some (.int .i64 a.f.q) := (HA.out.ch HC1.out (not_nil _)).cell 4; have b5 : w1.cell? ⟨w.heap.size, 5, none⟩ = some (.string a.f.s) := (HA.out.ch HC1.out (not_nil _)).cell 5; have b6 : w1.cell? ⟨w.heap.size, 6, none⟩ = some (.int .i64 a.f.r) := (HA.out.ch HC1.out (not_nil _)).cell 6; have b7 : w1.cell? ⟨w.heap.size, 7, none⟩ = some (.slice p1 a.l.length c1) := (HA.out.ch HC1.out (not_nil _)).cell 7; have b8 : w1.cell? ⟨w.heap.size, 8, none⟩ = some (.string a.s) := (HA.out.ch HC1.out (not_nil _)).cell 8; have b9 : w1.cell? ⟨w.heap.size, 9, none⟩ = some (.int .i64 a.lv) := (HA.out.ch HC1.out (not_nil _)).cell 9; have b10 : w1.cell? ⟨w.heap.size, 10, none⟩ = some (.int .i64 a.nx) := (HA.out.ch HC1.out (not_nil _)).cell 10; have b11 : w1.cell? ⟨w.heap.size, 11, none⟩ = some (.slice p2 a.kp.length c2) := (HA.out.ch HC1.out (not_nil _)).cell 11; have bl := (HA.out.ch HC1.out (not_nil _)).lt) | (go_at_call 37; (with_reducible refine (QV1.out _ _ HC1.out rfl).mono ?_); rintro e w2 ⟨rfl, hc⟩; have HC2 := Lib.hid hc; clear hc; have d0 : w2.cell? ⟨w.heap.size, 0, none⟩ = some (.int .i64 a.k) := (HA.out.ch HC2.out (not_nil _)).cell 0; have d1 : w2.cell? ⟨w.heap.size, 1, none⟩ = some (.int .i64 a.op) := (HA.out.ch HC2.out (not_nil _)).cell 1; have d2 : w2.cell? ⟨w.heap.size, 2, none⟩ = some (.int .i64 a.f.k) := (HA.out.ch HC2.out (not_nil _)).cell 2; have d3 : w2.cell? ⟨w.heap.size, 3, none⟩ = some (.int .i64 a.f.p) := (HA.out.ch HC2.out (not_nil _)).cell 3; have d4 : w2.cell? ⟨w.heap.size, 4, none⟩ = some (.int .i64 a.f.q) := (HA.out.ch HC2.out (not_nil _)).cell 4; have d5 : w2.cell? ⟨w.heap.size, 5, none⟩ = some (.string a.f.s) := (HA.out.ch HC2.out (not_nil _)).cell 5; have d6 : w2.cell? ⟨w.heap.size, 6, none⟩ = some (.int .i64 a.f.r) := (HA.out.ch HC2.out (not_nil _)).cell 6; have d7 : w2.cell? ⟨w.heap.size, 7, none⟩ = some (.slice p1 a.l.length c1) := (HA.out.ch HC2.out (not_nil _)).cell 7; have d8 : w2.cell? ⟨w.heap.size, 8, none⟩ = some (.string a.s) := (HA.out.ch HC2.out (not_nil _)).cell 8; have d9 : w2.cell? ⟨w.heap.size, 9, none⟩ = some (.int .i64 a.lv) := (HA.out.ch HC2.out (not_nil _)).cell 9; have d10 : w2.cell? ⟨w.heap.size, 10, none⟩ = some (.int .i64 a.nx) := (HA.out.ch HC2.out (not_nil _)).cell 10; have d11 : w2.cell? ⟨w.heap.size, 11, none⟩ = some (.slice p2 a.kp.length c2) := (HA.out.ch HC2.out (not_nil _)).cell 11; have dl := (HA.out.ch HC2.out (not_nil _)).lt) | (go_at_call 37; (with_reducible refine (QV2.out _ HC2.out).mono ?_); rintro e w3 ⟨rfl, hc⟩; have HC3 := Lib.hid hc; clear hc; have g0 : w3.cell? ⟨w.heap.size, 0, none⟩ = some (.int .i64 a.k) := (HA.out.ch HC3.out (not_nil _)).cell 0; have g1 : w3.cell? ⟨w.heap.size, 1, none⟩ = some (.int .i64 a.op) := (HA.out.ch HC3.out (not_nil _)).cell 1; have g2 : w3.cell? ⟨w.heap.size, 2, none⟩ = some (.int .i64 a.f.k) := (HA.out.ch HC3.out (not_nil _)).cell 2; have g3 : w3.cell? ⟨w.heap.size, 3, none⟩ = some (.int .i64 a.f.p) := (HA.out.ch HC3.out (not_nil _)).cell 3; have g4 : w3.cell? ⟨w.heap.size, 4, none⟩ = some (.int .i64 a.f.q) := (HA.out.ch HC3.out (not_nil _)).cell 4; have g5 : w3.cell? ⟨w.heap.size, 5, none⟩ = some (.string a.f.s) := (HA.out.ch HC3.out (not_nil _)).cell 5; have g6 : w3.cell? ⟨w.heap.size, 6, none⟩ = some (.int .i64 a.f.r) := (HA.out.ch HC3.out (not_nil _)).cell 6; have g7 : w3.cell? ⟨w.heap.size, 7, none⟩ = some (.slice p1 a.l.length c1) := (HA.out.ch HC3.out (not_nil _)).cell 7; have g8 : w3.cell? ⟨w.heap.size, 8, none⟩ = some (.string a.s) := (HA.out.ch HC3.out (not_nil _)).cell 8; have g9 : w3.cell? ⟨w.heap.size, 9, none⟩ = some (.int .i64 a.lv) := (HA.out.ch HC3.out (not_nil _)).cell 9; have g10 : w3.cell? ⟨w.heap.size, 10, none⟩ = some (.int .i64 a.nx) := (HA.out.ch HC3.out (not_nil _)).cell 10; have g11 : w3.cell? ⟨w.heap.size, 11, none⟩ = some (.slice p2 a.kp.length c2) := (HA.out.ch HC3.out (not_nil _)).cell 11; have gl := (HA.out.ch HC3.out (not_nil _)).lt) | (go_at_call 37; (with_reducible refine (QV3.out _ HC3.out).mono ?_); rintro e w4 ⟨rfl, hc⟩; have HC4 := Lib.hid hc; clear hc; have m0 : w4.cell? ⟨w.heap.size, 0, none⟩ = some (.int .i64 a.k) := (HA.out.ch HC4.out (not_nil _)).cell 0; have m1 : w4.cell? ⟨w.heap.size, 1, none⟩ = some (.int .i64 a.op) := (HA.out.ch HC4.out (not_nil _)).cell 1; have m2 : w4.cell? ⟨w.heap.size, 2, none⟩ = some (.int .i64 a.f.k) := (HA.out.ch HC4.out (not_nil _)).cell 2; have m3 : w4.cell? ⟨w.heap.size, 3, none⟩ = some (.int .i64 a.f.p) := (HA.out.ch HC4.out (not_nil _)).cell 3; have m4 : w4.cell? ⟨w.heap.size, 4, none⟩ = some (.int .i64 a.f.q) := (HA.out.ch HC4.out (not_nil _)).cell 4; have m5 : w4.cell? ⟨w.heap.size, 5, none⟩ = some (.string a.f.s) := (HA.out.ch HC4.out (not_nil _)).cell 5; have m6 : w4.cell? ⟨w.heap.size, 6, none⟩ = some (.int .i64 a.f.r) := (HA.out.ch HC4.out (not_nil _)).cell 6; have m7 : w4.cell? ⟨w.heap.size, 7, none⟩ = some (.slice p1 a.l.length c1) := (HA.out.ch HC4.out (not_nil _)).cell 7; have m8 : w4.cell? ⟨w.heap.size, 8, none⟩ = some (.string a.s) := (HA.out.ch HC4.out (not_nil _)).cell 8; have m9 : w4.cell? ⟨w.heap.size, 9, none⟩ = some (.int .i64 a.lv) := (HA.out.ch HC4.out (not_nil _)).cell 9; have m10 : w4.cell? ⟨w.heap.size, 10, none⟩ = some (.int .i64 a.nx) := (HA.out.ch HC4.out (not_nil _)).cell 10; have m11 : w4.cell? ⟨w.heap.size, 11, none⟩ = some (.slice p2 a.kp.length c2) := (HA.out.ch HC4.out (not_nil _)).cell 11; have ml := (HA.out.ch HC4.out (not_nil _)).lt))
  go_ret
  exact ⟨rfl, HC0.out.trans HC4.out⟩
set_option maxHeartbeats 4000000 in
theorem ck_g (a : Act) (p1 p2 : Option Addr) (c1 c2 : Nat) (w : World) (h1 : VA w (.slice p1 a.l.length c1) a.l) (h2 : VA w (.slice p2 a.kp.length c2) a.kp) (n1 : a.l.length ≤ 1000000) (n2 : a.kp.length ≤ 1000000) (hf : formB a = true) (m1 : ¬ 200 < a.l.length) (m2 : ¬ 32 < a.kp.length) (hv1 : okV a.f = true) (hv2 : a.l.all okV = true) (hv3 : a.kp.all okV = true) (hs : 65536 < a.s.size) :
    Calls Try.prog 24 #[.agg #[.int .i64 a.k, .int .i64 a.op, .int .i64 a.f.k, .int .i64 a.f.p, .int .i64 a.f.q, .string a.f.s, .int .i64 a.f.r, .slice p1 a.l.length c1, .string a.s, .int .i64 a.lv, .int .i64 a.nx, .slice p2 a.kp.length c2]] w fun e w' => e = .returned (.int .i64 14) ∧ Ch [] w w' := by
  obtain ⟨w0, hw0⟩ : ∃ w0, w0 = w.alloc (.cells #[.int .i64 a.k, .int .i64 a.op, .int .i64 a.f.k, .int .i64 a.f.p, .int .i64 a.f.q, .string a.f.s, .int .i64 a.f.r, .slice p1 a.l.length c1, .string a.s, .int .i64 a.lv, .int .i64 a.nx, .slice p2 a.kp.length c2] 31) := ⟨_, rfl⟩
  have HC0 : Hid (Ch [] w w0) := Lib.hid (by rw [hw0]; exact (Ch.refl [] w).alloc _)
  have HA : Hid (Blk 31 w.heap.size #[.int .i64 a.k, .int .i64 a.op, .int .i64 a.f.k, .int .i64 a.f.p, .int .i64 a.f.q, .string a.f.s, .int .i64 a.f.r, .slice p1 a.l.length c1, .string a.s, .int .i64 a.lv, .int .i64 a.nx, .slice p2 a.kp.length c2] w0) := Lib.hid (by rw [hw0]; exact Blk.new w _ _ _ rfl)
  have QF : Hid (Calls Try.prog 36 #[.agg #[.int .i64 a.k, .int .i64 a.op, .int .i64 a.f.k, .int .i64 a.f.p, .int .i64 a.f.q, .string a.f.s, .int .i64 a.f.r, .slice p1 a.l.length c1, .string a.s, .int .i64 a.lv, .int .i64 a.nx, .slice p2 a.kp.length c2]] w0 fun e w' => e = .returned (.bool true) ∧ Ch [] w0 w') := Lib.hid (by rw [← hf]; exact hasForm_any a _ _ w0 (h1.below HC0.out) (h2.below HC0.out) n1 n2)
  have QV1 : Hid (∀ W W', Ch [] w0 W → W' = W.alloc (.cells #[.int .i64 a.f.k, .int .i64 a.f.p, .int .i64 a.f.q, .string a.f.s, .int .i64 a.f.r] 26) → Calls Try.prog 37 #[.slice (some ⟨W.heap.size, 0, none⟩) 1 1] W' fun e w' => e = .returned (.bool true) ∧ Ch [] w0 w') := Lib.hid fun W W' hW hW' => by
    subst hW'
    refine (pvalid_any _ [a.f] _ (VA.one a.f W) (by simp)).mono ?_
    rintro e w' ⟨rfl, hc⟩
    exact ⟨by simp [hv1], (hW.alloc _).trans hc⟩
  have QV2 : Hid (∀ W, Ch [] w0 W → Calls Try.prog 37 #[.slice p1 a.l.length c1] W fun e w' => e = .returned (.bool true) ∧ Ch [] w0 w') := Lib.hid fun W hW => by
    refine (pvalid_any _ a.l _ (h1.below (HC0.out.trans hW)) n1).mono ?_
    rintro e w' ⟨rfl, hc⟩
    exact ⟨by rw [hv2], hW.trans hc⟩
  have QV3 : Hid (∀ W, Ch [] w0 W → Calls Try.prog 37 #[.slice p2 a.kp.length c2] W fun e w' => e = .returned (.bool true) ∧ Ch [] w0 w') := Lib.hid fun W hW => by
    refine (pvalid_any _ a.kp _ (h2.below (HC0.out.trans hW)) n2).mono ?_
    rintro e w' ⟨rfl, hc⟩
    exact ⟨by rw [hv3], hW.trans hc⟩
  have i1 : ¬ (200 : Int) < (a.l.length : Int) := by omega
  have i2 : ¬ (32 : Int) < (a.kp.length : Int) := by omega
  have i3 : (65536 : Int) < (a.s.size : Int) := by omega
  have HW := Lib.hid hw0
  clear hw0 h1 h2 n1 n2 hf hv1 hv2 hv3
  go_enter Try.func24, Try.ntmps24
  go_upto_region 1 with fail
  rw [← HW.out]
  have a0 : w0.cell? ⟨w.heap.size, 0, none⟩ = some (.int .i64 a.k) := HA.out.cell 0
  have a1 : w0.cell? ⟨w.heap.size, 1, none⟩ = some (.int .i64 a.op) := HA.out.cell 1
  have a2 : w0.cell? ⟨w.heap.size, 2, none⟩ = some (.int .i64 a.f.k) := HA.out.cell 2
  have a3 : w0.cell? ⟨w.heap.size, 3, none⟩ = some (.int .i64 a.f.p) := HA.out.cell 3
  have a4 : w0.cell? ⟨w.heap.size, 4, none⟩ = some (.int .i64 a.f.q) := HA.out.cell 4
  have a5 : w0.cell? ⟨w.heap.size, 5, none⟩ = some (.string a.f.s) := HA.out.cell 5
  have a6 : w0.cell? ⟨w.heap.size, 6, none⟩ = some (.int .i64 a.f.r) := HA.out.cell 6
  have a7 : w0.cell? ⟨w.heap.size, 7, none⟩ = some (.slice p1 a.l.length c1) := HA.out.cell 7
  have a8 : w0.cell? ⟨w.heap.size, 8, none⟩ = some (.string a.s) := HA.out.cell 8
  have a9 : w0.cell? ⟨w.heap.size, 9, none⟩ = some (.int .i64 a.lv) := HA.out.cell 9
  have a10 : w0.cell? ⟨w.heap.size, 10, none⟩ = some (.int .i64 a.nx) := HA.out.cell 10
  have a11 : w0.cell? ⟨w.heap.size, 11, none⟩ = some (.slice p2 a.kp.length c2) := HA.out.cell 11
  have la := HA.out.lt
  go_wp2_with (first | (go_at_call 36; (with_reducible refine (QF.out).mono ?_); rintro e w1 ⟨rfl, hc⟩; have HC1 := Lib.hid hc; clear hc; have b0 : w1.cell? ⟨w.heap.size, 0, none⟩ = some (.int .i64 a.k) := (HA.out.ch HC1.out (not_nil _)).cell 0; have b1 : w1.cell? ⟨w.heap.size, 1, none⟩ = some (.int .i64 a.op) := (HA.out.ch HC1.out (not_nil _)).cell 1; have b2 : w1.cell? ⟨w.heap.size, 2, none⟩ = some (.int .i64 a.f.k) := (HA.out.ch HC1.out (not_nil _)).cell 2; have b3 : w1.cell? ⟨w.heap.size, 3, none⟩ = some (.int .i64 a.f.p) := (HA.out.ch HC1.out (not_nil _)).cell 3; have b4 : w1.cell? ⟨w.heap.size, 4, none⟩ = some (.int .i64 a.f.q) := (HA.out.ch HC1.out (not_nil _)).cell 4; have b5 : w1.cell? ⟨w.heap.size, 5, none⟩ = some (.string a.f.s) := (HA.out.ch HC1.out (not_nil _)).cell 5; have b6 : w1.cell? ⟨w.heap.size, 6, none⟩ = some (.int .i64 a.f.r) := (HA.out.ch HC1.out (not_nil _)).cell 6; have b7 : w1.cell? ⟨w.heap.size, 7, none⟩ = some (.slice p1 a.l.length c1) := (HA.out.ch HC1.out (not_nil _)).cell 7; have b8 : w1.cell? ⟨w.heap.size, 8, none⟩ = some (.string a.s) := (HA.out.ch HC1.out (not_nil _)).cell 8; have b9 : w1.cell? ⟨w.heap.size, 9, none⟩ = some (.int .i64 a.lv) := (HA.out.ch HC1.out (not_nil _)).cell 9; have b10 : w1.cell? ⟨w.heap.size, 10, none⟩ = some (.int .i64 a.nx) := (HA.out.ch HC1.out (not_nil _)).cell 10; have b11 : w1.cell? ⟨w.heap.size, 11, none⟩ = some (.slice p2 a.kp.length c2) := (HA.out.ch HC1.out (not_nil _)).cell 11; have bl := (HA.out.ch HC1.out (not_nil _)).lt) | (go_at_call 37; (with_reducible refine (QV1.out _ _ HC1.out rfl).mono ?_); rintro e w2 ⟨rfl, hc⟩; have HC2 := Lib.hid hc; clear hc; have d0 : w2.cell? ⟨w.heap.size, 0, none⟩ = some (.int .i64 a.k) := (HA.out.ch HC2.out (not_nil _)).cell 0; have d1 : w2.cell? ⟨w.heap.size, 1, none⟩ = some (.int .i64 a.op) := (HA.out.ch HC2.out (not_nil _)).cell 1; have d2 : w2.cell? ⟨w.heap.size, 2, none⟩ = some (.int .i64 a.f.k) := (HA.out.ch HC2.out (not_nil _)).cell 2; have d3 : w2.cell? ⟨w.heap.size, 3, none⟩ = some (.int .i64 a.f.p) := (HA.out.ch HC2.out (not_nil _)).cell 3; have d4 : w2.cell? ⟨w.heap.size, 4, none⟩ = some (.int .i64 a.f.q) := (HA.out.ch HC2.out (not_nil _)).cell 4; have d5 : w2.cell? ⟨w.heap.size, 5, none⟩ = some (.string a.f.s) := (HA.out.ch HC2.out (not_nil _)).cell 5; have d6 : w2.cell? ⟨w.heap.size, 6, none⟩ = some (.int .i64 a.f.r) := (HA.out.ch HC2.out (not_nil _)).cell 6; have d7 : w2.cell? ⟨w.heap.size, 7, none⟩ = some (.slice p1 a.l.length c1) := (HA.out.ch HC2.out (not_nil _)).cell 7; have d8 : w2.cell? ⟨w.heap.size, 8, none⟩ = some (.string a.s) := (HA.out.ch HC2.out (not_nil _)).cell 8; have d9 : w2.cell? ⟨w.heap.size, 9, none⟩ = some (.int .i64 a.lv) := (HA.out.ch HC2.out (not_nil _)).cell 9; have d10 : w2.cell? ⟨w.heap.size, 10, none⟩ = some (.int .i64 a.nx) := (HA.out.ch HC2.out (not_nil _)).cell 10; have d11 : w2.cell? ⟨w.heap.size, 11, none⟩ = some (.slice p2 a.kp.length c2) := (HA.out.ch HC2.out (not_nil _)).cell 11; have dl := (HA.out.ch HC2.out (not_nil _)).lt) | (go_at_call 37; (with_reducible refine (QV2.out _ HC2.out).mono ?_); rintro e w3 ⟨rfl, hc⟩; have HC3 := Lib.hid hc; clear hc; have g0 : w3.cell? ⟨w.heap.size, 0, none⟩ = some (.int .i64 a.k) := (HA.out.ch HC3.out (not_nil _)).cell 0; have g1 : w3.cell? ⟨w.heap.size, 1, none⟩ = some (.int .i64 a.op) := (HA.out.ch HC3.out (not_nil _)).cell 1; have g2 : w3.cell? ⟨w.heap.size, 2, none⟩ = some (.int .i64 a.f.k) := (HA.out.ch HC3.out (not_nil _)).cell 2; have g3 : w3.cell? ⟨w.heap.size, 3, none⟩ = some (.int .i64 a.f.p) := (HA.out.ch HC3.out (not_nil _)).cell 3; have g4 : w3.cell? ⟨w.heap.size, 4, none⟩ = some (.int .i64 a.f.q) := (HA.out.ch HC3.out (not_nil _)).cell 4; have g5 : w3.cell? ⟨w.heap.size, 5, none⟩ = some (.string a.f.s) := (HA.out.ch HC3.out (not_nil _)).cell 5; have g6 : w3.cell? ⟨w.heap.size, 6, none⟩ = some (.int .i64 a.f.r) := (HA.out.ch HC3.out (not_nil _)).cell 6; have g7 : w3.cell? ⟨w.heap.size, 7, none⟩ = some (.slice p1 a.l.length c1) := (HA.out.ch HC3.out (not_nil _)).cell 7; have g8 : w3.cell? ⟨w.heap.size, 8, none⟩ = some (.string a.s) := (HA.out.ch HC3.out (not_nil _)).cell 8; have g9 : w3.cell? ⟨w.heap.size, 9, none⟩ = some (.int .i64 a.lv) := (HA.out.ch HC3.out (not_nil _)).cell 9; have g10 : w3.cell? ⟨w.heap.size, 10, none⟩ = some (.int .i64 a.nx) := (HA.out.ch HC3.out (not_nil _)).cell 10; have g11 : w3.cell? ⟨w.heap.size, 11, none⟩ = some (.slice p2 a.kp.length c2) := (HA.out.ch HC3.out (not_nil _)).cell 11; have gl := (HA.out.ch HC3.out (not_nil _)).lt) | (go_at_call 37; (with_reducible refine (QV3.out _ HC3.out).mono ?_); rintro e w4 ⟨rfl, hc⟩; have HC4 := Lib.hid hc; clear hc; have m0 : w4.cell? ⟨w.heap.size, 0, none⟩ = some (.int .i64 a.k) := (HA.out.ch HC4.out (not_nil _)).cell 0; have m1 : w4.cell? ⟨w.heap.size, 1, none⟩ = some (.int .i64 a.op) := (HA.out.ch HC4.out (not_nil _)).cell 1; have m2 : w4.cell? ⟨w.heap.size, 2, none⟩ = some (.int .i64 a.f.k) := (HA.out.ch HC4.out (not_nil _)).cell 2; have m3 : w4.cell? ⟨w.heap.size, 3, none⟩ = some (.int .i64 a.f.p) := (HA.out.ch HC4.out (not_nil _)).cell 3; have m4 : w4.cell? ⟨w.heap.size, 4, none⟩ = some (.int .i64 a.f.q) := (HA.out.ch HC4.out (not_nil _)).cell 4; have m5 : w4.cell? ⟨w.heap.size, 5, none⟩ = some (.string a.f.s) := (HA.out.ch HC4.out (not_nil _)).cell 5; have m6 : w4.cell? ⟨w.heap.size, 6, none⟩ = some (.int .i64 a.f.r) := (HA.out.ch HC4.out (not_nil _)).cell 6; have m7 : w4.cell? ⟨w.heap.size, 7, none⟩ = some (.slice p1 a.l.length c1) := (HA.out.ch HC4.out (not_nil _)).cell 7; have m8 : w4.cell? ⟨w.heap.size, 8, none⟩ = some (.string a.s) := (HA.out.ch HC4.out (not_nil _)).cell 8; have m9 : w4.cell? ⟨w.heap.size, 9, none⟩ = some (.int .i64 a.lv) := (HA.out.ch HC4.out (not_nil _)).cell 9; have m10 : w4.cell? ⟨w.heap.size, 10, none⟩ = some (.int .i64 a.nx) := (HA.out.ch HC4.out (not_nil _)).cell 10; have m11 : w4.cell? ⟨w.heap.size, 11, none⟩ = some (.slice p2 a.kp.length c2) := (HA.out.ch HC4.out (not_nil _)).cell 11; have ml := (HA.out.ch HC4.out (not_nil _)).lt))
  go_ret
  exact ⟨rfl, HC0.out.trans HC4.out⟩
set_option maxHeartbeats 4000000 in
theorem ck_h (a : Act) (p1 p2 : Option Addr) (c1 c2 : Nat) (w : World) (h1 : VA w (.slice p1 a.l.length c1) a.l) (h2 : VA w (.slice p2 a.kp.length c2) a.kp) (n1 : a.l.length ≤ 1000000) (n2 : a.kp.length ≤ 1000000) (hf : formB a = true) (m1 : ¬ 200 < a.l.length) (m2 : ¬ 32 < a.kp.length) (hv1 : okV a.f = true) (hv2 : a.l.all okV = true) (hv3 : a.kp.all okV = true) (hs : ¬ 65536 < a.s.size) :
    Calls Try.prog 24 #[.agg #[.int .i64 a.k, .int .i64 a.op, .int .i64 a.f.k, .int .i64 a.f.p, .int .i64 a.f.q, .string a.f.s, .int .i64 a.f.r, .slice p1 a.l.length c1, .string a.s, .int .i64 a.lv, .int .i64 a.nx, .slice p2 a.kp.length c2]] w fun e w' => e = .returned (.int .i64 0) ∧ Ch [] w w' := by
  obtain ⟨w0, hw0⟩ : ∃ w0, w0 = w.alloc (.cells #[.int .i64 a.k, .int .i64 a.op, .int .i64 a.f.k, .int .i64 a.f.p, .int .i64 a.f.q, .string a.f.s, .int .i64 a.f.r, .slice p1 a.l.length c1, .string a.s, .int .i64 a.lv, .int .i64 a.nx, .slice p2 a.kp.length c2] 31) := ⟨_, rfl⟩
  have HC0 : Hid (Ch [] w w0) := Lib.hid (by rw [hw0]; exact (Ch.refl [] w).alloc _)
  have HA : Hid (Blk 31 w.heap.size #[.int .i64 a.k, .int .i64 a.op, .int .i64 a.f.k, .int .i64 a.f.p, .int .i64 a.f.q, .string a.f.s, .int .i64 a.f.r, .slice p1 a.l.length c1, .string a.s, .int .i64 a.lv, .int .i64 a.nx, .slice p2 a.kp.length c2] w0) := Lib.hid (by rw [hw0]; exact Blk.new w _ _ _ rfl)
  have QF : Hid (Calls Try.prog 36 #[.agg #[.int .i64 a.k, .int .i64 a.op, .int .i64 a.f.k, .int .i64 a.f.p, .int .i64 a.f.q, .string a.f.s, .int .i64 a.f.r, .slice p1 a.l.length c1, .string a.s, .int .i64 a.lv, .int .i64 a.nx, .slice p2 a.kp.length c2]] w0 fun e w' => e = .returned (.bool true) ∧ Ch [] w0 w') := Lib.hid (by rw [← hf]; exact hasForm_any a _ _ w0 (h1.below HC0.out) (h2.below HC0.out) n1 n2)
  have QV1 : Hid (∀ W W', Ch [] w0 W → W' = W.alloc (.cells #[.int .i64 a.f.k, .int .i64 a.f.p, .int .i64 a.f.q, .string a.f.s, .int .i64 a.f.r] 26) → Calls Try.prog 37 #[.slice (some ⟨W.heap.size, 0, none⟩) 1 1] W' fun e w' => e = .returned (.bool true) ∧ Ch [] w0 w') := Lib.hid fun W W' hW hW' => by
    subst hW'
    refine (pvalid_any _ [a.f] _ (VA.one a.f W) (by simp)).mono ?_
    rintro e w' ⟨rfl, hc⟩
    exact ⟨by simp [hv1], (hW.alloc _).trans hc⟩
  have QV2 : Hid (∀ W, Ch [] w0 W → Calls Try.prog 37 #[.slice p1 a.l.length c1] W fun e w' => e = .returned (.bool true) ∧ Ch [] w0 w') := Lib.hid fun W hW => by
    refine (pvalid_any _ a.l _ (h1.below (HC0.out.trans hW)) n1).mono ?_
    rintro e w' ⟨rfl, hc⟩
    exact ⟨by rw [hv2], hW.trans hc⟩
  have QV3 : Hid (∀ W, Ch [] w0 W → Calls Try.prog 37 #[.slice p2 a.kp.length c2] W fun e w' => e = .returned (.bool true) ∧ Ch [] w0 w') := Lib.hid fun W hW => by
    refine (pvalid_any _ a.kp _ (h2.below (HC0.out.trans hW)) n2).mono ?_
    rintro e w' ⟨rfl, hc⟩
    exact ⟨by rw [hv3], hW.trans hc⟩
  have i1 : ¬ (200 : Int) < (a.l.length : Int) := by omega
  have i2 : ¬ (32 : Int) < (a.kp.length : Int) := by omega
  have i3 : ¬ (65536 : Int) < (a.s.size : Int) := by omega
  have HW := Lib.hid hw0
  clear hw0 h1 h2 n1 n2 hf hv1 hv2 hv3
  go_enter Try.func24, Try.ntmps24
  go_upto_region 1 with fail
  rw [← HW.out]
  have a0 : w0.cell? ⟨w.heap.size, 0, none⟩ = some (.int .i64 a.k) := HA.out.cell 0
  have a1 : w0.cell? ⟨w.heap.size, 1, none⟩ = some (.int .i64 a.op) := HA.out.cell 1
  have a2 : w0.cell? ⟨w.heap.size, 2, none⟩ = some (.int .i64 a.f.k) := HA.out.cell 2
  have a3 : w0.cell? ⟨w.heap.size, 3, none⟩ = some (.int .i64 a.f.p) := HA.out.cell 3
  have a4 : w0.cell? ⟨w.heap.size, 4, none⟩ = some (.int .i64 a.f.q) := HA.out.cell 4
  have a5 : w0.cell? ⟨w.heap.size, 5, none⟩ = some (.string a.f.s) := HA.out.cell 5
  have a6 : w0.cell? ⟨w.heap.size, 6, none⟩ = some (.int .i64 a.f.r) := HA.out.cell 6
  have a7 : w0.cell? ⟨w.heap.size, 7, none⟩ = some (.slice p1 a.l.length c1) := HA.out.cell 7
  have a8 : w0.cell? ⟨w.heap.size, 8, none⟩ = some (.string a.s) := HA.out.cell 8
  have a9 : w0.cell? ⟨w.heap.size, 9, none⟩ = some (.int .i64 a.lv) := HA.out.cell 9
  have a10 : w0.cell? ⟨w.heap.size, 10, none⟩ = some (.int .i64 a.nx) := HA.out.cell 10
  have a11 : w0.cell? ⟨w.heap.size, 11, none⟩ = some (.slice p2 a.kp.length c2) := HA.out.cell 11
  have la := HA.out.lt
  go_wp2_with (first | (go_at_call 36; (with_reducible refine (QF.out).mono ?_); rintro e w1 ⟨rfl, hc⟩; have HC1 := Lib.hid hc; clear hc; have b0 : w1.cell? ⟨w.heap.size, 0, none⟩ = some (.int .i64 a.k) := (HA.out.ch HC1.out (not_nil _)).cell 0; have b1 : w1.cell? ⟨w.heap.size, 1, none⟩ = some (.int .i64 a.op) := (HA.out.ch HC1.out (not_nil _)).cell 1; have b2 : w1.cell? ⟨w.heap.size, 2, none⟩ = some (.int .i64 a.f.k) := (HA.out.ch HC1.out (not_nil _)).cell 2; have b3 : w1.cell? ⟨w.heap.size, 3, none⟩ = some (.int .i64 a.f.p) := (HA.out.ch HC1.out (not_nil _)).cell 3; have b4 : w1.cell? ⟨w.heap.size, 4, none⟩ = some (.int .i64 a.f.q) := (HA.out.ch HC1.out (not_nil _)).cell 4; have b5 : w1.cell? ⟨w.heap.size, 5, none⟩ = some (.string a.f.s) := (HA.out.ch HC1.out (not_nil _)).cell 5; have b6 : w1.cell? ⟨w.heap.size, 6, none⟩ = some (.int .i64 a.f.r) := (HA.out.ch HC1.out (not_nil _)).cell 6; have b7 : w1.cell? ⟨w.heap.size, 7, none⟩ = some (.slice p1 a.l.length c1) := (HA.out.ch HC1.out (not_nil _)).cell 7; have b8 : w1.cell? ⟨w.heap.size, 8, none⟩ = some (.string a.s) := (HA.out.ch HC1.out (not_nil _)).cell 8; have b9 : w1.cell? ⟨w.heap.size, 9, none⟩ = some (.int .i64 a.lv) := (HA.out.ch HC1.out (not_nil _)).cell 9; have b10 : w1.cell? ⟨w.heap.size, 10, none⟩ = some (.int .i64 a.nx) := (HA.out.ch HC1.out (not_nil _)).cell 10; have b11 : w1.cell? ⟨w.heap.size, 11, none⟩ = some (.slice p2 a.kp.length c2) := (HA.out.ch HC1.out (not_nil _)).cell 11; have bl := (HA.out.ch HC1.out (not_nil _)).lt) | (go_at_call 37; (with_reducible refine (QV1.out _ _ HC1.out rfl).mono ?_); rintro e w2 ⟨rfl, hc⟩; have HC2 := Lib.hid hc; clear hc; have d0 : w2.cell? ⟨w.heap.size, 0, none⟩ = some (.int .i64 a.k) := (HA.out.ch HC2.out (not_nil _)).cell 0; have d1 : w2.cell? ⟨w.heap.size, 1, none⟩ = some (.int .i64 a.op) := (HA.out.ch HC2.out (not_nil _)).cell 1; have d2 : w2.cell? ⟨w.heap.size, 2, none⟩ = some (.int .i64 a.f.k) := (HA.out.ch HC2.out (not_nil _)).cell 2; have d3 : w2.cell? ⟨w.heap.size, 3, none⟩ = some (.int .i64 a.f.p) := (HA.out.ch HC2.out (not_nil _)).cell 3; have d4 : w2.cell? ⟨w.heap.size, 4, none⟩ = some (.int .i64 a.f.q) := (HA.out.ch HC2.out (not_nil _)).cell 4; have d5 : w2.cell? ⟨w.heap.size, 5, none⟩ = some (.string a.f.s) := (HA.out.ch HC2.out (not_nil _)).cell 5; have d6 : w2.cell? ⟨w.heap.size, 6, none⟩ = some (.int .i64 a.f.r) := (HA.out.ch HC2.out (not_nil _)).cell 6; have d7 : w2.cell? ⟨w.heap.size, 7, none⟩ = some (.slice p1 a.l.length c1) := (HA.out.ch HC2.out (not_nil _)).cell 7; have d8 : w2.cell? ⟨w.heap.size, 8, none⟩ = some (.string a.s) := (HA.out.ch HC2.out (not_nil _)).cell 8; have d9 : w2.cell? ⟨w.heap.size, 9, none⟩ = some (.int .i64 a.lv) := (HA.out.ch HC2.out (not_nil _)).cell 9; have d10 : w2.cell? ⟨w.heap.size, 10, none⟩ = some (.int .i64 a.nx) := (HA.out.ch HC2.out (not_nil _)).cell 10; have d11 : w2.cell? ⟨w.heap.size, 11, none⟩ = some (.slice p2 a.kp.length c2) := (HA.out.ch HC2.out (not_nil _)).cell 11; have dl := (HA.out.ch HC2.out (not_nil _)).lt) | (go_at_call 37; (with_reducible refine (QV2.out _ HC2.out).mono ?_); rintro e w3 ⟨rfl, hc⟩; have HC3 := Lib.hid hc; clear hc; have g0 : w3.cell? ⟨w.heap.size, 0, none⟩ = some (.int .i64 a.k) := (HA.out.ch HC3.out (not_nil _)).cell 0; have g1 : w3.cell? ⟨w.heap.size, 1, none⟩ = some (.int .i64 a.op) := (HA.out.ch HC3.out (not_nil _)).cell 1; have g2 : w3.cell? ⟨w.heap.size, 2, none⟩ = some (.int .i64 a.f.k) := (HA.out.ch HC3.out (not_nil _)).cell 2; have g3 : w3.cell? ⟨w.heap.size, 3, none⟩ = some (.int .i64 a.f.p) := (HA.out.ch HC3.out (not_nil _)).cell 3; have g4 : w3.cell? ⟨w.heap.size, 4, none⟩ = some (.int .i64 a.f.q) := (HA.out.ch HC3.out (not_nil _)).cell 4; have g5 : w3.cell? ⟨w.heap.size, 5, none⟩ = some (.string a.f.s) := (HA.out.ch HC3.out (not_nil _)).cell 5; have g6 : w3.cell? ⟨w.heap.size, 6, none⟩ = some (.int .i64 a.f.r) := (HA.out.ch HC3.out (not_nil _)).cell 6; have g7 : w3.cell? ⟨w.heap.size, 7, none⟩ = some (.slice p1 a.l.length c1) := (HA.out.ch HC3.out (not_nil _)).cell 7; have g8 : w3.cell? ⟨w.heap.size, 8, none⟩ = some (.string a.s) := (HA.out.ch HC3.out (not_nil _)).cell 8; have g9 : w3.cell? ⟨w.heap.size, 9, none⟩ = some (.int .i64 a.lv) := (HA.out.ch HC3.out (not_nil _)).cell 9; have g10 : w3.cell? ⟨w.heap.size, 10, none⟩ = some (.int .i64 a.nx) := (HA.out.ch HC3.out (not_nil _)).cell 10; have g11 : w3.cell? ⟨w.heap.size, 11, none⟩ = some (.slice p2 a.kp.length c2) := (HA.out.ch HC3.out (not_nil _)).cell 11; have gl := (HA.out.ch HC3.out (not_nil _)).lt) | (go_at_call 37; (with_reducible refine (QV3.out _ HC3.out).mono ?_); rintro e w4 ⟨rfl, hc⟩; have HC4 := Lib.hid hc; clear hc; have m0 : w4.cell? ⟨w.heap.size, 0, none⟩ = some (.int .i64 a.k) := (HA.out.ch HC4.out (not_nil _)).cell 0; have m1 : w4.cell? ⟨w.heap.size, 1, none⟩ = some (.int .i64 a.op) := (HA.out.ch HC4.out (not_nil _)).cell 1; have m2 : w4.cell? ⟨w.heap.size, 2, none⟩ = some (.int .i64 a.f.k) := (HA.out.ch HC4.out (not_nil _)).cell 2; have m3 : w4.cell? ⟨w.heap.size, 3, none⟩ = some (.int .i64 a.f.p) := (HA.out.ch HC4.out (not_nil _)).cell 3; have m4 : w4.cell? ⟨w.heap.size, 4, none⟩ = some (.int .i64 a.f.q) := (HA.out.ch HC4.out (not_nil _)).cell 4; have m5 : w4.cell? ⟨w.heap.size, 5, none⟩ = some (.string a.f.s) := (HA.out.ch HC4.out (not_nil _)).cell 5; have m6 : w4.cell? ⟨w.heap.size, 6, none⟩ = some (.int .i64 a.f.r) := (HA.out.ch HC4.out (not_nil _)).cell 6; have m7 : w4.cell? ⟨w.heap.size, 7, none⟩ = some (.slice p1 a.l.length c1) := (HA.out.ch HC4.out (not_nil _)).cell 7; have m8 : w4.cell? ⟨w.heap.size, 8, none⟩ = some (.string a.s) := (HA.out.ch HC4.out (not_nil _)).cell 8; have m9 : w4.cell? ⟨w.heap.size, 9, none⟩ = some (.int .i64 a.lv) := (HA.out.ch HC4.out (not_nil _)).cell 9; have m10 : w4.cell? ⟨w.heap.size, 10, none⟩ = some (.int .i64 a.nx) := (HA.out.ch HC4.out (not_nil _)).cell 10; have m11 : w4.cell? ⟨w.heap.size, 11, none⟩ = some (.slice p2 a.kp.length c2) := (HA.out.ch HC4.out (not_nil _)).cell 11; have ml := (HA.out.ch HC4.out (not_nil _)).lt))
  go_ret
  exact ⟨rfl, HC0.out.trans HC4.out⟩
theorem check_any (va : Value) (a : Act) (w : World) (h : AA w va a) (n1 : a.l.length ≤ 1000000) (n2 : a.kp.length ≤ 1000000) :
    Calls Try.prog 24 #[va] w fun e w' => e = .returned (.int .i64 (checkE a)) ∧ Ch [] w w' := by
  obtain ⟨vl, vk, rfl, h1, h2⟩ := h
  have H1 := h1
  have H2 := h2
  obtain ⟨p1, c1, rfl, _, _⟩ := h1
  obtain ⟨p2, c2, rfl, _, _⟩ := h2
  unfold checkE
  cases hf : formB a with
  | false => rw [if_pos rfl]; exact ck_a a p1 p2 c1 c2 w H1 H2 n1 n2 hf
  | true =>
    rw [if_neg (by simp)]
    by_cases m1 : 200 < a.l.length
    · rw [if_pos m1]; exact ck_b a p1 p2 c1 c2 w H1 H2 n1 n2 hf m1
    rw [if_neg m1]
    by_cases m2 : 32 < a.kp.length
    · rw [if_pos m2]; exact ck_c a p1 p2 c1 c2 w H1 H2 n1 n2 hf m1 m2
    rw [if_neg m2]
    cases hv1 : okV a.f with
    | false => rw [if_pos rfl]; exact ck_d a p1 p2 c1 c2 w H1 H2 n1 n2 hf m1 m2 hv1
    | true =>
      rw [if_neg (by simp)]
      cases hv2 : a.l.all okV with
      | false => rw [if_pos rfl]; exact ck_e a p1 p2 c1 c2 w H1 H2 n1 n2 hf m1 m2 hv1 hv2
      | true =>
        rw [if_neg (by simp)]
        cases hv3 : a.kp.all okV with
        | false => rw [if_pos rfl]; exact ck_f a p1 p2 c1 c2 w H1 H2 n1 n2 hf m1 m2 hv1 hv2 hv3
        | true =>
          rw [if_neg (by simp)]
          by_cases hs : 65536 < a.s.size
          · rw [if_pos hs]; exact ck_g a p1 p2 c1 c2 w H1 H2 n1 n2 hf m1 m2 hv1 hv2 hv3 hs
          · rw [if_neg hs]; exact ck_h a p1 p2 c1 c2 w H1 H2 n1 n2 hf m1 m2 hv1 hv2 hv3 hs
end Go.Proofs.Ytdgdpckjcpgoaaa
