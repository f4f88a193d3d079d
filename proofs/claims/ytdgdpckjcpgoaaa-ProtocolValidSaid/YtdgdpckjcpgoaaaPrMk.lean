/- Layer 20: the reference's Check. -/
import Derived.Test.YtdgdpckjcpgoaaaPrM
namespace Go.Proofs.Ytdgdpckjcpgoaaa
open Go.RowKit Go.Joins M1
set_option linter.unusedVariables false
set_option maxHeartbeats 8000000 in
set_option maxRecDepth 20000 in
theorem rck_b (k : Int) (op : Int) (f : V5) (l : List V5) (s : ByteArray) (lv nx : Int) (kp : List V5) (p1 p2 : Option Addr) (c1 c2 : Nat) (w : World) (h1 : VA w (.slice p1 l.length c1) l) (h2 : VA w (.slice p2 kp.length c2) kp) (n1 : l.length ≤ 1000000) (n2 : kp.length ≤ 1000000) (hfl : decide (clrA ⟨k, op, f, l, s, lv, nx, kp⟩ = zA) = true) (hk1 : 1 ≤ k) (hk2 : k ≤ 9) (h2' : ¬ k = 2) (h6' : ¬ k = 6) (q1 : ¬ lv < 0) (q2 : ¬ 255 < lv) (q3 : ¬ nx < 0) (q4 : ¬ 255 < nx) (m1 : 200 < l.length) :
    Calls Try.prog 25 #[.agg #[.int .i64 k, .int .i64 op, .int .i64 f.k, .int .i64 f.p, .int .i64 f.q, .string f.s, .int .i64 f.r, .slice p1 l.length c1, .string s, .int .i64 lv, .int .i64 nx, .slice p2 kp.length c2]] w fun e w' => e = .returned (.int .i64 3) ∧ Ch [] w w' := by
  obtain ⟨w0, hw0⟩ : ∃ w0, w0 = w.alloc (.cells #[.int .i64 k, .int .i64 op, .int .i64 f.k, .int .i64 f.p, .int .i64 f.q, .string f.s, .int .i64 f.r, .slice p1 l.length c1, .string s, .int .i64 lv, .int .i64 nx, .slice p2 kp.length c2] 31) := ⟨_, rfl⟩
  have HC0 : Hid (Ch [] w w0) := Lib.hid (by rw [hw0]; exact (Ch.refl [] w).alloc _)
  have HA : Hid (Blk 31 w.heap.size #[.int .i64 k, .int .i64 op, .int .i64 f.k, .int .i64 f.p, .int .i64 f.q, .string f.s, .int .i64 f.r, .slice p1 l.length c1, .string s, .int .i64 lv, .int .i64 nx, .slice p2 kp.length c2] w0) := Lib.hid (by rw [hw0]; exact Blk.new w _ _ _ rfl)
  have QF : Hid (Calls Try.prog 38 #[.agg #[.int .i64 k, .int .i64 op, .int .i64 f.k, .int .i64 f.p, .int .i64 f.q, .string f.s, .int .i64 f.r, .slice p1 l.length c1, .string s, .int .i64 lv, .int .i64 nx, .slice p2 kp.length c2]] w0 fun e w' => e = .returned (.bool true) ∧ Ch [] w0 w') := Lib.hid (by rw [← hfl]; exact rfields_any ⟨k, op, f, l, s, lv, nx, kp⟩ _ _ w0 (h1.below HC0.out) (h2.below HC0.out) (by first | exact ⟨hk1, hk2⟩ | (simp)))
  have hk3 : ¬ k < 1 := by omega
  have hk4 : ¬ 9 < k := by omega
  have hk5 : (k == 2) = false := by rw [beq_eq_false_iff_ne]; exact h2'
  have hk6 : (k == 6) = false := by rw [beq_eq_false_iff_ne]; exact h6'
  have i1 : (200 : Int) < (l.length : Int) := by omega
  have HW := Lib.hid hw0
  clear hw0 h1 h2 n1 n2 hfl
  go_enter Try.func25, Try.ntmps25
  go_upto_region 1 with fail
  rw [← HW.out]
  have a0 : w0.cell? ⟨w.heap.size, 0, none⟩ = some (.int .i64 k) := HA.out.cell 0
  have a1 : w0.cell? ⟨w.heap.size, 1, none⟩ = some (.int .i64 op) := HA.out.cell 1
  have a2 : w0.cell? ⟨w.heap.size, 2, none⟩ = some (.int .i64 f.k) := HA.out.cell 2
  have a3 : w0.cell? ⟨w.heap.size, 3, none⟩ = some (.int .i64 f.p) := HA.out.cell 3
  have a4 : w0.cell? ⟨w.heap.size, 4, none⟩ = some (.int .i64 f.q) := HA.out.cell 4
  have a5 : w0.cell? ⟨w.heap.size, 5, none⟩ = some (.string f.s) := HA.out.cell 5
  have a6 : w0.cell? ⟨w.heap.size, 6, none⟩ = some (.int .i64 f.r) := HA.out.cell 6
  have a7 : w0.cell? ⟨w.heap.size, 7, none⟩ = some (.slice p1 l.length c1) := HA.out.cell 7
  have a8 : w0.cell? ⟨w.heap.size, 8, none⟩ = some (.string s) := HA.out.cell 8
  have a9 : w0.cell? ⟨w.heap.size, 9, none⟩ = some (.int .i64 lv) := HA.out.cell 9
  have a10 : w0.cell? ⟨w.heap.size, 10, none⟩ = some (.int .i64 nx) := HA.out.cell 10
  have a11 : w0.cell? ⟨w.heap.size, 11, none⟩ = some (.slice p2 kp.length c2) := HA.out.cell 11
  have la := HA.out.lt
  go_wp2_with (first | (go_at_call 38; (with_reducible refine (QF.out).mono ?_); rintro e w1 ⟨rfl, hc⟩; have HC1 := Lib.hid hc; clear hc; have b0 : w1.cell? ⟨w.heap.size, 0, none⟩ = some (.int .i64 k) := (HA.out.ch (HC1.out) (not_nil _)).cell 0; have b1 : w1.cell? ⟨w.heap.size, 1, none⟩ = some (.int .i64 op) := (HA.out.ch (HC1.out) (not_nil _)).cell 1; have b2 : w1.cell? ⟨w.heap.size, 2, none⟩ = some (.int .i64 f.k) := (HA.out.ch (HC1.out) (not_nil _)).cell 2; have b3 : w1.cell? ⟨w.heap.size, 3, none⟩ = some (.int .i64 f.p) := (HA.out.ch (HC1.out) (not_nil _)).cell 3; have b4 : w1.cell? ⟨w.heap.size, 4, none⟩ = some (.int .i64 f.q) := (HA.out.ch (HC1.out) (not_nil _)).cell 4; have b5 : w1.cell? ⟨w.heap.size, 5, none⟩ = some (.string f.s) := (HA.out.ch (HC1.out) (not_nil _)).cell 5; have b6 : w1.cell? ⟨w.heap.size, 6, none⟩ = some (.int .i64 f.r) := (HA.out.ch (HC1.out) (not_nil _)).cell 6; have b7 : w1.cell? ⟨w.heap.size, 7, none⟩ = some (.slice p1 l.length c1) := (HA.out.ch (HC1.out) (not_nil _)).cell 7; have b8 : w1.cell? ⟨w.heap.size, 8, none⟩ = some (.string s) := (HA.out.ch (HC1.out) (not_nil _)).cell 8; have b9 : w1.cell? ⟨w.heap.size, 9, none⟩ = some (.int .i64 lv) := (HA.out.ch (HC1.out) (not_nil _)).cell 9; have b10 : w1.cell? ⟨w.heap.size, 10, none⟩ = some (.int .i64 nx) := (HA.out.ch (HC1.out) (not_nil _)).cell 10; have b11 : w1.cell? ⟨w.heap.size, 11, none⟩ = some (.slice p2 kp.length c2) := (HA.out.ch (HC1.out) (not_nil _)).cell 11; have bl := (HA.out.ch (HC1.out) (not_nil _)).lt))
  go_ret
  exact ⟨rfl, HC0.out.trans HC1.out⟩
set_option maxHeartbeats 8000000 in
set_option maxRecDepth 20000 in
theorem rck_c (k : Int) (op : Int) (f : V5) (l : List V5) (s : ByteArray) (lv nx : Int) (kp : List V5) (p1 p2 : Option Addr) (c1 c2 : Nat) (w : World) (h1 : VA w (.slice p1 l.length c1) l) (h2 : VA w (.slice p2 kp.length c2) kp) (n1 : l.length ≤ 1000000) (n2 : kp.length ≤ 1000000) (hfl : decide (clrA ⟨k, op, f, l, s, lv, nx, kp⟩ = zA) = true) (hk1 : 1 ≤ k) (hk2 : k ≤ 9) (h2' : ¬ k = 2) (h6' : ¬ k = 6) (q1 : ¬ lv < 0) (q2 : ¬ 255 < lv) (q3 : ¬ nx < 0) (q4 : ¬ 255 < nx) (m1 : ¬ 200 < l.length) (m2 : 32 < kp.length) :
    Calls Try.prog 25 #[.agg #[.int .i64 k, .int .i64 op, .int .i64 f.k, .int .i64 f.p, .int .i64 f.q, .string f.s, .int .i64 f.r, .slice p1 l.length c1, .string s, .int .i64 lv, .int .i64 nx, .slice p2 kp.length c2]] w fun e w' => e = .returned (.int .i64 3) ∧ Ch [] w w' := by
  obtain ⟨w0, hw0⟩ : ∃ w0, w0 = w.alloc (.cells #[.int .i64 k, .int .i64 op, .int .i64 f.k, .int .i64 f.p, .int .i64 f.q, .string f.s, .int .i64 f.r, .slice p1 l.length c1, .string s, .int .i64 lv, .int .i64 nx, .slice p2 kp.length c2] 31) := ⟨_, rfl⟩
  have HC0 : Hid (Ch [] w w0) := Lib.hid (by rw [hw0]; exact (Ch.refl [] w).alloc _)
  have HA : Hid (Blk 31 w.heap.size #[.int .i64 k, .int .i64 op, .int .i64 f.k, .int .i64 f.p, .int .i64 f.q, .string f.s, .int .i64 f.r, .slice p1 l.length c1, .string s, .int .i64 lv, .int .i64 nx, .slice p2 kp.length c2] w0) := Lib.hid (by rw [hw0]; exact Blk.new w _ _ _ rfl)
  have QF : Hid (Calls Try.prog 38 #[.agg #[.int .i64 k, .int .i64 op, .int .i64 f.k, .int .i64 f.p, .int .i64 f.q, .string f.s, .int .i64 f.r, .slice p1 l.length c1, .string s, .int .i64 lv, .int .i64 nx, .slice p2 kp.length c2]] w0 fun e w' => e = .returned (.bool true) ∧ Ch [] w0 w') := Lib.hid (by rw [← hfl]; exact rfields_any ⟨k, op, f, l, s, lv, nx, kp⟩ _ _ w0 (h1.below HC0.out) (h2.below HC0.out) (by first | exact ⟨hk1, hk2⟩ | (simp)))
  have hk3 : ¬ k < 1 := by omega
  have hk4 : ¬ 9 < k := by omega
  have hk5 : (k == 2) = false := by rw [beq_eq_false_iff_ne]; exact h2'
  have hk6 : (k == 6) = false := by rw [beq_eq_false_iff_ne]; exact h6'
  have i1 : ¬ (200 : Int) < (l.length : Int) := by omega
  have i2 : (32 : Int) < (kp.length : Int) := by omega
  have HW := Lib.hid hw0
  clear hw0 h1 h2 n1 n2 hfl
  go_enter Try.func25, Try.ntmps25
  go_upto_region 1 with fail
  rw [← HW.out]
  have a0 : w0.cell? ⟨w.heap.size, 0, none⟩ = some (.int .i64 k) := HA.out.cell 0
  have a1 : w0.cell? ⟨w.heap.size, 1, none⟩ = some (.int .i64 op) := HA.out.cell 1
  have a2 : w0.cell? ⟨w.heap.size, 2, none⟩ = some (.int .i64 f.k) := HA.out.cell 2
  have a3 : w0.cell? ⟨w.heap.size, 3, none⟩ = some (.int .i64 f.p) := HA.out.cell 3
  have a4 : w0.cell? ⟨w.heap.size, 4, none⟩ = some (.int .i64 f.q) := HA.out.cell 4
  have a5 : w0.cell? ⟨w.heap.size, 5, none⟩ = some (.string f.s) := HA.out.cell 5
  have a6 : w0.cell? ⟨w.heap.size, 6, none⟩ = some (.int .i64 f.r) := HA.out.cell 6
  have a7 : w0.cell? ⟨w.heap.size, 7, none⟩ = some (.slice p1 l.length c1) := HA.out.cell 7
  have a8 : w0.cell? ⟨w.heap.size, 8, none⟩ = some (.string s) := HA.out.cell 8
  have a9 : w0.cell? ⟨w.heap.size, 9, none⟩ = some (.int .i64 lv) := HA.out.cell 9
  have a10 : w0.cell? ⟨w.heap.size, 10, none⟩ = some (.int .i64 nx) := HA.out.cell 10
  have a11 : w0.cell? ⟨w.heap.size, 11, none⟩ = some (.slice p2 kp.length c2) := HA.out.cell 11
  have la := HA.out.lt
  go_wp2_with (first | (go_at_call 38; (with_reducible refine (QF.out).mono ?_); rintro e w1 ⟨rfl, hc⟩; have HC1 := Lib.hid hc; clear hc; have b0 : w1.cell? ⟨w.heap.size, 0, none⟩ = some (.int .i64 k) := (HA.out.ch (HC1.out) (not_nil _)).cell 0; have b1 : w1.cell? ⟨w.heap.size, 1, none⟩ = some (.int .i64 op) := (HA.out.ch (HC1.out) (not_nil _)).cell 1; have b2 : w1.cell? ⟨w.heap.size, 2, none⟩ = some (.int .i64 f.k) := (HA.out.ch (HC1.out) (not_nil _)).cell 2; have b3 : w1.cell? ⟨w.heap.size, 3, none⟩ = some (.int .i64 f.p) := (HA.out.ch (HC1.out) (not_nil _)).cell 3; have b4 : w1.cell? ⟨w.heap.size, 4, none⟩ = some (.int .i64 f.q) := (HA.out.ch (HC1.out) (not_nil _)).cell 4; have b5 : w1.cell? ⟨w.heap.size, 5, none⟩ = some (.string f.s) := (HA.out.ch (HC1.out) (not_nil _)).cell 5; have b6 : w1.cell? ⟨w.heap.size, 6, none⟩ = some (.int .i64 f.r) := (HA.out.ch (HC1.out) (not_nil _)).cell 6; have b7 : w1.cell? ⟨w.heap.size, 7, none⟩ = some (.slice p1 l.length c1) := (HA.out.ch (HC1.out) (not_nil _)).cell 7; have b8 : w1.cell? ⟨w.heap.size, 8, none⟩ = some (.string s) := (HA.out.ch (HC1.out) (not_nil _)).cell 8; have b9 : w1.cell? ⟨w.heap.size, 9, none⟩ = some (.int .i64 lv) := (HA.out.ch (HC1.out) (not_nil _)).cell 9; have b10 : w1.cell? ⟨w.heap.size, 10, none⟩ = some (.int .i64 nx) := (HA.out.ch (HC1.out) (not_nil _)).cell 10; have b11 : w1.cell? ⟨w.heap.size, 11, none⟩ = some (.slice p2 kp.length c2) := (HA.out.ch (HC1.out) (not_nil _)).cell 11; have bl := (HA.out.ch (HC1.out) (not_nil _)).lt))
  go_ret
  exact ⟨rfl, HC0.out.trans HC1.out⟩
set_option maxHeartbeats 8000000 in
set_option maxRecDepth 20000 in
theorem rck_d (k : Int) (op : Int) (f : V5) (l : List V5) (s : ByteArray) (lv nx : Int) (kp : List V5) (p1 p2 : Option Addr) (c1 c2 : Nat) (w : World) (h1 : VA w (.slice p1 l.length c1) l) (h2 : VA w (.slice p2 kp.length c2) kp) (n1 : l.length ≤ 1000000) (n2 : kp.length ≤ 1000000) (hfl : decide (clrA ⟨k, op, f, l, s, lv, nx, kp⟩ = zA) = true) (hk1 : 1 ≤ k) (hk2 : k ≤ 9) (h2' : ¬ k = 2) (h6' : ¬ k = 6) (q1 : ¬ lv < 0) (q2 : ¬ 255 < lv) (q3 : ¬ nx < 0) (q4 : ¬ 255 < nx) (m1 : ¬ 200 < l.length) (m2 : ¬ 32 < kp.length) (hv1 : okV f = false) :
    Calls Try.prog 25 #[.agg #[.int .i64 k, .int .i64 op, .int .i64 f.k, .int .i64 f.p, .int .i64 f.q, .string f.s, .int .i64 f.r, .slice p1 l.length c1, .string s, .int .i64 lv, .int .i64 nx, .slice p2 kp.length c2]] w fun e w' => e = .returned (.int .i64 2) ∧ Ch [] w w' := by
  obtain ⟨w0, hw0⟩ : ∃ w0, w0 = w.alloc (.cells #[.int .i64 k, .int .i64 op, .int .i64 f.k, .int .i64 f.p, .int .i64 f.q, .string f.s, .int .i64 f.r, .slice p1 l.length c1, .string s, .int .i64 lv, .int .i64 nx, .slice p2 kp.length c2] 31) := ⟨_, rfl⟩
  have HC0 : Hid (Ch [] w w0) := Lib.hid (by rw [hw0]; exact (Ch.refl [] w).alloc _)
  have HA : Hid (Blk 31 w.heap.size #[.int .i64 k, .int .i64 op, .int .i64 f.k, .int .i64 f.p, .int .i64 f.q, .string f.s, .int .i64 f.r, .slice p1 l.length c1, .string s, .int .i64 lv, .int .i64 nx, .slice p2 kp.length c2] w0) := Lib.hid (by rw [hw0]; exact Blk.new w _ _ _ rfl)
  have QF : Hid (Calls Try.prog 38 #[.agg #[.int .i64 k, .int .i64 op, .int .i64 f.k, .int .i64 f.p, .int .i64 f.q, .string f.s, .int .i64 f.r, .slice p1 l.length c1, .string s, .int .i64 lv, .int .i64 nx, .slice p2 kp.length c2]] w0 fun e w' => e = .returned (.bool true) ∧ Ch [] w0 w') := Lib.hid (by rw [← hfl]; exact rfields_any ⟨k, op, f, l, s, lv, nx, kp⟩ _ _ w0 (h1.below HC0.out) (h2.below HC0.out) (by first | exact ⟨hk1, hk2⟩ | (simp)))
  have QV0 : Hid (∀ W, Calls Try.prog 39 #[.agg #[.int .i64 f.k, .int .i64 f.p, .int .i64 f.q, .string f.s, .int .i64 f.r]] W fun e w' => e = .returned (.bool false) ∧ Below W.heap.size W w') := Lib.hid fun W => by rw [← hv1]; exact rvalid5 f.k f.p f.q f.s f.r W
  have hk3 : ¬ k < 1 := by omega
  have hk4 : ¬ 9 < k := by omega
  have hk5 : (k == 2) = false := by rw [beq_eq_false_iff_ne]; exact h2'
  have hk6 : (k == 6) = false := by rw [beq_eq_false_iff_ne]; exact h6'
  have i1 : ¬ (200 : Int) < (l.length : Int) := by omega
  have i2 : ¬ (32 : Int) < (kp.length : Int) := by omega
  have HW := Lib.hid hw0
  clear hw0 h1 h2 n1 n2 hfl hv1
  go_enter Try.func25, Try.ntmps25
  go_upto_region 1 with fail
  rw [← HW.out]
  have a0 : w0.cell? ⟨w.heap.size, 0, none⟩ = some (.int .i64 k) := HA.out.cell 0
  have a1 : w0.cell? ⟨w.heap.size, 1, none⟩ = some (.int .i64 op) := HA.out.cell 1
  have a2 : w0.cell? ⟨w.heap.size, 2, none⟩ = some (.int .i64 f.k) := HA.out.cell 2
  have a3 : w0.cell? ⟨w.heap.size, 3, none⟩ = some (.int .i64 f.p) := HA.out.cell 3
  have a4 : w0.cell? ⟨w.heap.size, 4, none⟩ = some (.int .i64 f.q) := HA.out.cell 4
  have a5 : w0.cell? ⟨w.heap.size, 5, none⟩ = some (.string f.s) := HA.out.cell 5
  have a6 : w0.cell? ⟨w.heap.size, 6, none⟩ = some (.int .i64 f.r) := HA.out.cell 6
  have a7 : w0.cell? ⟨w.heap.size, 7, none⟩ = some (.slice p1 l.length c1) := HA.out.cell 7
  have a8 : w0.cell? ⟨w.heap.size, 8, none⟩ = some (.string s) := HA.out.cell 8
  have a9 : w0.cell? ⟨w.heap.size, 9, none⟩ = some (.int .i64 lv) := HA.out.cell 9
  have a10 : w0.cell? ⟨w.heap.size, 10, none⟩ = some (.int .i64 nx) := HA.out.cell 10
  have a11 : w0.cell? ⟨w.heap.size, 11, none⟩ = some (.slice p2 kp.length c2) := HA.out.cell 11
  have la := HA.out.lt
  go_wp2_with (first | (go_at_call 38; (with_reducible refine (QF.out).mono ?_); rintro e w1 ⟨rfl, hc⟩; have HC1 := Lib.hid hc; clear hc; have b0 : w1.cell? ⟨w.heap.size, 0, none⟩ = some (.int .i64 k) := (HA.out.ch (HC1.out) (not_nil _)).cell 0; have b1 : w1.cell? ⟨w.heap.size, 1, none⟩ = some (.int .i64 op) := (HA.out.ch (HC1.out) (not_nil _)).cell 1; have b2 : w1.cell? ⟨w.heap.size, 2, none⟩ = some (.int .i64 f.k) := (HA.out.ch (HC1.out) (not_nil _)).cell 2; have b3 : w1.cell? ⟨w.heap.size, 3, none⟩ = some (.int .i64 f.p) := (HA.out.ch (HC1.out) (not_nil _)).cell 3; have b4 : w1.cell? ⟨w.heap.size, 4, none⟩ = some (.int .i64 f.q) := (HA.out.ch (HC1.out) (not_nil _)).cell 4; have b5 : w1.cell? ⟨w.heap.size, 5, none⟩ = some (.string f.s) := (HA.out.ch (HC1.out) (not_nil _)).cell 5; have b6 : w1.cell? ⟨w.heap.size, 6, none⟩ = some (.int .i64 f.r) := (HA.out.ch (HC1.out) (not_nil _)).cell 6; have b7 : w1.cell? ⟨w.heap.size, 7, none⟩ = some (.slice p1 l.length c1) := (HA.out.ch (HC1.out) (not_nil _)).cell 7; have b8 : w1.cell? ⟨w.heap.size, 8, none⟩ = some (.string s) := (HA.out.ch (HC1.out) (not_nil _)).cell 8; have b9 : w1.cell? ⟨w.heap.size, 9, none⟩ = some (.int .i64 lv) := (HA.out.ch (HC1.out) (not_nil _)).cell 9; have b10 : w1.cell? ⟨w.heap.size, 10, none⟩ = some (.int .i64 nx) := (HA.out.ch (HC1.out) (not_nil _)).cell 10; have b11 : w1.cell? ⟨w.heap.size, 11, none⟩ = some (.slice p2 kp.length c2) := (HA.out.ch (HC1.out) (not_nil _)).cell 11; have bl := (HA.out.ch (HC1.out) (not_nil _)).lt) | (go_at_call 39; (with_reducible refine (QV0.out _).mono ?_); rintro e w2 ⟨rfl, hb⟩; have HC2 := Lib.hid (HC1.out.trans (Ch.of_below hb)); clear hb; have d0 : w2.cell? ⟨w.heap.size, 0, none⟩ = some (.int .i64 k) := (HA.out.ch (HC2.out) (not_nil _)).cell 0; have d1 : w2.cell? ⟨w.heap.size, 1, none⟩ = some (.int .i64 op) := (HA.out.ch (HC2.out) (not_nil _)).cell 1; have d2 : w2.cell? ⟨w.heap.size, 2, none⟩ = some (.int .i64 f.k) := (HA.out.ch (HC2.out) (not_nil _)).cell 2; have d3 : w2.cell? ⟨w.heap.size, 3, none⟩ = some (.int .i64 f.p) := (HA.out.ch (HC2.out) (not_nil _)).cell 3; have d4 : w2.cell? ⟨w.heap.size, 4, none⟩ = some (.int .i64 f.q) := (HA.out.ch (HC2.out) (not_nil _)).cell 4; have d5 : w2.cell? ⟨w.heap.size, 5, none⟩ = some (.string f.s) := (HA.out.ch (HC2.out) (not_nil _)).cell 5; have d6 : w2.cell? ⟨w.heap.size, 6, none⟩ = some (.int .i64 f.r) := (HA.out.ch (HC2.out) (not_nil _)).cell 6; have d7 : w2.cell? ⟨w.heap.size, 7, none⟩ = some (.slice p1 l.length c1) := (HA.out.ch (HC2.out) (not_nil _)).cell 7; have d8 : w2.cell? ⟨w.heap.size, 8, none⟩ = some (.string s) := (HA.out.ch (HC2.out) (not_nil _)).cell 8; have d9 : w2.cell? ⟨w.heap.size, 9, none⟩ = some (.int .i64 lv) := (HA.out.ch (HC2.out) (not_nil _)).cell 9; have d10 : w2.cell? ⟨w.heap.size, 10, none⟩ = some (.int .i64 nx) := (HA.out.ch (HC2.out) (not_nil _)).cell 10; have d11 : w2.cell? ⟨w.heap.size, 11, none⟩ = some (.slice p2 kp.length c2) := (HA.out.ch (HC2.out) (not_nil _)).cell 11; have dl := (HA.out.ch (HC2.out) (not_nil _)).lt))
  go_ret
  exact ⟨rfl, HC0.out.trans HC2.out⟩
set_option maxHeartbeats 8000000 in
set_option maxRecDepth 20000 in
theorem rck_e (k : Int) (op : Int) (f : V5) (l : List V5) (s : ByteArray) (lv nx : Int) (kp : List V5) (p1 p2 : Option Addr) (c1 c2 : Nat) (w : World) (h1 : VA w (.slice p1 l.length c1) l) (h2 : VA w (.slice p2 kp.length c2) kp) (n1 : l.length ≤ 1000000) (n2 : kp.length ≤ 1000000) (hfl : decide (clrA ⟨k, op, f, l, s, lv, nx, kp⟩ = zA) = true) (hk1 : 1 ≤ k) (hk2 : k ≤ 9) (h2' : ¬ k = 2) (h6' : ¬ k = 6) (q1 : ¬ lv < 0) (q2 : ¬ 255 < lv) (q3 : ¬ nx < 0) (q4 : ¬ 255 < nx) (m1 : ¬ 200 < l.length) (m2 : ¬ 32 < kp.length) (hv1 : okV f = true) (hv2 : l.all okV = false) :
    Calls Try.prog 25 #[.agg #[.int .i64 k, .int .i64 op, .int .i64 f.k, .int .i64 f.p, .int .i64 f.q, .string f.s, .int .i64 f.r, .slice p1 l.length c1, .string s, .int .i64 lv, .int .i64 nx, .slice p2 kp.length c2]] w fun e w' => e = .returned (.int .i64 2) ∧ Ch [] w w' := by
  obtain ⟨w0, hw0⟩ : ∃ w0, w0 = w.alloc (.cells #[.int .i64 k, .int .i64 op, .int .i64 f.k, .int .i64 f.p, .int .i64 f.q, .string f.s, .int .i64 f.r, .slice p1 l.length c1, .string s, .int .i64 lv, .int .i64 nx, .slice p2 kp.length c2] 31) := ⟨_, rfl⟩
  have HC0 : Hid (Ch [] w w0) := Lib.hid (by rw [hw0]; exact (Ch.refl [] w).alloc _)
  have HA : Hid (Blk 31 w.heap.size #[.int .i64 k, .int .i64 op, .int .i64 f.k, .int .i64 f.p, .int .i64 f.q, .string f.s, .int .i64 f.r, .slice p1 l.length c1, .string s, .int .i64 lv, .int .i64 nx, .slice p2 kp.length c2] w0) := Lib.hid (by rw [hw0]; exact Blk.new w _ _ _ rfl)
  have QF : Hid (Calls Try.prog 38 #[.agg #[.int .i64 k, .int .i64 op, .int .i64 f.k, .int .i64 f.p, .int .i64 f.q, .string f.s, .int .i64 f.r, .slice p1 l.length c1, .string s, .int .i64 lv, .int .i64 nx, .slice p2 kp.length c2]] w0 fun e w' => e = .returned (.bool true) ∧ Ch [] w0 w') := Lib.hid (by rw [← hfl]; exact rfields_any ⟨k, op, f, l, s, lv, nx, kp⟩ _ _ w0 (h1.below HC0.out) (h2.below HC0.out) (by first | exact ⟨hk1, hk2⟩ | (simp)))
  have QV0 : Hid (∀ W, Calls Try.prog 39 #[.agg #[.int .i64 f.k, .int .i64 f.p, .int .i64 f.q, .string f.s, .int .i64 f.r]] W fun e w' => e = .returned (.bool true) ∧ Below W.heap.size W w') := Lib.hid fun W => by rw [← hv1]; exact rvalid5 f.k f.p f.q f.s f.r W
  have HK1 := Lib.hid (vals_of h1)
  have HALLa := Lib.hid hv2
  have HNa := Lib.hid n1
  have hk3 : ¬ k < 1 := by omega
  have hk4 : ¬ 9 < k := by omega
  have hk5 : (k == 2) = false := by rw [beq_eq_false_iff_ne]; exact h2'
  have hk6 : (k == 6) = false := by rw [beq_eq_false_iff_ne]; exact h6'
  have i1 : ¬ (200 : Int) < (l.length : Int) := by omega
  have i2 : ¬ (32 : Int) < (kp.length : Int) := by omega
  have HW := Lib.hid hw0
  clear hw0 h1 h2 n1 n2 hfl hv1 hv2
  go_enter Try.func25, Try.ntmps25
  go_upto_region 1 with fail
  rw [← HW.out]
  have a0 : w0.cell? ⟨w.heap.size, 0, none⟩ = some (.int .i64 k) := HA.out.cell 0
  have a1 : w0.cell? ⟨w.heap.size, 1, none⟩ = some (.int .i64 op) := HA.out.cell 1
  have a2 : w0.cell? ⟨w.heap.size, 2, none⟩ = some (.int .i64 f.k) := HA.out.cell 2
  have a3 : w0.cell? ⟨w.heap.size, 3, none⟩ = some (.int .i64 f.p) := HA.out.cell 3
  have a4 : w0.cell? ⟨w.heap.size, 4, none⟩ = some (.int .i64 f.q) := HA.out.cell 4
  have a5 : w0.cell? ⟨w.heap.size, 5, none⟩ = some (.string f.s) := HA.out.cell 5
  have a6 : w0.cell? ⟨w.heap.size, 6, none⟩ = some (.int .i64 f.r) := HA.out.cell 6
  have a7 : w0.cell? ⟨w.heap.size, 7, none⟩ = some (.slice p1 l.length c1) := HA.out.cell 7
  have a8 : w0.cell? ⟨w.heap.size, 8, none⟩ = some (.string s) := HA.out.cell 8
  have a9 : w0.cell? ⟨w.heap.size, 9, none⟩ = some (.int .i64 lv) := HA.out.cell 9
  have a10 : w0.cell? ⟨w.heap.size, 10, none⟩ = some (.int .i64 nx) := HA.out.cell 10
  have a11 : w0.cell? ⟨w.heap.size, 11, none⟩ = some (.slice p2 kp.length c2) := HA.out.cell 11
  have la := HA.out.lt
  go_wp2_with (first | (go_at_call 38; (with_reducible refine (QF.out).mono ?_); rintro e w1 ⟨rfl, hc⟩; have HC1 := Lib.hid hc; clear hc; have b0 : w1.cell? ⟨w.heap.size, 0, none⟩ = some (.int .i64 k) := (HA.out.ch (HC1.out) (not_nil _)).cell 0; have b1 : w1.cell? ⟨w.heap.size, 1, none⟩ = some (.int .i64 op) := (HA.out.ch (HC1.out) (not_nil _)).cell 1; have b2 : w1.cell? ⟨w.heap.size, 2, none⟩ = some (.int .i64 f.k) := (HA.out.ch (HC1.out) (not_nil _)).cell 2; have b3 : w1.cell? ⟨w.heap.size, 3, none⟩ = some (.int .i64 f.p) := (HA.out.ch (HC1.out) (not_nil _)).cell 3; have b4 : w1.cell? ⟨w.heap.size, 4, none⟩ = some (.int .i64 f.q) := (HA.out.ch (HC1.out) (not_nil _)).cell 4; have b5 : w1.cell? ⟨w.heap.size, 5, none⟩ = some (.string f.s) := (HA.out.ch (HC1.out) (not_nil _)).cell 5; have b6 : w1.cell? ⟨w.heap.size, 6, none⟩ = some (.int .i64 f.r) := (HA.out.ch (HC1.out) (not_nil _)).cell 6; have b7 : w1.cell? ⟨w.heap.size, 7, none⟩ = some (.slice p1 l.length c1) := (HA.out.ch (HC1.out) (not_nil _)).cell 7; have b8 : w1.cell? ⟨w.heap.size, 8, none⟩ = some (.string s) := (HA.out.ch (HC1.out) (not_nil _)).cell 8; have b9 : w1.cell? ⟨w.heap.size, 9, none⟩ = some (.int .i64 lv) := (HA.out.ch (HC1.out) (not_nil _)).cell 9; have b10 : w1.cell? ⟨w.heap.size, 10, none⟩ = some (.int .i64 nx) := (HA.out.ch (HC1.out) (not_nil _)).cell 10; have b11 : w1.cell? ⟨w.heap.size, 11, none⟩ = some (.slice p2 kp.length c2) := (HA.out.ch (HC1.out) (not_nil _)).cell 11; have bl := (HA.out.ch (HC1.out) (not_nil _)).lt) | (go_at_call 39; (with_reducible refine (QV0.out _).mono ?_); rintro e w2 ⟨rfl, hb⟩; have HC2 := Lib.hid (HC1.out.trans (Ch.of_below hb)); clear hb; have d0 : w2.cell? ⟨w.heap.size, 0, none⟩ = some (.int .i64 k) := (HA.out.ch (HC2.out) (not_nil _)).cell 0; have d1 : w2.cell? ⟨w.heap.size, 1, none⟩ = some (.int .i64 op) := (HA.out.ch (HC2.out) (not_nil _)).cell 1; have d2 : w2.cell? ⟨w.heap.size, 2, none⟩ = some (.int .i64 f.k) := (HA.out.ch (HC2.out) (not_nil _)).cell 2; have d3 : w2.cell? ⟨w.heap.size, 3, none⟩ = some (.int .i64 f.p) := (HA.out.ch (HC2.out) (not_nil _)).cell 3; have d4 : w2.cell? ⟨w.heap.size, 4, none⟩ = some (.int .i64 f.q) := (HA.out.ch (HC2.out) (not_nil _)).cell 4; have d5 : w2.cell? ⟨w.heap.size, 5, none⟩ = some (.string f.s) := (HA.out.ch (HC2.out) (not_nil _)).cell 5; have d6 : w2.cell? ⟨w.heap.size, 6, none⟩ = some (.int .i64 f.r) := (HA.out.ch (HC2.out) (not_nil _)).cell 6; have d7 : w2.cell? ⟨w.heap.size, 7, none⟩ = some (.slice p1 l.length c1) := (HA.out.ch (HC2.out) (not_nil _)).cell 7; have d8 : w2.cell? ⟨w.heap.size, 8, none⟩ = some (.string s) := (HA.out.ch (HC2.out) (not_nil _)).cell 8; have d9 : w2.cell? ⟨w.heap.size, 9, none⟩ = some (.int .i64 lv) := (HA.out.ch (HC2.out) (not_nil _)).cell 9; have d10 : w2.cell? ⟨w.heap.size, 10, none⟩ = some (.int .i64 nx) := (HA.out.ch (HC2.out) (not_nil _)).cell 10; have d11 : w2.cell? ⟨w.heap.size, 11, none⟩ = some (.slice p2 kp.length c2) := (HA.out.ch (HC2.out) (not_nil _)).cell 11; have dl := (HA.out.ch (HC2.out) (not_nil _)).lt))
  go_loopw [3] (fun v wr => ∃ k : Nat, k ≤ l.length ∧ v = .int .i64 (k : Int) ∧ Hid ((l.take k).all okV = true) ∧ Hid (Ch [] w0 wr)) (fun v _ => l.length - (intOf v).toNat)
  case atStart => exact ⟨0, Nat.zero_le _, rfl, Lib.hid rfl, Lib.hid (HC2.out)⟩
  case round =>
    obtain ⟨ka, hka, rfl, HTa, HBa⟩ := hrel
    rename World => Wa
    have ya0 : Wa.cell? ⟨w.heap.size, 0, none⟩ = some (.int .i64 k) := (HA.out.ch (HBa.out) (not_nil _)).cell 0
    have ya1 : Wa.cell? ⟨w.heap.size, 1, none⟩ = some (.int .i64 op) := (HA.out.ch (HBa.out) (not_nil _)).cell 1
    have ya2 : Wa.cell? ⟨w.heap.size, 2, none⟩ = some (.int .i64 f.k) := (HA.out.ch (HBa.out) (not_nil _)).cell 2
    have ya3 : Wa.cell? ⟨w.heap.size, 3, none⟩ = some (.int .i64 f.p) := (HA.out.ch (HBa.out) (not_nil _)).cell 3
    have ya4 : Wa.cell? ⟨w.heap.size, 4, none⟩ = some (.int .i64 f.q) := (HA.out.ch (HBa.out) (not_nil _)).cell 4
    have ya5 : Wa.cell? ⟨w.heap.size, 5, none⟩ = some (.string f.s) := (HA.out.ch (HBa.out) (not_nil _)).cell 5
    have ya6 : Wa.cell? ⟨w.heap.size, 6, none⟩ = some (.int .i64 f.r) := (HA.out.ch (HBa.out) (not_nil _)).cell 6
    have ya7 : Wa.cell? ⟨w.heap.size, 7, none⟩ = some (.slice p1 l.length c1) := (HA.out.ch (HBa.out) (not_nil _)).cell 7
    have ya8 : Wa.cell? ⟨w.heap.size, 8, none⟩ = some (.string s) := (HA.out.ch (HBa.out) (not_nil _)).cell 8
    have ya9 : Wa.cell? ⟨w.heap.size, 9, none⟩ = some (.int .i64 lv) := (HA.out.ch (HBa.out) (not_nil _)).cell 9
    have ya10 : Wa.cell? ⟨w.heap.size, 10, none⟩ = some (.int .i64 nx) := (HA.out.ch (HBa.out) (not_nil _)).cell 10
    have ya11 : Wa.cell? ⟨w.heap.size, 11, none⟩ = some (.slice p2 kp.length c2) := (HA.out.ch (HBa.out) (not_nil _)).cell 11
    have yal := (HA.out.ch (HBa.out) (not_nil _)).lt
    by_cases hlt : ka < l.length
    · have hlt' : (ka : Int) < (l.length : Int) := by omega
      have hi0' : (0 : Int) ≤ (ka : Int) := by omega
      have di : IntKind.i64.wrap ((ka : Int) + 1) = (ka : Int) + 1 := IntWalk.i64_in _ (by have := HNa.out; omega)
      obtain ⟨g, o, rfl, hg, hcv⟩ := HK1.out (by omega)
      obtain ⟨x, hx⟩ : ∃ x, x = l[ka] := ⟨_, rfl⟩
      have m1 : ∀ j, j < 5 → Wa.cell? ⟨g, o + ka * 5 + j, none⟩ = (vC x)[j]? := fun j hj => ((HC0.out.trans HBa.out).below.cell (p := ⟨g, _, none⟩) hg).trans (by rw [hx]; exact hcv ka j hlt hj)
      have hg2 : g < Wa.heap.size := Nat.lt_of_lt_of_le hg (HC0.out.trans HBa.out).size
      have s0 : Wa.cell? ⟨g, o + ka * 5, none⟩ = some (.int .i64 x.k) := m1 0 (by omega)
      have s1 : Wa.cell? ⟨g, o + ka * 5 + 1, none⟩ = some (.int .i64 x.p) := m1 1 (by omega)
      have s2 : Wa.cell? ⟨g, o + ka * 5 + 2, none⟩ = some (.int .i64 x.q) := m1 2 (by omega)
      have s3 : Wa.cell? ⟨g, o + ka * 5 + 3, none⟩ = some (.string x.s) := m1 3 (by omega)
      have s4 : Wa.cell? ⟨g, o + ka * 5 + 4, none⟩ = some (.int .i64 x.r) := m1 4 (by omega)
      have HTk : Hid (l.take (ka + 1) = l.take ka ++ [x]) := Lib.hid (by rw [hx, List.take_succ_eq_append_getElem hlt])
      have hxm : x ∈ l := by rw [hx]; exact List.getElem_mem hlt
      clear m1 hcv hx
      cases hok : okV x with
      | true =>
        have QV : Hid (∀ W, Calls Try.prog 39 #[.agg #[.int .i64 x.k, .int .i64 x.p, .int .i64 x.q, .string x.s, .int .i64 x.r]] W fun e w' => e = .returned (.bool true) ∧ Below W.heap.size W w') := Lib.hid fun W => by rw [← hok]; exact rvalid5 x.k x.p x.q x.s x.r W
        have HOK := Lib.hid hok
        clear hok hxm
        go_wp2_with (go_at_call 39; (with_reducible refine (QV.out _).mono ?_); rintro e w8 ⟨rfl, hb⟩; have HC8 : Hid (Ch [] w0 w8) := Lib.hid (HBa.out.trans (Ch.of_below hb)); clear hb)
        go_roundw
        case rel => exact ⟨ka + 1, by omega, by go_num, Lib.hid (by rw [HTk.out, List.all_append, HTa.out]; simp [HOK.out]), HC8⟩
        case measure => simp [intOf]; omega
      | false =>
        have QV : Hid (∀ W, Calls Try.prog 39 #[.agg #[.int .i64 x.k, .int .i64 x.p, .int .i64 x.q, .string x.s, .int .i64 x.r]] W fun e w' => e = .returned (.bool false) ∧ Below W.heap.size W w') := Lib.hid fun W => by rw [← hok]; exact rvalid5 x.k x.p x.q x.s x.r W
        clear hok hxm
        go_wp2_with (go_at_call 39; (with_reducible refine (QV.out _).mono ?_); rintro e w8 ⟨rfl, hb⟩; have HC8 : Hid (Ch [] w0 w8) := Lib.hid (HBa.out.trans (Ch.of_below hb)); clear hb)
        go_ret
        exact ⟨rfl, HC0.out.trans HC8.out⟩
    · exfalso
      have := HTa.out
      rw [List.take_of_length_le (by omega), HALLa.out] at this
      cases this
set_option maxHeartbeats 8000000 in
set_option maxRecDepth 20000 in
theorem rck_f (k : Int) (op : Int) (f : V5) (l : List V5) (s : ByteArray) (lv nx : Int) (kp : List V5) (p1 p2 : Option Addr) (c1 c2 : Nat) (w : World) (h1 : VA w (.slice p1 l.length c1) l) (h2 : VA w (.slice p2 kp.length c2) kp) (n1 : l.length ≤ 1000000) (n2 : kp.length ≤ 1000000) (hfl : decide (clrA ⟨k, op, f, l, s, lv, nx, kp⟩ = zA) = true) (hk1 : 1 ≤ k) (hk2 : k ≤ 9) (h2' : ¬ k = 2) (h6' : ¬ k = 6) (q1 : ¬ lv < 0) (q2 : ¬ 255 < lv) (q3 : ¬ nx < 0) (q4 : ¬ 255 < nx) (m1 : ¬ 200 < l.length) (m2 : ¬ 32 < kp.length) (hv1 : okV f = true) (hv2 : l.all okV = true) (hv3 : kp.all okV = false) :
    Calls Try.prog 25 #[.agg #[.int .i64 k, .int .i64 op, .int .i64 f.k, .int .i64 f.p, .int .i64 f.q, .string f.s, .int .i64 f.r, .slice p1 l.length c1, .string s, .int .i64 lv, .int .i64 nx, .slice p2 kp.length c2]] w fun e w' => e = .returned (.int .i64 2) ∧ Ch [] w w' := by
  obtain ⟨w0, hw0⟩ : ∃ w0, w0 = w.alloc (.cells #[.int .i64 k, .int .i64 op, .int .i64 f.k, .int .i64 f.p, .int .i64 f.q, .string f.s, .int .i64 f.r, .slice p1 l.length c1, .string s, .int .i64 lv, .int .i64 nx, .slice p2 kp.length c2] 31) := ⟨_, rfl⟩
  have HC0 : Hid (Ch [] w w0) := Lib.hid (by rw [hw0]; exact (Ch.refl [] w).alloc _)
  have HA : Hid (Blk 31 w.heap.size #[.int .i64 k, .int .i64 op, .int .i64 f.k, .int .i64 f.p, .int .i64 f.q, .string f.s, .int .i64 f.r, .slice p1 l.length c1, .string s, .int .i64 lv, .int .i64 nx, .slice p2 kp.length c2] w0) := Lib.hid (by rw [hw0]; exact Blk.new w _ _ _ rfl)
  have QF : Hid (Calls Try.prog 38 #[.agg #[.int .i64 k, .int .i64 op, .int .i64 f.k, .int .i64 f.p, .int .i64 f.q, .string f.s, .int .i64 f.r, .slice p1 l.length c1, .string s, .int .i64 lv, .int .i64 nx, .slice p2 kp.length c2]] w0 fun e w' => e = .returned (.bool true) ∧ Ch [] w0 w') := Lib.hid (by rw [← hfl]; exact rfields_any ⟨k, op, f, l, s, lv, nx, kp⟩ _ _ w0 (h1.below HC0.out) (h2.below HC0.out) (by first | exact ⟨hk1, hk2⟩ | (simp)))
  have QV0 : Hid (∀ W, Calls Try.prog 39 #[.agg #[.int .i64 f.k, .int .i64 f.p, .int .i64 f.q, .string f.s, .int .i64 f.r]] W fun e w' => e = .returned (.bool true) ∧ Below W.heap.size W w') := Lib.hid fun W => by rw [← hv1]; exact rvalid5 f.k f.p f.q f.s f.r W
  have HK1 := Lib.hid (vals_of h1)
  have HALLa := Lib.hid hv2
  have HNa := Lib.hid n1
  have HK2 := Lib.hid (vals_of h2)
  have HALLb := Lib.hid hv3
  have HNb := Lib.hid n2
  have hk3 : ¬ k < 1 := by omega
  have hk4 : ¬ 9 < k := by omega
  have hk5 : (k == 2) = false := by rw [beq_eq_false_iff_ne]; exact h2'
  have hk6 : (k == 6) = false := by rw [beq_eq_false_iff_ne]; exact h6'
  have i1 : ¬ (200 : Int) < (l.length : Int) := by omega
  have i2 : ¬ (32 : Int) < (kp.length : Int) := by omega
  have HW := Lib.hid hw0
  clear hw0 h1 h2 n1 n2 hfl hv1 hv2 hv3
  go_enter Try.func25, Try.ntmps25
  go_upto_region 1 with fail
  rw [← HW.out]
  have a0 : w0.cell? ⟨w.heap.size, 0, none⟩ = some (.int .i64 k) := HA.out.cell 0
  have a1 : w0.cell? ⟨w.heap.size, 1, none⟩ = some (.int .i64 op) := HA.out.cell 1
  have a2 : w0.cell? ⟨w.heap.size, 2, none⟩ = some (.int .i64 f.k) := HA.out.cell 2
  have a3 : w0.cell? ⟨w.heap.size, 3, none⟩ = some (.int .i64 f.p) := HA.out.cell 3
  have a4 : w0.cell? ⟨w.heap.size, 4, none⟩ = some (.int .i64 f.q) := HA.out.cell 4
  have a5 : w0.cell? ⟨w.heap.size, 5, none⟩ = some (.string f.s) := HA.out.cell 5
  have a6 : w0.cell? ⟨w.heap.size, 6, none⟩ = some (.int .i64 f.r) := HA.out.cell 6
  have a7 : w0.cell? ⟨w.heap.size, 7, none⟩ = some (.slice p1 l.length c1) := HA.out.cell 7
  have a8 : w0.cell? ⟨w.heap.size, 8, none⟩ = some (.string s) := HA.out.cell 8
  have a9 : w0.cell? ⟨w.heap.size, 9, none⟩ = some (.int .i64 lv) := HA.out.cell 9
  have a10 : w0.cell? ⟨w.heap.size, 10, none⟩ = some (.int .i64 nx) := HA.out.cell 10
  have a11 : w0.cell? ⟨w.heap.size, 11, none⟩ = some (.slice p2 kp.length c2) := HA.out.cell 11
  have la := HA.out.lt
  go_wp2_with (first | (go_at_call 38; (with_reducible refine (QF.out).mono ?_); rintro e w1 ⟨rfl, hc⟩; have HC1 := Lib.hid hc; clear hc; have b0 : w1.cell? ⟨w.heap.size, 0, none⟩ = some (.int .i64 k) := (HA.out.ch (HC1.out) (not_nil _)).cell 0; have b1 : w1.cell? ⟨w.heap.size, 1, none⟩ = some (.int .i64 op) := (HA.out.ch (HC1.out) (not_nil _)).cell 1; have b2 : w1.cell? ⟨w.heap.size, 2, none⟩ = some (.int .i64 f.k) := (HA.out.ch (HC1.out) (not_nil _)).cell 2; have b3 : w1.cell? ⟨w.heap.size, 3, none⟩ = some (.int .i64 f.p) := (HA.out.ch (HC1.out) (not_nil _)).cell 3; have b4 : w1.cell? ⟨w.heap.size, 4, none⟩ = some (.int .i64 f.q) := (HA.out.ch (HC1.out) (not_nil _)).cell 4; have b5 : w1.cell? ⟨w.heap.size, 5, none⟩ = some (.string f.s) := (HA.out.ch (HC1.out) (not_nil _)).cell 5; have b6 : w1.cell? ⟨w.heap.size, 6, none⟩ = some (.int .i64 f.r) := (HA.out.ch (HC1.out) (not_nil _)).cell 6; have b7 : w1.cell? ⟨w.heap.size, 7, none⟩ = some (.slice p1 l.length c1) := (HA.out.ch (HC1.out) (not_nil _)).cell 7; have b8 : w1.cell? ⟨w.heap.size, 8, none⟩ = some (.string s) := (HA.out.ch (HC1.out) (not_nil _)).cell 8; have b9 : w1.cell? ⟨w.heap.size, 9, none⟩ = some (.int .i64 lv) := (HA.out.ch (HC1.out) (not_nil _)).cell 9; have b10 : w1.cell? ⟨w.heap.size, 10, none⟩ = some (.int .i64 nx) := (HA.out.ch (HC1.out) (not_nil _)).cell 10; have b11 : w1.cell? ⟨w.heap.size, 11, none⟩ = some (.slice p2 kp.length c2) := (HA.out.ch (HC1.out) (not_nil _)).cell 11; have bl := (HA.out.ch (HC1.out) (not_nil _)).lt) | (go_at_call 39; (with_reducible refine (QV0.out _).mono ?_); rintro e w2 ⟨rfl, hb⟩; have HC2 := Lib.hid (HC1.out.trans (Ch.of_below hb)); clear hb; have d0 : w2.cell? ⟨w.heap.size, 0, none⟩ = some (.int .i64 k) := (HA.out.ch (HC2.out) (not_nil _)).cell 0; have d1 : w2.cell? ⟨w.heap.size, 1, none⟩ = some (.int .i64 op) := (HA.out.ch (HC2.out) (not_nil _)).cell 1; have d2 : w2.cell? ⟨w.heap.size, 2, none⟩ = some (.int .i64 f.k) := (HA.out.ch (HC2.out) (not_nil _)).cell 2; have d3 : w2.cell? ⟨w.heap.size, 3, none⟩ = some (.int .i64 f.p) := (HA.out.ch (HC2.out) (not_nil _)).cell 3; have d4 : w2.cell? ⟨w.heap.size, 4, none⟩ = some (.int .i64 f.q) := (HA.out.ch (HC2.out) (not_nil _)).cell 4; have d5 : w2.cell? ⟨w.heap.size, 5, none⟩ = some (.string f.s) := (HA.out.ch (HC2.out) (not_nil _)).cell 5; have d6 : w2.cell? ⟨w.heap.size, 6, none⟩ = some (.int .i64 f.r) := (HA.out.ch (HC2.out) (not_nil _)).cell 6; have d7 : w2.cell? ⟨w.heap.size, 7, none⟩ = some (.slice p1 l.length c1) := (HA.out.ch (HC2.out) (not_nil _)).cell 7; have d8 : w2.cell? ⟨w.heap.size, 8, none⟩ = some (.string s) := (HA.out.ch (HC2.out) (not_nil _)).cell 8; have d9 : w2.cell? ⟨w.heap.size, 9, none⟩ = some (.int .i64 lv) := (HA.out.ch (HC2.out) (not_nil _)).cell 9; have d10 : w2.cell? ⟨w.heap.size, 10, none⟩ = some (.int .i64 nx) := (HA.out.ch (HC2.out) (not_nil _)).cell 10; have d11 : w2.cell? ⟨w.heap.size, 11, none⟩ = some (.slice p2 kp.length c2) := (HA.out.ch (HC2.out) (not_nil _)).cell 11; have dl := (HA.out.ch (HC2.out) (not_nil _)).lt))
  go_loopw [3] (fun v wr => ∃ k : Nat, k ≤ l.length ∧ v = .int .i64 (k : Int) ∧ Hid ((l.take k).all okV = true) ∧ Hid (Ch [] w0 wr)) (fun v _ => l.length - (intOf v).toNat)
  case atStart => exact ⟨0, Nat.zero_le _, rfl, Lib.hid rfl, Lib.hid (HC2.out)⟩
  case round =>
    obtain ⟨ka, hka, rfl, HTa, HBa⟩ := hrel
    rename World => Wa
    have ya0 : Wa.cell? ⟨w.heap.size, 0, none⟩ = some (.int .i64 k) := (HA.out.ch (HBa.out) (not_nil _)).cell 0
    have ya1 : Wa.cell? ⟨w.heap.size, 1, none⟩ = some (.int .i64 op) := (HA.out.ch (HBa.out) (not_nil _)).cell 1
    have ya2 : Wa.cell? ⟨w.heap.size, 2, none⟩ = some (.int .i64 f.k) := (HA.out.ch (HBa.out) (not_nil _)).cell 2
    have ya3 : Wa.cell? ⟨w.heap.size, 3, none⟩ = some (.int .i64 f.p) := (HA.out.ch (HBa.out) (not_nil _)).cell 3
    have ya4 : Wa.cell? ⟨w.heap.size, 4, none⟩ = some (.int .i64 f.q) := (HA.out.ch (HBa.out) (not_nil _)).cell 4
    have ya5 : Wa.cell? ⟨w.heap.size, 5, none⟩ = some (.string f.s) := (HA.out.ch (HBa.out) (not_nil _)).cell 5
    have ya6 : Wa.cell? ⟨w.heap.size, 6, none⟩ = some (.int .i64 f.r) := (HA.out.ch (HBa.out) (not_nil _)).cell 6
    have ya7 : Wa.cell? ⟨w.heap.size, 7, none⟩ = some (.slice p1 l.length c1) := (HA.out.ch (HBa.out) (not_nil _)).cell 7
    have ya8 : Wa.cell? ⟨w.heap.size, 8, none⟩ = some (.string s) := (HA.out.ch (HBa.out) (not_nil _)).cell 8
    have ya9 : Wa.cell? ⟨w.heap.size, 9, none⟩ = some (.int .i64 lv) := (HA.out.ch (HBa.out) (not_nil _)).cell 9
    have ya10 : Wa.cell? ⟨w.heap.size, 10, none⟩ = some (.int .i64 nx) := (HA.out.ch (HBa.out) (not_nil _)).cell 10
    have ya11 : Wa.cell? ⟨w.heap.size, 11, none⟩ = some (.slice p2 kp.length c2) := (HA.out.ch (HBa.out) (not_nil _)).cell 11
    have yal := (HA.out.ch (HBa.out) (not_nil _)).lt
    by_cases hlt : ka < l.length
    · have hlt' : (ka : Int) < (l.length : Int) := by omega
      have hi0' : (0 : Int) ≤ (ka : Int) := by omega
      have di : IntKind.i64.wrap ((ka : Int) + 1) = (ka : Int) + 1 := IntWalk.i64_in _ (by have := HNa.out; omega)
      obtain ⟨g, o, rfl, hg, hcv⟩ := HK1.out (by omega)
      obtain ⟨x, hx⟩ : ∃ x, x = l[ka] := ⟨_, rfl⟩
      have m1 : ∀ j, j < 5 → Wa.cell? ⟨g, o + ka * 5 + j, none⟩ = (vC x)[j]? := fun j hj => ((HC0.out.trans HBa.out).below.cell (p := ⟨g, _, none⟩) hg).trans (by rw [hx]; exact hcv ka j hlt hj)
      have hg2 : g < Wa.heap.size := Nat.lt_of_lt_of_le hg (HC0.out.trans HBa.out).size
      have s0 : Wa.cell? ⟨g, o + ka * 5, none⟩ = some (.int .i64 x.k) := m1 0 (by omega)
      have s1 : Wa.cell? ⟨g, o + ka * 5 + 1, none⟩ = some (.int .i64 x.p) := m1 1 (by omega)
      have s2 : Wa.cell? ⟨g, o + ka * 5 + 2, none⟩ = some (.int .i64 x.q) := m1 2 (by omega)
      have s3 : Wa.cell? ⟨g, o + ka * 5 + 3, none⟩ = some (.string x.s) := m1 3 (by omega)
      have s4 : Wa.cell? ⟨g, o + ka * 5 + 4, none⟩ = some (.int .i64 x.r) := m1 4 (by omega)
      have HTk : Hid (l.take (ka + 1) = l.take ka ++ [x]) := Lib.hid (by rw [hx, List.take_succ_eq_append_getElem hlt])
      have hxm : x ∈ l := by rw [hx]; exact List.getElem_mem hlt
      clear m1 hcv hx
      have hok : okV x = true := List.all_eq_true.1 HALLa.out x hxm
      have QV : Hid (∀ W, Calls Try.prog 39 #[.agg #[.int .i64 x.k, .int .i64 x.p, .int .i64 x.q, .string x.s, .int .i64 x.r]] W fun e w' => e = .returned (.bool true) ∧ Below W.heap.size W w') := Lib.hid fun W => by rw [← hok]; exact rvalid5 x.k x.p x.q x.s x.r W
      have HOK := Lib.hid hok
      clear hok hxm
      go_wp2_with (go_at_call 39; (with_reducible refine (QV.out _).mono ?_); rintro e w8 ⟨rfl, hb⟩; have HC8 : Hid (Ch [] w0 w8) := Lib.hid (HBa.out.trans (Ch.of_below hb)); clear hb)
      go_roundw
      case rel => exact ⟨ka + 1, by omega, by go_num, Lib.hid (by rw [HTk.out, List.all_append, HTa.out]; simp [HOK.out]), HC8⟩
      case measure => simp [intOf]; omega
    · have hlt' : ¬ (ka : Int) < (l.length : Int) := by omega
      go_wp2
      go_loopw [4] (fun v wr => ∃ k : Nat, k ≤ kp.length ∧ v = .int .i64 (k : Int) ∧ Hid ((kp.take k).all okV = true) ∧ Hid (Ch [] w0 wr)) (fun v _ => kp.length - (intOf v).toNat)
      case atStart => exact ⟨0, Nat.zero_le _, rfl, Lib.hid rfl, Lib.hid (HBa.out)⟩
      case round =>
        obtain ⟨kb, hkb, rfl, HTb, HBb⟩ := hrel
        rename World => Wb
        have yb0 : Wb.cell? ⟨w.heap.size, 0, none⟩ = some (.int .i64 k) := (HA.out.ch (HBb.out) (not_nil _)).cell 0
        have yb1 : Wb.cell? ⟨w.heap.size, 1, none⟩ = some (.int .i64 op) := (HA.out.ch (HBb.out) (not_nil _)).cell 1
        have yb2 : Wb.cell? ⟨w.heap.size, 2, none⟩ = some (.int .i64 f.k) := (HA.out.ch (HBb.out) (not_nil _)).cell 2
        have yb3 : Wb.cell? ⟨w.heap.size, 3, none⟩ = some (.int .i64 f.p) := (HA.out.ch (HBb.out) (not_nil _)).cell 3
        have yb4 : Wb.cell? ⟨w.heap.size, 4, none⟩ = some (.int .i64 f.q) := (HA.out.ch (HBb.out) (not_nil _)).cell 4
        have yb5 : Wb.cell? ⟨w.heap.size, 5, none⟩ = some (.string f.s) := (HA.out.ch (HBb.out) (not_nil _)).cell 5
        have yb6 : Wb.cell? ⟨w.heap.size, 6, none⟩ = some (.int .i64 f.r) := (HA.out.ch (HBb.out) (not_nil _)).cell 6
        have yb7 : Wb.cell? ⟨w.heap.size, 7, none⟩ = some (.slice p1 l.length c1) := (HA.out.ch (HBb.out) (not_nil _)).cell 7
        have yb8 : Wb.cell? ⟨w.heap.size, 8, none⟩ = some (.string s) := (HA.out.ch (HBb.out) (not_nil _)).cell 8
        have yb9 : Wb.cell? ⟨w.heap.size, 9, none⟩ = some (.int .i64 lv) := (HA.out.ch (HBb.out) (not_nil _)).cell 9
        have yb10 : Wb.cell? ⟨w.heap.size, 10, none⟩ = some (.int .i64 nx) := (HA.out.ch (HBb.out) (not_nil _)).cell 10
        have yb11 : Wb.cell? ⟨w.heap.size, 11, none⟩ = some (.slice p2 kp.length c2) := (HA.out.ch (HBb.out) (not_nil _)).cell 11
        have ybl := (HA.out.ch (HBb.out) (not_nil _)).lt
        by_cases hlt : kb < kp.length
        · have hlt' : (kb : Int) < (kp.length : Int) := by omega
          have hi0' : (0 : Int) ≤ (kb : Int) := by omega
          have di : IntKind.i64.wrap ((kb : Int) + 1) = (kb : Int) + 1 := IntWalk.i64_in _ (by have := HNb.out; omega)
          obtain ⟨g, o, rfl, hg, hcv⟩ := HK2.out (by omega)
          obtain ⟨x, hx⟩ : ∃ x, x = kp[kb] := ⟨_, rfl⟩
          have m1 : ∀ j, j < 5 → Wb.cell? ⟨g, o + kb * 5 + j, none⟩ = (vC x)[j]? := fun j hj => ((HC0.out.trans HBb.out).below.cell (p := ⟨g, _, none⟩) hg).trans (by rw [hx]; exact hcv kb j hlt hj)
          have hg2 : g < Wb.heap.size := Nat.lt_of_lt_of_le hg (HC0.out.trans HBb.out).size
          have s0 : Wb.cell? ⟨g, o + kb * 5, none⟩ = some (.int .i64 x.k) := m1 0 (by omega)
          have s1 : Wb.cell? ⟨g, o + kb * 5 + 1, none⟩ = some (.int .i64 x.p) := m1 1 (by omega)
          have s2 : Wb.cell? ⟨g, o + kb * 5 + 2, none⟩ = some (.int .i64 x.q) := m1 2 (by omega)
          have s3 : Wb.cell? ⟨g, o + kb * 5 + 3, none⟩ = some (.string x.s) := m1 3 (by omega)
          have s4 : Wb.cell? ⟨g, o + kb * 5 + 4, none⟩ = some (.int .i64 x.r) := m1 4 (by omega)
          have HTk : Hid (kp.take (kb + 1) = kp.take kb ++ [x]) := Lib.hid (by rw [hx, List.take_succ_eq_append_getElem hlt])
          have hxm : x ∈ kp := by rw [hx]; exact List.getElem_mem hlt
          clear m1 hcv hx
          cases hok : okV x with
          | true =>
            have QV : Hid (∀ W, Calls Try.prog 39 #[.agg #[.int .i64 x.k, .int .i64 x.p, .int .i64 x.q, .string x.s, .int .i64 x.r]] W fun e w' => e = .returned (.bool true) ∧ Below W.heap.size W w') := Lib.hid fun W => by rw [← hok]; exact rvalid5 x.k x.p x.q x.s x.r W
            have HOK := Lib.hid hok
            clear hok hxm
            go_wp2_with (go_at_call 39; (with_reducible refine (QV.out _).mono ?_); rintro e w8 ⟨rfl, hb⟩; have HC8 : Hid (Ch [] w0 w8) := Lib.hid (HBb.out.trans (Ch.of_below hb)); clear hb)
            go_roundw
            case rel => exact ⟨kb + 1, by omega, by go_num, Lib.hid (by rw [HTk.out, List.all_append, HTb.out]; simp [HOK.out]), HC8⟩
            case measure => simp [intOf]; omega
          | false =>
            have QV : Hid (∀ W, Calls Try.prog 39 #[.agg #[.int .i64 x.k, .int .i64 x.p, .int .i64 x.q, .string x.s, .int .i64 x.r]] W fun e w' => e = .returned (.bool false) ∧ Below W.heap.size W w') := Lib.hid fun W => by rw [← hok]; exact rvalid5 x.k x.p x.q x.s x.r W
            clear hok hxm
            go_wp2_with (go_at_call 39; (with_reducible refine (QV.out _).mono ?_); rintro e w8 ⟨rfl, hb⟩; have HC8 : Hid (Ch [] w0 w8) := Lib.hid (HBb.out.trans (Ch.of_below hb)); clear hb)
            go_ret
            exact ⟨rfl, HC0.out.trans HC8.out⟩
        · exfalso
          have := HTb.out
          rw [List.take_of_length_le (by omega), HALLb.out] at this
          cases this
set_option maxHeartbeats 8000000 in
set_option maxRecDepth 20000 in
theorem rck_g (k : Int) (op : Int) (f : V5) (l : List V5) (s : ByteArray) (lv nx : Int) (kp : List V5) (p1 p2 : Option Addr) (c1 c2 : Nat) (w : World) (h1 : VA w (.slice p1 l.length c1) l) (h2 : VA w (.slice p2 kp.length c2) kp) (n1 : l.length ≤ 1000000) (n2 : kp.length ≤ 1000000) (hfl : decide (clrA ⟨k, op, f, l, s, lv, nx, kp⟩ = zA) = true) (hk1 : 1 ≤ k) (hk2 : k ≤ 9) (h2' : ¬ k = 2) (h6' : ¬ k = 6) (q1 : ¬ lv < 0) (q2 : ¬ 255 < lv) (q3 : ¬ nx < 0) (q4 : ¬ 255 < nx) (m1 : ¬ 200 < l.length) (m2 : ¬ 32 < kp.length) (hv1 : okV f = true) (hv2 : l.all okV = true) (hv3 : kp.all okV = true) (hs : 65536 < s.size) :
    Calls Try.prog 25 #[.agg #[.int .i64 k, .int .i64 op, .int .i64 f.k, .int .i64 f.p, .int .i64 f.q, .string f.s, .int .i64 f.r, .slice p1 l.length c1, .string s, .int .i64 lv, .int .i64 nx, .slice p2 kp.length c2]] w fun e w' => e = .returned (.int .i64 14) ∧ Ch [] w w' := by
  obtain ⟨w0, hw0⟩ : ∃ w0, w0 = w.alloc (.cells #[.int .i64 k, .int .i64 op, .int .i64 f.k, .int .i64 f.p, .int .i64 f.q, .string f.s, .int .i64 f.r, .slice p1 l.length c1, .string s, .int .i64 lv, .int .i64 nx, .slice p2 kp.length c2] 31) := ⟨_, rfl⟩
  have HC0 : Hid (Ch [] w w0) := Lib.hid (by rw [hw0]; exact (Ch.refl [] w).alloc _)
  have HA : Hid (Blk 31 w.heap.size #[.int .i64 k, .int .i64 op, .int .i64 f.k, .int .i64 f.p, .int .i64 f.q, .string f.s, .int .i64 f.r, .slice p1 l.length c1, .string s, .int .i64 lv, .int .i64 nx, .slice p2 kp.length c2] w0) := Lib.hid (by rw [hw0]; exact Blk.new w _ _ _ rfl)
  have QF : Hid (Calls Try.prog 38 #[.agg #[.int .i64 k, .int .i64 op, .int .i64 f.k, .int .i64 f.p, .int .i64 f.q, .string f.s, .int .i64 f.r, .slice p1 l.length c1, .string s, .int .i64 lv, .int .i64 nx, .slice p2 kp.length c2]] w0 fun e w' => e = .returned (.bool true) ∧ Ch [] w0 w') := Lib.hid (by rw [← hfl]; exact rfields_any ⟨k, op, f, l, s, lv, nx, kp⟩ _ _ w0 (h1.below HC0.out) (h2.below HC0.out) (by first | exact ⟨hk1, hk2⟩ | (simp)))
  have QV0 : Hid (∀ W, Calls Try.prog 39 #[.agg #[.int .i64 f.k, .int .i64 f.p, .int .i64 f.q, .string f.s, .int .i64 f.r]] W fun e w' => e = .returned (.bool true) ∧ Below W.heap.size W w') := Lib.hid fun W => by rw [← hv1]; exact rvalid5 f.k f.p f.q f.s f.r W
  have HK1 := Lib.hid (vals_of h1)
  have HALLa := Lib.hid hv2
  have HNa := Lib.hid n1
  have HK2 := Lib.hid (vals_of h2)
  have HALLb := Lib.hid hv3
  have HNb := Lib.hid n2
  have hk3 : ¬ k < 1 := by omega
  have hk4 : ¬ 9 < k := by omega
  have hk5 : (k == 2) = false := by rw [beq_eq_false_iff_ne]; exact h2'
  have hk6 : (k == 6) = false := by rw [beq_eq_false_iff_ne]; exact h6'
  have i1 : ¬ (200 : Int) < (l.length : Int) := by omega
  have i2 : ¬ (32 : Int) < (kp.length : Int) := by omega
  have i3 : (65536 : Int) < (s.size : Int) := by omega
  have HW := Lib.hid hw0
  clear hw0 h1 h2 n1 n2 hfl hv1 hv2 hv3
  go_enter Try.func25, Try.ntmps25
  go_upto_region 1 with fail
  rw [← HW.out]
  have a0 : w0.cell? ⟨w.heap.size, 0, none⟩ = some (.int .i64 k) := HA.out.cell 0
  have a1 : w0.cell? ⟨w.heap.size, 1, none⟩ = some (.int .i64 op) := HA.out.cell 1
  have a2 : w0.cell? ⟨w.heap.size, 2, none⟩ = some (.int .i64 f.k) := HA.out.cell 2
  have a3 : w0.cell? ⟨w.heap.size, 3, none⟩ = some (.int .i64 f.p) := HA.out.cell 3
  have a4 : w0.cell? ⟨w.heap.size, 4, none⟩ = some (.int .i64 f.q) := HA.out.cell 4
  have a5 : w0.cell? ⟨w.heap.size, 5, none⟩ = some (.string f.s) := HA.out.cell 5
  have a6 : w0.cell? ⟨w.heap.size, 6, none⟩ = some (.int .i64 f.r) := HA.out.cell 6
  have a7 : w0.cell? ⟨w.heap.size, 7, none⟩ = some (.slice p1 l.length c1) := HA.out.cell 7
  have a8 : w0.cell? ⟨w.heap.size, 8, none⟩ = some (.string s) := HA.out.cell 8
  have a9 : w0.cell? ⟨w.heap.size, 9, none⟩ = some (.int .i64 lv) := HA.out.cell 9
  have a10 : w0.cell? ⟨w.heap.size, 10, none⟩ = some (.int .i64 nx) := HA.out.cell 10
  have a11 : w0.cell? ⟨w.heap.size, 11, none⟩ = some (.slice p2 kp.length c2) := HA.out.cell 11
  have la := HA.out.lt
  go_wp2_with (first | (go_at_call 38; (with_reducible refine (QF.out).mono ?_); rintro e w1 ⟨rfl, hc⟩; have HC1 := Lib.hid hc; clear hc; have b0 : w1.cell? ⟨w.heap.size, 0, none⟩ = some (.int .i64 k) := (HA.out.ch (HC1.out) (not_nil _)).cell 0; have b1 : w1.cell? ⟨w.heap.size, 1, none⟩ = some (.int .i64 op) := (HA.out.ch (HC1.out) (not_nil _)).cell 1; have b2 : w1.cell? ⟨w.heap.size, 2, none⟩ = some (.int .i64 f.k) := (HA.out.ch (HC1.out) (not_nil _)).cell 2; have b3 : w1.cell? ⟨w.heap.size, 3, none⟩ = some (.int .i64 f.p) := (HA.out.ch (HC1.out) (not_nil _)).cell 3; have b4 : w1.cell? ⟨w.heap.size, 4, none⟩ = some (.int .i64 f.q) := (HA.out.ch (HC1.out) (not_nil _)).cell 4; have b5 : w1.cell? ⟨w.heap.size, 5, none⟩ = some (.string f.s) := (HA.out.ch (HC1.out) (not_nil _)).cell 5; have b6 : w1.cell? ⟨w.heap.size, 6, none⟩ = some (.int .i64 f.r) := (HA.out.ch (HC1.out) (not_nil _)).cell 6; have b7 : w1.cell? ⟨w.heap.size, 7, none⟩ = some (.slice p1 l.length c1) := (HA.out.ch (HC1.out) (not_nil _)).cell 7; have b8 : w1.cell? ⟨w.heap.size, 8, none⟩ = some (.string s) := (HA.out.ch (HC1.out) (not_nil _)).cell 8; have b9 : w1.cell? ⟨w.heap.size, 9, none⟩ = some (.int .i64 lv) := (HA.out.ch (HC1.out) (not_nil _)).cell 9; have b10 : w1.cell? ⟨w.heap.size, 10, none⟩ = some (.int .i64 nx) := (HA.out.ch (HC1.out) (not_nil _)).cell 10; have b11 : w1.cell? ⟨w.heap.size, 11, none⟩ = some (.slice p2 kp.length c2) := (HA.out.ch (HC1.out) (not_nil _)).cell 11; have bl := (HA.out.ch (HC1.out) (not_nil _)).lt) | (go_at_call 39; (with_reducible refine (QV0.out _).mono ?_); rintro e w2 ⟨rfl, hb⟩; have HC2 := Lib.hid (HC1.out.trans (Ch.of_below hb)); clear hb; have d0 : w2.cell? ⟨w.heap.size, 0, none⟩ = some (.int .i64 k) := (HA.out.ch (HC2.out) (not_nil _)).cell 0; have d1 : w2.cell? ⟨w.heap.size, 1, none⟩ = some (.int .i64 op) := (HA.out.ch (HC2.out) (not_nil _)).cell 1; have d2 : w2.cell? ⟨w.heap.size, 2, none⟩ = some (.int .i64 f.k) := (HA.out.ch (HC2.out) (not_nil _)).cell 2; have d3 : w2.cell? ⟨w.heap.size, 3, none⟩ = some (.int .i64 f.p) := (HA.out.ch (HC2.out) (not_nil _)).cell 3; have d4 : w2.cell? ⟨w.heap.size, 4, none⟩ = some (.int .i64 f.q) := (HA.out.ch (HC2.out) (not_nil _)).cell 4; have d5 : w2.cell? ⟨w.heap.size, 5, none⟩ = some (.string f.s) := (HA.out.ch (HC2.out) (not_nil _)).cell 5; have d6 : w2.cell? ⟨w.heap.size, 6, none⟩ = some (.int .i64 f.r) := (HA.out.ch (HC2.out) (not_nil _)).cell 6; have d7 : w2.cell? ⟨w.heap.size, 7, none⟩ = some (.slice p1 l.length c1) := (HA.out.ch (HC2.out) (not_nil _)).cell 7; have d8 : w2.cell? ⟨w.heap.size, 8, none⟩ = some (.string s) := (HA.out.ch (HC2.out) (not_nil _)).cell 8; have d9 : w2.cell? ⟨w.heap.size, 9, none⟩ = some (.int .i64 lv) := (HA.out.ch (HC2.out) (not_nil _)).cell 9; have d10 : w2.cell? ⟨w.heap.size, 10, none⟩ = some (.int .i64 nx) := (HA.out.ch (HC2.out) (not_nil _)).cell 10; have d11 : w2.cell? ⟨w.heap.size, 11, none⟩ = some (.slice p2 kp.length c2) := (HA.out.ch (HC2.out) (not_nil _)).cell 11; have dl := (HA.out.ch (HC2.out) (not_nil _)).lt))
  go_loopw [3] (fun v wr => ∃ k : Nat, k ≤ l.length ∧ v = .int .i64 (k : Int) ∧ Hid ((l.take k).all okV = true) ∧ Hid (Ch [] w0 wr)) (fun v _ => l.length - (intOf v).toNat)
  case atStart => exact ⟨0, Nat.zero_le _, rfl, Lib.hid rfl, Lib.hid (HC2.out)⟩
  case round =>
    obtain ⟨ka, hka, rfl, HTa, HBa⟩ := hrel
    rename World => Wa
    have ya0 : Wa.cell? ⟨w.heap.size, 0, none⟩ = some (.int .i64 k) := (HA.out.ch (HBa.out) (not_nil _)).cell 0
    have ya1 : Wa.cell? ⟨w.heap.size, 1, none⟩ = some (.int .i64 op) := (HA.out.ch (HBa.out) (not_nil _)).cell 1
    have ya2 : Wa.cell? ⟨w.heap.size, 2, none⟩ = some (.int .i64 f.k) := (HA.out.ch (HBa.out) (not_nil _)).cell 2
    have ya3 : Wa.cell? ⟨w.heap.size, 3, none⟩ = some (.int .i64 f.p) := (HA.out.ch (HBa.out) (not_nil _)).cell 3
    have ya4 : Wa.cell? ⟨w.heap.size, 4, none⟩ = some (.int .i64 f.q) := (HA.out.ch (HBa.out) (not_nil _)).cell 4
    have ya5 : Wa.cell? ⟨w.heap.size, 5, none⟩ = some (.string f.s) := (HA.out.ch (HBa.out) (not_nil _)).cell 5
    have ya6 : Wa.cell? ⟨w.heap.size, 6, none⟩ = some (.int .i64 f.r) := (HA.out.ch (HBa.out) (not_nil _)).cell 6
    have ya7 : Wa.cell? ⟨w.heap.size, 7, none⟩ = some (.slice p1 l.length c1) := (HA.out.ch (HBa.out) (not_nil _)).cell 7
    have ya8 : Wa.cell? ⟨w.heap.size, 8, none⟩ = some (.string s) := (HA.out.ch (HBa.out) (not_nil _)).cell 8
    have ya9 : Wa.cell? ⟨w.heap.size, 9, none⟩ = some (.int .i64 lv) := (HA.out.ch (HBa.out) (not_nil _)).cell 9
    have ya10 : Wa.cell? ⟨w.heap.size, 10, none⟩ = some (.int .i64 nx) := (HA.out.ch (HBa.out) (not_nil _)).cell 10
    have ya11 : Wa.cell? ⟨w.heap.size, 11, none⟩ = some (.slice p2 kp.length c2) := (HA.out.ch (HBa.out) (not_nil _)).cell 11
    have yal := (HA.out.ch (HBa.out) (not_nil _)).lt
    by_cases hlt : ka < l.length
    · have hlt' : (ka : Int) < (l.length : Int) := by omega
      have hi0' : (0 : Int) ≤ (ka : Int) := by omega
      have di : IntKind.i64.wrap ((ka : Int) + 1) = (ka : Int) + 1 := IntWalk.i64_in _ (by have := HNa.out; omega)
      obtain ⟨g, o, rfl, hg, hcv⟩ := HK1.out (by omega)
      obtain ⟨x, hx⟩ : ∃ x, x = l[ka] := ⟨_, rfl⟩
      have m1 : ∀ j, j < 5 → Wa.cell? ⟨g, o + ka * 5 + j, none⟩ = (vC x)[j]? := fun j hj => ((HC0.out.trans HBa.out).below.cell (p := ⟨g, _, none⟩) hg).trans (by rw [hx]; exact hcv ka j hlt hj)
      have hg2 : g < Wa.heap.size := Nat.lt_of_lt_of_le hg (HC0.out.trans HBa.out).size
      have s0 : Wa.cell? ⟨g, o + ka * 5, none⟩ = some (.int .i64 x.k) := m1 0 (by omega)
      have s1 : Wa.cell? ⟨g, o + ka * 5 + 1, none⟩ = some (.int .i64 x.p) := m1 1 (by omega)
      have s2 : Wa.cell? ⟨g, o + ka * 5 + 2, none⟩ = some (.int .i64 x.q) := m1 2 (by omega)
      have s3 : Wa.cell? ⟨g, o + ka * 5 + 3, none⟩ = some (.string x.s) := m1 3 (by omega)
      have s4 : Wa.cell? ⟨g, o + ka * 5 + 4, none⟩ = some (.int .i64 x.r) := m1 4 (by omega)
      have HTk : Hid (l.take (ka + 1) = l.take ka ++ [x]) := Lib.hid (by rw [hx, List.take_succ_eq_append_getElem hlt])
      have hxm : x ∈ l := by rw [hx]; exact List.getElem_mem hlt
      clear m1 hcv hx
      have hok : okV x = true := List.all_eq_true.1 HALLa.out x hxm
      have QV : Hid (∀ W, Calls Try.prog 39 #[.agg #[.int .i64 x.k, .int .i64 x.p, .int .i64 x.q, .string x.s, .int .i64 x.r]] W fun e w' => e = .returned (.bool true) ∧ Below W.heap.size W w') := Lib.hid fun W => by rw [← hok]; exact rvalid5 x.k x.p x.q x.s x.r W
      have HOK := Lib.hid hok
      clear hok hxm
      go_wp2_with (go_at_call 39; (with_reducible refine (QV.out _).mono ?_); rintro e w8 ⟨rfl, hb⟩; have HC8 : Hid (Ch [] w0 w8) := Lib.hid (HBa.out.trans (Ch.of_below hb)); clear hb)
      go_roundw
      case rel => exact ⟨ka + 1, by omega, by go_num, Lib.hid (by rw [HTk.out, List.all_append, HTa.out]; simp [HOK.out]), HC8⟩
      case measure => simp [intOf]; omega
    · have hlt' : ¬ (ka : Int) < (l.length : Int) := by omega
      go_wp2
      go_loopw [4] (fun v wr => ∃ k : Nat, k ≤ kp.length ∧ v = .int .i64 (k : Int) ∧ Hid ((kp.take k).all okV = true) ∧ Hid (Ch [] w0 wr)) (fun v _ => kp.length - (intOf v).toNat)
      case atStart => exact ⟨0, Nat.zero_le _, rfl, Lib.hid rfl, Lib.hid (HBa.out)⟩
      case round =>
        obtain ⟨kb, hkb, rfl, HTb, HBb⟩ := hrel
        rename World => Wb
        have yb0 : Wb.cell? ⟨w.heap.size, 0, none⟩ = some (.int .i64 k) := (HA.out.ch (HBb.out) (not_nil _)).cell 0
        have yb1 : Wb.cell? ⟨w.heap.size, 1, none⟩ = some (.int .i64 op) := (HA.out.ch (HBb.out) (not_nil _)).cell 1
        have yb2 : Wb.cell? ⟨w.heap.size, 2, none⟩ = some (.int .i64 f.k) := (HA.out.ch (HBb.out) (not_nil _)).cell 2
        have yb3 : Wb.cell? ⟨w.heap.size, 3, none⟩ = some (.int .i64 f.p) := (HA.out.ch (HBb.out) (not_nil _)).cell 3
        have yb4 : Wb.cell? ⟨w.heap.size, 4, none⟩ = some (.int .i64 f.q) := (HA.out.ch (HBb.out) (not_nil _)).cell 4
        have yb5 : Wb.cell? ⟨w.heap.size, 5, none⟩ = some (.string f.s) := (HA.out.ch (HBb.out) (not_nil _)).cell 5
        have yb6 : Wb.cell? ⟨w.heap.size, 6, none⟩ = some (.int .i64 f.r) := (HA.out.ch (HBb.out) (not_nil _)).cell 6
        have yb7 : Wb.cell? ⟨w.heap.size, 7, none⟩ = some (.slice p1 l.length c1) := (HA.out.ch (HBb.out) (not_nil _)).cell 7
        have yb8 : Wb.cell? ⟨w.heap.size, 8, none⟩ = some (.string s) := (HA.out.ch (HBb.out) (not_nil _)).cell 8
        have yb9 : Wb.cell? ⟨w.heap.size, 9, none⟩ = some (.int .i64 lv) := (HA.out.ch (HBb.out) (not_nil _)).cell 9
        have yb10 : Wb.cell? ⟨w.heap.size, 10, none⟩ = some (.int .i64 nx) := (HA.out.ch (HBb.out) (not_nil _)).cell 10
        have yb11 : Wb.cell? ⟨w.heap.size, 11, none⟩ = some (.slice p2 kp.length c2) := (HA.out.ch (HBb.out) (not_nil _)).cell 11
        have ybl := (HA.out.ch (HBb.out) (not_nil _)).lt
        by_cases hlt : kb < kp.length
        · have hlt' : (kb : Int) < (kp.length : Int) := by omega
          have hi0' : (0 : Int) ≤ (kb : Int) := by omega
          have di : IntKind.i64.wrap ((kb : Int) + 1) = (kb : Int) + 1 := IntWalk.i64_in _ (by have := HNb.out; omega)
          obtain ⟨g, o, rfl, hg, hcv⟩ := HK2.out (by omega)
          obtain ⟨x, hx⟩ : ∃ x, x = kp[kb] := ⟨_, rfl⟩
          have m1 : ∀ j, j < 5 → Wb.cell? ⟨g, o + kb * 5 + j, none⟩ = (vC x)[j]? := fun j hj => ((HC0.out.trans HBb.out).below.cell (p := ⟨g, _, none⟩) hg).trans (by rw [hx]; exact hcv kb j hlt hj)
          have hg2 : g < Wb.heap.size := Nat.lt_of_lt_of_le hg (HC0.out.trans HBb.out).size
          have s0 : Wb.cell? ⟨g, o + kb * 5, none⟩ = some (.int .i64 x.k) := m1 0 (by omega)
          have s1 : Wb.cell? ⟨g, o + kb * 5 + 1, none⟩ = some (.int .i64 x.p) := m1 1 (by omega)
          have s2 : Wb.cell? ⟨g, o + kb * 5 + 2, none⟩ = some (.int .i64 x.q) := m1 2 (by omega)
          have s3 : Wb.cell? ⟨g, o + kb * 5 + 3, none⟩ = some (.string x.s) := m1 3 (by omega)
          have s4 : Wb.cell? ⟨g, o + kb * 5 + 4, none⟩ = some (.int .i64 x.r) := m1 4 (by omega)
          have HTk : Hid (kp.take (kb + 1) = kp.take kb ++ [x]) := Lib.hid (by rw [hx, List.take_succ_eq_append_getElem hlt])
          have hxm : x ∈ kp := by rw [hx]; exact List.getElem_mem hlt
          clear m1 hcv hx
          have hok : okV x = true := List.all_eq_true.1 HALLb.out x hxm
          have QV : Hid (∀ W, Calls Try.prog 39 #[.agg #[.int .i64 x.k, .int .i64 x.p, .int .i64 x.q, .string x.s, .int .i64 x.r]] W fun e w' => e = .returned (.bool true) ∧ Below W.heap.size W w') := Lib.hid fun W => by rw [← hok]; exact rvalid5 x.k x.p x.q x.s x.r W
          have HOK := Lib.hid hok
          clear hok hxm
          go_wp2_with (go_at_call 39; (with_reducible refine (QV.out _).mono ?_); rintro e w8 ⟨rfl, hb⟩; have HC8 : Hid (Ch [] w0 w8) := Lib.hid (HBb.out.trans (Ch.of_below hb)); clear hb)
          go_roundw
          case rel => exact ⟨kb + 1, by omega, by go_num, Lib.hid (by rw [HTk.out, List.all_append, HTb.out]; simp [HOK.out]), HC8⟩
          case measure => simp [intOf]; omega
        · have hlt' : ¬ (kb : Int) < (kp.length : Int) := by omega
          go_wp2
          go_ret
          exact ⟨rfl, HC0.out.trans (HBb.out)⟩
set_option maxHeartbeats 8000000 in
set_option maxRecDepth 20000 in
theorem rck_h (k : Int) (op : Int) (f : V5) (l : List V5) (s : ByteArray) (lv nx : Int) (kp : List V5) (p1 p2 : Option Addr) (c1 c2 : Nat) (w : World) (h1 : VA w (.slice p1 l.length c1) l) (h2 : VA w (.slice p2 kp.length c2) kp) (n1 : l.length ≤ 1000000) (n2 : kp.length ≤ 1000000) (hfl : decide (clrA ⟨k, op, f, l, s, lv, nx, kp⟩ = zA) = true) (hk1 : 1 ≤ k) (hk2 : k ≤ 9) (h2' : ¬ k = 2) (h6' : ¬ k = 6) (q1 : ¬ lv < 0) (q2 : ¬ 255 < lv) (q3 : ¬ nx < 0) (q4 : ¬ 255 < nx) (m1 : ¬ 200 < l.length) (m2 : ¬ 32 < kp.length) (hv1 : okV f = true) (hv2 : l.all okV = true) (hv3 : kp.all okV = true) (hs : ¬ 65536 < s.size) :
    Calls Try.prog 25 #[.agg #[.int .i64 k, .int .i64 op, .int .i64 f.k, .int .i64 f.p, .int .i64 f.q, .string f.s, .int .i64 f.r, .slice p1 l.length c1, .string s, .int .i64 lv, .int .i64 nx, .slice p2 kp.length c2]] w fun e w' => e = .returned (.int .i64 0) ∧ Ch [] w w' := by
  obtain ⟨w0, hw0⟩ : ∃ w0, w0 = w.alloc (.cells #[.int .i64 k, .int .i64 op, .int .i64 f.k, .int .i64 f.p, .int .i64 f.q, .string f.s, .int .i64 f.r, .slice p1 l.length c1, .string s, .int .i64 lv, .int .i64 nx, .slice p2 kp.length c2] 31) := ⟨_, rfl⟩
  have HC0 : Hid (Ch [] w w0) := Lib.hid (by rw [hw0]; exact (Ch.refl [] w).alloc _)
  have HA : Hid (Blk 31 w.heap.size #[.int .i64 k, .int .i64 op, .int .i64 f.k, .int .i64 f.p, .int .i64 f.q, .string f.s, .int .i64 f.r, .slice p1 l.length c1, .string s, .int .i64 lv, .int .i64 nx, .slice p2 kp.length c2] w0) := Lib.hid (by rw [hw0]; exact Blk.new w _ _ _ rfl)
  have QF : Hid (Calls Try.prog 38 #[.agg #[.int .i64 k, .int .i64 op, .int .i64 f.k, .int .i64 f.p, .int .i64 f.q, .string f.s, .int .i64 f.r, .slice p1 l.length c1, .string s, .int .i64 lv, .int .i64 nx, .slice p2 kp.length c2]] w0 fun e w' => e = .returned (.bool true) ∧ Ch [] w0 w') := Lib.hid (by rw [← hfl]; exact rfields_any ⟨k, op, f, l, s, lv, nx, kp⟩ _ _ w0 (h1.below HC0.out) (h2.below HC0.out) (by first | exact ⟨hk1, hk2⟩ | (simp)))
  have QV0 : Hid (∀ W, Calls Try.prog 39 #[.agg #[.int .i64 f.k, .int .i64 f.p, .int .i64 f.q, .string f.s, .int .i64 f.r]] W fun e w' => e = .returned (.bool true) ∧ Below W.heap.size W w') := Lib.hid fun W => by rw [← hv1]; exact rvalid5 f.k f.p f.q f.s f.r W
  have HK1 := Lib.hid (vals_of h1)
  have HALLa := Lib.hid hv2
  have HNa := Lib.hid n1
  have HK2 := Lib.hid (vals_of h2)
  have HALLb := Lib.hid hv3
  have HNb := Lib.hid n2
  have hk3 : ¬ k < 1 := by omega
  have hk4 : ¬ 9 < k := by omega
  have hk5 : (k == 2) = false := by rw [beq_eq_false_iff_ne]; exact h2'
  have hk6 : (k == 6) = false := by rw [beq_eq_false_iff_ne]; exact h6'
  have i1 : ¬ (200 : Int) < (l.length : Int) := by omega
  have i2 : ¬ (32 : Int) < (kp.length : Int) := by omega
  have i3 : ¬ (65536 : Int) < (s.size : Int) := by omega
  have HW := Lib.hid hw0
  clear hw0 h1 h2 n1 n2 hfl hv1 hv2 hv3
  go_enter Try.func25, Try.ntmps25
  go_upto_region 1 with fail
  rw [← HW.out]
  have a0 : w0.cell? ⟨w.heap.size, 0, none⟩ = some (.int .i64 k) := HA.out.cell 0
  have a1 : w0.cell? ⟨w.heap.size, 1, none⟩ = some (.int .i64 op) := HA.out.cell 1
  have a2 : w0.cell? ⟨w.heap.size, 2, none⟩ = some (.int .i64 f.k) := HA.out.cell 2
  have a3 : w0.cell? ⟨w.heap.size, 3, none⟩ = some (.int .i64 f.p) := HA.out.cell 3
  have a4 : w0.cell? ⟨w.heap.size, 4, none⟩ = some (.int .i64 f.q) := HA.out.cell 4
  have a5 : w0.cell? ⟨w.heap.size, 5, none⟩ = some (.string f.s) := HA.out.cell 5
  have a6 : w0.cell? ⟨w.heap.size, 6, none⟩ = some (.int .i64 f.r) := HA.out.cell 6
  have a7 : w0.cell? ⟨w.heap.size, 7, none⟩ = some (.slice p1 l.length c1) := HA.out.cell 7
  have a8 : w0.cell? ⟨w.heap.size, 8, none⟩ = some (.string s) := HA.out.cell 8
  have a9 : w0.cell? ⟨w.heap.size, 9, none⟩ = some (.int .i64 lv) := HA.out.cell 9
  have a10 : w0.cell? ⟨w.heap.size, 10, none⟩ = some (.int .i64 nx) := HA.out.cell 10
  have a11 : w0.cell? ⟨w.heap.size, 11, none⟩ = some (.slice p2 kp.length c2) := HA.out.cell 11
  have la := HA.out.lt
  go_wp2_with (first | (go_at_call 38; (with_reducible refine (QF.out).mono ?_); rintro e w1 ⟨rfl, hc⟩; have HC1 := Lib.hid hc; clear hc; have b0 : w1.cell? ⟨w.heap.size, 0, none⟩ = some (.int .i64 k) := (HA.out.ch (HC1.out) (not_nil _)).cell 0; have b1 : w1.cell? ⟨w.heap.size, 1, none⟩ = some (.int .i64 op) := (HA.out.ch (HC1.out) (not_nil _)).cell 1; have b2 : w1.cell? ⟨w.heap.size, 2, none⟩ = some (.int .i64 f.k) := (HA.out.ch (HC1.out) (not_nil _)).cell 2; have b3 : w1.cell? ⟨w.heap.size, 3, none⟩ = some (.int .i64 f.p) := (HA.out.ch (HC1.out) (not_nil _)).cell 3; have b4 : w1.cell? ⟨w.heap.size, 4, none⟩ = some (.int .i64 f.q) := (HA.out.ch (HC1.out) (not_nil _)).cell 4; have b5 : w1.cell? ⟨w.heap.size, 5, none⟩ = some (.string f.s) := (HA.out.ch (HC1.out) (not_nil _)).cell 5; have b6 : w1.cell? ⟨w.heap.size, 6, none⟩ = some (.int .i64 f.r) := (HA.out.ch (HC1.out) (not_nil _)).cell 6; have b7 : w1.cell? ⟨w.heap.size, 7, none⟩ = some (.slice p1 l.length c1) := (HA.out.ch (HC1.out) (not_nil _)).cell 7; have b8 : w1.cell? ⟨w.heap.size, 8, none⟩ = some (.string s) := (HA.out.ch (HC1.out) (not_nil _)).cell 8; have b9 : w1.cell? ⟨w.heap.size, 9, none⟩ = some (.int .i64 lv) := (HA.out.ch (HC1.out) (not_nil _)).cell 9; have b10 : w1.cell? ⟨w.heap.size, 10, none⟩ = some (.int .i64 nx) := (HA.out.ch (HC1.out) (not_nil _)).cell 10; have b11 : w1.cell? ⟨w.heap.size, 11, none⟩ = some (.slice p2 kp.length c2) := (HA.out.ch (HC1.out) (not_nil _)).cell 11; have bl := (HA.out.ch (HC1.out) (not_nil _)).lt) | (go_at_call 39; (with_reducible refine (QV0.out _).mono ?_); rintro e w2 ⟨rfl, hb⟩; have HC2 := Lib.hid (HC1.out.trans (Ch.of_below hb)); clear hb; have d0 : w2.cell? ⟨w.heap.size, 0, none⟩ = some (.int .i64 k) := (HA.out.ch (HC2.out) (not_nil _)).cell 0; have d1 : w2.cell? ⟨w.heap.size, 1, none⟩ = some (.int .i64 op) := (HA.out.ch (HC2.out) (not_nil _)).cell 1; have d2 : w2.cell? ⟨w.heap.size, 2, none⟩ = some (.int .i64 f.k) := (HA.out.ch (HC2.out) (not_nil _)).cell 2; have d3 : w2.cell? ⟨w.heap.size, 3, none⟩ = some (.int .i64 f.p) := (HA.out.ch (HC2.out) (not_nil _)).cell 3; have d4 : w2.cell? ⟨w.heap.size, 4, none⟩ = some (.int .i64 f.q) := (HA.out.ch (HC2.out) (not_nil _)).cell 4; have d5 : w2.cell? ⟨w.heap.size, 5, none⟩ = some (.string f.s) := (HA.out.ch (HC2.out) (not_nil _)).cell 5; have d6 : w2.cell? ⟨w.heap.size, 6, none⟩ = some (.int .i64 f.r) := (HA.out.ch (HC2.out) (not_nil _)).cell 6; have d7 : w2.cell? ⟨w.heap.size, 7, none⟩ = some (.slice p1 l.length c1) := (HA.out.ch (HC2.out) (not_nil _)).cell 7; have d8 : w2.cell? ⟨w.heap.size, 8, none⟩ = some (.string s) := (HA.out.ch (HC2.out) (not_nil _)).cell 8; have d9 : w2.cell? ⟨w.heap.size, 9, none⟩ = some (.int .i64 lv) := (HA.out.ch (HC2.out) (not_nil _)).cell 9; have d10 : w2.cell? ⟨w.heap.size, 10, none⟩ = some (.int .i64 nx) := (HA.out.ch (HC2.out) (not_nil _)).cell 10; have d11 : w2.cell? ⟨w.heap.size, 11, none⟩ = some (.slice p2 kp.length c2) := (HA.out.ch (HC2.out) (not_nil _)).cell 11; have dl := (HA.out.ch (HC2.out) (not_nil _)).lt))
  go_loopw [3] (fun v wr => ∃ k : Nat, k ≤ l.length ∧ v = .int .i64 (k : Int) ∧ Hid ((l.take k).all okV = true) ∧ Hid (Ch [] w0 wr)) (fun v _ => l.length - (intOf v).toNat)
  case atStart => exact ⟨0, Nat.zero_le _, rfl, Lib.hid rfl, Lib.hid (HC2.out)⟩
  case round =>
    obtain ⟨ka, hka, rfl, HTa, HBa⟩ := hrel
    rename World => Wa
    have ya0 : Wa.cell? ⟨w.heap.size, 0, none⟩ = some (.int .i64 k) := (HA.out.ch (HBa.out) (not_nil _)).cell 0
    have ya1 : Wa.cell? ⟨w.heap.size, 1, none⟩ = some (.int .i64 op) := (HA.out.ch (HBa.out) (not_nil _)).cell 1
    have ya2 : Wa.cell? ⟨w.heap.size, 2, none⟩ = some (.int .i64 f.k) := (HA.out.ch (HBa.out) (not_nil _)).cell 2
    have ya3 : Wa.cell? ⟨w.heap.size, 3, none⟩ = some (.int .i64 f.p) := (HA.out.ch (HBa.out) (not_nil _)).cell 3
    have ya4 : Wa.cell? ⟨w.heap.size, 4, none⟩ = some (.int .i64 f.q) := (HA.out.ch (HBa.out) (not_nil _)).cell 4
    have ya5 : Wa.cell? ⟨w.heap.size, 5, none⟩ = some (.string f.s) := (HA.out.ch (HBa.out) (not_nil _)).cell 5
    have ya6 : Wa.cell? ⟨w.heap.size, 6, none⟩ = some (.int .i64 f.r) := (HA.out.ch (HBa.out) (not_nil _)).cell 6
    have ya7 : Wa.cell? ⟨w.heap.size, 7, none⟩ = some (.slice p1 l.length c1) := (HA.out.ch (HBa.out) (not_nil _)).cell 7
    have ya8 : Wa.cell? ⟨w.heap.size, 8, none⟩ = some (.string s) := (HA.out.ch (HBa.out) (not_nil _)).cell 8
    have ya9 : Wa.cell? ⟨w.heap.size, 9, none⟩ = some (.int .i64 lv) := (HA.out.ch (HBa.out) (not_nil _)).cell 9
    have ya10 : Wa.cell? ⟨w.heap.size, 10, none⟩ = some (.int .i64 nx) := (HA.out.ch (HBa.out) (not_nil _)).cell 10
    have ya11 : Wa.cell? ⟨w.heap.size, 11, none⟩ = some (.slice p2 kp.length c2) := (HA.out.ch (HBa.out) (not_nil _)).cell 11
    have yal := (HA.out.ch (HBa.out) (not_nil _)).lt
    by_cases hlt : ka < l.length
    · have hlt' : (ka : Int) < (l.length : Int) := by omega
      have hi0' : (0 : Int) ≤ (ka : Int) := by omega
      have di : IntKind.i64.wrap ((ka : Int) + 1) = (ka : Int) + 1 := IntWalk.i64_in _ (by have := HNa.out; omega)
      obtain ⟨g, o, rfl, hg, hcv⟩ := HK1.out (by omega)
      obtain ⟨x, hx⟩ : ∃ x, x = l[ka] := ⟨_, rfl⟩
      have m1 : ∀ j, j < 5 → Wa.cell? ⟨g, o + ka * 5 + j, none⟩ = (vC x)[j]? := fun j hj => ((HC0.out.trans HBa.out).below.cell (p := ⟨g, _, none⟩) hg).trans (by rw [hx]; exact hcv ka j hlt hj)
      have hg2 : g < Wa.heap.size := Nat.lt_of_lt_of_le hg (HC0.out.trans HBa.out).size
      have s0 : Wa.cell? ⟨g, o + ka * 5, none⟩ = some (.int .i64 x.k) := m1 0 (by omega)
      have s1 : Wa.cell? ⟨g, o + ka * 5 + 1, none⟩ = some (.int .i64 x.p) := m1 1 (by omega)
      have s2 : Wa.cell? ⟨g, o + ka * 5 + 2, none⟩ = some (.int .i64 x.q) := m1 2 (by omega)
      have s3 : Wa.cell? ⟨g, o + ka * 5 + 3, none⟩ = some (.string x.s) := m1 3 (by omega)
      have s4 : Wa.cell? ⟨g, o + ka * 5 + 4, none⟩ = some (.int .i64 x.r) := m1 4 (by omega)
      have HTk : Hid (l.take (ka + 1) = l.take ka ++ [x]) := Lib.hid (by rw [hx, List.take_succ_eq_append_getElem hlt])
      have hxm : x ∈ l := by rw [hx]; exact List.getElem_mem hlt
      clear m1 hcv hx
      have hok : okV x = true := List.all_eq_true.1 HALLa.out x hxm
      have QV : Hid (∀ W, Calls Try.prog 39 #[.agg #[.int .i64 x.k, .int .i64 x.p, .int .i64 x.q, .string x.s, .int .i64 x.r]] W fun e w' => e = .returned (.bool true) ∧ Below W.heap.size W w') := Lib.hid fun W => by rw [← hok]; exact rvalid5 x.k x.p x.q x.s x.r W
      have HOK := Lib.hid hok
      clear hok hxm
      go_wp2_with (go_at_call 39; (with_reducible refine (QV.out _).mono ?_); rintro e w8 ⟨rfl, hb⟩; have HC8 : Hid (Ch [] w0 w8) := Lib.hid (HBa.out.trans (Ch.of_below hb)); clear hb)
      go_roundw
      case rel => exact ⟨ka + 1, by omega, by go_num, Lib.hid (by rw [HTk.out, List.all_append, HTa.out]; simp [HOK.out]), HC8⟩
      case measure => simp [intOf]; omega
    · have hlt' : ¬ (ka : Int) < (l.length : Int) := by omega
      go_wp2
      go_loopw [4] (fun v wr => ∃ k : Nat, k ≤ kp.length ∧ v = .int .i64 (k : Int) ∧ Hid ((kp.take k).all okV = true) ∧ Hid (Ch [] w0 wr)) (fun v _ => kp.length - (intOf v).toNat)
      case atStart => exact ⟨0, Nat.zero_le _, rfl, Lib.hid rfl, Lib.hid (HBa.out)⟩
      case round =>
        obtain ⟨kb, hkb, rfl, HTb, HBb⟩ := hrel
        rename World => Wb
        have yb0 : Wb.cell? ⟨w.heap.size, 0, none⟩ = some (.int .i64 k) := (HA.out.ch (HBb.out) (not_nil _)).cell 0
        have yb1 : Wb.cell? ⟨w.heap.size, 1, none⟩ = some (.int .i64 op) := (HA.out.ch (HBb.out) (not_nil _)).cell 1
        have yb2 : Wb.cell? ⟨w.heap.size, 2, none⟩ = some (.int .i64 f.k) := (HA.out.ch (HBb.out) (not_nil _)).cell 2
        have yb3 : Wb.cell? ⟨w.heap.size, 3, none⟩ = some (.int .i64 f.p) := (HA.out.ch (HBb.out) (not_nil _)).cell 3
        have yb4 : Wb.cell? ⟨w.heap.size, 4, none⟩ = some (.int .i64 f.q) := (HA.out.ch (HBb.out) (not_nil _)).cell 4
        have yb5 : Wb.cell? ⟨w.heap.size, 5, none⟩ = some (.string f.s) := (HA.out.ch (HBb.out) (not_nil _)).cell 5
        have yb6 : Wb.cell? ⟨w.heap.size, 6, none⟩ = some (.int .i64 f.r) := (HA.out.ch (HBb.out) (not_nil _)).cell 6
        have yb7 : Wb.cell? ⟨w.heap.size, 7, none⟩ = some (.slice p1 l.length c1) := (HA.out.ch (HBb.out) (not_nil _)).cell 7
        have yb8 : Wb.cell? ⟨w.heap.size, 8, none⟩ = some (.string s) := (HA.out.ch (HBb.out) (not_nil _)).cell 8
        have yb9 : Wb.cell? ⟨w.heap.size, 9, none⟩ = some (.int .i64 lv) := (HA.out.ch (HBb.out) (not_nil _)).cell 9
        have yb10 : Wb.cell? ⟨w.heap.size, 10, none⟩ = some (.int .i64 nx) := (HA.out.ch (HBb.out) (not_nil _)).cell 10
        have yb11 : Wb.cell? ⟨w.heap.size, 11, none⟩ = some (.slice p2 kp.length c2) := (HA.out.ch (HBb.out) (not_nil _)).cell 11
        have ybl := (HA.out.ch (HBb.out) (not_nil _)).lt
        by_cases hlt : kb < kp.length
        · have hlt' : (kb : Int) < (kp.length : Int) := by omega
          have hi0' : (0 : Int) ≤ (kb : Int) := by omega
          have di : IntKind.i64.wrap ((kb : Int) + 1) = (kb : Int) + 1 := IntWalk.i64_in _ (by have := HNb.out; omega)
          obtain ⟨g, o, rfl, hg, hcv⟩ := HK2.out (by omega)
          obtain ⟨x, hx⟩ : ∃ x, x = kp[kb] := ⟨_, rfl⟩
          have m1 : ∀ j, j < 5 → Wb.cell? ⟨g, o + kb * 5 + j, none⟩ = (vC x)[j]? := fun j hj => ((HC0.out.trans HBb.out).below.cell (p := ⟨g, _, none⟩) hg).trans (by rw [hx]; exact hcv kb j hlt hj)
          have hg2 : g < Wb.heap.size := Nat.lt_of_lt_of_le hg (HC0.out.trans HBb.out).size
          have s0 : Wb.cell? ⟨g, o + kb * 5, none⟩ = some (.int .i64 x.k) := m1 0 (by omega)
          have s1 : Wb.cell? ⟨g, o + kb * 5 + 1, none⟩ = some (.int .i64 x.p) := m1 1 (by omega)
          have s2 : Wb.cell? ⟨g, o + kb * 5 + 2, none⟩ = some (.int .i64 x.q) := m1 2 (by omega)
          have s3 : Wb.cell? ⟨g, o + kb * 5 + 3, none⟩ = some (.string x.s) := m1 3 (by omega)
          have s4 : Wb.cell? ⟨g, o + kb * 5 + 4, none⟩ = some (.int .i64 x.r) := m1 4 (by omega)
          have HTk : Hid (kp.take (kb + 1) = kp.take kb ++ [x]) := Lib.hid (by rw [hx, List.take_succ_eq_append_getElem hlt])
          have hxm : x ∈ kp := by rw [hx]; exact List.getElem_mem hlt
          clear m1 hcv hx
          have hok : okV x = true := List.all_eq_true.1 HALLb.out x hxm
          have QV : Hid (∀ W, Calls Try.prog 39 #[.agg #[.int .i64 x.k, .int .i64 x.p, .int .i64 x.q, .string x.s, .int .i64 x.r]] W fun e w' => e = .returned (.bool true) ∧ Below W.heap.size W w') := Lib.hid fun W => by rw [← hok]; exact rvalid5 x.k x.p x.q x.s x.r W
          have HOK := Lib.hid hok
          clear hok hxm
          go_wp2_with (go_at_call 39; (with_reducible refine (QV.out _).mono ?_); rintro e w8 ⟨rfl, hb⟩; have HC8 : Hid (Ch [] w0 w8) := Lib.hid (HBb.out.trans (Ch.of_below hb)); clear hb)
          go_roundw
          case rel => exact ⟨kb + 1, by omega, by go_num, Lib.hid (by rw [HTk.out, List.all_append, HTb.out]; simp [HOK.out]), HC8⟩
          case measure => simp [intOf]; omega
        · have hlt' : ¬ (kb : Int) < (kp.length : Int) := by omega
          go_wp2
          go_ret
          exact ⟨rfl, HC0.out.trans (HBb.out)⟩
end Go.Proofs.Ytdgdpckjcpgoaaa
