/- Layer 20: the reference's Check. -/
import Derived.Test.YtdgdpckjcpgoaaaPrL
namespace Go.Proofs.Ytdgdpckjcpgoaaa
open Go.RowKit Go.Joins M1
set_option linter.unusedVariables false
theorem vals_of {w : World} {p : Option Addr} {c : Nat} {l : List V5} (h : VA w (.slice p l.length c) l) : 0 < l.length → ∃ g o, p = some ⟨g, o, none⟩ ∧ g < w.heap.size ∧ ∀ (j m : Nat) (hj : j < l.length), m < 5 → w.cell? ⟨g, o + j * 5 + m, none⟩ = (vC l[j])[m]? := by
  obtain ⟨p', c', e, _, hv⟩ := h
  obtain ⟨p'', c'', e', hk⟩ := hv.form
  injection e' with e1 e2 e3
  subst e1
  exact hk
set_option maxHeartbeats 8000000 in
set_option maxRecDepth 20000 in
theorem ra_1 (k : Int) (op : Int) (f : V5) (l : List V5) (s : ByteArray) (lv nx : Int) (kp : List V5) (p1 p2 : Option Addr) (c1 c2 : Nat) (w : World) (h1 : VA w (.slice p1 l.length c1) l) (h2 : VA w (.slice p2 kp.length c2) kp) (n1 : l.length ≤ 1000000) (n2 : kp.length ≤ 1000000) (hk : k < 1) :
    Calls Try.prog 25 #[.agg #[.int .i64 k, .int .i64 op, .int .i64 f.k, .int .i64 f.p, .int .i64 f.q, .string f.s, .int .i64 f.r, .slice p1 l.length c1, .string s, .int .i64 lv, .int .i64 nx, .slice p2 kp.length c2]] w fun e w' => e = .returned (.int .i64 4) ∧ Ch [] w w' := by
  obtain ⟨w0, hw0⟩ : ∃ w0, w0 = w.alloc (.cells #[.int .i64 k, .int .i64 op, .int .i64 f.k, .int .i64 f.p, .int .i64 f.q, .string f.s, .int .i64 f.r, .slice p1 l.length c1, .string s, .int .i64 lv, .int .i64 nx, .slice p2 kp.length c2] 31) := ⟨_, rfl⟩
  have HC0 : Hid (Ch [] w w0) := Lib.hid (by rw [hw0]; exact (Ch.refl [] w).alloc _)
  have HA : Hid (Blk 31 w.heap.size #[.int .i64 k, .int .i64 op, .int .i64 f.k, .int .i64 f.p, .int .i64 f.q, .string f.s, .int .i64 f.r, .slice p1 l.length c1, .string s, .int .i64 lv, .int .i64 nx, .slice p2 kp.length c2] w0) := Lib.hid (by rw [hw0]; exact Blk.new w _ _ _ rfl)
  have HW := Lib.hid hw0
  clear hw0 h1 h2 n1 n2
  go_enter Try.func25, Try.ntmps25
  go_upto_region 1 with fail
  rw [← HW.out]
  have a0 : w0.cell? ⟨w.heap.size, 0, none⟩ = some (.int .i64 k) := HA.out.cell 0
  have a1 : w0.cell? ⟨w.heap.size, 1, none⟩ = some (.int .i64 op) := HA.out.cell 1
  have a2 : w0.cell? ⟨w.heap.size, 2, none⟩ = some (.int .i64 f.k) := HA.out.cell 2
  have a3 : w0.cell? ⟨w.heap.size, 3, none⟩ = some (.int .i64 f.p) := HA.out.cell 3
  have a4 : w0.cell? ⟨w.heap.size, 4, none⟩ = some (.int .i64 f.q) := HA.out.cell 4
  have a5 : w0.cell? ⟨w.heap.size, 5, none⟩ = some (.string f.s) := HA.out.cell 5
  have a6 : w0.cell? ⟨w.heap.size, 6, none⟩ = some (.int .i64 f.r) := HA.out.cell 6
  have a7 : w0.cell? ⟨w.heap.size, 7, none⟩ = some (.slice p1 l.length c1) := HA.out.cell 7
  have a8 : w0.cell? ⟨w.heap.size, 8, none⟩ = some (.string s) := HA.out.cell 8
  have a9 : w0.cell? ⟨w.heap.size, 9, none⟩ = some (.int .i64 lv) := HA.out.cell 9
  have a10 : w0.cell? ⟨w.heap.size, 10, none⟩ = some (.int .i64 nx) := HA.out.cell 10
  have a11 : w0.cell? ⟨w.heap.size, 11, none⟩ = some (.slice p2 kp.length c2) := HA.out.cell 11
  have la := HA.out.lt
  go_wp2
  go_ret
  exact ⟨rfl, HC0.out⟩
set_option maxHeartbeats 8000000 in
set_option maxRecDepth 20000 in
theorem ra_2 (k : Int) (op : Int) (f : V5) (l : List V5) (s : ByteArray) (lv nx : Int) (kp : List V5) (p1 p2 : Option Addr) (c1 c2 : Nat) (w : World) (h1 : VA w (.slice p1 l.length c1) l) (h2 : VA w (.slice p2 kp.length c2) kp) (n1 : l.length ≤ 1000000) (n2 : kp.length ≤ 1000000) (hk : 9 < k) :
    Calls Try.prog 25 #[.agg #[.int .i64 k, .int .i64 op, .int .i64 f.k, .int .i64 f.p, .int .i64 f.q, .string f.s, .int .i64 f.r, .slice p1 l.length c1, .string s, .int .i64 lv, .int .i64 nx, .slice p2 kp.length c2]] w fun e w' => e = .returned (.int .i64 4) ∧ Ch [] w w' := by
  obtain ⟨w0, hw0⟩ : ∃ w0, w0 = w.alloc (.cells #[.int .i64 k, .int .i64 op, .int .i64 f.k, .int .i64 f.p, .int .i64 f.q, .string f.s, .int .i64 f.r, .slice p1 l.length c1, .string s, .int .i64 lv, .int .i64 nx, .slice p2 kp.length c2] 31) := ⟨_, rfl⟩
  have HC0 : Hid (Ch [] w w0) := Lib.hid (by rw [hw0]; exact (Ch.refl [] w).alloc _)
  have HA : Hid (Blk 31 w.heap.size #[.int .i64 k, .int .i64 op, .int .i64 f.k, .int .i64 f.p, .int .i64 f.q, .string f.s, .int .i64 f.r, .slice p1 l.length c1, .string s, .int .i64 lv, .int .i64 nx, .slice p2 kp.length c2] w0) := Lib.hid (by rw [hw0]; exact Blk.new w _ _ _ rfl)
  have hk3 : ¬ k < 1 := by omega
  have HW := Lib.hid hw0
  clear hw0 h1 h2 n1 n2
  go_enter Try.func25, Try.ntmps25
  go_upto_region 1 with fail
  rw [← HW.out]
  have a0 : w0.cell? ⟨w.heap.size, 0, none⟩ = some (.int .i64 k) := HA.out.cell 0
  have a1 : w0.cell? ⟨w.heap.size, 1, none⟩ = some (.int .i64 op) := HA.out.cell 1
  have a2 : w0.cell? ⟨w.heap.size, 2, none⟩ = some (.int .i64 f.k) := HA.out.cell 2
  have a3 : w0.cell? ⟨w.heap.size, 3, none⟩ = some (.int .i64 f.p) := HA.out.cell 3
  have a4 : w0.cell? ⟨w.heap.size, 4, none⟩ = some (.int .i64 f.q) := HA.out.cell 4
  have a5 : w0.cell? ⟨w.heap.size, 5, none⟩ = some (.string f.s) := HA.out.cell 5
  have a6 : w0.cell? ⟨w.heap.size, 6, none⟩ = some (.int .i64 f.r) := HA.out.cell 6
  have a7 : w0.cell? ⟨w.heap.size, 7, none⟩ = some (.slice p1 l.length c1) := HA.out.cell 7
  have a8 : w0.cell? ⟨w.heap.size, 8, none⟩ = some (.string s) := HA.out.cell 8
  have a9 : w0.cell? ⟨w.heap.size, 9, none⟩ = some (.int .i64 lv) := HA.out.cell 9
  have a10 : w0.cell? ⟨w.heap.size, 10, none⟩ = some (.int .i64 nx) := HA.out.cell 10
  have a11 : w0.cell? ⟨w.heap.size, 11, none⟩ = some (.slice p2 kp.length c2) := HA.out.cell 11
  have la := HA.out.lt
  go_wp2
  go_ret
  exact ⟨rfl, HC0.out⟩
set_option maxHeartbeats 8000000 in
set_option maxRecDepth 20000 in
theorem ra_3 (k : Int) (op : Int) (f : V5) (l : List V5) (s : ByteArray) (lv nx : Int) (kp : List V5) (p1 p2 : Option Addr) (c1 c2 : Nat) (w : World) (h1 : VA w (.slice p1 l.length c1) l) (h2 : VA w (.slice p2 kp.length c2) kp) (n1 : l.length ≤ 1000000) (n2 : kp.length ≤ 1000000) (hk1 : 1 ≤ k) (hk2 : k ≤ 9) (hfl : decide (clrA ⟨k, op, f, l, s, lv, nx, kp⟩ = zA) = false) :
    Calls Try.prog 25 #[.agg #[.int .i64 k, .int .i64 op, .int .i64 f.k, .int .i64 f.p, .int .i64 f.q, .string f.s, .int .i64 f.r, .slice p1 l.length c1, .string s, .int .i64 lv, .int .i64 nx, .slice p2 kp.length c2]] w fun e w' => e = .returned (.int .i64 4) ∧ Ch [] w w' := by
  obtain ⟨w0, hw0⟩ : ∃ w0, w0 = w.alloc (.cells #[.int .i64 k, .int .i64 op, .int .i64 f.k, .int .i64 f.p, .int .i64 f.q, .string f.s, .int .i64 f.r, .slice p1 l.length c1, .string s, .int .i64 lv, .int .i64 nx, .slice p2 kp.length c2] 31) := ⟨_, rfl⟩
  have HC0 : Hid (Ch [] w w0) := Lib.hid (by rw [hw0]; exact (Ch.refl [] w).alloc _)
  have HA : Hid (Blk 31 w.heap.size #[.int .i64 k, .int .i64 op, .int .i64 f.k, .int .i64 f.p, .int .i64 f.q, .string f.s, .int .i64 f.r, .slice p1 l.length c1, .string s, .int .i64 lv, .int .i64 nx, .slice p2 kp.length c2] w0) := Lib.hid (by rw [hw0]; exact Blk.new w _ _ _ rfl)
  have QF : Hid (Calls Try.prog 38 #[.agg #[.int .i64 k, .int .i64 op, .int .i64 f.k, .int .i64 f.p, .int .i64 f.q, .string f.s, .int .i64 f.r, .slice p1 l.length c1, .string s, .int .i64 lv, .int .i64 nx, .slice p2 kp.length c2]] w0 fun e w' => e = .returned (.bool false) ∧ Ch [] w0 w') := Lib.hid (by rw [← hfl]; exact rfields_any ⟨k, op, f, l, s, lv, nx, kp⟩ _ _ w0 (h1.below HC0.out) (h2.below HC0.out) (by first | exact ⟨hk1, hk2⟩ | (simp)))
  have hk3 : ¬ k < 1 := by omega
  have hk4 : ¬ 9 < k := by omega
  have HW := Lib.hid hw0
  clear hw0 h1 h2 n1 n2 hfl
  go_enter Try.func25, Try.ntmps25
  go_upto_region 1 with fail
  rw [← HW.out]
  have a0 : w0.cell? ⟨w.heap.size, 0, none⟩ = some (.int .i64 k) := HA.out.cell 0
  have a1 : w0.cell? ⟨w.heap.size, 1, none⟩ = some (.int .i64 op) := HA.out.cell 1
  have a2 : w0.cell? ⟨w.heap.size, 2, none⟩ = some (.int .i64 f.k) := HA.out.cell 2
  have a3 : w0.cell? ⟨w.heap.size, 3, none⟩ = some (.int .i64 f.p) := HA.out.cell 3
  have a4 : w0.cell? ⟨w.heap.size, 4, none⟩ = some (.int .i64 f.q) := HA.out.cell 4
  have a5 : w0.cell? ⟨w.heap.size, 5, none⟩ = some (.string f.s) := HA.out.cell 5
  have a6 : w0.cell? ⟨w.heap.size, 6, none⟩ = some (.int .i64 f.r) := HA.out.cell 6
  have a7 : w0.cell? ⟨w.heap.size, 7, none⟩ = some (.slice p1 l.length c1) := HA.out.cell 7
  have a8 : w0.cell? ⟨w.heap.size, 8, none⟩ = some (.string s) := HA.out.cell 8
  have a9 : w0.cell? ⟨w.heap.size, 9, none⟩ = some (.int .i64 lv) := HA.out.cell 9
  have a10 : w0.cell? ⟨w.heap.size, 10, none⟩ = some (.int .i64 nx) := HA.out.cell 10
  have a11 : w0.cell? ⟨w.heap.size, 11, none⟩ = some (.slice p2 kp.length c2) := HA.out.cell 11
  have la := HA.out.lt
  go_wp2_with (first | (go_at_call 38; (with_reducible refine (QF.out).mono ?_); rintro e w1 ⟨rfl, hc⟩; have HC1 := Lib.hid hc; clear hc; have b0 : w1.cell? ⟨w.heap.size, 0, none⟩ = some (.int .i64 k) := (HA.out.ch (HC1.out) (not_nil _)).cell 0; have b1 : w1.cell? ⟨w.heap.size, 1, none⟩ = some (.int .i64 op) := (HA.out.ch (HC1.out) (not_nil _)).cell 1; have b2 : w1.cell? ⟨w.heap.size, 2, none⟩ = some (.int .i64 f.k) := (HA.out.ch (HC1.out) (not_nil _)).cell 2; have b3 : w1.cell? ⟨w.heap.size, 3, none⟩ = some (.int .i64 f.p) := (HA.out.ch (HC1.out) (not_nil _)).cell 3; have b4 : w1.cell? ⟨w.heap.size, 4, none⟩ = some (.int .i64 f.q) := (HA.out.ch (HC1.out) (not_nil _)).cell 4; have b5 : w1.cell? ⟨w.heap.size, 5, none⟩ = some (.string f.s) := (HA.out.ch (HC1.out) (not_nil _)).cell 5; have b6 : w1.cell? ⟨w.heap.size, 6, none⟩ = some (.int .i64 f.r) := (HA.out.ch (HC1.out) (not_nil _)).cell 6; have b7 : w1.cell? ⟨w.heap.size, 7, none⟩ = some (.slice p1 l.length c1) := (HA.out.ch (HC1.out) (not_nil _)).cell 7; have b8 : w1.cell? ⟨w.heap.size, 8, none⟩ = some (.string s) := (HA.out.ch (HC1.out) (not_nil _)).cell 8; have b9 : w1.cell? ⟨w.heap.size, 9, none⟩ = some (.int .i64 lv) := (HA.out.ch (HC1.out) (not_nil _)).cell 9; have b10 : w1.cell? ⟨w.heap.size, 10, none⟩ = some (.int .i64 nx) := (HA.out.ch (HC1.out) (not_nil _)).cell 10; have b11 : w1.cell? ⟨w.heap.size, 11, none⟩ = some (.slice p2 kp.length c2) := (HA.out.ch (HC1.out) (not_nil _)).cell 11; have bl := (HA.out.ch (HC1.out) (not_nil _)).lt))
  go_ret
  exact ⟨rfl, HC0.out.trans HC1.out⟩
set_option maxHeartbeats 8000000 in
set_option maxRecDepth 20000 in
theorem ra_4 (op : Int) (f : V5) (l : List V5) (s : ByteArray) (lv nx : Int) (kp : List V5) (p1 p2 : Option Addr) (c1 c2 : Nat) (w : World) (h1 : VA w (.slice p1 l.length c1) l) (h2 : VA w (.slice p2 kp.length c2) kp) (n1 : l.length ≤ 1000000) (n2 : kp.length ≤ 1000000) (hfl : decide (clrA ⟨2, op, f, l, s, lv, nx, kp⟩ = zA) = true) (hl : ¬ l.length = 1) :
    Calls Try.prog 25 #[.agg #[.int .i64 2, .int .i64 op, .int .i64 f.k, .int .i64 f.p, .int .i64 f.q, .string f.s, .int .i64 f.r, .slice p1 l.length c1, .string s, .int .i64 lv, .int .i64 nx, .slice p2 kp.length c2]] w fun e w' => e = .returned (.int .i64 4) ∧ Ch [] w w' := by
  obtain ⟨w0, hw0⟩ : ∃ w0, w0 = w.alloc (.cells #[.int .i64 2, .int .i64 op, .int .i64 f.k, .int .i64 f.p, .int .i64 f.q, .string f.s, .int .i64 f.r, .slice p1 l.length c1, .string s, .int .i64 lv, .int .i64 nx, .slice p2 kp.length c2] 31) := ⟨_, rfl⟩
  have HC0 : Hid (Ch [] w w0) := Lib.hid (by rw [hw0]; exact (Ch.refl [] w).alloc _)
  have HA : Hid (Blk 31 w.heap.size #[.int .i64 2, .int .i64 op, .int .i64 f.k, .int .i64 f.p, .int .i64 f.q, .string f.s, .int .i64 f.r, .slice p1 l.length c1, .string s, .int .i64 lv, .int .i64 nx, .slice p2 kp.length c2] w0) := Lib.hid (by rw [hw0]; exact Blk.new w _ _ _ rfl)
  have QF : Hid (Calls Try.prog 38 #[.agg #[.int .i64 2, .int .i64 op, .int .i64 f.k, .int .i64 f.p, .int .i64 f.q, .string f.s, .int .i64 f.r, .slice p1 l.length c1, .string s, .int .i64 lv, .int .i64 nx, .slice p2 kp.length c2]] w0 fun e w' => e = .returned (.bool true) ∧ Ch [] w0 w') := Lib.hid (by rw [← hfl]; exact rfields_any ⟨2, op, f, l, s, lv, nx, kp⟩ _ _ w0 (h1.below HC0.out) (h2.below HC0.out) (by first | exact ⟨hk1, hk2⟩ | (simp)))
  have hl1 : ¬ (l.length : Int) = 1 := by omega
  have hl2 : ((l.length : Int) != 1) = true := by rw [bne_iff_ne]; exact hl1
  have hl3 : ((l.length : Int) == 1) = false := by rw [beq_eq_false_iff_ne]; exact hl1
  have HW := Lib.hid hw0
  clear hw0 h1 h2 n1 n2 hfl
  go_enter Try.func25, Try.ntmps25
  go_upto_region 1 with fail
  rw [← HW.out]
  have a0 : w0.cell? ⟨w.heap.size, 0, none⟩ = some (.int .i64 2) := HA.out.cell 0
  have a1 : w0.cell? ⟨w.heap.size, 1, none⟩ = some (.int .i64 op) := HA.out.cell 1
  have a2 : w0.cell? ⟨w.heap.size, 2, none⟩ = some (.int .i64 f.k) := HA.out.cell 2
  have a3 : w0.cell? ⟨w.heap.size, 3, none⟩ = some (.int .i64 f.p) := HA.out.cell 3
  have a4 : w0.cell? ⟨w.heap.size, 4, none⟩ = some (.int .i64 f.q) := HA.out.cell 4
  have a5 : w0.cell? ⟨w.heap.size, 5, none⟩ = some (.string f.s) := HA.out.cell 5
  have a6 : w0.cell? ⟨w.heap.size, 6, none⟩ = some (.int .i64 f.r) := HA.out.cell 6
  have a7 : w0.cell? ⟨w.heap.size, 7, none⟩ = some (.slice p1 l.length c1) := HA.out.cell 7
  have a8 : w0.cell? ⟨w.heap.size, 8, none⟩ = some (.string s) := HA.out.cell 8
  have a9 : w0.cell? ⟨w.heap.size, 9, none⟩ = some (.int .i64 lv) := HA.out.cell 9
  have a10 : w0.cell? ⟨w.heap.size, 10, none⟩ = some (.int .i64 nx) := HA.out.cell 10
  have a11 : w0.cell? ⟨w.heap.size, 11, none⟩ = some (.slice p2 kp.length c2) := HA.out.cell 11
  have la := HA.out.lt
  go_wp2_with (first | (go_at_call 38; (with_reducible refine (QF.out).mono ?_); rintro e w1 ⟨rfl, hc⟩; have HC1 := Lib.hid hc; clear hc; have b0 : w1.cell? ⟨w.heap.size, 0, none⟩ = some (.int .i64 2) := (HA.out.ch (HC1.out) (not_nil _)).cell 0; have b1 : w1.cell? ⟨w.heap.size, 1, none⟩ = some (.int .i64 op) := (HA.out.ch (HC1.out) (not_nil _)).cell 1; have b2 : w1.cell? ⟨w.heap.size, 2, none⟩ = some (.int .i64 f.k) := (HA.out.ch (HC1.out) (not_nil _)).cell 2; have b3 : w1.cell? ⟨w.heap.size, 3, none⟩ = some (.int .i64 f.p) := (HA.out.ch (HC1.out) (not_nil _)).cell 3; have b4 : w1.cell? ⟨w.heap.size, 4, none⟩ = some (.int .i64 f.q) := (HA.out.ch (HC1.out) (not_nil _)).cell 4; have b5 : w1.cell? ⟨w.heap.size, 5, none⟩ = some (.string f.s) := (HA.out.ch (HC1.out) (not_nil _)).cell 5; have b6 : w1.cell? ⟨w.heap.size, 6, none⟩ = some (.int .i64 f.r) := (HA.out.ch (HC1.out) (not_nil _)).cell 6; have b7 : w1.cell? ⟨w.heap.size, 7, none⟩ = some (.slice p1 l.length c1) := (HA.out.ch (HC1.out) (not_nil _)).cell 7; have b8 : w1.cell? ⟨w.heap.size, 8, none⟩ = some (.string s) := (HA.out.ch (HC1.out) (not_nil _)).cell 8; have b9 : w1.cell? ⟨w.heap.size, 9, none⟩ = some (.int .i64 lv) := (HA.out.ch (HC1.out) (not_nil _)).cell 9; have b10 : w1.cell? ⟨w.heap.size, 10, none⟩ = some (.int .i64 nx) := (HA.out.ch (HC1.out) (not_nil _)).cell 10; have b11 : w1.cell? ⟨w.heap.size, 11, none⟩ = some (.slice p2 kp.length c2) := (HA.out.ch (HC1.out) (not_nil _)).cell 11; have bl := (HA.out.ch (HC1.out) (not_nil _)).lt))
  go_ret
  exact ⟨rfl, HC0.out.trans HC1.out⟩
set_option maxHeartbeats 8000000 in
set_option maxRecDepth 20000 in
theorem ra_25 (op : Int) (f : V5) (l : List V5) (s : ByteArray) (lv nx : Int) (kp : List V5) (p1 p2 : Option Addr) (c1 c2 : Nat) (w : World) (h1 : VA w (.slice p1 l.length c1) l) (h2 : VA w (.slice p2 kp.length c2) kp) (n1 : l.length ≤ 1000000) (n2 : kp.length ≤ 1000000) (hfl : decide (clrA ⟨2, op, f, l, s, lv, nx, kp⟩ = zA) = true) (hl : l.length = 1) (q1 : lv < 0) :
    Calls Try.prog 25 #[.agg #[.int .i64 2, .int .i64 op, .int .i64 f.k, .int .i64 f.p, .int .i64 f.q, .string f.s, .int .i64 f.r, .slice p1 l.length c1, .string s, .int .i64 lv, .int .i64 nx, .slice p2 kp.length c2]] w fun e w' => e = .returned (.int .i64 4) ∧ Ch [] w w' := by
  obtain ⟨w0, hw0⟩ : ∃ w0, w0 = w.alloc (.cells #[.int .i64 2, .int .i64 op, .int .i64 f.k, .int .i64 f.p, .int .i64 f.q, .string f.s, .int .i64 f.r, .slice p1 l.length c1, .string s, .int .i64 lv, .int .i64 nx, .slice p2 kp.length c2] 31) := ⟨_, rfl⟩
  have HC0 : Hid (Ch [] w w0) := Lib.hid (by rw [hw0]; exact (Ch.refl [] w).alloc _)
  have HA : Hid (Blk 31 w.heap.size #[.int .i64 2, .int .i64 op, .int .i64 f.k, .int .i64 f.p, .int .i64 f.q, .string f.s, .int .i64 f.r, .slice p1 l.length c1, .string s, .int .i64 lv, .int .i64 nx, .slice p2 kp.length c2] w0) := Lib.hid (by rw [hw0]; exact Blk.new w _ _ _ rfl)
  have QF : Hid (Calls Try.prog 38 #[.agg #[.int .i64 2, .int .i64 op, .int .i64 f.k, .int .i64 f.p, .int .i64 f.q, .string f.s, .int .i64 f.r, .slice p1 l.length c1, .string s, .int .i64 lv, .int .i64 nx, .slice p2 kp.length c2]] w0 fun e w' => e = .returned (.bool true) ∧ Ch [] w0 w') := Lib.hid (by rw [← hfl]; exact rfields_any ⟨2, op, f, l, s, lv, nx, kp⟩ _ _ w0 (h1.below HC0.out) (h2.below HC0.out) (by first | exact ⟨hk1, hk2⟩ | (simp)))
  have hl1 : (l.length : Int) = 1 := by omega
  have hl2 : ((l.length : Int) != 1) = false := by simp [hl]
  clear hl
  have HW := Lib.hid hw0
  clear hw0 h1 h2 n1 n2 hfl
  go_enter Try.func25, Try.ntmps25
  go_upto_region 1 with fail
  rw [← HW.out]
  have a0 : w0.cell? ⟨w.heap.size, 0, none⟩ = some (.int .i64 2) := HA.out.cell 0
  have a1 : w0.cell? ⟨w.heap.size, 1, none⟩ = some (.int .i64 op) := HA.out.cell 1
  have a2 : w0.cell? ⟨w.heap.size, 2, none⟩ = some (.int .i64 f.k) := HA.out.cell 2
  have a3 : w0.cell? ⟨w.heap.size, 3, none⟩ = some (.int .i64 f.p) := HA.out.cell 3
  have a4 : w0.cell? ⟨w.heap.size, 4, none⟩ = some (.int .i64 f.q) := HA.out.cell 4
  have a5 : w0.cell? ⟨w.heap.size, 5, none⟩ = some (.string f.s) := HA.out.cell 5
  have a6 : w0.cell? ⟨w.heap.size, 6, none⟩ = some (.int .i64 f.r) := HA.out.cell 6
  have a7 : w0.cell? ⟨w.heap.size, 7, none⟩ = some (.slice p1 l.length c1) := HA.out.cell 7
  have a8 : w0.cell? ⟨w.heap.size, 8, none⟩ = some (.string s) := HA.out.cell 8
  have a9 : w0.cell? ⟨w.heap.size, 9, none⟩ = some (.int .i64 lv) := HA.out.cell 9
  have a10 : w0.cell? ⟨w.heap.size, 10, none⟩ = some (.int .i64 nx) := HA.out.cell 10
  have a11 : w0.cell? ⟨w.heap.size, 11, none⟩ = some (.slice p2 kp.length c2) := HA.out.cell 11
  have la := HA.out.lt
  go_wp2_with (first | (go_at_call 38; (with_reducible refine (QF.out).mono ?_); rintro e w1 ⟨rfl, hc⟩; have HC1 := Lib.hid hc; clear hc; have b0 : w1.cell? ⟨w.heap.size, 0, none⟩ = some (.int .i64 2) := (HA.out.ch (HC1.out) (not_nil _)).cell 0; have b1 : w1.cell? ⟨w.heap.size, 1, none⟩ = some (.int .i64 op) := (HA.out.ch (HC1.out) (not_nil _)).cell 1; have b2 : w1.cell? ⟨w.heap.size, 2, none⟩ = some (.int .i64 f.k) := (HA.out.ch (HC1.out) (not_nil _)).cell 2; have b3 : w1.cell? ⟨w.heap.size, 3, none⟩ = some (.int .i64 f.p) := (HA.out.ch (HC1.out) (not_nil _)).cell 3; have b4 : w1.cell? ⟨w.heap.size, 4, none⟩ = some (.int .i64 f.q) := (HA.out.ch (HC1.out) (not_nil _)).cell 4; have b5 : w1.cell? ⟨w.heap.size, 5, none⟩ = some (.string f.s) := (HA.out.ch (HC1.out) (not_nil _)).cell 5; have b6 : w1.cell? ⟨w.heap.size, 6, none⟩ = some (.int .i64 f.r) := (HA.out.ch (HC1.out) (not_nil _)).cell 6; have b7 : w1.cell? ⟨w.heap.size, 7, none⟩ = some (.slice p1 l.length c1) := (HA.out.ch (HC1.out) (not_nil _)).cell 7; have b8 : w1.cell? ⟨w.heap.size, 8, none⟩ = some (.string s) := (HA.out.ch (HC1.out) (not_nil _)).cell 8; have b9 : w1.cell? ⟨w.heap.size, 9, none⟩ = some (.int .i64 lv) := (HA.out.ch (HC1.out) (not_nil _)).cell 9; have b10 : w1.cell? ⟨w.heap.size, 10, none⟩ = some (.int .i64 nx) := (HA.out.ch (HC1.out) (not_nil _)).cell 10; have b11 : w1.cell? ⟨w.heap.size, 11, none⟩ = some (.slice p2 kp.length c2) := (HA.out.ch (HC1.out) (not_nil _)).cell 11; have bl := (HA.out.ch (HC1.out) (not_nil _)).lt))
  go_ret
  exact ⟨rfl, HC0.out.trans HC1.out⟩
set_option maxHeartbeats 8000000 in
set_option maxRecDepth 20000 in
theorem ra_26 (op : Int) (f : V5) (l : List V5) (s : ByteArray) (lv nx : Int) (kp : List V5) (p1 p2 : Option Addr) (c1 c2 : Nat) (w : World) (h1 : VA w (.slice p1 l.length c1) l) (h2 : VA w (.slice p2 kp.length c2) kp) (n1 : l.length ≤ 1000000) (n2 : kp.length ≤ 1000000) (hfl : decide (clrA ⟨2, op, f, l, s, lv, nx, kp⟩ = zA) = true) (hl : l.length = 1) (q1 : ¬ lv < 0) (q2 : 255 < lv) :
    Calls Try.prog 25 #[.agg #[.int .i64 2, .int .i64 op, .int .i64 f.k, .int .i64 f.p, .int .i64 f.q, .string f.s, .int .i64 f.r, .slice p1 l.length c1, .string s, .int .i64 lv, .int .i64 nx, .slice p2 kp.length c2]] w fun e w' => e = .returned (.int .i64 4) ∧ Ch [] w w' := by
  obtain ⟨w0, hw0⟩ : ∃ w0, w0 = w.alloc (.cells #[.int .i64 2, .int .i64 op, .int .i64 f.k, .int .i64 f.p, .int .i64 f.q, .string f.s, .int .i64 f.r, .slice p1 l.length c1, .string s, .int .i64 lv, .int .i64 nx, .slice p2 kp.length c2] 31) := ⟨_, rfl⟩
  have HC0 : Hid (Ch [] w w0) := Lib.hid (by rw [hw0]; exact (Ch.refl [] w).alloc _)
  have HA : Hid (Blk 31 w.heap.size #[.int .i64 2, .int .i64 op, .int .i64 f.k, .int .i64 f.p, .int .i64 f.q, .string f.s, .int .i64 f.r, .slice p1 l.length c1, .string s, .int .i64 lv, .int .i64 nx, .slice p2 kp.length c2] w0) := Lib.hid (by rw [hw0]; exact Blk.new w _ _ _ rfl)
  have QF : Hid (Calls Try.prog 38 #[.agg #[.int .i64 2, .int .i64 op, .int .i64 f.k, .int .i64 f.p, .int .i64 f.q, .string f.s, .int .i64 f.r, .slice p1 l.length c1, .string s, .int .i64 lv, .int .i64 nx, .slice p2 kp.length c2]] w0 fun e w' => e = .returned (.bool true) ∧ Ch [] w0 w') := Lib.hid (by rw [← hfl]; exact rfields_any ⟨2, op, f, l, s, lv, nx, kp⟩ _ _ w0 (h1.below HC0.out) (h2.below HC0.out) (by first | exact ⟨hk1, hk2⟩ | (simp)))
  have hl1 : (l.length : Int) = 1 := by omega
  have hl2 : ((l.length : Int) != 1) = false := by simp [hl]
  clear hl
  have HW := Lib.hid hw0
  clear hw0 h1 h2 n1 n2 hfl
  go_enter Try.func25, Try.ntmps25
  go_upto_region 1 with fail
  rw [← HW.out]
  have a0 : w0.cell? ⟨w.heap.size, 0, none⟩ = some (.int .i64 2) := HA.out.cell 0
  have a1 : w0.cell? ⟨w.heap.size, 1, none⟩ = some (.int .i64 op) := HA.out.cell 1
  have a2 : w0.cell? ⟨w.heap.size, 2, none⟩ = some (.int .i64 f.k) := HA.out.cell 2
  have a3 : w0.cell? ⟨w.heap.size, 3, none⟩ = some (.int .i64 f.p) := HA.out.cell 3
  have a4 : w0.cell? ⟨w.heap.size, 4, none⟩ = some (.int .i64 f.q) := HA.out.cell 4
  have a5 : w0.cell? ⟨w.heap.size, 5, none⟩ = some (.string f.s) := HA.out.cell 5
  have a6 : w0.cell? ⟨w.heap.size, 6, none⟩ = some (.int .i64 f.r) := HA.out.cell 6
  have a7 : w0.cell? ⟨w.heap.size, 7, none⟩ = some (.slice p1 l.length c1) := HA.out.cell 7
  have a8 : w0.cell? ⟨w.heap.size, 8, none⟩ = some (.string s) := HA.out.cell 8
  have a9 : w0.cell? ⟨w.heap.size, 9, none⟩ = some (.int .i64 lv) := HA.out.cell 9
  have a10 : w0.cell? ⟨w.heap.size, 10, none⟩ = some (.int .i64 nx) := HA.out.cell 10
  have a11 : w0.cell? ⟨w.heap.size, 11, none⟩ = some (.slice p2 kp.length c2) := HA.out.cell 11
  have la := HA.out.lt
  go_wp2_with (first | (go_at_call 38; (with_reducible refine (QF.out).mono ?_); rintro e w1 ⟨rfl, hc⟩; have HC1 := Lib.hid hc; clear hc; have b0 : w1.cell? ⟨w.heap.size, 0, none⟩ = some (.int .i64 2) := (HA.out.ch (HC1.out) (not_nil _)).cell 0; have b1 : w1.cell? ⟨w.heap.size, 1, none⟩ = some (.int .i64 op) := (HA.out.ch (HC1.out) (not_nil _)).cell 1; have b2 : w1.cell? ⟨w.heap.size, 2, none⟩ = some (.int .i64 f.k) := (HA.out.ch (HC1.out) (not_nil _)).cell 2; have b3 : w1.cell? ⟨w.heap.size, 3, none⟩ = some (.int .i64 f.p) := (HA.out.ch (HC1.out) (not_nil _)).cell 3; have b4 : w1.cell? ⟨w.heap.size, 4, none⟩ = some (.int .i64 f.q) := (HA.out.ch (HC1.out) (not_nil _)).cell 4; have b5 : w1.cell? ⟨w.heap.size, 5, none⟩ = some (.string f.s) := (HA.out.ch (HC1.out) (not_nil _)).cell 5; have b6 : w1.cell? ⟨w.heap.size, 6, none⟩ = some (.int .i64 f.r) := (HA.out.ch (HC1.out) (not_nil _)).cell 6; have b7 : w1.cell? ⟨w.heap.size, 7, none⟩ = some (.slice p1 l.length c1) := (HA.out.ch (HC1.out) (not_nil _)).cell 7; have b8 : w1.cell? ⟨w.heap.size, 8, none⟩ = some (.string s) := (HA.out.ch (HC1.out) (not_nil _)).cell 8; have b9 : w1.cell? ⟨w.heap.size, 9, none⟩ = some (.int .i64 lv) := (HA.out.ch (HC1.out) (not_nil _)).cell 9; have b10 : w1.cell? ⟨w.heap.size, 10, none⟩ = some (.int .i64 nx) := (HA.out.ch (HC1.out) (not_nil _)).cell 10; have b11 : w1.cell? ⟨w.heap.size, 11, none⟩ = some (.slice p2 kp.length c2) := (HA.out.ch (HC1.out) (not_nil _)).cell 11; have bl := (HA.out.ch (HC1.out) (not_nil _)).lt))
  go_ret
  exact ⟨rfl, HC0.out.trans HC1.out⟩
set_option maxHeartbeats 8000000 in
set_option maxRecDepth 20000 in
theorem ra_27 (op : Int) (f : V5) (l : List V5) (s : ByteArray) (lv nx : Int) (kp : List V5) (p1 p2 : Option Addr) (c1 c2 : Nat) (w : World) (h1 : VA w (.slice p1 l.length c1) l) (h2 : VA w (.slice p2 kp.length c2) kp) (n1 : l.length ≤ 1000000) (n2 : kp.length ≤ 1000000) (hfl : decide (clrA ⟨2, op, f, l, s, lv, nx, kp⟩ = zA) = true) (hl : l.length = 1) (q1 : ¬ lv < 0) (q2 : ¬ 255 < lv) (q3 : nx < 0) :
    Calls Try.prog 25 #[.agg #[.int .i64 2, .int .i64 op, .int .i64 f.k, .int .i64 f.p, .int .i64 f.q, .string f.s, .int .i64 f.r, .slice p1 l.length c1, .string s, .int .i64 lv, .int .i64 nx, .slice p2 kp.length c2]] w fun e w' => e = .returned (.int .i64 4) ∧ Ch [] w w' := by
  obtain ⟨w0, hw0⟩ : ∃ w0, w0 = w.alloc (.cells #[.int .i64 2, .int .i64 op, .int .i64 f.k, .int .i64 f.p, .int .i64 f.q, .string f.s, .int .i64 f.r, .slice p1 l.length c1, .string s, .int .i64 lv, .int .i64 nx, .slice p2 kp.length c2] 31) := ⟨_, rfl⟩
  have HC0 : Hid (Ch [] w w0) := Lib.hid (by rw [hw0]; exact (Ch.refl [] w).alloc _)
  have HA : Hid (Blk 31 w.heap.size #[.int .i64 2, .int .i64 op, .int .i64 f.k, .int .i64 f.p, .int .i64 f.q, .string f.s, .int .i64 f.r, .slice p1 l.length c1, .string s, .int .i64 lv, .int .i64 nx, .slice p2 kp.length c2] w0) := Lib.hid (by rw [hw0]; exact Blk.new w _ _ _ rfl)
  have QF : Hid (Calls Try.prog 38 #[.agg #[.int .i64 2, .int .i64 op, .int .i64 f.k, .int .i64 f.p, .int .i64 f.q, .string f.s, .int .i64 f.r, .slice p1 l.length c1, .string s, .int .i64 lv, .int .i64 nx, .slice p2 kp.length c2]] w0 fun e w' => e = .returned (.bool true) ∧ Ch [] w0 w') := Lib.hid (by rw [← hfl]; exact rfields_any ⟨2, op, f, l, s, lv, nx, kp⟩ _ _ w0 (h1.below HC0.out) (h2.below HC0.out) (by first | exact ⟨hk1, hk2⟩ | (simp)))
  have hl1 : (l.length : Int) = 1 := by omega
  have hl2 : ((l.length : Int) != 1) = false := by simp [hl]
  clear hl
  have HW := Lib.hid hw0
  clear hw0 h1 h2 n1 n2 hfl
  go_enter Try.func25, Try.ntmps25
  go_upto_region 1 with fail
  rw [← HW.out]
  have a0 : w0.cell? ⟨w.heap.size, 0, none⟩ = some (.int .i64 2) := HA.out.cell 0
  have a1 : w0.cell? ⟨w.heap.size, 1, none⟩ = some (.int .i64 op) := HA.out.cell 1
  have a2 : w0.cell? ⟨w.heap.size, 2, none⟩ = some (.int .i64 f.k) := HA.out.cell 2
  have a3 : w0.cell? ⟨w.heap.size, 3, none⟩ = some (.int .i64 f.p) := HA.out.cell 3
  have a4 : w0.cell? ⟨w.heap.size, 4, none⟩ = some (.int .i64 f.q) := HA.out.cell 4
  have a5 : w0.cell? ⟨w.heap.size, 5, none⟩ = some (.string f.s) := HA.out.cell 5
  have a6 : w0.cell? ⟨w.heap.size, 6, none⟩ = some (.int .i64 f.r) := HA.out.cell 6
  have a7 : w0.cell? ⟨w.heap.size, 7, none⟩ = some (.slice p1 l.length c1) := HA.out.cell 7
  have a8 : w0.cell? ⟨w.heap.size, 8, none⟩ = some (.string s) := HA.out.cell 8
  have a9 : w0.cell? ⟨w.heap.size, 9, none⟩ = some (.int .i64 lv) := HA.out.cell 9
  have a10 : w0.cell? ⟨w.heap.size, 10, none⟩ = some (.int .i64 nx) := HA.out.cell 10
  have a11 : w0.cell? ⟨w.heap.size, 11, none⟩ = some (.slice p2 kp.length c2) := HA.out.cell 11
  have la := HA.out.lt
  go_wp2_with (first | (go_at_call 38; (with_reducible refine (QF.out).mono ?_); rintro e w1 ⟨rfl, hc⟩; have HC1 := Lib.hid hc; clear hc; have b0 : w1.cell? ⟨w.heap.size, 0, none⟩ = some (.int .i64 2) := (HA.out.ch (HC1.out) (not_nil _)).cell 0; have b1 : w1.cell? ⟨w.heap.size, 1, none⟩ = some (.int .i64 op) := (HA.out.ch (HC1.out) (not_nil _)).cell 1; have b2 : w1.cell? ⟨w.heap.size, 2, none⟩ = some (.int .i64 f.k) := (HA.out.ch (HC1.out) (not_nil _)).cell 2; have b3 : w1.cell? ⟨w.heap.size, 3, none⟩ = some (.int .i64 f.p) := (HA.out.ch (HC1.out) (not_nil _)).cell 3; have b4 : w1.cell? ⟨w.heap.size, 4, none⟩ = some (.int .i64 f.q) := (HA.out.ch (HC1.out) (not_nil _)).cell 4; have b5 : w1.cell? ⟨w.heap.size, 5, none⟩ = some (.string f.s) := (HA.out.ch (HC1.out) (not_nil _)).cell 5; have b6 : w1.cell? ⟨w.heap.size, 6, none⟩ = some (.int .i64 f.r) := (HA.out.ch (HC1.out) (not_nil _)).cell 6; have b7 : w1.cell? ⟨w.heap.size, 7, none⟩ = some (.slice p1 l.length c1) := (HA.out.ch (HC1.out) (not_nil _)).cell 7; have b8 : w1.cell? ⟨w.heap.size, 8, none⟩ = some (.string s) := (HA.out.ch (HC1.out) (not_nil _)).cell 8; have b9 : w1.cell? ⟨w.heap.size, 9, none⟩ = some (.int .i64 lv) := (HA.out.ch (HC1.out) (not_nil _)).cell 9; have b10 : w1.cell? ⟨w.heap.size, 10, none⟩ = some (.int .i64 nx) := (HA.out.ch (HC1.out) (not_nil _)).cell 10; have b11 : w1.cell? ⟨w.heap.size, 11, none⟩ = some (.slice p2 kp.length c2) := (HA.out.ch (HC1.out) (not_nil _)).cell 11; have bl := (HA.out.ch (HC1.out) (not_nil _)).lt))
  go_ret
  exact ⟨rfl, HC0.out.trans HC1.out⟩
set_option maxHeartbeats 8000000 in
set_option maxRecDepth 20000 in
theorem ra_28 (op : Int) (f : V5) (l : List V5) (s : ByteArray) (lv nx : Int) (kp : List V5) (p1 p2 : Option Addr) (c1 c2 : Nat) (w : World) (h1 : VA w (.slice p1 l.length c1) l) (h2 : VA w (.slice p2 kp.length c2) kp) (n1 : l.length ≤ 1000000) (n2 : kp.length ≤ 1000000) (hfl : decide (clrA ⟨2, op, f, l, s, lv, nx, kp⟩ = zA) = true) (hl : l.length = 1) (q1 : ¬ lv < 0) (q2 : ¬ 255 < lv) (q3 : ¬ nx < 0) (q4 : 255 < nx) :
    Calls Try.prog 25 #[.agg #[.int .i64 2, .int .i64 op, .int .i64 f.k, .int .i64 f.p, .int .i64 f.q, .string f.s, .int .i64 f.r, .slice p1 l.length c1, .string s, .int .i64 lv, .int .i64 nx, .slice p2 kp.length c2]] w fun e w' => e = .returned (.int .i64 4) ∧ Ch [] w w' := by
  obtain ⟨w0, hw0⟩ : ∃ w0, w0 = w.alloc (.cells #[.int .i64 2, .int .i64 op, .int .i64 f.k, .int .i64 f.p, .int .i64 f.q, .string f.s, .int .i64 f.r, .slice p1 l.length c1, .string s, .int .i64 lv, .int .i64 nx, .slice p2 kp.length c2] 31) := ⟨_, rfl⟩
  have HC0 : Hid (Ch [] w w0) := Lib.hid (by rw [hw0]; exact (Ch.refl [] w).alloc _)
  have HA : Hid (Blk 31 w.heap.size #[.int .i64 2, .int .i64 op, .int .i64 f.k, .int .i64 f.p, .int .i64 f.q, .string f.s, .int .i64 f.r, .slice p1 l.length c1, .string s, .int .i64 lv, .int .i64 nx, .slice p2 kp.length c2] w0) := Lib.hid (by rw [hw0]; exact Blk.new w _ _ _ rfl)
  have QF : Hid (Calls Try.prog 38 #[.agg #[.int .i64 2, .int .i64 op, .int .i64 f.k, .int .i64 f.p, .int .i64 f.q, .string f.s, .int .i64 f.r, .slice p1 l.length c1, .string s, .int .i64 lv, .int .i64 nx, .slice p2 kp.length c2]] w0 fun e w' => e = .returned (.bool true) ∧ Ch [] w0 w') := Lib.hid (by rw [← hfl]; exact rfields_any ⟨2, op, f, l, s, lv, nx, kp⟩ _ _ w0 (h1.below HC0.out) (h2.below HC0.out) (by first | exact ⟨hk1, hk2⟩ | (simp)))
  have hl1 : (l.length : Int) = 1 := by omega
  have hl2 : ((l.length : Int) != 1) = false := by simp [hl]
  clear hl
  have HW := Lib.hid hw0
  clear hw0 h1 h2 n1 n2 hfl
  go_enter Try.func25, Try.ntmps25
  go_upto_region 1 with fail
  rw [← HW.out]
  have a0 : w0.cell? ⟨w.heap.size, 0, none⟩ = some (.int .i64 2) := HA.out.cell 0
  have a1 : w0.cell? ⟨w.heap.size, 1, none⟩ = some (.int .i64 op) := HA.out.cell 1
  have a2 : w0.cell? ⟨w.heap.size, 2, none⟩ = some (.int .i64 f.k) := HA.out.cell 2
  have a3 : w0.cell? ⟨w.heap.size, 3, none⟩ = some (.int .i64 f.p) := HA.out.cell 3
  have a4 : w0.cell? ⟨w.heap.size, 4, none⟩ = some (.int .i64 f.q) := HA.out.cell 4
  have a5 : w0.cell? ⟨w.heap.size, 5, none⟩ = some (.string f.s) := HA.out.cell 5
  have a6 : w0.cell? ⟨w.heap.size, 6, none⟩ = some (.int .i64 f.r) := HA.out.cell 6
  have a7 : w0.cell? ⟨w.heap.size, 7, none⟩ = some (.slice p1 l.length c1) := HA.out.cell 7
  have a8 : w0.cell? ⟨w.heap.size, 8, none⟩ = some (.string s) := HA.out.cell 8
  have a9 : w0.cell? ⟨w.heap.size, 9, none⟩ = some (.int .i64 lv) := HA.out.cell 9
  have a10 : w0.cell? ⟨w.heap.size, 10, none⟩ = some (.int .i64 nx) := HA.out.cell 10
  have a11 : w0.cell? ⟨w.heap.size, 11, none⟩ = some (.slice p2 kp.length c2) := HA.out.cell 11
  have la := HA.out.lt
  go_wp2_with (first | (go_at_call 38; (with_reducible refine (QF.out).mono ?_); rintro e w1 ⟨rfl, hc⟩; have HC1 := Lib.hid hc; clear hc; have b0 : w1.cell? ⟨w.heap.size, 0, none⟩ = some (.int .i64 2) := (HA.out.ch (HC1.out) (not_nil _)).cell 0; have b1 : w1.cell? ⟨w.heap.size, 1, none⟩ = some (.int .i64 op) := (HA.out.ch (HC1.out) (not_nil _)).cell 1; have b2 : w1.cell? ⟨w.heap.size, 2, none⟩ = some (.int .i64 f.k) := (HA.out.ch (HC1.out) (not_nil _)).cell 2; have b3 : w1.cell? ⟨w.heap.size, 3, none⟩ = some (.int .i64 f.p) := (HA.out.ch (HC1.out) (not_nil _)).cell 3; have b4 : w1.cell? ⟨w.heap.size, 4, none⟩ = some (.int .i64 f.q) := (HA.out.ch (HC1.out) (not_nil _)).cell 4; have b5 : w1.cell? ⟨w.heap.size, 5, none⟩ = some (.string f.s) := (HA.out.ch (HC1.out) (not_nil _)).cell 5; have b6 : w1.cell? ⟨w.heap.size, 6, none⟩ = some (.int .i64 f.r) := (HA.out.ch (HC1.out) (not_nil _)).cell 6; have b7 : w1.cell? ⟨w.heap.size, 7, none⟩ = some (.slice p1 l.length c1) := (HA.out.ch (HC1.out) (not_nil _)).cell 7; have b8 : w1.cell? ⟨w.heap.size, 8, none⟩ = some (.string s) := (HA.out.ch (HC1.out) (not_nil _)).cell 8; have b9 : w1.cell? ⟨w.heap.size, 9, none⟩ = some (.int .i64 lv) := (HA.out.ch (HC1.out) (not_nil _)).cell 9; have b10 : w1.cell? ⟨w.heap.size, 10, none⟩ = some (.int .i64 nx) := (HA.out.ch (HC1.out) (not_nil _)).cell 10; have b11 : w1.cell? ⟨w.heap.size, 11, none⟩ = some (.slice p2 kp.length c2) := (HA.out.ch (HC1.out) (not_nil _)).cell 11; have bl := (HA.out.ch (HC1.out) (not_nil _)).lt))
  go_ret
  exact ⟨rfl, HC0.out.trans HC1.out⟩
set_option maxHeartbeats 8000000 in
set_option maxRecDepth 20000 in
theorem ra_k5 (k : Int) (op : Int) (f : V5) (l : List V5) (s : ByteArray) (lv nx : Int) (kp : List V5) (p1 p2 : Option Addr) (c1 c2 : Nat) (w : World) (h1 : VA w (.slice p1 l.length c1) l) (h2 : VA w (.slice p2 kp.length c2) kp) (n1 : l.length ≤ 1000000) (n2 : kp.length ≤ 1000000) (hfl : decide (clrA ⟨k, op, f, l, s, lv, nx, kp⟩ = zA) = true) (hk1 : 1 ≤ k) (hk2 : k ≤ 9) (h2' : ¬ k = 2) (q1 : lv < 0) :
    Calls Try.prog 25 #[.agg #[.int .i64 k, .int .i64 op, .int .i64 f.k, .int .i64 f.p, .int .i64 f.q, .string f.s, .int .i64 f.r, .slice p1 l.length c1, .string s, .int .i64 lv, .int .i64 nx, .slice p2 kp.length c2]] w fun e w' => e = .returned (.int .i64 4) ∧ Ch [] w w' := by
  obtain ⟨w0, hw0⟩ : ∃ w0, w0 = w.alloc (.cells #[.int .i64 k, .int .i64 op, .int .i64 f.k, .int .i64 f.p, .int .i64 f.q, .string f.s, .int .i64 f.r, .slice p1 l.length c1, .string s, .int .i64 lv, .int .i64 nx, .slice p2 kp.length c2] 31) := ⟨_, rfl⟩
  have HC0 : Hid (Ch [] w w0) := Lib.hid (by rw [hw0]; exact (Ch.refl [] w).alloc _)
  have HA : Hid (Blk 31 w.heap.size #[.int .i64 k, .int .i64 op, .int .i64 f.k, .int .i64 f.p, .int .i64 f.q, .string f.s, .int .i64 f.r, .slice p1 l.length c1, .string s, .int .i64 lv, .int .i64 nx, .slice p2 kp.length c2] w0) := Lib.hid (by rw [hw0]; exact Blk.new w _ _ _ rfl)
  have QF : Hid (Calls Try.prog 38 #[.agg #[.int .i64 k, .int .i64 op, .int .i64 f.k, .int .i64 f.p, .int .i64 f.q, .string f.s, .int .i64 f.r, .slice p1 l.length c1, .string s, .int .i64 lv, .int .i64 nx, .slice p2 kp.length c2]] w0 fun e w' => e = .returned (.bool true) ∧ Ch [] w0 w') := Lib.hid (by rw [← hfl]; exact rfields_any ⟨k, op, f, l, s, lv, nx, kp⟩ _ _ w0 (h1.below HC0.out) (h2.below HC0.out) (by first | exact ⟨hk1, hk2⟩ | (simp)))
  have hk3 : ¬ k < 1 := by omega
  have hk4 : ¬ 9 < k := by omega
  have hk5 : (k == 2) = false := by rw [beq_eq_false_iff_ne]; exact h2'
  have HW := Lib.hid hw0
  clear hw0 h1 h2 n1 n2 hfl
  go_enter Try.func25, Try.ntmps25
  go_upto_region 1 with fail
  rw [← HW.out]
  have a0 : w0.cell? ⟨w.heap.size, 0, none⟩ = some (.int .i64 k) := HA.out.cell 0
  have a1 : w0.cell? ⟨w.heap.size, 1, none⟩ = some (.int .i64 op) := HA.out.cell 1
  have a2 : w0.cell? ⟨w.heap.size, 2, none⟩ = some (.int .i64 f.k) := HA.out.cell 2
  have a3 : w0.cell? ⟨w.heap.size, 3, none⟩ = some (.int .i64 f.p) := HA.out.cell 3
  have a4 : w0.cell? ⟨w.heap.size, 4, none⟩ = some (.int .i64 f.q) := HA.out.cell 4
  have a5 : w0.cell? ⟨w.heap.size, 5, none⟩ = some (.string f.s) := HA.out.cell 5
  have a6 : w0.cell? ⟨w.heap.size, 6, none⟩ = some (.int .i64 f.r) := HA.out.cell 6
  have a7 : w0.cell? ⟨w.heap.size, 7, none⟩ = some (.slice p1 l.length c1) := HA.out.cell 7
  have a8 : w0.cell? ⟨w.heap.size, 8, none⟩ = some (.string s) := HA.out.cell 8
  have a9 : w0.cell? ⟨w.heap.size, 9, none⟩ = some (.int .i64 lv) := HA.out.cell 9
  have a10 : w0.cell? ⟨w.heap.size, 10, none⟩ = some (.int .i64 nx) := HA.out.cell 10
  have a11 : w0.cell? ⟨w.heap.size, 11, none⟩ = some (.slice p2 kp.length c2) := HA.out.cell 11
  have la := HA.out.lt
  go_wp2_with (first | (go_at_call 38; (with_reducible refine (QF.out).mono ?_); rintro e w1 ⟨rfl, hc⟩; have HC1 := Lib.hid hc; clear hc; have b0 : w1.cell? ⟨w.heap.size, 0, none⟩ = some (.int .i64 k) := (HA.out.ch (HC1.out) (not_nil _)).cell 0; have b1 : w1.cell? ⟨w.heap.size, 1, none⟩ = some (.int .i64 op) := (HA.out.ch (HC1.out) (not_nil _)).cell 1; have b2 : w1.cell? ⟨w.heap.size, 2, none⟩ = some (.int .i64 f.k) := (HA.out.ch (HC1.out) (not_nil _)).cell 2; have b3 : w1.cell? ⟨w.heap.size, 3, none⟩ = some (.int .i64 f.p) := (HA.out.ch (HC1.out) (not_nil _)).cell 3; have b4 : w1.cell? ⟨w.heap.size, 4, none⟩ = some (.int .i64 f.q) := (HA.out.ch (HC1.out) (not_nil _)).cell 4; have b5 : w1.cell? ⟨w.heap.size, 5, none⟩ = some (.string f.s) := (HA.out.ch (HC1.out) (not_nil _)).cell 5; have b6 : w1.cell? ⟨w.heap.size, 6, none⟩ = some (.int .i64 f.r) := (HA.out.ch (HC1.out) (not_nil _)).cell 6; have b7 : w1.cell? ⟨w.heap.size, 7, none⟩ = some (.slice p1 l.length c1) := (HA.out.ch (HC1.out) (not_nil _)).cell 7; have b8 : w1.cell? ⟨w.heap.size, 8, none⟩ = some (.string s) := (HA.out.ch (HC1.out) (not_nil _)).cell 8; have b9 : w1.cell? ⟨w.heap.size, 9, none⟩ = some (.int .i64 lv) := (HA.out.ch (HC1.out) (not_nil _)).cell 9; have b10 : w1.cell? ⟨w.heap.size, 10, none⟩ = some (.int .i64 nx) := (HA.out.ch (HC1.out) (not_nil _)).cell 10; have b11 : w1.cell? ⟨w.heap.size, 11, none⟩ = some (.slice p2 kp.length c2) := (HA.out.ch (HC1.out) (not_nil _)).cell 11; have bl := (HA.out.ch (HC1.out) (not_nil _)).lt))
  go_ret
  exact ⟨rfl, HC0.out.trans HC1.out⟩
set_option maxHeartbeats 8000000 in
set_option maxRecDepth 20000 in
theorem ra_k6 (k : Int) (op : Int) (f : V5) (l : List V5) (s : ByteArray) (lv nx : Int) (kp : List V5) (p1 p2 : Option Addr) (c1 c2 : Nat) (w : World) (h1 : VA w (.slice p1 l.length c1) l) (h2 : VA w (.slice p2 kp.length c2) kp) (n1 : l.length ≤ 1000000) (n2 : kp.length ≤ 1000000) (hfl : decide (clrA ⟨k, op, f, l, s, lv, nx, kp⟩ = zA) = true) (hk1 : 1 ≤ k) (hk2 : k ≤ 9) (h2' : ¬ k = 2) (q1 : ¬ lv < 0) (q2 : 255 < lv) :
    Calls Try.prog 25 #[.agg #[.int .i64 k, .int .i64 op, .int .i64 f.k, .int .i64 f.p, .int .i64 f.q, .string f.s, .int .i64 f.r, .slice p1 l.length c1, .string s, .int .i64 lv, .int .i64 nx, .slice p2 kp.length c2]] w fun e w' => e = .returned (.int .i64 4) ∧ Ch [] w w' := by
  obtain ⟨w0, hw0⟩ : ∃ w0, w0 = w.alloc (.cells #[.int .i64 k, .int .i64 op, .int .i64 f.k, .int .i64 f.p, .int .i64 f.q, .string f.s, .int .i64 f.r, .slice p1 l.length c1, .string s, .int .i64 lv, .int .i64 nx, .slice p2 kp.length c2] 31) := ⟨_, rfl⟩
  have HC0 : Hid (Ch [] w w0) := Lib.hid (by rw [hw0]; exact (Ch.refl [] w).alloc _)
  have HA : Hid (Blk 31 w.heap.size #[.int .i64 k, .int .i64 op, .int .i64 f.k, .int .i64 f.p, .int .i64 f.q, .string f.s, .int .i64 f.r, .slice p1 l.length c1, .string s, .int .i64 lv, .int .i64 nx, .slice p2 kp.length c2] w0) := Lib.hid (by rw [hw0]; exact Blk.new w _ _ _ rfl)
  have QF : Hid (Calls Try.prog 38 #[.agg #[.int .i64 k, .int .i64 op, .int .i64 f.k, .int .i64 f.p, .int .i64 f.q, .string f.s, .int .i64 f.r, .slice p1 l.length c1, .string s, .int .i64 lv, .int .i64 nx, .slice p2 kp.length c2]] w0 fun e w' => e = .returned (.bool true) ∧ Ch [] w0 w') := Lib.hid (by rw [← hfl]; exact rfields_any ⟨k, op, f, l, s, lv, nx, kp⟩ _ _ w0 (h1.below HC0.out) (h2.below HC0.out) (by first | exact ⟨hk1, hk2⟩ | (simp)))
  have hk3 : ¬ k < 1 := by omega
  have hk4 : ¬ 9 < k := by omega
  have hk5 : (k == 2) = false := by rw [beq_eq_false_iff_ne]; exact h2'
  have HW := Lib.hid hw0
  clear hw0 h1 h2 n1 n2 hfl
  go_enter Try.func25, Try.ntmps25
  go_upto_region 1 with fail
  rw [← HW.out]
  have a0 : w0.cell? ⟨w.heap.size, 0, none⟩ = some (.int .i64 k) := HA.out.cell 0
  have a1 : w0.cell? ⟨w.heap.size, 1, none⟩ = some (.int .i64 op) := HA.out.cell 1
  have a2 : w0.cell? ⟨w.heap.size, 2, none⟩ = some (.int .i64 f.k) := HA.out.cell 2
  have a3 : w0.cell? ⟨w.heap.size, 3, none⟩ = some (.int .i64 f.p) := HA.out.cell 3
  have a4 : w0.cell? ⟨w.heap.size, 4, none⟩ = some (.int .i64 f.q) := HA.out.cell 4
  have a5 : w0.cell? ⟨w.heap.size, 5, none⟩ = some (.string f.s) := HA.out.cell 5
  have a6 : w0.cell? ⟨w.heap.size, 6, none⟩ = some (.int .i64 f.r) := HA.out.cell 6
  have a7 : w0.cell? ⟨w.heap.size, 7, none⟩ = some (.slice p1 l.length c1) := HA.out.cell 7
  have a8 : w0.cell? ⟨w.heap.size, 8, none⟩ = some (.string s) := HA.out.cell 8
  have a9 : w0.cell? ⟨w.heap.size, 9, none⟩ = some (.int .i64 lv) := HA.out.cell 9
  have a10 : w0.cell? ⟨w.heap.size, 10, none⟩ = some (.int .i64 nx) := HA.out.cell 10
  have a11 : w0.cell? ⟨w.heap.size, 11, none⟩ = some (.slice p2 kp.length c2) := HA.out.cell 11
  have la := HA.out.lt
  go_wp2_with (first | (go_at_call 38; (with_reducible refine (QF.out).mono ?_); rintro e w1 ⟨rfl, hc⟩; have HC1 := Lib.hid hc; clear hc; have b0 : w1.cell? ⟨w.heap.size, 0, none⟩ = some (.int .i64 k) := (HA.out.ch (HC1.out) (not_nil _)).cell 0; have b1 : w1.cell? ⟨w.heap.size, 1, none⟩ = some (.int .i64 op) := (HA.out.ch (HC1.out) (not_nil _)).cell 1; have b2 : w1.cell? ⟨w.heap.size, 2, none⟩ = some (.int .i64 f.k) := (HA.out.ch (HC1.out) (not_nil _)).cell 2; have b3 : w1.cell? ⟨w.heap.size, 3, none⟩ = some (.int .i64 f.p) := (HA.out.ch (HC1.out) (not_nil _)).cell 3; have b4 : w1.cell? ⟨w.heap.size, 4, none⟩ = some (.int .i64 f.q) := (HA.out.ch (HC1.out) (not_nil _)).cell 4; have b5 : w1.cell? ⟨w.heap.size, 5, none⟩ = some (.string f.s) := (HA.out.ch (HC1.out) (not_nil _)).cell 5; have b6 : w1.cell? ⟨w.heap.size, 6, none⟩ = some (.int .i64 f.r) := (HA.out.ch (HC1.out) (not_nil _)).cell 6; have b7 : w1.cell? ⟨w.heap.size, 7, none⟩ = some (.slice p1 l.length c1) := (HA.out.ch (HC1.out) (not_nil _)).cell 7; have b8 : w1.cell? ⟨w.heap.size, 8, none⟩ = some (.string s) := (HA.out.ch (HC1.out) (not_nil _)).cell 8; have b9 : w1.cell? ⟨w.heap.size, 9, none⟩ = some (.int .i64 lv) := (HA.out.ch (HC1.out) (not_nil _)).cell 9; have b10 : w1.cell? ⟨w.heap.size, 10, none⟩ = some (.int .i64 nx) := (HA.out.ch (HC1.out) (not_nil _)).cell 10; have b11 : w1.cell? ⟨w.heap.size, 11, none⟩ = some (.slice p2 kp.length c2) := (HA.out.ch (HC1.out) (not_nil _)).cell 11; have bl := (HA.out.ch (HC1.out) (not_nil _)).lt))
  go_ret
  exact ⟨rfl, HC0.out.trans HC1.out⟩
set_option maxHeartbeats 8000000 in
set_option maxRecDepth 20000 in
theorem ra_k7 (k : Int) (op : Int) (f : V5) (l : List V5) (s : ByteArray) (lv nx : Int) (kp : List V5) (p1 p2 : Option Addr) (c1 c2 : Nat) (w : World) (h1 : VA w (.slice p1 l.length c1) l) (h2 : VA w (.slice p2 kp.length c2) kp) (n1 : l.length ≤ 1000000) (n2 : kp.length ≤ 1000000) (hfl : decide (clrA ⟨k, op, f, l, s, lv, nx, kp⟩ = zA) = true) (hk1 : 1 ≤ k) (hk2 : k ≤ 9) (h2' : ¬ k = 2) (q1 : ¬ lv < 0) (q2 : ¬ 255 < lv) (q3 : nx < 0) :
    Calls Try.prog 25 #[.agg #[.int .i64 k, .int .i64 op, .int .i64 f.k, .int .i64 f.p, .int .i64 f.q, .string f.s, .int .i64 f.r, .slice p1 l.length c1, .string s, .int .i64 lv, .int .i64 nx, .slice p2 kp.length c2]] w fun e w' => e = .returned (.int .i64 4) ∧ Ch [] w w' := by
  obtain ⟨w0, hw0⟩ : ∃ w0, w0 = w.alloc (.cells #[.int .i64 k, .int .i64 op, .int .i64 f.k, .int .i64 f.p, .int .i64 f.q, .string f.s, .int .i64 f.r, .slice p1 l.length c1, .string s, .int .i64 lv, .int .i64 nx, .slice p2 kp.length c2] 31) := ⟨_, rfl⟩
  have HC0 : Hid (Ch [] w w0) := Lib.hid (by rw [hw0]; exact (Ch.refl [] w).alloc _)
  have HA : Hid (Blk 31 w.heap.size #[.int .i64 k, .int .i64 op, .int .i64 f.k, .int .i64 f.p, .int .i64 f.q, .string f.s, .int .i64 f.r, .slice p1 l.length c1, .string s, .int .i64 lv, .int .i64 nx, .slice p2 kp.length c2] w0) := Lib.hid (by rw [hw0]; exact Blk.new w _ _ _ rfl)
  have QF : Hid (Calls Try.prog 38 #[.agg #[.int .i64 k, .int .i64 op, .int .i64 f.k, .int .i64 f.p, .int .i64 f.q, .string f.s, .int .i64 f.r, .slice p1 l.length c1, .string s, .int .i64 lv, .int .i64 nx, .slice p2 kp.length c2]] w0 fun e w' => e = .returned (.bool true) ∧ Ch [] w0 w') := Lib.hid (by rw [← hfl]; exact rfields_any ⟨k, op, f, l, s, lv, nx, kp⟩ _ _ w0 (h1.below HC0.out) (h2.below HC0.out) (by first | exact ⟨hk1, hk2⟩ | (simp)))
  have hk3 : ¬ k < 1 := by omega
  have hk4 : ¬ 9 < k := by omega
  have hk5 : (k == 2) = false := by rw [beq_eq_false_iff_ne]; exact h2'
  have HW := Lib.hid hw0
  clear hw0 h1 h2 n1 n2 hfl
  go_enter Try.func25, Try.ntmps25
  go_upto_region 1 with fail
  rw [← HW.out]
  have a0 : w0.cell? ⟨w.heap.size, 0, none⟩ = some (.int .i64 k) := HA.out.cell 0
  have a1 : w0.cell? ⟨w.heap.size, 1, none⟩ = some (.int .i64 op) := HA.out.cell 1
  have a2 : w0.cell? ⟨w.heap.size, 2, none⟩ = some (.int .i64 f.k) := HA.out.cell 2
  have a3 : w0.cell? ⟨w.heap.size, 3, none⟩ = some (.int .i64 f.p) := HA.out.cell 3
  have a4 : w0.cell? ⟨w.heap.size, 4, none⟩ = some (.int .i64 f.q) := HA.out.cell 4
  have a5 : w0.cell? ⟨w.heap.size, 5, none⟩ = some (.string f.s) := HA.out.cell 5
  have a6 : w0.cell? ⟨w.heap.size, 6, none⟩ = some (.int .i64 f.r) := HA.out.cell 6
  have a7 : w0.cell? ⟨w.heap.size, 7, none⟩ = some (.slice p1 l.length c1) := HA.out.cell 7
  have a8 : w0.cell? ⟨w.heap.size, 8, none⟩ = some (.string s) := HA.out.cell 8
  have a9 : w0.cell? ⟨w.heap.size, 9, none⟩ = some (.int .i64 lv) := HA.out.cell 9
  have a10 : w0.cell? ⟨w.heap.size, 10, none⟩ = some (.int .i64 nx) := HA.out.cell 10
  have a11 : w0.cell? ⟨w.heap.size, 11, none⟩ = some (.slice p2 kp.length c2) := HA.out.cell 11
  have la := HA.out.lt
  go_wp2_with (first | (go_at_call 38; (with_reducible refine (QF.out).mono ?_); rintro e w1 ⟨rfl, hc⟩; have HC1 := Lib.hid hc; clear hc; have b0 : w1.cell? ⟨w.heap.size, 0, none⟩ = some (.int .i64 k) := (HA.out.ch (HC1.out) (not_nil _)).cell 0; have b1 : w1.cell? ⟨w.heap.size, 1, none⟩ = some (.int .i64 op) := (HA.out.ch (HC1.out) (not_nil _)).cell 1; have b2 : w1.cell? ⟨w.heap.size, 2, none⟩ = some (.int .i64 f.k) := (HA.out.ch (HC1.out) (not_nil _)).cell 2; have b3 : w1.cell? ⟨w.heap.size, 3, none⟩ = some (.int .i64 f.p) := (HA.out.ch (HC1.out) (not_nil _)).cell 3; have b4 : w1.cell? ⟨w.heap.size, 4, none⟩ = some (.int .i64 f.q) := (HA.out.ch (HC1.out) (not_nil _)).cell 4; have b5 : w1.cell? ⟨w.heap.size, 5, none⟩ = some (.string f.s) := (HA.out.ch (HC1.out) (not_nil _)).cell 5; have b6 : w1.cell? ⟨w.heap.size, 6, none⟩ = some (.int .i64 f.r) := (HA.out.ch (HC1.out) (not_nil _)).cell 6; have b7 : w1.cell? ⟨w.heap.size, 7, none⟩ = some (.slice p1 l.length c1) := (HA.out.ch (HC1.out) (not_nil _)).cell 7; have b8 : w1.cell? ⟨w.heap.size, 8, none⟩ = some (.string s) := (HA.out.ch (HC1.out) (not_nil _)).cell 8; have b9 : w1.cell? ⟨w.heap.size, 9, none⟩ = some (.int .i64 lv) := (HA.out.ch (HC1.out) (not_nil _)).cell 9; have b10 : w1.cell? ⟨w.heap.size, 10, none⟩ = some (.int .i64 nx) := (HA.out.ch (HC1.out) (not_nil _)).cell 10; have b11 : w1.cell? ⟨w.heap.size, 11, none⟩ = some (.slice p2 kp.length c2) := (HA.out.ch (HC1.out) (not_nil _)).cell 11; have bl := (HA.out.ch (HC1.out) (not_nil _)).lt))
  go_ret
  exact ⟨rfl, HC0.out.trans HC1.out⟩
set_option maxHeartbeats 8000000 in
set_option maxRecDepth 20000 in
theorem ra_k8 (k : Int) (op : Int) (f : V5) (l : List V5) (s : ByteArray) (lv nx : Int) (kp : List V5) (p1 p2 : Option Addr) (c1 c2 : Nat) (w : World) (h1 : VA w (.slice p1 l.length c1) l) (h2 : VA w (.slice p2 kp.length c2) kp) (n1 : l.length ≤ 1000000) (n2 : kp.length ≤ 1000000) (hfl : decide (clrA ⟨k, op, f, l, s, lv, nx, kp⟩ = zA) = true) (hk1 : 1 ≤ k) (hk2 : k ≤ 9) (h2' : ¬ k = 2) (q1 : ¬ lv < 0) (q2 : ¬ 255 < lv) (q3 : ¬ nx < 0) (q4 : 255 < nx) :
    Calls Try.prog 25 #[.agg #[.int .i64 k, .int .i64 op, .int .i64 f.k, .int .i64 f.p, .int .i64 f.q, .string f.s, .int .i64 f.r, .slice p1 l.length c1, .string s, .int .i64 lv, .int .i64 nx, .slice p2 kp.length c2]] w fun e w' => e = .returned (.int .i64 4) ∧ Ch [] w w' := by
  obtain ⟨w0, hw0⟩ : ∃ w0, w0 = w.alloc (.cells #[.int .i64 k, .int .i64 op, .int .i64 f.k, .int .i64 f.p, .int .i64 f.q, .string f.s, .int .i64 f.r, .slice p1 l.length c1, .string s, .int .i64 lv, .int .i64 nx, .slice p2 kp.length c2] 31) := ⟨_, rfl⟩
  have HC0 : Hid (Ch [] w w0) := Lib.hid (by rw [hw0]; exact (Ch.refl [] w).alloc _)
  have HA : Hid (Blk 31 w.heap.size #[.int .i64 k, .int .i64 op, .int .i64 f.k, .int .i64 f.p, .int .i64 f.q, .string f.s, .int .i64 f.r, .slice p1 l.length c1, .string s, .int .i64 lv, .int .i64 nx, .slice p2 kp.length c2] w0) := Lib.hid (by rw [hw0]; exact Blk.new w _ _ _ rfl)
  have QF : Hid (Calls Try.prog 38 #[.agg #[.int .i64 k, .int .i64 op, .int .i64 f.k, .int .i64 f.p, .int .i64 f.q, .string f.s, .int .i64 f.r, .slice p1 l.length c1, .string s, .int .i64 lv, .int .i64 nx, .slice p2 kp.length c2]] w0 fun e w' => e = .returned (.bool true) ∧ Ch [] w0 w') := Lib.hid (by rw [← hfl]; exact rfields_any ⟨k, op, f, l, s, lv, nx, kp⟩ _ _ w0 (h1.below HC0.out) (h2.below HC0.out) (by first | exact ⟨hk1, hk2⟩ | (simp)))
  have hk3 : ¬ k < 1 := by omega
  have hk4 : ¬ 9 < k := by omega
  have hk5 : (k == 2) = false := by rw [beq_eq_false_iff_ne]; exact h2'
  have HW := Lib.hid hw0
  clear hw0 h1 h2 n1 n2 hfl
  go_enter Try.func25, Try.ntmps25
  go_upto_region 1 with fail
  rw [← HW.out]
  have a0 : w0.cell? ⟨w.heap.size, 0, none⟩ = some (.int .i64 k) := HA.out.cell 0
  have a1 : w0.cell? ⟨w.heap.size, 1, none⟩ = some (.int .i64 op) := HA.out.cell 1
  have a2 : w0.cell? ⟨w.heap.size, 2, none⟩ = some (.int .i64 f.k) := HA.out.cell 2
  have a3 : w0.cell? ⟨w.heap.size, 3, none⟩ = some (.int .i64 f.p) := HA.out.cell 3
  have a4 : w0.cell? ⟨w.heap.size, 4, none⟩ = some (.int .i64 f.q) := HA.out.cell 4
  have a5 : w0.cell? ⟨w.heap.size, 5, none⟩ = some (.string f.s) := HA.out.cell 5
  have a6 : w0.cell? ⟨w.heap.size, 6, none⟩ = some (.int .i64 f.r) := HA.out.cell 6
  have a7 : w0.cell? ⟨w.heap.size, 7, none⟩ = some (.slice p1 l.length c1) := HA.out.cell 7
  have a8 : w0.cell? ⟨w.heap.size, 8, none⟩ = some (.string s) := HA.out.cell 8
  have a9 : w0.cell? ⟨w.heap.size, 9, none⟩ = some (.int .i64 lv) := HA.out.cell 9
  have a10 : w0.cell? ⟨w.heap.size, 10, none⟩ = some (.int .i64 nx) := HA.out.cell 10
  have a11 : w0.cell? ⟨w.heap.size, 11, none⟩ = some (.slice p2 kp.length c2) := HA.out.cell 11
  have la := HA.out.lt
  go_wp2_with (first | (go_at_call 38; (with_reducible refine (QF.out).mono ?_); rintro e w1 ⟨rfl, hc⟩; have HC1 := Lib.hid hc; clear hc; have b0 : w1.cell? ⟨w.heap.size, 0, none⟩ = some (.int .i64 k) := (HA.out.ch (HC1.out) (not_nil _)).cell 0; have b1 : w1.cell? ⟨w.heap.size, 1, none⟩ = some (.int .i64 op) := (HA.out.ch (HC1.out) (not_nil _)).cell 1; have b2 : w1.cell? ⟨w.heap.size, 2, none⟩ = some (.int .i64 f.k) := (HA.out.ch (HC1.out) (not_nil _)).cell 2; have b3 : w1.cell? ⟨w.heap.size, 3, none⟩ = some (.int .i64 f.p) := (HA.out.ch (HC1.out) (not_nil _)).cell 3; have b4 : w1.cell? ⟨w.heap.size, 4, none⟩ = some (.int .i64 f.q) := (HA.out.ch (HC1.out) (not_nil _)).cell 4; have b5 : w1.cell? ⟨w.heap.size, 5, none⟩ = some (.string f.s) := (HA.out.ch (HC1.out) (not_nil _)).cell 5; have b6 : w1.cell? ⟨w.heap.size, 6, none⟩ = some (.int .i64 f.r) := (HA.out.ch (HC1.out) (not_nil _)).cell 6; have b7 : w1.cell? ⟨w.heap.size, 7, none⟩ = some (.slice p1 l.length c1) := (HA.out.ch (HC1.out) (not_nil _)).cell 7; have b8 : w1.cell? ⟨w.heap.size, 8, none⟩ = some (.string s) := (HA.out.ch (HC1.out) (not_nil _)).cell 8; have b9 : w1.cell? ⟨w.heap.size, 9, none⟩ = some (.int .i64 lv) := (HA.out.ch (HC1.out) (not_nil _)).cell 9; have b10 : w1.cell? ⟨w.heap.size, 10, none⟩ = some (.int .i64 nx) := (HA.out.ch (HC1.out) (not_nil _)).cell 10; have b11 : w1.cell? ⟨w.heap.size, 11, none⟩ = some (.slice p2 kp.length c2) := (HA.out.ch (HC1.out) (not_nil _)).cell 11; have bl := (HA.out.ch (HC1.out) (not_nil _)).lt))
  go_ret
  exact ⟨rfl, HC0.out.trans HC1.out⟩
set_option maxHeartbeats 8000000 in
set_option maxRecDepth 20000 in
theorem ra_9 (op : Int) (f : V5) (l : List V5) (s : ByteArray) (lv nx : Int) (kp : List V5) (p1 p2 : Option Addr) (c1 c2 : Nat) (w : World) (h1 : VA w (.slice p1 l.length c1) l) (h2 : VA w (.slice p2 kp.length c2) kp) (n1 : l.length ≤ 1000000) (n2 : kp.length ≤ 1000000) (hfl : decide (clrA ⟨6, op, f, l, s, lv, nx, kp⟩ = zA) = true) (q1 : ¬ lv < 0) (q2 : ¬ 255 < lv) (q3 : ¬ nx < 0) (q4 : ¬ 255 < nx) (ho : op < 1) :
    Calls Try.prog 25 #[.agg #[.int .i64 6, .int .i64 op, .int .i64 f.k, .int .i64 f.p, .int .i64 f.q, .string f.s, .int .i64 f.r, .slice p1 l.length c1, .string s, .int .i64 lv, .int .i64 nx, .slice p2 kp.length c2]] w fun e w' => e = .returned (.int .i64 4) ∧ Ch [] w w' := by
  obtain ⟨w0, hw0⟩ : ∃ w0, w0 = w.alloc (.cells #[.int .i64 6, .int .i64 op, .int .i64 f.k, .int .i64 f.p, .int .i64 f.q, .string f.s, .int .i64 f.r, .slice p1 l.length c1, .string s, .int .i64 lv, .int .i64 nx, .slice p2 kp.length c2] 31) := ⟨_, rfl⟩
  have HC0 : Hid (Ch [] w w0) := Lib.hid (by rw [hw0]; exact (Ch.refl [] w).alloc _)
  have HA : Hid (Blk 31 w.heap.size #[.int .i64 6, .int .i64 op, .int .i64 f.k, .int .i64 f.p, .int .i64 f.q, .string f.s, .int .i64 f.r, .slice p1 l.length c1, .string s, .int .i64 lv, .int .i64 nx, .slice p2 kp.length c2] w0) := Lib.hid (by rw [hw0]; exact Blk.new w _ _ _ rfl)
  have QF : Hid (Calls Try.prog 38 #[.agg #[.int .i64 6, .int .i64 op, .int .i64 f.k, .int .i64 f.p, .int .i64 f.q, .string f.s, .int .i64 f.r, .slice p1 l.length c1, .string s, .int .i64 lv, .int .i64 nx, .slice p2 kp.length c2]] w0 fun e w' => e = .returned (.bool true) ∧ Ch [] w0 w') := Lib.hid (by rw [← hfl]; exact rfields_any ⟨6, op, f, l, s, lv, nx, kp⟩ _ _ w0 (h1.below HC0.out) (h2.below HC0.out) (by first | exact ⟨hk1, hk2⟩ | (simp)))
  have HW := Lib.hid hw0
  clear hw0 h1 h2 n1 n2 hfl
  go_enter Try.func25, Try.ntmps25
  go_upto_region 1 with fail
  rw [← HW.out]
  have a0 : w0.cell? ⟨w.heap.size, 0, none⟩ = some (.int .i64 6) := HA.out.cell 0
  have a1 : w0.cell? ⟨w.heap.size, 1, none⟩ = some (.int .i64 op) := HA.out.cell 1
  have a2 : w0.cell? ⟨w.heap.size, 2, none⟩ = some (.int .i64 f.k) := HA.out.cell 2
  have a3 : w0.cell? ⟨w.heap.size, 3, none⟩ = some (.int .i64 f.p) := HA.out.cell 3
  have a4 : w0.cell? ⟨w.heap.size, 4, none⟩ = some (.int .i64 f.q) := HA.out.cell 4
  have a5 : w0.cell? ⟨w.heap.size, 5, none⟩ = some (.string f.s) := HA.out.cell 5
  have a6 : w0.cell? ⟨w.heap.size, 6, none⟩ = some (.int .i64 f.r) := HA.out.cell 6
  have a7 : w0.cell? ⟨w.heap.size, 7, none⟩ = some (.slice p1 l.length c1) := HA.out.cell 7
  have a8 : w0.cell? ⟨w.heap.size, 8, none⟩ = some (.string s) := HA.out.cell 8
  have a9 : w0.cell? ⟨w.heap.size, 9, none⟩ = some (.int .i64 lv) := HA.out.cell 9
  have a10 : w0.cell? ⟨w.heap.size, 10, none⟩ = some (.int .i64 nx) := HA.out.cell 10
  have a11 : w0.cell? ⟨w.heap.size, 11, none⟩ = some (.slice p2 kp.length c2) := HA.out.cell 11
  have la := HA.out.lt
  go_wp2_with (first | (go_at_call 38; (with_reducible refine (QF.out).mono ?_); rintro e w1 ⟨rfl, hc⟩; have HC1 := Lib.hid hc; clear hc; have b0 : w1.cell? ⟨w.heap.size, 0, none⟩ = some (.int .i64 6) := (HA.out.ch (HC1.out) (not_nil _)).cell 0; have b1 : w1.cell? ⟨w.heap.size, 1, none⟩ = some (.int .i64 op) := (HA.out.ch (HC1.out) (not_nil _)).cell 1; have b2 : w1.cell? ⟨w.heap.size, 2, none⟩ = some (.int .i64 f.k) := (HA.out.ch (HC1.out) (not_nil _)).cell 2; have b3 : w1.cell? ⟨w.heap.size, 3, none⟩ = some (.int .i64 f.p) := (HA.out.ch (HC1.out) (not_nil _)).cell 3; have b4 : w1.cell? ⟨w.heap.size, 4, none⟩ = some (.int .i64 f.q) := (HA.out.ch (HC1.out) (not_nil _)).cell 4; have b5 : w1.cell? ⟨w.heap.size, 5, none⟩ = some (.string f.s) := (HA.out.ch (HC1.out) (not_nil _)).cell 5; have b6 : w1.cell? ⟨w.heap.size, 6, none⟩ = some (.int .i64 f.r) := (HA.out.ch (HC1.out) (not_nil _)).cell 6; have b7 : w1.cell? ⟨w.heap.size, 7, none⟩ = some (.slice p1 l.length c1) := (HA.out.ch (HC1.out) (not_nil _)).cell 7; have b8 : w1.cell? ⟨w.heap.size, 8, none⟩ = some (.string s) := (HA.out.ch (HC1.out) (not_nil _)).cell 8; have b9 : w1.cell? ⟨w.heap.size, 9, none⟩ = some (.int .i64 lv) := (HA.out.ch (HC1.out) (not_nil _)).cell 9; have b10 : w1.cell? ⟨w.heap.size, 10, none⟩ = some (.int .i64 nx) := (HA.out.ch (HC1.out) (not_nil _)).cell 10; have b11 : w1.cell? ⟨w.heap.size, 11, none⟩ = some (.slice p2 kp.length c2) := (HA.out.ch (HC1.out) (not_nil _)).cell 11; have bl := (HA.out.ch (HC1.out) (not_nil _)).lt))
  go_ret
  exact ⟨rfl, HC0.out.trans HC1.out⟩
set_option maxHeartbeats 8000000 in
set_option maxRecDepth 20000 in
theorem ra_10 (op : Int) (f : V5) (l : List V5) (s : ByteArray) (lv nx : Int) (kp : List V5) (p1 p2 : Option Addr) (c1 c2 : Nat) (w : World) (h1 : VA w (.slice p1 l.length c1) l) (h2 : VA w (.slice p2 kp.length c2) kp) (n1 : l.length ≤ 1000000) (n2 : kp.length ≤ 1000000) (hfl : decide (clrA ⟨6, op, f, l, s, lv, nx, kp⟩ = zA) = true) (q1 : ¬ lv < 0) (q2 : ¬ 255 < lv) (q3 : ¬ nx < 0) (q4 : ¬ 255 < nx) (ho : ¬ op < 1) (ho2 : 7 < op) :
    Calls Try.prog 25 #[.agg #[.int .i64 6, .int .i64 op, .int .i64 f.k, .int .i64 f.p, .int .i64 f.q, .string f.s, .int .i64 f.r, .slice p1 l.length c1, .string s, .int .i64 lv, .int .i64 nx, .slice p2 kp.length c2]] w fun e w' => e = .returned (.int .i64 4) ∧ Ch [] w w' := by
  obtain ⟨w0, hw0⟩ : ∃ w0, w0 = w.alloc (.cells #[.int .i64 6, .int .i64 op, .int .i64 f.k, .int .i64 f.p, .int .i64 f.q, .string f.s, .int .i64 f.r, .slice p1 l.length c1, .string s, .int .i64 lv, .int .i64 nx, .slice p2 kp.length c2] 31) := ⟨_, rfl⟩
  have HC0 : Hid (Ch [] w w0) := Lib.hid (by rw [hw0]; exact (Ch.refl [] w).alloc _)
  have HA : Hid (Blk 31 w.heap.size #[.int .i64 6, .int .i64 op, .int .i64 f.k, .int .i64 f.p, .int .i64 f.q, .string f.s, .int .i64 f.r, .slice p1 l.length c1, .string s, .int .i64 lv, .int .i64 nx, .slice p2 kp.length c2] w0) := Lib.hid (by rw [hw0]; exact Blk.new w _ _ _ rfl)
  have QF : Hid (Calls Try.prog 38 #[.agg #[.int .i64 6, .int .i64 op, .int .i64 f.k, .int .i64 f.p, .int .i64 f.q, .string f.s, .int .i64 f.r, .slice p1 l.length c1, .string s, .int .i64 lv, .int .i64 nx, .slice p2 kp.length c2]] w0 fun e w' => e = .returned (.bool true) ∧ Ch [] w0 w') := Lib.hid (by rw [← hfl]; exact rfields_any ⟨6, op, f, l, s, lv, nx, kp⟩ _ _ w0 (h1.below HC0.out) (h2.below HC0.out) (by first | exact ⟨hk1, hk2⟩ | (simp)))
  have HW := Lib.hid hw0
  clear hw0 h1 h2 n1 n2 hfl
  go_enter Try.func25, Try.ntmps25
  go_upto_region 1 with fail
  rw [← HW.out]
  have a0 : w0.cell? ⟨w.heap.size, 0, none⟩ = some (.int .i64 6) := HA.out.cell 0
  have a1 : w0.cell? ⟨w.heap.size, 1, none⟩ = some (.int .i64 op) := HA.out.cell 1
  have a2 : w0.cell? ⟨w.heap.size, 2, none⟩ = some (.int .i64 f.k) := HA.out.cell 2
  have a3 : w0.cell? ⟨w.heap.size, 3, none⟩ = some (.int .i64 f.p) := HA.out.cell 3
  have a4 : w0.cell? ⟨w.heap.size, 4, none⟩ = some (.int .i64 f.q) := HA.out.cell 4
  have a5 : w0.cell? ⟨w.heap.size, 5, none⟩ = some (.string f.s) := HA.out.cell 5
  have a6 : w0.cell? ⟨w.heap.size, 6, none⟩ = some (.int .i64 f.r) := HA.out.cell 6
  have a7 : w0.cell? ⟨w.heap.size, 7, none⟩ = some (.slice p1 l.length c1) := HA.out.cell 7
  have a8 : w0.cell? ⟨w.heap.size, 8, none⟩ = some (.string s) := HA.out.cell 8
  have a9 : w0.cell? ⟨w.heap.size, 9, none⟩ = some (.int .i64 lv) := HA.out.cell 9
  have a10 : w0.cell? ⟨w.heap.size, 10, none⟩ = some (.int .i64 nx) := HA.out.cell 10
  have a11 : w0.cell? ⟨w.heap.size, 11, none⟩ = some (.slice p2 kp.length c2) := HA.out.cell 11
  have la := HA.out.lt
  go_wp2_with (first | (go_at_call 38; (with_reducible refine (QF.out).mono ?_); rintro e w1 ⟨rfl, hc⟩; have HC1 := Lib.hid hc; clear hc; have b0 : w1.cell? ⟨w.heap.size, 0, none⟩ = some (.int .i64 6) := (HA.out.ch (HC1.out) (not_nil _)).cell 0; have b1 : w1.cell? ⟨w.heap.size, 1, none⟩ = some (.int .i64 op) := (HA.out.ch (HC1.out) (not_nil _)).cell 1; have b2 : w1.cell? ⟨w.heap.size, 2, none⟩ = some (.int .i64 f.k) := (HA.out.ch (HC1.out) (not_nil _)).cell 2; have b3 : w1.cell? ⟨w.heap.size, 3, none⟩ = some (.int .i64 f.p) := (HA.out.ch (HC1.out) (not_nil _)).cell 3; have b4 : w1.cell? ⟨w.heap.size, 4, none⟩ = some (.int .i64 f.q) := (HA.out.ch (HC1.out) (not_nil _)).cell 4; have b5 : w1.cell? ⟨w.heap.size, 5, none⟩ = some (.string f.s) := (HA.out.ch (HC1.out) (not_nil _)).cell 5; have b6 : w1.cell? ⟨w.heap.size, 6, none⟩ = some (.int .i64 f.r) := (HA.out.ch (HC1.out) (not_nil _)).cell 6; have b7 : w1.cell? ⟨w.heap.size, 7, none⟩ = some (.slice p1 l.length c1) := (HA.out.ch (HC1.out) (not_nil _)).cell 7; have b8 : w1.cell? ⟨w.heap.size, 8, none⟩ = some (.string s) := (HA.out.ch (HC1.out) (not_nil _)).cell 8; have b9 : w1.cell? ⟨w.heap.size, 9, none⟩ = some (.int .i64 lv) := (HA.out.ch (HC1.out) (not_nil _)).cell 9; have b10 : w1.cell? ⟨w.heap.size, 10, none⟩ = some (.int .i64 nx) := (HA.out.ch (HC1.out) (not_nil _)).cell 10; have b11 : w1.cell? ⟨w.heap.size, 11, none⟩ = some (.slice p2 kp.length c2) := (HA.out.ch (HC1.out) (not_nil _)).cell 11; have bl := (HA.out.ch (HC1.out) (not_nil _)).lt))
  go_ret
  exact ⟨rfl, HC0.out.trans HC1.out⟩
end Go.Proofs.Ytdgdpckjcpgoaaa
