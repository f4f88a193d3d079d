/- Layer 20: Check of the code. -/
import Derived.Test.YtdgdpckjcpgoaaaPrK
namespace Go.Proofs.Ytdgdpckjcpgoaaa
open Go.RowKit Go.Joins M1
set_option linter.unusedVariables false
set_option maxHeartbeats 4000000 in
theorem hf_a (k : Int) (op : Int) (f : V5) (l : List V5) (s : ByteArray) (lv nx : Int) (kp : List V5) (p1 p2 : Option Addr) (c1 c2 : Nat) (w : World) (r : Act) (hr : clrA ⟨k, op, f, l, s, lv, nx, kp⟩ = r) (hex : inK k = false)
    (h1 : VA w (.slice p1 l.length c1) l) (h2 : VA w (.slice p2 kp.length c2) kp) (n1 : r.l.length ≤ 1000000) (n2 : r.kp.length ≤ 1000000) :
    Calls Try.prog 36 #[.agg #[.int .i64 k, .int .i64 op, .int .i64 f.k, .int .i64 f.p, .int .i64 f.q, .string f.s, .int .i64 f.r, .slice p1 l.length c1, .string s, .int .i64 lv, .int .i64 nx, .slice p2 kp.length c2]] w fun e w' => e = .returned (.bool false) ∧ Ch [] w w' := by
  obtain ⟨w0, hw0⟩ : ∃ w0, w0 = w.alloc (.cells #[.int .i64 k, .int .i64 op, .int .i64 f.k, .int .i64 f.p, .int .i64 f.q, .string f.s, .int .i64 f.r, .slice p1 l.length c1, .string s, .int .i64 lv, .int .i64 nx, .slice p2 kp.length c2] 31) := ⟨_, rfl⟩
  have HC0 : Hid (Ch [] w w0) := Lib.hid (by rw [hw0]; exact (Ch.refl [] w).alloc _)
  have HA : Hid (Blk 31 w.heap.size #[.int .i64 k, .int .i64 op, .int .i64 f.k, .int .i64 f.p, .int .i64 f.q, .string f.s, .int .i64 f.r, .slice p1 l.length c1, .string s, .int .i64 lv, .int .i64 nx, .slice p2 kp.length c2] w0) := Lib.hid (by rw [hw0]; exact Blk.new w _ _ _ rfl)
  have QW : Hid (Calls Try.prog 42 #[.agg #[.int .i64 k, .int .i64 op, .int .i64 f.k, .int .i64 f.p, .int .i64 f.q, .string f.s, .int .i64 f.r, .slice p1 l.length c1, .string s, .int .i64 lv, .int .i64 nx, .slice p2 kp.length c2]] w0 fun e w' => (∃ p1' n1' c1' p2' n2' c2', e = .returned (.tuple #[.agg #[.int .i64 r.k, .int .i64 r.op, .int .i64 r.f.k, .int .i64 r.f.p, .int .i64 r.f.q, .string r.f.s, .int .i64 r.f.r, .slice p1' n1' c1', .string r.s, .int .i64 r.lv, .int .i64 r.nx, .slice p2' n2' c2'], .bool false]) ∧ VA w' (.slice p1' n1' c1') r.l ∧ VA w' (.slice p2' n2' c2') r.kp) ∧ Ch [] w0 w') := Lib.hid (by
    refine (wf_any ⟨k, op, f, l, s, lv, nx, kp⟩ _ _ w0 (h1.below HC0.out) (h2.below HC0.out)).mono ?_
    rintro e w' ⟨⟨vl, vk, rfl, q1, q2⟩, hc⟩
    rw [hr, hex] at *
    obtain ⟨a1, a2, rfl, a3, a4⟩ := q1
    obtain ⟨b1, b2, rfl, b3, b4⟩ := q2
    exact ⟨⟨_, _, _, _, _, _, rfl, VA.below ⟨a1, a2, rfl, a3, a4⟩ hc, VA.below ⟨b1, b2, rfl, b3, b4⟩ hc⟩, hc⟩)
  have HW := Lib.hid hw0
  clear hw0 h1 h2 n1 n2 hr hex
  go_enter Try.func36, Try.ntmps36
  go_upto_region 1 with fail
  rw [← HW.out]
  have a0 : w0.cell? ⟨w.heap.size, 0, none⟩ = some (.int .i64 k) := HA.out.cell 0
  have a1 : w0.cell? ⟨w.heap.size, 1, none⟩ = some (.int .i64 op) := HA.out.cell 1
  have a2 : w0.cell? ⟨w.heap.size, 2, none⟩ = some (.int .i64 f.k) := HA.out.cell 2
  have a3 : w0.cell? ⟨w.heap.size, 3, none⟩ = some (.int .i64 f.p) := HA.out.cell 3
  have a4 : w0.cell? ⟨w.heap.size, 4, none⟩ = some (.int .i64 f.q) := HA.out.cell 4
  have a5 : w0.cell? ⟨w.heap.size, 5, none⟩ = some (.string f.s) := HA.out.cell 5
  have a6 : w0.cell? ⟨w.heap.size, 6, none⟩ = some (.int .i64 f.r) := HA.out.cell 6
  have a7 : w0.cell? ⟨w.heap.size, 7, none⟩ = some (.slice p1 l.length c1) := HA.out.cell 7
  have a8 : w0.cell? ⟨w.heap.size, 8, none⟩ = some (.string s) := HA.out.cell 8
  have a9 : w0.cell? ⟨w.heap.size, 9, none⟩ = some (.int .i64 lv) := HA.out.cell 9
  have a10 : w0.cell? ⟨w.heap.size, 10, none⟩ = some (.int .i64 nx) := HA.out.cell 10
  have a11 : w0.cell? ⟨w.heap.size, 11, none⟩ = some (.slice p2 kp.length c2) := HA.out.cell 11
  have la := HA.out.lt
  go_wp2_with (first | (go_at_call 42; (with_reducible refine (QW.out).mono ?_); rintro e w1 ⟨⟨p1', n1', c1', p2', n2', c2', rfl, q1, q2⟩, hc⟩; have HC1 := Lib.hid hc; have HQ1 := Lib.hid (q1.below ((Ch.refl [] w1).alloc (.cells #[.int .i64 r.k, .int .i64 r.op, .int .i64 r.f.k, .int .i64 r.f.p, .int .i64 r.f.q, .string r.f.s, .int .i64 r.f.r, .slice p1' n1' c1', .string r.s, .int .i64 r.lv, .int .i64 r.nx, .slice p2' n2' c2'] 31))); have HQ2 := Lib.hid (q2.below ((Ch.refl [] w1).alloc (.cells #[.int .i64 r.k, .int .i64 r.op, .int .i64 r.f.k, .int .i64 r.f.p, .int .i64 r.f.q, .string r.f.s, .int .i64 r.f.r, .slice p1' n1' c1', .string r.s, .int .i64 r.lv, .int .i64 r.nx, .slice p2' n2' c2'] 31))); have HC2 : Hid (Ch [] w0 (w1.alloc (.cells #[.int .i64 r.k, .int .i64 r.op, .int .i64 r.f.k, .int .i64 r.f.p, .int .i64 r.f.q, .string r.f.s, .int .i64 r.f.r, .slice p1' n1' c1', .string r.s, .int .i64 r.lv, .int .i64 r.nx, .slice p2' n2' c2'] 31))) := Lib.hid (hc.trans ((Ch.refl [] w1).alloc _)); clear q1 q2 hc; have b0 : w1.cell? ⟨w.heap.size, 0, none⟩ = some (.int .i64 k) := (HA.out.ch HC1.out (not_nil _)).cell 0; have b1 : w1.cell? ⟨w.heap.size, 1, none⟩ = some (.int .i64 op) := (HA.out.ch HC1.out (not_nil _)).cell 1; have b2 : w1.cell? ⟨w.heap.size, 2, none⟩ = some (.int .i64 f.k) := (HA.out.ch HC1.out (not_nil _)).cell 2; have b3 : w1.cell? ⟨w.heap.size, 3, none⟩ = some (.int .i64 f.p) := (HA.out.ch HC1.out (not_nil _)).cell 3; have b4 : w1.cell? ⟨w.heap.size, 4, none⟩ = some (.int .i64 f.q) := (HA.out.ch HC1.out (not_nil _)).cell 4; have b5 : w1.cell? ⟨w.heap.size, 5, none⟩ = some (.string f.s) := (HA.out.ch HC1.out (not_nil _)).cell 5; have b6 : w1.cell? ⟨w.heap.size, 6, none⟩ = some (.int .i64 f.r) := (HA.out.ch HC1.out (not_nil _)).cell 6; have b7 : w1.cell? ⟨w.heap.size, 7, none⟩ = some (.slice p1 l.length c1) := (HA.out.ch HC1.out (not_nil _)).cell 7; have b8 : w1.cell? ⟨w.heap.size, 8, none⟩ = some (.string s) := (HA.out.ch HC1.out (not_nil _)).cell 8; have b9 : w1.cell? ⟨w.heap.size, 9, none⟩ = some (.int .i64 lv) := (HA.out.ch HC1.out (not_nil _)).cell 9; have b10 : w1.cell? ⟨w.heap.size, 10, none⟩ = some (.int .i64 nx) := (HA.out.ch HC1.out (not_nil _)).cell 10; have b11 : w1.cell? ⟨w.heap.size, 11, none⟩ = some (.slice p2 kp.length c2) := (HA.out.ch HC1.out (not_nil _)).cell 11; have bl := (HA.out.ch HC1.out (not_nil _)).lt))
  go_ret
  exact ⟨rfl, HC0.out.trans HC2.out⟩
set_option maxHeartbeats 4000000 in
theorem hf_b (k : Int) (op : Int) (f : V5) (l : List V5) (s : ByteArray) (lv nx : Int) (kp : List V5) (p1 p2 : Option Addr) (c1 c2 : Nat) (w : World) (r : Act) (hr : clrA ⟨k, op, f, l, s, lv, nx, kp⟩ = r) (hex : inK k = true) (hsm : decide (r = zA) = false)
    (h1 : VA w (.slice p1 l.length c1) l) (h2 : VA w (.slice p2 kp.length c2) kp) (n1 : r.l.length ≤ 1000000) (n2 : r.kp.length ≤ 1000000) :
    Calls Try.prog 36 #[.agg #[.int .i64 k, .int .i64 op, .int .i64 f.k, .int .i64 f.p, .int .i64 f.q, .string f.s, .int .i64 f.r, .slice p1 l.length c1, .string s, .int .i64 lv, .int .i64 nx, .slice p2 kp.length c2]] w fun e w' => e = .returned (.bool false) ∧ Ch [] w w' := by
  obtain ⟨w0, hw0⟩ : ∃ w0, w0 = w.alloc (.cells #[.int .i64 k, .int .i64 op, .int .i64 f.k, .int .i64 f.p, .int .i64 f.q, .string f.s, .int .i64 f.r, .slice p1 l.length c1, .string s, .int .i64 lv, .int .i64 nx, .slice p2 kp.length c2] 31) := ⟨_, rfl⟩
  have HC0 : Hid (Ch [] w w0) := Lib.hid (by rw [hw0]; exact (Ch.refl [] w).alloc _)
  have HA : Hid (Blk 31 w.heap.size #[.int .i64 k, .int .i64 op, .int .i64 f.k, .int .i64 f.p, .int .i64 f.q, .string f.s, .int .i64 f.r, .slice p1 l.length c1, .string s, .int .i64 lv, .int .i64 nx, .slice p2 kp.length c2] w0) := Lib.hid (by rw [hw0]; exact Blk.new w _ _ _ rfl)
  have QW : Hid (Calls Try.prog 42 #[.agg #[.int .i64 k, .int .i64 op, .int .i64 f.k, .int .i64 f.p, .int .i64 f.q, .string f.s, .int .i64 f.r, .slice p1 l.length c1, .string s, .int .i64 lv, .int .i64 nx, .slice p2 kp.length c2]] w0 fun e w' => (∃ p1' n1' c1' p2' n2' c2', e = .returned (.tuple #[.agg #[.int .i64 r.k, .int .i64 r.op, .int .i64 r.f.k, .int .i64 r.f.p, .int .i64 r.f.q, .string r.f.s, .int .i64 r.f.r, .slice p1' n1' c1', .string r.s, .int .i64 r.lv, .int .i64 r.nx, .slice p2' n2' c2'], .bool true]) ∧ VA w' (.slice p1' n1' c1') r.l ∧ VA w' (.slice p2' n2' c2') r.kp) ∧ Ch [] w0 w') := Lib.hid (by
    refine (wf_any ⟨k, op, f, l, s, lv, nx, kp⟩ _ _ w0 (h1.below HC0.out) (h2.below HC0.out)).mono ?_
    rintro e w' ⟨⟨vl, vk, rfl, q1, q2⟩, hc⟩
    rw [hr, hex] at *
    obtain ⟨a1, a2, rfl, a3, a4⟩ := q1
    obtain ⟨b1, b2, rfl, b3, b4⟩ := q2
    exact ⟨⟨_, _, _, _, _, _, rfl, VA.below ⟨a1, a2, rfl, a3, a4⟩ hc, VA.below ⟨b1, b2, rfl, b3, b4⟩ hc⟩, hc⟩)
  have QS : Hid (∀ W vl vk, VA W vl r.l → VA W vk r.kp → Calls Try.prog 26 #[.agg #[.int .i64 r.k, .int .i64 r.op, .int .i64 r.f.k, .int .i64 r.f.p, .int .i64 r.f.q, .string r.f.s, .int .i64 r.f.r, vl, .string r.s, .int .i64 r.lv, .int .i64 r.nx, vk], .agg #[.int .i64 0, .int .i64 0, .int .i64 0, .int .i64 0, .int .i64 0, .string ⟨#[]⟩, .int .i64 0, .slice none 0 0, .string ⟨#[]⟩, .int .i64 0, .int .i64 0, .slice none 0 0]] W fun e w' => e = .returned (.bool false) ∧ Ch [] W w') := Lib.hid fun W vl vk q1 q2 => by
    rw [← hsm]
    exact asame_any _ _ r zA W ⟨vl, vk, rfl, q1, q2⟩ ⟨_, _, rfl, VA.nil W, VA.nil W⟩ n1 n2 (Nat.zero_le _) (Nat.zero_le _)
  have HW := Lib.hid hw0
  clear hw0 h1 h2 n1 n2 hr hex hsm
  go_enter Try.func36, Try.ntmps36
  go_upto_region 1 with fail
  rw [← HW.out]
  have a0 : w0.cell? ⟨w.heap.size, 0, none⟩ = some (.int .i64 k) := HA.out.cell 0
  have a1 : w0.cell? ⟨w.heap.size, 1, none⟩ = some (.int .i64 op) := HA.out.cell 1
  have a2 : w0.cell? ⟨w.heap.size, 2, none⟩ = some (.int .i64 f.k) := HA.out.cell 2
  have a3 : w0.cell? ⟨w.heap.size, 3, none⟩ = some (.int .i64 f.p) := HA.out.cell 3
  have a4 : w0.cell? ⟨w.heap.size, 4, none⟩ = some (.int .i64 f.q) := HA.out.cell 4
  have a5 : w0.cell? ⟨w.heap.size, 5, none⟩ = some (.string f.s) := HA.out.cell 5
  have a6 : w0.cell? ⟨w.heap.size, 6, none⟩ = some (.int .i64 f.r) := HA.out.cell 6
  have a7 : w0.cell? ⟨w.heap.size, 7, none⟩ = some (.slice p1 l.length c1) := HA.out.cell 7
  have a8 : w0.cell? ⟨w.heap.size, 8, none⟩ = some (.string s) := HA.out.cell 8
  have a9 : w0.cell? ⟨w.heap.size, 9, none⟩ = some (.int .i64 lv) := HA.out.cell 9
  have a10 : w0.cell? ⟨w.heap.size, 10, none⟩ = some (.int .i64 nx) := HA.out.cell 10
  have a11 : w0.cell? ⟨w.heap.size, 11, none⟩ = some (.slice p2 kp.length c2) := HA.out.cell 11
  have la := HA.out.lt
  go_wp2_with (first | (go_at_call 42; (with_reducible refine (QW.out).mono ?_); rintro e w1 ⟨⟨p1', n1', c1', p2', n2', c2', rfl, q1, q2⟩, hc⟩; have HC1 := Lib.hid hc; have HQ1 := Lib.hid (q1.below ((Ch.refl [] w1).alloc (.cells #[.int .i64 r.k, .int .i64 r.op, .int .i64 r.f.k, .int .i64 r.f.p, .int .i64 r.f.q, .string r.f.s, .int .i64 r.f.r, .slice p1' n1' c1', .string r.s, .int .i64 r.lv, .int .i64 r.nx, .slice p2' n2' c2'] 31))); have HQ2 := Lib.hid (q2.below ((Ch.refl [] w1).alloc (.cells #[.int .i64 r.k, .int .i64 r.op, .int .i64 r.f.k, .int .i64 r.f.p, .int .i64 r.f.q, .string r.f.s, .int .i64 r.f.r, .slice p1' n1' c1', .string r.s, .int .i64 r.lv, .int .i64 r.nx, .slice p2' n2' c2'] 31))); have HC2 : Hid (Ch [] w0 (w1.alloc (.cells #[.int .i64 r.k, .int .i64 r.op, .int .i64 r.f.k, .int .i64 r.f.p, .int .i64 r.f.q, .string r.f.s, .int .i64 r.f.r, .slice p1' n1' c1', .string r.s, .int .i64 r.lv, .int .i64 r.nx, .slice p2' n2' c2'] 31))) := Lib.hid (hc.trans ((Ch.refl [] w1).alloc _)); clear q1 q2 hc; have b0 : w1.cell? ⟨w.heap.size, 0, none⟩ = some (.int .i64 k) := (HA.out.ch HC1.out (not_nil _)).cell 0; have b1 : w1.cell? ⟨w.heap.size, 1, none⟩ = some (.int .i64 op) := (HA.out.ch HC1.out (not_nil _)).cell 1; have b2 : w1.cell? ⟨w.heap.size, 2, none⟩ = some (.int .i64 f.k) := (HA.out.ch HC1.out (not_nil _)).cell 2; have b3 : w1.cell? ⟨w.heap.size, 3, none⟩ = some (.int .i64 f.p) := (HA.out.ch HC1.out (not_nil _)).cell 3; have b4 : w1.cell? ⟨w.heap.size, 4, none⟩ = some (.int .i64 f.q) := (HA.out.ch HC1.out (not_nil _)).cell 4; have b5 : w1.cell? ⟨w.heap.size, 5, none⟩ = some (.string f.s) := (HA.out.ch HC1.out (not_nil _)).cell 5; have b6 : w1.cell? ⟨w.heap.size, 6, none⟩ = some (.int .i64 f.r) := (HA.out.ch HC1.out (not_nil _)).cell 6; have b7 : w1.cell? ⟨w.heap.size, 7, none⟩ = some (.slice p1 l.length c1) := (HA.out.ch HC1.out (not_nil _)).cell 7; have b8 : w1.cell? ⟨w.heap.size, 8, none⟩ = some (.string s) := (HA.out.ch HC1.out (not_nil _)).cell 8; have b9 : w1.cell? ⟨w.heap.size, 9, none⟩ = some (.int .i64 lv) := (HA.out.ch HC1.out (not_nil _)).cell 9; have b10 : w1.cell? ⟨w.heap.size, 10, none⟩ = some (.int .i64 nx) := (HA.out.ch HC1.out (not_nil _)).cell 10; have b11 : w1.cell? ⟨w.heap.size, 11, none⟩ = some (.slice p2 kp.length c2) := (HA.out.ch HC1.out (not_nil _)).cell 11; have bl := (HA.out.ch HC1.out (not_nil _)).lt) | (go_at_call 26; (with_reducible refine (QS.out _ _ _ HQ1.out HQ2.out).mono ?_); rintro e w3 ⟨rfl, hc⟩; have HC3 := Lib.hid (HC2.out.trans hc); clear hc; have d0 : w3.cell? ⟨w.heap.size, 0, none⟩ = some (.int .i64 k) := (HA.out.ch HC3.out (not_nil _)).cell 0; have d1 : w3.cell? ⟨w.heap.size, 1, none⟩ = some (.int .i64 op) := (HA.out.ch HC3.out (not_nil _)).cell 1; have d2 : w3.cell? ⟨w.heap.size, 2, none⟩ = some (.int .i64 f.k) := (HA.out.ch HC3.out (not_nil _)).cell 2; have d3 : w3.cell? ⟨w.heap.size, 3, none⟩ = some (.int .i64 f.p) := (HA.out.ch HC3.out (not_nil _)).cell 3; have d4 : w3.cell? ⟨w.heap.size, 4, none⟩ = some (.int .i64 f.q) := (HA.out.ch HC3.out (not_nil _)).cell 4; have d5 : w3.cell? ⟨w.heap.size, 5, none⟩ = some (.string f.s) := (HA.out.ch HC3.out (not_nil _)).cell 5; have d6 : w3.cell? ⟨w.heap.size, 6, none⟩ = some (.int .i64 f.r) := (HA.out.ch HC3.out (not_nil _)).cell 6; have d7 : w3.cell? ⟨w.heap.size, 7, none⟩ = some (.slice p1 l.length c1) := (HA.out.ch HC3.out (not_nil _)).cell 7; have d8 : w3.cell? ⟨w.heap.size, 8, none⟩ = some (.string s) := (HA.out.ch HC3.out (not_nil _)).cell 8; have d9 : w3.cell? ⟨w.heap.size, 9, none⟩ = some (.int .i64 lv) := (HA.out.ch HC3.out (not_nil _)).cell 9; have d10 : w3.cell? ⟨w.heap.size, 10, none⟩ = some (.int .i64 nx) := (HA.out.ch HC3.out (not_nil _)).cell 10; have d11 : w3.cell? ⟨w.heap.size, 11, none⟩ = some (.slice p2 kp.length c2) := (HA.out.ch HC3.out (not_nil _)).cell 11; have dl := (HA.out.ch HC3.out (not_nil _)).lt))
  go_ret
  exact ⟨rfl, HC0.out.trans HC3.out⟩
set_option maxHeartbeats 4000000 in
theorem hf_c (op : Int) (f : V5) (l : List V5) (s : ByteArray) (lv nx : Int) (kp : List V5) (p1 p2 : Option Addr) (c1 c2 : Nat) (w : World) (r : Act) (hr : clrA ⟨2, op, f, l, s, lv, nx, kp⟩ = r) (hex : inK 2 = true) (hsm : decide (r = zA) = true) (hl : ¬ l.length = 1)
    (h1 : VA w (.slice p1 l.length c1) l) (h2 : VA w (.slice p2 kp.length c2) kp) (n1 : r.l.length ≤ 1000000) (n2 : r.kp.length ≤ 1000000) :
    Calls Try.prog 36 #[.agg #[.int .i64 2, .int .i64 op, .int .i64 f.k, .int .i64 f.p, .int .i64 f.q, .string f.s, .int .i64 f.r, .slice p1 l.length c1, .string s, .int .i64 lv, .int .i64 nx, .slice p2 kp.length c2]] w fun e w' => e = .returned (.bool false) ∧ Ch [] w w' := by
  obtain ⟨w0, hw0⟩ : ∃ w0, w0 = w.alloc (.cells #[.int .i64 2, .int .i64 op, .int .i64 f.k, .int .i64 f.p, .int .i64 f.q, .string f.s, .int .i64 f.r, .slice p1 l.length c1, .string s, .int .i64 lv, .int .i64 nx, .slice p2 kp.length c2] 31) := ⟨_, rfl⟩
  have HC0 : Hid (Ch [] w w0) := Lib.hid (by rw [hw0]; exact (Ch.refl [] w).alloc _)
  have HA : Hid (Blk 31 w.heap.size #[.int .i64 2, .int .i64 op, .int .i64 f.k, .int .i64 f.p, .int .i64 f.q, .string f.s, .int .i64 f.r, .slice p1 l.length c1, .string s, .int .i64 lv, .int .i64 nx, .slice p2 kp.length c2] w0) := Lib.hid (by rw [hw0]; exact Blk.new w _ _ _ rfl)
  have QW : Hid (Calls Try.prog 42 #[.agg #[.int .i64 2, .int .i64 op, .int .i64 f.k, .int .i64 f.p, .int .i64 f.q, .string f.s, .int .i64 f.r, .slice p1 l.length c1, .string s, .int .i64 lv, .int .i64 nx, .slice p2 kp.length c2]] w0 fun e w' => (∃ p1' n1' c1' p2' n2' c2', e = .returned (.tuple #[.agg #[.int .i64 r.k, .int .i64 r.op, .int .i64 r.f.k, .int .i64 r.f.p, .int .i64 r.f.q, .string r.f.s, .int .i64 r.f.r, .slice p1' n1' c1', .string r.s, .int .i64 r.lv, .int .i64 r.nx, .slice p2' n2' c2'], .bool true]) ∧ VA w' (.slice p1' n1' c1') r.l ∧ VA w' (.slice p2' n2' c2') r.kp) ∧ Ch [] w0 w') := Lib.hid (by
    refine (wf_any ⟨2, op, f, l, s, lv, nx, kp⟩ _ _ w0 (h1.below HC0.out) (h2.below HC0.out)).mono ?_
    rintro e w' ⟨⟨vl, vk, rfl, q1, q2⟩, hc⟩
    rw [hr, hex] at *
    obtain ⟨a1, a2, rfl, a3, a4⟩ := q1
    obtain ⟨b1, b2, rfl, b3, b4⟩ := q2
    exact ⟨⟨_, _, _, _, _, _, rfl, VA.below ⟨a1, a2, rfl, a3, a4⟩ hc, VA.below ⟨b1, b2, rfl, b3, b4⟩ hc⟩, hc⟩)
  have QS : Hid (∀ W vl vk, VA W vl r.l → VA W vk r.kp → Calls Try.prog 26 #[.agg #[.int .i64 r.k, .int .i64 r.op, .int .i64 r.f.k, .int .i64 r.f.p, .int .i64 r.f.q, .string r.f.s, .int .i64 r.f.r, vl, .string r.s, .int .i64 r.lv, .int .i64 r.nx, vk], .agg #[.int .i64 0, .int .i64 0, .int .i64 0, .int .i64 0, .int .i64 0, .string ⟨#[]⟩, .int .i64 0, .slice none 0 0, .string ⟨#[]⟩, .int .i64 0, .int .i64 0, .slice none 0 0]] W fun e w' => e = .returned (.bool true) ∧ Ch [] W w') := Lib.hid fun W vl vk q1 q2 => by
    rw [← hsm]
    exact asame_any _ _ r zA W ⟨vl, vk, rfl, q1, q2⟩ ⟨_, _, rfl, VA.nil W, VA.nil W⟩ n1 n2 (Nat.zero_le _) (Nat.zero_le _)
  have hl1 : ¬ (l.length : Int) = 1 := by omega
  have hl2 : ((l.length : Int) != 1) = true := by rw [bne_iff_ne]; exact hl1
  have hl3 : ((l.length : Int) == 1) = false := by rw [beq_eq_false_iff_ne]; exact hl1
  have HW := Lib.hid hw0
  clear hw0 h1 h2 n1 n2 hr hex hsm
  go_enter Try.func36, Try.ntmps36
  go_upto_region 1 with fail
  rw [← HW.out]
  have a0 : w0.cell? ⟨w.heap.size, 0, none⟩ = some (.int .i64 2) := HA.out.cell 0
  have a1 : w0.cell? ⟨w.heap.size, 1, none⟩ = some (.int .i64 op) := HA.out.cell 1
  have a2 : w0.cell? ⟨w.heap.size, 2, none⟩ = some (.int .i64 f.k) := HA.out.cell 2
  have a3 : w0.cell? ⟨w.heap.size, 3, none⟩ = some (.int .i64 f.p) := HA.out.cell 3
  have a4 : w0.cell? ⟨w.heap.size, 4, none⟩ = some (.int .i64 f.q) := HA.out.cell 4
  have a5 : w0.cell? ⟨w.heap.size, 5, none⟩ = some (.string f.s) := HA.out.cell 5
  have a6 : w0.cell? ⟨w.heap.size, 6, none⟩ = some (.int .i64 f.r) := HA.out.cell 6
  have a7 : w0.cell? ⟨w.heap.size, 7, none⟩ = some (.slice p1 l.length c1) := HA.out.cell 7
  have a8 : w0.cell? ⟨w.heap.size, 8, none⟩ = some (.string s) := HA.out.cell 8
  have a9 : w0.cell? ⟨w.heap.size, 9, none⟩ = some (.int .i64 lv) := HA.out.cell 9
  have a10 : w0.cell? ⟨w.heap.size, 10, none⟩ = some (.int .i64 nx) := HA.out.cell 10
  have a11 : w0.cell? ⟨w.heap.size, 11, none⟩ = some (.slice p2 kp.length c2) := HA.out.cell 11
  have la := HA.out.lt
  go_wp2_with (first | (go_at_call 42; (with_reducible refine (QW.out).mono ?_); rintro e w1 ⟨⟨p1', n1', c1', p2', n2', c2', rfl, q1, q2⟩, hc⟩; have HC1 := Lib.hid hc; have HQ1 := Lib.hid (q1.below ((Ch.refl [] w1).alloc (.cells #[.int .i64 r.k, .int .i64 r.op, .int .i64 r.f.k, .int .i64 r.f.p, .int .i64 r.f.q, .string r.f.s, .int .i64 r.f.r, .slice p1' n1' c1', .string r.s, .int .i64 r.lv, .int .i64 r.nx, .slice p2' n2' c2'] 31))); have HQ2 := Lib.hid (q2.below ((Ch.refl [] w1).alloc (.cells #[.int .i64 r.k, .int .i64 r.op, .int .i64 r.f.k, .int .i64 r.f.p, .int .i64 r.f.q, .string r.f.s, .int .i64 r.f.r, .slice p1' n1' c1', .string r.s, .int .i64 r.lv, .int .i64 r.nx, .slice p2' n2' c2'] 31))); have HC2 : Hid (Ch [] w0 (w1.alloc (.cells #[.int .i64 r.k, .int .i64 r.op, .int .i64 r.f.k, .int .i64 r.f.p, .int .i64 r.f.q, .string r.f.s, .int .i64 r.f.r, .slice p1' n1' c1', .string r.s, .int .i64 r.lv, .int .i64 r.nx, .slice p2' n2' c2'] 31))) := Lib.hid (hc.trans ((Ch.refl [] w1).alloc _)); clear q1 q2 hc; have b0 : w1.cell? ⟨w.heap.size, 0, none⟩ = some (.int .i64 2) := (HA.out.ch HC1.out (not_nil _)).cell 0; have b1 : w1.cell? ⟨w.heap.size, 1, none⟩ = some (.int .i64 op) := (HA.out.ch HC1.out (not_nil _)).cell 1; have b2 : w1.cell? ⟨w.heap.size, 2, none⟩ = some (.int .i64 f.k) := (HA.out.ch HC1.out (not_nil _)).cell 2; have b3 : w1.cell? ⟨w.heap.size, 3, none⟩ = some (.int .i64 f.p) := (HA.out.ch HC1.out (not_nil _)).cell 3; have b4 : w1.cell? ⟨w.heap.size, 4, none⟩ = some (.int .i64 f.q) := (HA.out.ch HC1.out (not_nil _)).cell 4; have b5 : w1.cell? ⟨w.heap.size, 5, none⟩ = some (.string f.s) := (HA.out.ch HC1.out (not_nil _)).cell 5; have b6 : w1.cell? ⟨w.heap.size, 6, none⟩ = some (.int .i64 f.r) := (HA.out.ch HC1.out (not_nil _)).cell 6; have b7 : w1.cell? ⟨w.heap.size, 7, none⟩ = some (.slice p1 l.length c1) := (HA.out.ch HC1.out (not_nil _)).cell 7; have b8 : w1.cell? ⟨w.heap.size, 8, none⟩ = some (.string s) := (HA.out.ch HC1.out (not_nil _)).cell 8; have b9 : w1.cell? ⟨w.heap.size, 9, none⟩ = some (.int .i64 lv) := (HA.out.ch HC1.out (not_nil _)).cell 9; have b10 : w1.cell? ⟨w.heap.size, 10, none⟩ = some (.int .i64 nx) := (HA.out.ch HC1.out (not_nil _)).cell 10; have b11 : w1.cell? ⟨w.heap.size, 11, none⟩ = some (.slice p2 kp.length c2) := (HA.out.ch HC1.out (not_nil _)).cell 11; have bl := (HA.out.ch HC1.out (not_nil _)).lt) | (go_at_call 26; (with_reducible refine (QS.out _ _ _ HQ1.out HQ2.out).mono ?_); rintro e w3 ⟨rfl, hc⟩; have HC3 := Lib.hid (HC2.out.trans hc); clear hc; have d0 : w3.cell? ⟨w.heap.size, 0, none⟩ = some (.int .i64 2) := (HA.out.ch HC3.out (not_nil _)).cell 0; have d1 : w3.cell? ⟨w.heap.size, 1, none⟩ = some (.int .i64 op) := (HA.out.ch HC3.out (not_nil _)).cell 1; have d2 : w3.cell? ⟨w.heap.size, 2, none⟩ = some (.int .i64 f.k) := (HA.out.ch HC3.out (not_nil _)).cell 2; have d3 : w3.cell? ⟨w.heap.size, 3, none⟩ = some (.int .i64 f.p) := (HA.out.ch HC3.out (not_nil _)).cell 3; have d4 : w3.cell? ⟨w.heap.size, 4, none⟩ = some (.int .i64 f.q) := (HA.out.ch HC3.out (not_nil _)).cell 4; have d5 : w3.cell? ⟨w.heap.size, 5, none⟩ = some (.string f.s) := (HA.out.ch HC3.out (not_nil _)).cell 5; have d6 : w3.cell? ⟨w.heap.size, 6, none⟩ = some (.int .i64 f.r) := (HA.out.ch HC3.out (not_nil _)).cell 6; have d7 : w3.cell? ⟨w.heap.size, 7, none⟩ = some (.slice p1 l.length c1) := (HA.out.ch HC3.out (not_nil _)).cell 7; have d8 : w3.cell? ⟨w.heap.size, 8, none⟩ = some (.string s) := (HA.out.ch HC3.out (not_nil _)).cell 8; have d9 : w3.cell? ⟨w.heap.size, 9, none⟩ = some (.int .i64 lv) := (HA.out.ch HC3.out (not_nil _)).cell 9; have d10 : w3.cell? ⟨w.heap.size, 10, none⟩ = some (.int .i64 nx) := (HA.out.ch HC3.out (not_nil _)).cell 10; have d11 : w3.cell? ⟨w.heap.size, 11, none⟩ = some (.slice p2 kp.length c2) := (HA.out.ch HC3.out (not_nil _)).cell 11; have dl := (HA.out.ch HC3.out (not_nil _)).lt))
  go_ret
  exact ⟨rfl, HC0.out.trans HC3.out⟩
set_option maxHeartbeats 4000000 in
theorem hf_d (op : Int) (f : V5) (l : List V5) (s : ByteArray) (lv nx : Int) (kp : List V5) (p1 p2 : Option Addr) (c1 c2 : Nat) (w : World) (r : Act) (hr : clrA ⟨6, op, f, l, s, lv, nx, kp⟩ = r) (hex : inK 6 = true) (hsm : decide (r = zA) = true) (ho : op < 1)
    (h1 : VA w (.slice p1 l.length c1) l) (h2 : VA w (.slice p2 kp.length c2) kp) (n1 : r.l.length ≤ 1000000) (n2 : r.kp.length ≤ 1000000) :
    Calls Try.prog 36 #[.agg #[.int .i64 6, .int .i64 op, .int .i64 f.k, .int .i64 f.p, .int .i64 f.q, .string f.s, .int .i64 f.r, .slice p1 l.length c1, .string s, .int .i64 lv, .int .i64 nx, .slice p2 kp.length c2]] w fun e w' => e = .returned (.bool false) ∧ Ch [] w w' := by
  obtain ⟨w0, hw0⟩ : ∃ w0, w0 = w.alloc (.cells #[.int .i64 6, .int .i64 op, .int .i64 f.k, .int .i64 f.p, .int .i64 f.q, .string f.s, .int .i64 f.r, .slice p1 l.length c1, .string s, .int .i64 lv, .int .i64 nx, .slice p2 kp.length c2] 31) := ⟨_, rfl⟩
  have HC0 : Hid (Ch [] w w0) := Lib.hid (by rw [hw0]; exact (Ch.refl [] w).alloc _)
  have HA : Hid (Blk 31 w.heap.size #[.int .i64 6, .int .i64 op, .int .i64 f.k, .int .i64 f.p, .int .i64 f.q, .string f.s, .int .i64 f.r, .slice p1 l.length c1, .string s, .int .i64 lv, .int .i64 nx, .slice p2 kp.length c2] w0) := Lib.hid (by rw [hw0]; exact Blk.new w _ _ _ rfl)
  have QW : Hid (Calls Try.prog 42 #[.agg #[.int .i64 6, .int .i64 op, .int .i64 f.k, .int .i64 f.p, .int .i64 f.q, .string f.s, .int .i64 f.r, .slice p1 l.length c1, .string s, .int .i64 lv, .int .i64 nx, .slice p2 kp.length c2]] w0 fun e w' => (∃ p1' n1' c1' p2' n2' c2', e = .returned (.tuple #[.agg #[.int .i64 r.k, .int .i64 r.op, .int .i64 r.f.k, .int .i64 r.f.p, .int .i64 r.f.q, .string r.f.s, .int .i64 r.f.r, .slice p1' n1' c1', .string r.s, .int .i64 r.lv, .int .i64 r.nx, .slice p2' n2' c2'], .bool true]) ∧ VA w' (.slice p1' n1' c1') r.l ∧ VA w' (.slice p2' n2' c2') r.kp) ∧ Ch [] w0 w') := Lib.hid (by
    refine (wf_any ⟨6, op, f, l, s, lv, nx, kp⟩ _ _ w0 (h1.below HC0.out) (h2.below HC0.out)).mono ?_
    rintro e w' ⟨⟨vl, vk, rfl, q1, q2⟩, hc⟩
    rw [hr, hex] at *
    obtain ⟨a1, a2, rfl, a3, a4⟩ := q1
    obtain ⟨b1, b2, rfl, b3, b4⟩ := q2
    exact ⟨⟨_, _, _, _, _, _, rfl, VA.below ⟨a1, a2, rfl, a3, a4⟩ hc, VA.below ⟨b1, b2, rfl, b3, b4⟩ hc⟩, hc⟩)
  have QS : Hid (∀ W vl vk, VA W vl r.l → VA W vk r.kp → Calls Try.prog 26 #[.agg #[.int .i64 r.k, .int .i64 r.op, .int .i64 r.f.k, .int .i64 r.f.p, .int .i64 r.f.q, .string r.f.s, .int .i64 r.f.r, vl, .string r.s, .int .i64 r.lv, .int .i64 r.nx, vk], .agg #[.int .i64 0, .int .i64 0, .int .i64 0, .int .i64 0, .int .i64 0, .string ⟨#[]⟩, .int .i64 0, .slice none 0 0, .string ⟨#[]⟩, .int .i64 0, .int .i64 0, .slice none 0 0]] W fun e w' => e = .returned (.bool true) ∧ Ch [] W w') := Lib.hid fun W vl vk q1 q2 => by
    rw [← hsm]
    exact asame_any _ _ r zA W ⟨vl, vk, rfl, q1, q2⟩ ⟨_, _, rfl, VA.nil W, VA.nil W⟩ n1 n2 (Nat.zero_le _) (Nat.zero_le _)
  have HW := Lib.hid hw0
  clear hw0 h1 h2 n1 n2 hr hex hsm
  go_enter Try.func36, Try.ntmps36
  go_upto_region 1 with fail
  rw [← HW.out]
  have a0 : w0.cell? ⟨w.heap.size, 0, none⟩ = some (.int .i64 6) := HA.out.cell 0
  have a1 : w0.cell? ⟨w.heap.size, 1, none⟩ = some (.int .i64 op) := HA.out.cell 1
  have a2 : w0.cell? ⟨w.heap.size, 2, none⟩ = some (.int .i64 f.k) := HA.out.cell 2
  have a3 : w0.cell? ⟨w.heap.size, 3, none⟩ = some (.int .i64 f.p) := HA.out.cell 3
  have a4 : w0.cell? ⟨w.heap.size, 4, none⟩ = some (.int .i64 f.q) := HA.out.cell 4
  have a5 : w0.cell? ⟨w.heap.size, 5, none⟩ = some (.string f.s) := HA.out.cell 5
  have a6 : w0.cell? ⟨w.heap.size, 6, none⟩ = some (.int .i64 f.r) := HA.out.cell 6
  have a7 : w0.cell? ⟨w.heap.size, 7, none⟩ = some (.slice p1 l.length c1) := HA.out.cell 7
  have a8 : w0.cell? ⟨w.heap.size, 8, none⟩ = some (.string s) := HA.out.cell 8
  have a9 : w0.cell? ⟨w.heap.size, 9, none⟩ = some (.int .i64 lv) := HA.out.cell 9
  have a10 : w0.cell? ⟨w.heap.size, 10, none⟩ = some (.int .i64 nx) := HA.out.cell 10
  have a11 : w0.cell? ⟨w.heap.size, 11, none⟩ = some (.slice p2 kp.length c2) := HA.out.cell 11
  have la := HA.out.lt
  go_wp2_with (first | (go_at_call 42; (with_reducible refine (QW.out).mono ?_); rintro e w1 ⟨⟨p1', n1', c1', p2', n2', c2', rfl, q1, q2⟩, hc⟩; have HC1 := Lib.hid hc; have HQ1 := Lib.hid (q1.below ((Ch.refl [] w1).alloc (.cells #[.int .i64 r.k, .int .i64 r.op, .int .i64 r.f.k, .int .i64 r.f.p, .int .i64 r.f.q, .string r.f.s, .int .i64 r.f.r, .slice p1' n1' c1', .string r.s, .int .i64 r.lv, .int .i64 r.nx, .slice p2' n2' c2'] 31))); have HQ2 := Lib.hid (q2.below ((Ch.refl [] w1).alloc (.cells #[.int .i64 r.k, .int .i64 r.op, .int .i64 r.f.k, .int .i64 r.f.p, .int .i64 r.f.q, .string r.f.s, .int .i64 r.f.r, .slice p1' n1' c1', .string r.s, .int .i64 r.lv, .int .i64 r.nx, .slice p2' n2' c2'] 31))); have HC2 : Hid (Ch [] w0 (w1.alloc (.cells #[.int .i64 r.k, .int .i64 r.op, .int .i64 r.f.k, .int .i64 r.f.p, .int .i64 r.f.q, .string r.f.s, .int .i64 r.f.r, .slice p1' n1' c1', .string r.s, .int .i64 r.lv, .int .i64 r.nx, .slice p2' n2' c2'] 31))) := Lib.hid (hc.trans ((Ch.refl [] w1).alloc _)); clear q1 q2 hc; have b0 : w1.cell? ⟨w.heap.size, 0, none⟩ = some (.int .i64 6) := (HA.out.ch HC1.out (not_nil _)).cell 0; have b1 : w1.cell? ⟨w.heap.size, 1, none⟩ = some (.int .i64 op) := (HA.out.ch HC1.out (not_nil _)).cell 1; have b2 : w1.cell? ⟨w.heap.size, 2, none⟩ = some (.int .i64 f.k) := (HA.out.ch HC1.out (not_nil _)).cell 2; have b3 : w1.cell? ⟨w.heap.size, 3, none⟩ = some (.int .i64 f.p) := (HA.out.ch HC1.out (not_nil _)).cell 3; have b4 : w1.cell? ⟨w.heap.size, 4, none⟩ = some (.int .i64 f.q) := (HA.out.ch HC1.out (not_nil _)).cell 4; have b5 : w1.cell? ⟨w.heap.size, 5, none⟩ = some (.string f.s) := (HA.out.ch HC1.out (not_nil _)).cell 5; have b6 : w1.cell? ⟨w.heap.size, 6, none⟩ = some (.int .i64 f.r) := (HA.out.ch HC1.out (not_nil _)).cell 6; have b7 : w1.cell? ⟨w.heap.size, 7, none⟩ = some (.slice p1 l.length c1) := (HA.out.ch HC1.out (not_nil _)).cell 7; have b8 : w1.cell? ⟨w.heap.size, 8, none⟩ = some (.string s) := (HA.out.ch HC1.out (not_nil _)).cell 8; have b9 : w1.cell? ⟨w.heap.size, 9, none⟩ = some (.int .i64 lv) := (HA.out.ch HC1.out (not_nil _)).cell 9; have b10 : w1.cell? ⟨w.heap.size, 10, none⟩ = some (.int .i64 nx) := (HA.out.ch HC1.out (not_nil _)).cell 10; have b11 : w1.cell? ⟨w.heap.size, 11, none⟩ = some (.slice p2 kp.length c2) := (HA.out.ch HC1.out (not_nil _)).cell 11; have bl := (HA.out.ch HC1.out (not_nil _)).lt) | (go_at_call 26; (with_reducible refine (QS.out _ _ _ HQ1.out HQ2.out).mono ?_); rintro e w3 ⟨rfl, hc⟩; have HC3 := Lib.hid (HC2.out.trans hc); clear hc; have d0 : w3.cell? ⟨w.heap.size, 0, none⟩ = some (.int .i64 6) := (HA.out.ch HC3.out (not_nil _)).cell 0; have d1 : w3.cell? ⟨w.heap.size, 1, none⟩ = some (.int .i64 op) := (HA.out.ch HC3.out (not_nil _)).cell 1; have d2 : w3.cell? ⟨w.heap.size, 2, none⟩ = some (.int .i64 f.k) := (HA.out.ch HC3.out (not_nil _)).cell 2; have d3 : w3.cell? ⟨w.heap.size, 3, none⟩ = some (.int .i64 f.p) := (HA.out.ch HC3.out (not_nil _)).cell 3; have d4 : w3.cell? ⟨w.heap.size, 4, none⟩ = some (.int .i64 f.q) := (HA.out.ch HC3.out (not_nil _)).cell 4; have d5 : w3.cell? ⟨w.heap.size, 5, none⟩ = some (.string f.s) := (HA.out.ch HC3.out (not_nil _)).cell 5; have d6 : w3.cell? ⟨w.heap.size, 6, none⟩ = some (.int .i64 f.r) := (HA.out.ch HC3.out (not_nil _)).cell 6; have d7 : w3.cell? ⟨w.heap.size, 7, none⟩ = some (.slice p1 l.length c1) := (HA.out.ch HC3.out (not_nil _)).cell 7; have d8 : w3.cell? ⟨w.heap.size, 8, none⟩ = some (.string s) := (HA.out.ch HC3.out (not_nil _)).cell 8; have d9 : w3.cell? ⟨w.heap.size, 9, none⟩ = some (.int .i64 lv) := (HA.out.ch HC3.out (not_nil _)).cell 9; have d10 : w3.cell? ⟨w.heap.size, 10, none⟩ = some (.int .i64 nx) := (HA.out.ch HC3.out (not_nil _)).cell 10; have d11 : w3.cell? ⟨w.heap.size, 11, none⟩ = some (.slice p2 kp.length c2) := (HA.out.ch HC3.out (not_nil _)).cell 11; have dl := (HA.out.ch HC3.out (not_nil _)).lt))
  go_ret
  exact ⟨rfl, HC0.out.trans HC3.out⟩
set_option maxHeartbeats 4000000 in
theorem hf_e (op : Int) (f : V5) (l : List V5) (s : ByteArray) (lv nx : Int) (kp : List V5) (p1 p2 : Option Addr) (c1 c2 : Nat) (w : World) (r : Act) (hr : clrA ⟨6, op, f, l, s, lv, nx, kp⟩ = r) (hex : inK 6 = true) (hsm : decide (r = zA) = true) (ho : ¬ op < 1) (ho2 : 7 < op)
    (h1 : VA w (.slice p1 l.length c1) l) (h2 : VA w (.slice p2 kp.length c2) kp) (n1 : r.l.length ≤ 1000000) (n2 : r.kp.length ≤ 1000000) :
    Calls Try.prog 36 #[.agg #[.int .i64 6, .int .i64 op, .int .i64 f.k, .int .i64 f.p, .int .i64 f.q, .string f.s, .int .i64 f.r, .slice p1 l.length c1, .string s, .int .i64 lv, .int .i64 nx, .slice p2 kp.length c2]] w fun e w' => e = .returned (.bool false) ∧ Ch [] w w' := by
  obtain ⟨w0, hw0⟩ : ∃ w0, w0 = w.alloc (.cells #[.int .i64 6, .int .i64 op, .int .i64 f.k, .int .i64 f.p, .int .i64 f.q, .string f.s, .int .i64 f.r, .slice p1 l.length c1, .string s, .int .i64 lv, .int .i64 nx, .slice p2 kp.length c2] 31) := ⟨_, rfl⟩
  have HC0 : Hid (Ch [] w w0) := Lib.hid (by rw [hw0]; exact (Ch.refl [] w).alloc _)
  have HA : Hid (Blk 31 w.heap.size #[.int .i64 6, .int .i64 op, .int .i64 f.k, .int .i64 f.p, .int .i64 f.q, .string f.s, .int .i64 f.r, .slice p1 l.length c1, .string s, .int .i64 lv, .int .i64 nx, .slice p2 kp.length c2] w0) := Lib.hid (by rw [hw0]; exact Blk.new w _ _ _ rfl)
  have QW : Hid (Calls Try.prog 42 #[.agg #[.int .i64 6, .int .i64 op, .int .i64 f.k, .int .i64 f.p, .int .i64 f.q, .string f.s, .int .i64 f.r, .slice p1 l.length c1, .string s, .int .i64 lv, .int .i64 nx, .slice p2 kp.length c2]] w0 fun e w' => (∃ p1' n1' c1' p2' n2' c2', e = .returned (.tuple #[.agg #[.int .i64 r.k, .int .i64 r.op, .int .i64 r.f.k, .int .i64 r.f.p, .int .i64 r.f.q, .string r.f.s, .int .i64 r.f.r, .slice p1' n1' c1', .string r.s, .int .i64 r.lv, .int .i64 r.nx, .slice p2' n2' c2'], .bool true]) ∧ VA w' (.slice p1' n1' c1') r.l ∧ VA w' (.slice p2' n2' c2') r.kp) ∧ Ch [] w0 w') := Lib.hid (by
    refine (wf_any ⟨6, op, f, l, s, lv, nx, kp⟩ _ _ w0 (h1.below HC0.out) (h2.below HC0.out)).mono ?_
    rintro e w' ⟨⟨vl, vk, rfl, q1, q2⟩, hc⟩
    rw [hr, hex] at *
    obtain ⟨a1, a2, rfl, a3, a4⟩ := q1
    obtain ⟨b1, b2, rfl, b3, b4⟩ := q2
    exact ⟨⟨_, _, _, _, _, _, rfl, VA.below ⟨a1, a2, rfl, a3, a4⟩ hc, VA.below ⟨b1, b2, rfl, b3, b4⟩ hc⟩, hc⟩)
  have QS : Hid (∀ W vl vk, VA W vl r.l → VA W vk r.kp → Calls Try.prog 26 #[.agg #[.int .i64 r.k, .int .i64 r.op, .int .i64 r.f.k, .int .i64 r.f.p, .int .i64 r.f.q, .string r.f.s, .int .i64 r.f.r, vl, .string r.s, .int .i64 r.lv, .int .i64 r.nx, vk], .agg #[.int .i64 0, .int .i64 0, .int .i64 0, .int .i64 0, .int .i64 0, .string ⟨#[]⟩, .int .i64 0, .slice none 0 0, .string ⟨#[]⟩, .int .i64 0, .int .i64 0, .slice none 0 0]] W fun e w' => e = .returned (.bool true) ∧ Ch [] W w') := Lib.hid fun W vl vk q1 q2 => by
    rw [← hsm]
    exact asame_any _ _ r zA W ⟨vl, vk, rfl, q1, q2⟩ ⟨_, _, rfl, VA.nil W, VA.nil W⟩ n1 n2 (Nat.zero_le _) (Nat.zero_le _)
  have HW := Lib.hid hw0
  clear hw0 h1 h2 n1 n2 hr hex hsm
  go_enter Try.func36, Try.ntmps36
  go_upto_region 1 with fail
  rw [← HW.out]
  have a0 : w0.cell? ⟨w.heap.size, 0, none⟩ = some (.int .i64 6) := HA.out.cell 0
  have a1 : w0.cell? ⟨w.heap.size, 1, none⟩ = some (.int .i64 op) := HA.out.cell 1
  have a2 : w0.cell? ⟨w.heap.size, 2, none⟩ = some (.int .i64 f.k) := HA.out.cell 2
  have a3 : w0.cell? ⟨w.heap.size, 3, none⟩ = some (.int .i64 f.p) := HA.out.cell 3
  have a4 : w0.cell? ⟨w.heap.size, 4, none⟩ = some (.int .i64 f.q) := HA.out.cell 4
  have a5 : w0.cell? ⟨w.heap.size, 5, none⟩ = some (.string f.s) := HA.out.cell 5
  have a6 : w0.cell? ⟨w.heap.size, 6, none⟩ = some (.int .i64 f.r) := HA.out.cell 6
  have a7 : w0.cell? ⟨w.heap.size, 7, none⟩ = some (.slice p1 l.length c1) := HA.out.cell 7
  have a8 : w0.cell? ⟨w.heap.size, 8, none⟩ = some (.string s) := HA.out.cell 8
  have a9 : w0.cell? ⟨w.heap.size, 9, none⟩ = some (.int .i64 lv) := HA.out.cell 9
  have a10 : w0.cell? ⟨w.heap.size, 10, none⟩ = some (.int .i64 nx) := HA.out.cell 10
  have a11 : w0.cell? ⟨w.heap.size, 11, none⟩ = some (.slice p2 kp.length c2) := HA.out.cell 11
  have la := HA.out.lt
  go_wp2_with (first | (go_at_call 42; (with_reducible refine (QW.out).mono ?_); rintro e w1 ⟨⟨p1', n1', c1', p2', n2', c2', rfl, q1, q2⟩, hc⟩; have HC1 := Lib.hid hc; have HQ1 := Lib.hid (q1.below ((Ch.refl [] w1).alloc (.cells #[.int .i64 r.k, .int .i64 r.op, .int .i64 r.f.k, .int .i64 r.f.p, .int .i64 r.f.q, .string r.f.s, .int .i64 r.f.r, .slice p1' n1' c1', .string r.s, .int .i64 r.lv, .int .i64 r.nx, .slice p2' n2' c2'] 31))); have HQ2 := Lib.hid (q2.below ((Ch.refl [] w1).alloc (.cells #[.int .i64 r.k, .int .i64 r.op, .int .i64 r.f.k, .int .i64 r.f.p, .int .i64 r.f.q, .string r.f.s, .int .i64 r.f.r, .slice p1' n1' c1', .string r.s, .int .i64 r.lv, .int .i64 r.nx, .slice p2' n2' c2'] 31))); have HC2 : Hid (Ch [] w0 (w1.alloc (.cells #[.int .i64 r.k, .int .i64 r.op, .int .i64 r.f.k, .int .i64 r.f.p, .int .i64 r.f.q, .string r.f.s, .int .i64 r.f.r, .slice p1' n1' c1', .string r.s, .int .i64 r.lv, .int .i64 r.nx, .slice p2' n2' c2'] 31))) := Lib.hid (hc.trans ((Ch.refl [] w1).alloc _)); clear q1 q2 hc; have b0 : w1.cell? ⟨w.heap.size, 0, none⟩ = some (.int .i64 6) := (HA.out.ch HC1.out (not_nil _)).cell 0; have b1 : w1.cell? ⟨w.heap.size, 1, none⟩ = some (.int .i64 op) := (HA.out.ch HC1.out (not_nil _)).cell 1; have b2 : w1.cell? ⟨w.heap.size, 2, none⟩ = some (.int .i64 f.k) := (HA.out.ch HC1.out (not_nil _)).cell 2; have b3 : w1.cell? ⟨w.heap.size, 3, none⟩ = some (.int .i64 f.p) := (HA.out.ch HC1.out (not_nil _)).cell 3; have b4 : w1.cell? ⟨w.heap.size, 4, none⟩ = some (.int .i64 f.q) := (HA.out.ch HC1.out (not_nil _)).cell 4; have b5 : w1.cell? ⟨w.heap.size, 5, none⟩ = some (.string f.s) := (HA.out.ch HC1.out (not_nil _)).cell 5; have b6 : w1.cell? ⟨w.heap.size, 6, none⟩ = some (.int .i64 f.r) := (HA.out.ch HC1.out (not_nil _)).cell 6; have b7 : w1.cell? ⟨w.heap.size, 7, none⟩ = some (.slice p1 l.length c1) := (HA.out.ch HC1.out (not_nil _)).cell 7; have b8 : w1.cell? ⟨w.heap.size, 8, none⟩ = some (.string s) := (HA.out.ch HC1.out (not_nil _)).cell 8; have b9 : w1.cell? ⟨w.heap.size, 9, none⟩ = some (.int .i64 lv) := (HA.out.ch HC1.out (not_nil _)).cell 9; have b10 : w1.cell? ⟨w.heap.size, 10, none⟩ = some (.int .i64 nx) := (HA.out.ch HC1.out (not_nil _)).cell 10; have b11 : w1.cell? ⟨w.heap.size, 11, none⟩ = some (.slice p2 kp.length c2) := (HA.out.ch HC1.out (not_nil _)).cell 11; have bl := (HA.out.ch HC1.out (not_nil _)).lt) | (go_at_call 26; (with_reducible refine (QS.out _ _ _ HQ1.out HQ2.out).mono ?_); rintro e w3 ⟨rfl, hc⟩; have HC3 := Lib.hid (HC2.out.trans hc); clear hc; have d0 : w3.cell? ⟨w.heap.size, 0, none⟩ = some (.int .i64 6) := (HA.out.ch HC3.out (not_nil _)).cell 0; have d1 : w3.cell? ⟨w.heap.size, 1, none⟩ = some (.int .i64 op) := (HA.out.ch HC3.out (not_nil _)).cell 1; have d2 : w3.cell? ⟨w.heap.size, 2, none⟩ = some (.int .i64 f.k) := (HA.out.ch HC3.out (not_nil _)).cell 2; have d3 : w3.cell? ⟨w.heap.size, 3, none⟩ = some (.int .i64 f.p) := (HA.out.ch HC3.out (not_nil _)).cell 3; have d4 : w3.cell? ⟨w.heap.size, 4, none⟩ = some (.int .i64 f.q) := (HA.out.ch HC3.out (not_nil _)).cell 4; have d5 : w3.cell? ⟨w.heap.size, 5, none⟩ = some (.string f.s) := (HA.out.ch HC3.out (not_nil _)).cell 5; have d6 : w3.cell? ⟨w.heap.size, 6, none⟩ = some (.int .i64 f.r) := (HA.out.ch HC3.out (not_nil _)).cell 6; have d7 : w3.cell? ⟨w.heap.size, 7, none⟩ = some (.slice p1 l.length c1) := (HA.out.ch HC3.out (not_nil _)).cell 7; have d8 : w3.cell? ⟨w.heap.size, 8, none⟩ = some (.string s) := (HA.out.ch HC3.out (not_nil _)).cell 8; have d9 : w3.cell? ⟨w.heap.size, 9, none⟩ = some (.int .i64 lv) := (HA.out.ch HC3.out (not_nil _)).cell 9; have d10 : w3.cell? ⟨w.heap.size, 10, none⟩ = some (.int .i64 nx) := (HA.out.ch HC3.out (not_nil _)).cell 10; have d11 : w3.cell? ⟨w.heap.size, 11, none⟩ = some (.slice p2 kp.length c2) := (HA.out.ch HC3.out (not_nil _)).cell 11; have dl := (HA.out.ch HC3.out (not_nil _)).lt))
  go_ret
  exact ⟨rfl, HC0.out.trans HC3.out⟩
set_option maxHeartbeats 4000000 in
theorem hf_20 (op : Int) (f : V5) (l : List V5) (s : ByteArray) (lv nx : Int) (kp : List V5) (p1 p2 : Option Addr) (c1 c2 : Nat) (w : World) (r : Act) (hr : clrA ⟨2, op, f, l, s, lv, nx, kp⟩ = r) (hex : inK 2 = true) (hsm : decide (r = zA) = true) (hl : l.length = 1) (hb1 : decide (0 ≤ lv ∧ lv ≤ 255) = false)
    (h1 : VA w (.slice p1 l.length c1) l) (h2 : VA w (.slice p2 kp.length c2) kp) (n1 : r.l.length ≤ 1000000) (n2 : r.kp.length ≤ 1000000) :
    Calls Try.prog 36 #[.agg #[.int .i64 2, .int .i64 op, .int .i64 f.k, .int .i64 f.p, .int .i64 f.q, .string f.s, .int .i64 f.r, .slice p1 l.length c1, .string s, .int .i64 lv, .int .i64 nx, .slice p2 kp.length c2]] w fun e w' => e = .returned (.bool false) ∧ Ch [] w w' := by
  obtain ⟨w0, hw0⟩ : ∃ w0, w0 = w.alloc (.cells #[.int .i64 2, .int .i64 op, .int .i64 f.k, .int .i64 f.p, .int .i64 f.q, .string f.s, .int .i64 f.r, .slice p1 l.length c1, .string s, .int .i64 lv, .int .i64 nx, .slice p2 kp.length c2] 31) := ⟨_, rfl⟩
  have HC0 : Hid (Ch [] w w0) := Lib.hid (by rw [hw0]; exact (Ch.refl [] w).alloc _)
  have HA : Hid (Blk 31 w.heap.size #[.int .i64 2, .int .i64 op, .int .i64 f.k, .int .i64 f.p, .int .i64 f.q, .string f.s, .int .i64 f.r, .slice p1 l.length c1, .string s, .int .i64 lv, .int .i64 nx, .slice p2 kp.length c2] w0) := Lib.hid (by rw [hw0]; exact Blk.new w _ _ _ rfl)
  have QW : Hid (Calls Try.prog 42 #[.agg #[.int .i64 2, .int .i64 op, .int .i64 f.k, .int .i64 f.p, .int .i64 f.q, .string f.s, .int .i64 f.r, .slice p1 l.length c1, .string s, .int .i64 lv, .int .i64 nx, .slice p2 kp.length c2]] w0 fun e w' => (∃ p1' n1' c1' p2' n2' c2', e = .returned (.tuple #[.agg #[.int .i64 r.k, .int .i64 r.op, .int .i64 r.f.k, .int .i64 r.f.p, .int .i64 r.f.q, .string r.f.s, .int .i64 r.f.r, .slice p1' n1' c1', .string r.s, .int .i64 r.lv, .int .i64 r.nx, .slice p2' n2' c2'], .bool true]) ∧ VA w' (.slice p1' n1' c1') r.l ∧ VA w' (.slice p2' n2' c2') r.kp) ∧ Ch [] w0 w') := Lib.hid (by
    refine (wf_any ⟨2, op, f, l, s, lv, nx, kp⟩ _ _ w0 (h1.below HC0.out) (h2.below HC0.out)).mono ?_
    rintro e w' ⟨⟨vl, vk, rfl, q1, q2⟩, hc⟩
    rw [hr, hex] at *
    obtain ⟨a1, a2, rfl, a3, a4⟩ := q1
    obtain ⟨b1, b2, rfl, b3, b4⟩ := q2
    exact ⟨⟨_, _, _, _, _, _, rfl, VA.below ⟨a1, a2, rfl, a3, a4⟩ hc, VA.below ⟨b1, b2, rfl, b3, b4⟩ hc⟩, hc⟩)
  have QS : Hid (∀ W vl vk, VA W vl r.l → VA W vk r.kp → Calls Try.prog 26 #[.agg #[.int .i64 r.k, .int .i64 r.op, .int .i64 r.f.k, .int .i64 r.f.p, .int .i64 r.f.q, .string r.f.s, .int .i64 r.f.r, vl, .string r.s, .int .i64 r.lv, .int .i64 r.nx, vk], .agg #[.int .i64 0, .int .i64 0, .int .i64 0, .int .i64 0, .int .i64 0, .string ⟨#[]⟩, .int .i64 0, .slice none 0 0, .string ⟨#[]⟩, .int .i64 0, .int .i64 0, .slice none 0 0]] W fun e w' => e = .returned (.bool true) ∧ Ch [] W w') := Lib.hid fun W vl vk q1 q2 => by
    rw [← hsm]
    exact asame_any _ _ r zA W ⟨vl, vk, rfl, q1, q2⟩ ⟨_, _, rfl, VA.nil W, VA.nil W⟩ n1 n2 (Nat.zero_le _) (Nat.zero_le _)
  have hl1 : (l.length : Int) = 1 := by omega
  have hl2 : ((l.length : Int) != 1) = false := by simp [hl]
  clear hl
  have QI1 : Hid (∀ W, Calls Try.prog 43 #[.int .i64 lv] W fun e w' => e = .returned (.bool false) ∧ W = w') := Lib.hid fun W => by rw [← hb1]; exact isnum_any lv W
  have HW := Lib.hid hw0
  clear hw0 h1 h2 n1 n2 hr hex hsm hb1
  go_enter Try.func36, Try.ntmps36
  go_upto_region 1 with fail
  rw [← HW.out]
  have a0 : w0.cell? ⟨w.heap.size, 0, none⟩ = some (.int .i64 2) := HA.out.cell 0
  have a1 : w0.cell? ⟨w.heap.size, 1, none⟩ = some (.int .i64 op) := HA.out.cell 1
  have a2 : w0.cell? ⟨w.heap.size, 2, none⟩ = some (.int .i64 f.k) := HA.out.cell 2
  have a3 : w0.cell? ⟨w.heap.size, 3, none⟩ = some (.int .i64 f.p) := HA.out.cell 3
  have a4 : w0.cell? ⟨w.heap.size, 4, none⟩ = some (.int .i64 f.q) := HA.out.cell 4
  have a5 : w0.cell? ⟨w.heap.size, 5, none⟩ = some (.string f.s) := HA.out.cell 5
  have a6 : w0.cell? ⟨w.heap.size, 6, none⟩ = some (.int .i64 f.r) := HA.out.cell 6
  have a7 : w0.cell? ⟨w.heap.size, 7, none⟩ = some (.slice p1 l.length c1) := HA.out.cell 7
  have a8 : w0.cell? ⟨w.heap.size, 8, none⟩ = some (.string s) := HA.out.cell 8
  have a9 : w0.cell? ⟨w.heap.size, 9, none⟩ = some (.int .i64 lv) := HA.out.cell 9
  have a10 : w0.cell? ⟨w.heap.size, 10, none⟩ = some (.int .i64 nx) := HA.out.cell 10
  have a11 : w0.cell? ⟨w.heap.size, 11, none⟩ = some (.slice p2 kp.length c2) := HA.out.cell 11
  have la := HA.out.lt
  go_wp2_with (first | (go_at_call 42; (with_reducible refine (QW.out).mono ?_); rintro e w1 ⟨⟨p1', n1', c1', p2', n2', c2', rfl, q1, q2⟩, hc⟩; have HC1 := Lib.hid hc; have HQ1 := Lib.hid (q1.below ((Ch.refl [] w1).alloc (.cells #[.int .i64 r.k, .int .i64 r.op, .int .i64 r.f.k, .int .i64 r.f.p, .int .i64 r.f.q, .string r.f.s, .int .i64 r.f.r, .slice p1' n1' c1', .string r.s, .int .i64 r.lv, .int .i64 r.nx, .slice p2' n2' c2'] 31))); have HQ2 := Lib.hid (q2.below ((Ch.refl [] w1).alloc (.cells #[.int .i64 r.k, .int .i64 r.op, .int .i64 r.f.k, .int .i64 r.f.p, .int .i64 r.f.q, .string r.f.s, .int .i64 r.f.r, .slice p1' n1' c1', .string r.s, .int .i64 r.lv, .int .i64 r.nx, .slice p2' n2' c2'] 31))); have HC2 : Hid (Ch [] w0 (w1.alloc (.cells #[.int .i64 r.k, .int .i64 r.op, .int .i64 r.f.k, .int .i64 r.f.p, .int .i64 r.f.q, .string r.f.s, .int .i64 r.f.r, .slice p1' n1' c1', .string r.s, .int .i64 r.lv, .int .i64 r.nx, .slice p2' n2' c2'] 31))) := Lib.hid (hc.trans ((Ch.refl [] w1).alloc _)); clear q1 q2 hc; have b0 : w1.cell? ⟨w.heap.size, 0, none⟩ = some (.int .i64 2) := (HA.out.ch HC1.out (not_nil _)).cell 0; have b1 : w1.cell? ⟨w.heap.size, 1, none⟩ = some (.int .i64 op) := (HA.out.ch HC1.out (not_nil _)).cell 1; have b2 : w1.cell? ⟨w.heap.size, 2, none⟩ = some (.int .i64 f.k) := (HA.out.ch HC1.out (not_nil _)).cell 2; have b3 : w1.cell? ⟨w.heap.size, 3, none⟩ = some (.int .i64 f.p) := (HA.out.ch HC1.out (not_nil _)).cell 3; have b4 : w1.cell? ⟨w.heap.size, 4, none⟩ = some (.int .i64 f.q) := (HA.out.ch HC1.out (not_nil _)).cell 4; have b5 : w1.cell? ⟨w.heap.size, 5, none⟩ = some (.string f.s) := (HA.out.ch HC1.out (not_nil _)).cell 5; have b6 : w1.cell? ⟨w.heap.size, 6, none⟩ = some (.int .i64 f.r) := (HA.out.ch HC1.out (not_nil _)).cell 6; have b7 : w1.cell? ⟨w.heap.size, 7, none⟩ = some (.slice p1 l.length c1) := (HA.out.ch HC1.out (not_nil _)).cell 7; have b8 : w1.cell? ⟨w.heap.size, 8, none⟩ = some (.string s) := (HA.out.ch HC1.out (not_nil _)).cell 8; have b9 : w1.cell? ⟨w.heap.size, 9, none⟩ = some (.int .i64 lv) := (HA.out.ch HC1.out (not_nil _)).cell 9; have b10 : w1.cell? ⟨w.heap.size, 10, none⟩ = some (.int .i64 nx) := (HA.out.ch HC1.out (not_nil _)).cell 10; have b11 : w1.cell? ⟨w.heap.size, 11, none⟩ = some (.slice p2 kp.length c2) := (HA.out.ch HC1.out (not_nil _)).cell 11; have bl := (HA.out.ch HC1.out (not_nil _)).lt) | (go_at_call 26; (with_reducible refine (QS.out _ _ _ HQ1.out HQ2.out).mono ?_); rintro e w3 ⟨rfl, hc⟩; have HC3 := Lib.hid (HC2.out.trans hc); clear hc; have d0 : w3.cell? ⟨w.heap.size, 0, none⟩ = some (.int .i64 2) := (HA.out.ch HC3.out (not_nil _)).cell 0; have d1 : w3.cell? ⟨w.heap.size, 1, none⟩ = some (.int .i64 op) := (HA.out.ch HC3.out (not_nil _)).cell 1; have d2 : w3.cell? ⟨w.heap.size, 2, none⟩ = some (.int .i64 f.k) := (HA.out.ch HC3.out (not_nil _)).cell 2; have d3 : w3.cell? ⟨w.heap.size, 3, none⟩ = some (.int .i64 f.p) := (HA.out.ch HC3.out (not_nil _)).cell 3; have d4 : w3.cell? ⟨w.heap.size, 4, none⟩ = some (.int .i64 f.q) := (HA.out.ch HC3.out (not_nil _)).cell 4; have d5 : w3.cell? ⟨w.heap.size, 5, none⟩ = some (.string f.s) := (HA.out.ch HC3.out (not_nil _)).cell 5; have d6 : w3.cell? ⟨w.heap.size, 6, none⟩ = some (.int .i64 f.r) := (HA.out.ch HC3.out (not_nil _)).cell 6; have d7 : w3.cell? ⟨w.heap.size, 7, none⟩ = some (.slice p1 l.length c1) := (HA.out.ch HC3.out (not_nil _)).cell 7; have d8 : w3.cell? ⟨w.heap.size, 8, none⟩ = some (.string s) := (HA.out.ch HC3.out (not_nil _)).cell 8; have d9 : w3.cell? ⟨w.heap.size, 9, none⟩ = some (.int .i64 lv) := (HA.out.ch HC3.out (not_nil _)).cell 9; have d10 : w3.cell? ⟨w.heap.size, 10, none⟩ = some (.int .i64 nx) := (HA.out.ch HC3.out (not_nil _)).cell 10; have d11 : w3.cell? ⟨w.heap.size, 11, none⟩ = some (.slice p2 kp.length c2) := (HA.out.ch HC3.out (not_nil _)).cell 11; have dl := (HA.out.ch HC3.out (not_nil _)).lt) | (go_at_call 43; (with_reducible refine (QI1.out _).mono ?_); rintro e w4 ⟨rfl, rfl⟩))
  go_ret
  exact ⟨rfl, HC0.out.trans HC3.out⟩
set_option maxHeartbeats 4000000 in
theorem hf_21 (op : Int) (f : V5) (l : List V5) (s : ByteArray) (lv nx : Int) (kp : List V5) (p1 p2 : Option Addr) (c1 c2 : Nat) (w : World) (r : Act) (hr : clrA ⟨2, op, f, l, s, lv, nx, kp⟩ = r) (hex : inK 2 = true) (hsm : decide (r = zA) = true) (hl : l.length = 1) (b : Bool) (hb1 : decide (0 ≤ lv ∧ lv ≤ 255) = true) (hb2 : decide (0 ≤ nx ∧ nx ≤ 255) = b)
    (h1 : VA w (.slice p1 l.length c1) l) (h2 : VA w (.slice p2 kp.length c2) kp) (n1 : r.l.length ≤ 1000000) (n2 : r.kp.length ≤ 1000000) :
    Calls Try.prog 36 #[.agg #[.int .i64 2, .int .i64 op, .int .i64 f.k, .int .i64 f.p, .int .i64 f.q, .string f.s, .int .i64 f.r, .slice p1 l.length c1, .string s, .int .i64 lv, .int .i64 nx, .slice p2 kp.length c2]] w fun e w' => e = .returned (.bool b) ∧ Ch [] w w' := by
  obtain ⟨w0, hw0⟩ : ∃ w0, w0 = w.alloc (.cells #[.int .i64 2, .int .i64 op, .int .i64 f.k, .int .i64 f.p, .int .i64 f.q, .string f.s, .int .i64 f.r, .slice p1 l.length c1, .string s, .int .i64 lv, .int .i64 nx, .slice p2 kp.length c2] 31) := ⟨_, rfl⟩
  have HC0 : Hid (Ch [] w w0) := Lib.hid (by rw [hw0]; exact (Ch.refl [] w).alloc _)
  have HA : Hid (Blk 31 w.heap.size #[.int .i64 2, .int .i64 op, .int .i64 f.k, .int .i64 f.p, .int .i64 f.q, .string f.s, .int .i64 f.r, .slice p1 l.length c1, .string s, .int .i64 lv, .int .i64 nx, .slice p2 kp.length c2] w0) := Lib.hid (by rw [hw0]; exact Blk.new w _ _ _ rfl)
  have QW : Hid (Calls Try.prog 42 #[.agg #[.int .i64 2, .int .i64 op, .int .i64 f.k, .int .i64 f.p, .int .i64 f.q, .string f.s, .int .i64 f.r, .slice p1 l.length c1, .string s, .int .i64 lv, .int .i64 nx, .slice p2 kp.length c2]] w0 fun e w' => (∃ p1' n1' c1' p2' n2' c2', e = .returned (.tuple #[.agg #[.int .i64 r.k, .int .i64 r.op, .int .i64 r.f.k, .int .i64 r.f.p, .int .i64 r.f.q, .string r.f.s, .int .i64 r.f.r, .slice p1' n1' c1', .string r.s, .int .i64 r.lv, .int .i64 r.nx, .slice p2' n2' c2'], .bool true]) ∧ VA w' (.slice p1' n1' c1') r.l ∧ VA w' (.slice p2' n2' c2') r.kp) ∧ Ch [] w0 w') := Lib.hid (by
    refine (wf_any ⟨2, op, f, l, s, lv, nx, kp⟩ _ _ w0 (h1.below HC0.out) (h2.below HC0.out)).mono ?_
    rintro e w' ⟨⟨vl, vk, rfl, q1, q2⟩, hc⟩
    rw [hr, hex] at *
    obtain ⟨a1, a2, rfl, a3, a4⟩ := q1
    obtain ⟨b1, b2, rfl, b3, b4⟩ := q2
    exact ⟨⟨_, _, _, _, _, _, rfl, VA.below ⟨a1, a2, rfl, a3, a4⟩ hc, VA.below ⟨b1, b2, rfl, b3, b4⟩ hc⟩, hc⟩)
  have QS : Hid (∀ W vl vk, VA W vl r.l → VA W vk r.kp → Calls Try.prog 26 #[.agg #[.int .i64 r.k, .int .i64 r.op, .int .i64 r.f.k, .int .i64 r.f.p, .int .i64 r.f.q, .string r.f.s, .int .i64 r.f.r, vl, .string r.s, .int .i64 r.lv, .int .i64 r.nx, vk], .agg #[.int .i64 0, .int .i64 0, .int .i64 0, .int .i64 0, .int .i64 0, .string ⟨#[]⟩, .int .i64 0, .slice none 0 0, .string ⟨#[]⟩, .int .i64 0, .int .i64 0, .slice none 0 0]] W fun e w' => e = .returned (.bool true) ∧ Ch [] W w') := Lib.hid fun W vl vk q1 q2 => by
    rw [← hsm]
    exact asame_any _ _ r zA W ⟨vl, vk, rfl, q1, q2⟩ ⟨_, _, rfl, VA.nil W, VA.nil W⟩ n1 n2 (Nat.zero_le _) (Nat.zero_le _)
  have hl1 : (l.length : Int) = 1 := by omega
  have hl2 : ((l.length : Int) != 1) = false := by simp [hl]
  clear hl
  have QI1 : Hid (∀ W, Calls Try.prog 43 #[.int .i64 lv] W fun e w' => e = .returned (.bool true) ∧ W = w') := Lib.hid fun W => by rw [← hb1]; exact isnum_any lv W
  have QI2 : Hid (∀ W, Calls Try.prog 43 #[.int .i64 nx] W fun e w' => e = .returned (.bool b) ∧ W = w') := Lib.hid fun W => by rw [← hb2]; exact isnum_any nx W
  have HW := Lib.hid hw0
  clear hw0 h1 h2 n1 n2 hr hex hsm hb1 hb2
  go_enter Try.func36, Try.ntmps36
  go_upto_region 1 with fail
  rw [← HW.out]
  have a0 : w0.cell? ⟨w.heap.size, 0, none⟩ = some (.int .i64 2) := HA.out.cell 0
  have a1 : w0.cell? ⟨w.heap.size, 1, none⟩ = some (.int .i64 op) := HA.out.cell 1
  have a2 : w0.cell? ⟨w.heap.size, 2, none⟩ = some (.int .i64 f.k) := HA.out.cell 2
  have a3 : w0.cell? ⟨w.heap.size, 3, none⟩ = some (.int .i64 f.p) := HA.out.cell 3
  have a4 : w0.cell? ⟨w.heap.size, 4, none⟩ = some (.int .i64 f.q) := HA.out.cell 4
  have a5 : w0.cell? ⟨w.heap.size, 5, none⟩ = some (.string f.s) := HA.out.cell 5
  have a6 : w0.cell? ⟨w.heap.size, 6, none⟩ = some (.int .i64 f.r) := HA.out.cell 6
  have a7 : w0.cell? ⟨w.heap.size, 7, none⟩ = some (.slice p1 l.length c1) := HA.out.cell 7
  have a8 : w0.cell? ⟨w.heap.size, 8, none⟩ = some (.string s) := HA.out.cell 8
  have a9 : w0.cell? ⟨w.heap.size, 9, none⟩ = some (.int .i64 lv) := HA.out.cell 9
  have a10 : w0.cell? ⟨w.heap.size, 10, none⟩ = some (.int .i64 nx) := HA.out.cell 10
  have a11 : w0.cell? ⟨w.heap.size, 11, none⟩ = some (.slice p2 kp.length c2) := HA.out.cell 11
  have la := HA.out.lt
  go_wp2_with (first | (go_at_call 42; (with_reducible refine (QW.out).mono ?_); rintro e w1 ⟨⟨p1', n1', c1', p2', n2', c2', rfl, q1, q2⟩, hc⟩; have HC1 := Lib.hid hc; have HQ1 := Lib.hid (q1.below ((Ch.refl [] w1).alloc (.cells #[.int .i64 r.k, .int .i64 r.op, .int .i64 r.f.k, .int .i64 r.f.p, .int .i64 r.f.q, .string r.f.s, .int .i64 r.f.r, .slice p1' n1' c1', .string r.s, .int .i64 r.lv, .int .i64 r.nx, .slice p2' n2' c2'] 31))); have HQ2 := Lib.hid (q2.below ((Ch.refl [] w1).alloc (.cells #[.int .i64 r.k, .int .i64 r.op, .int .i64 r.f.k, .int .i64 r.f.p, .int .i64 r.f.q, .string r.f.s, .int .i64 r.f.r, .slice p1' n1' c1', .string r.s, .int .i64 r.lv, .int .i64 r.nx, .slice p2' n2' c2'] 31))); have HC2 : Hid (Ch [] w0 (w1.alloc (.cells #[.int .i64 r.k, .int .i64 r.op, .int .i64 r.f.k, .int .i64 r.f.p, .int .i64 r.f.q, .string r.f.s, .int .i64 r.f.r, .slice p1' n1' c1', .string r.s, .int .i64 r.lv, .int .i64 r.nx, .slice p2' n2' c2'] 31))) := Lib.hid (hc.trans ((Ch.refl [] w1).alloc _)); clear q1 q2 hc; have b0 : w1.cell? ⟨w.heap.size, 0, none⟩ = some (.int .i64 2) := (HA.out.ch HC1.out (not_nil _)).cell 0; have b1 : w1.cell? ⟨w.heap.size, 1, none⟩ = some (.int .i64 op) := (HA.out.ch HC1.out (not_nil _)).cell 1; have b2 : w1.cell? ⟨w.heap.size, 2, none⟩ = some (.int .i64 f.k) := (HA.out.ch HC1.out (not_nil _)).cell 2; have b3 : w1.cell? ⟨w.heap.size, 3, none⟩ = some (.int .i64 f.p) := (HA.out.ch HC1.out (not_nil _)).cell 3; have b4 : w1.cell? ⟨w.heap.size, 4, none⟩ = some (.int .i64 f.q) := (HA.out.ch HC1.out (not_nil _)).cell 4; have b5 : w1.cell? ⟨w.heap.size, 5, none⟩ = some (.string f.s) := (HA.out.ch HC1.out (not_nil _)).cell 5; have b6 : w1.cell? ⟨w.heap.size, 6, none⟩ = some (.int .i64 f.r) := (HA.out.ch HC1.out (not_nil _)).cell 6; have b7 : w1.cell? ⟨w.heap.size, 7, none⟩ = some (.slice p1 l.length c1) := (HA.out.ch HC1.out (not_nil _)).cell 7; have b8 : w1.cell? ⟨w.heap.size, 8, none⟩ = some (.string s) := (HA.out.ch HC1.out (not_nil _)).cell 8; have b9 : w1.cell? ⟨w.heap.size, 9, none⟩ = some (.int .i64 lv) := (HA.out.ch HC1.out (not_nil _)).cell 9; have b10 : w1.cell? ⟨w.heap.size, 10, none⟩ = some (.int .i64 nx) := (HA.out.ch HC1.out (not_nil _)).cell 10; have b11 : w1.cell? ⟨w.heap.size, 11, none⟩ = some (.slice p2 kp.length c2) := (HA.out.ch HC1.out (not_nil _)).cell 11; have bl := (HA.out.ch HC1.out (not_nil _)).lt) | (go_at_call 26; (with_reducible refine (QS.out _ _ _ HQ1.out HQ2.out).mono ?_); rintro e w3 ⟨rfl, hc⟩; have HC3 := Lib.hid (HC2.out.trans hc); clear hc; have d0 : w3.cell? ⟨w.heap.size, 0, none⟩ = some (.int .i64 2) := (HA.out.ch HC3.out (not_nil _)).cell 0; have d1 : w3.cell? ⟨w.heap.size, 1, none⟩ = some (.int .i64 op) := (HA.out.ch HC3.out (not_nil _)).cell 1; have d2 : w3.cell? ⟨w.heap.size, 2, none⟩ = some (.int .i64 f.k) := (HA.out.ch HC3.out (not_nil _)).cell 2; have d3 : w3.cell? ⟨w.heap.size, 3, none⟩ = some (.int .i64 f.p) := (HA.out.ch HC3.out (not_nil _)).cell 3; have d4 : w3.cell? ⟨w.heap.size, 4, none⟩ = some (.int .i64 f.q) := (HA.out.ch HC3.out (not_nil _)).cell 4; have d5 : w3.cell? ⟨w.heap.size, 5, none⟩ = some (.string f.s) := (HA.out.ch HC3.out (not_nil _)).cell 5; have d6 : w3.cell? ⟨w.heap.size, 6, none⟩ = some (.int .i64 f.r) := (HA.out.ch HC3.out (not_nil _)).cell 6; have d7 : w3.cell? ⟨w.heap.size, 7, none⟩ = some (.slice p1 l.length c1) := (HA.out.ch HC3.out (not_nil _)).cell 7; have d8 : w3.cell? ⟨w.heap.size, 8, none⟩ = some (.string s) := (HA.out.ch HC3.out (not_nil _)).cell 8; have d9 : w3.cell? ⟨w.heap.size, 9, none⟩ = some (.int .i64 lv) := (HA.out.ch HC3.out (not_nil _)).cell 9; have d10 : w3.cell? ⟨w.heap.size, 10, none⟩ = some (.int .i64 nx) := (HA.out.ch HC3.out (not_nil _)).cell 10; have d11 : w3.cell? ⟨w.heap.size, 11, none⟩ = some (.slice p2 kp.length c2) := (HA.out.ch HC3.out (not_nil _)).cell 11; have dl := (HA.out.ch HC3.out (not_nil _)).lt) | (go_at_call 43; (with_reducible refine (QI1.out _).mono ?_); rintro e w4 ⟨rfl, rfl⟩) | (go_at_call 43; (with_reducible refine (QI2.out _).mono ?_); rintro e w4 ⟨rfl, rfl⟩))
  go_ret
  exact ⟨rfl, HC0.out.trans HC3.out⟩
set_option maxHeartbeats 4000000 in
theorem hf_60 (op : Int) (f : V5) (l : List V5) (s : ByteArray) (lv nx : Int) (kp : List V5) (p1 p2 : Option Addr) (c1 c2 : Nat) (w : World) (r : Act) (hr : clrA ⟨6, op, f, l, s, lv, nx, kp⟩ = r) (hex : inK 6 = true) (hsm : decide (r = zA) = true) (ho : ¬ op < 1) (ho2 : ¬ 7 < op) (hb1 : decide (0 ≤ lv ∧ lv ≤ 255) = false)
    (h1 : VA w (.slice p1 l.length c1) l) (h2 : VA w (.slice p2 kp.length c2) kp) (n1 : r.l.length ≤ 1000000) (n2 : r.kp.length ≤ 1000000) :
    Calls Try.prog 36 #[.agg #[.int .i64 6, .int .i64 op, .int .i64 f.k, .int .i64 f.p, .int .i64 f.q, .string f.s, .int .i64 f.r, .slice p1 l.length c1, .string s, .int .i64 lv, .int .i64 nx, .slice p2 kp.length c2]] w fun e w' => e = .returned (.bool false) ∧ Ch [] w w' := by
  obtain ⟨w0, hw0⟩ : ∃ w0, w0 = w.alloc (.cells #[.int .i64 6, .int .i64 op, .int .i64 f.k, .int .i64 f.p, .int .i64 f.q, .string f.s, .int .i64 f.r, .slice p1 l.length c1, .string s, .int .i64 lv, .int .i64 nx, .slice p2 kp.length c2] 31) := ⟨_, rfl⟩
  have HC0 : Hid (Ch [] w w0) := Lib.hid (by rw [hw0]; exact (Ch.refl [] w).alloc _)
  have HA : Hid (Blk 31 w.heap.size #[.int .i64 6, .int .i64 op, .int .i64 f.k, .int .i64 f.p, .int .i64 f.q, .string f.s, .int .i64 f.r, .slice p1 l.length c1, .string s, .int .i64 lv, .int .i64 nx, .slice p2 kp.length c2] w0) := Lib.hid (by rw [hw0]; exact Blk.new w _ _ _ rfl)
  have QW : Hid (Calls Try.prog 42 #[.agg #[.int .i64 6, .int .i64 op, .int .i64 f.k, .int .i64 f.p, .int .i64 f.q, .string f.s, .int .i64 f.r, .slice p1 l.length c1, .string s, .int .i64 lv, .int .i64 nx, .slice p2 kp.length c2]] w0 fun e w' => (∃ p1' n1' c1' p2' n2' c2', e = .returned (.tuple #[.agg #[.int .i64 r.k, .int .i64 r.op, .int .i64 r.f.k, .int .i64 r.f.p, .int .i64 r.f.q, .string r.f.s, .int .i64 r.f.r, .slice p1' n1' c1', .string r.s, .int .i64 r.lv, .int .i64 r.nx, .slice p2' n2' c2'], .bool true]) ∧ VA w' (.slice p1' n1' c1') r.l ∧ VA w' (.slice p2' n2' c2') r.kp) ∧ Ch [] w0 w') := Lib.hid (by
    refine (wf_any ⟨6, op, f, l, s, lv, nx, kp⟩ _ _ w0 (h1.below HC0.out) (h2.below HC0.out)).mono ?_
    rintro e w' ⟨⟨vl, vk, rfl, q1, q2⟩, hc⟩
    rw [hr, hex] at *
    obtain ⟨a1, a2, rfl, a3, a4⟩ := q1
    obtain ⟨b1, b2, rfl, b3, b4⟩ := q2
    exact ⟨⟨_, _, _, _, _, _, rfl, VA.below ⟨a1, a2, rfl, a3, a4⟩ hc, VA.below ⟨b1, b2, rfl, b3, b4⟩ hc⟩, hc⟩)
  have QS : Hid (∀ W vl vk, VA W vl r.l → VA W vk r.kp → Calls Try.prog 26 #[.agg #[.int .i64 r.k, .int .i64 r.op, .int .i64 r.f.k, .int .i64 r.f.p, .int .i64 r.f.q, .string r.f.s, .int .i64 r.f.r, vl, .string r.s, .int .i64 r.lv, .int .i64 r.nx, vk], .agg #[.int .i64 0, .int .i64 0, .int .i64 0, .int .i64 0, .int .i64 0, .string ⟨#[]⟩, .int .i64 0, .slice none 0 0, .string ⟨#[]⟩, .int .i64 0, .int .i64 0, .slice none 0 0]] W fun e w' => e = .returned (.bool true) ∧ Ch [] W w') := Lib.hid fun W vl vk q1 q2 => by
    rw [← hsm]
    exact asame_any _ _ r zA W ⟨vl, vk, rfl, q1, q2⟩ ⟨_, _, rfl, VA.nil W, VA.nil W⟩ n1 n2 (Nat.zero_le _) (Nat.zero_le _)
  have QI1 : Hid (∀ W, Calls Try.prog 43 #[.int .i64 lv] W fun e w' => e = .returned (.bool false) ∧ W = w') := Lib.hid fun W => by rw [← hb1]; exact isnum_any lv W
  have HW := Lib.hid hw0
  clear hw0 h1 h2 n1 n2 hr hex hsm hb1
  go_enter Try.func36, Try.ntmps36
  go_upto_region 1 with fail
  rw [← HW.out]
  have a0 : w0.cell? ⟨w.heap.size, 0, none⟩ = some (.int .i64 6) := HA.out.cell 0
  have a1 : w0.cell? ⟨w.heap.size, 1, none⟩ = some (.int .i64 op) := HA.out.cell 1
  have a2 : w0.cell? ⟨w.heap.size, 2, none⟩ = some (.int .i64 f.k) := HA.out.cell 2
  have a3 : w0.cell? ⟨w.heap.size, 3, none⟩ = some (.int .i64 f.p) := HA.out.cell 3
  have a4 : w0.cell? ⟨w.heap.size, 4, none⟩ = some (.int .i64 f.q) := HA.out.cell 4
  have a5 : w0.cell? ⟨w.heap.size, 5, none⟩ = some (.string f.s) := HA.out.cell 5
  have a6 : w0.cell? ⟨w.heap.size, 6, none⟩ = some (.int .i64 f.r) := HA.out.cell 6
  have a7 : w0.cell? ⟨w.heap.size, 7, none⟩ = some (.slice p1 l.length c1) := HA.out.cell 7
  have a8 : w0.cell? ⟨w.heap.size, 8, none⟩ = some (.string s) := HA.out.cell 8
  have a9 : w0.cell? ⟨w.heap.size, 9, none⟩ = some (.int .i64 lv) := HA.out.cell 9
  have a10 : w0.cell? ⟨w.heap.size, 10, none⟩ = some (.int .i64 nx) := HA.out.cell 10
  have a11 : w0.cell? ⟨w.heap.size, 11, none⟩ = some (.slice p2 kp.length c2) := HA.out.cell 11
  have la := HA.out.lt
  go_wp2_with (first | (go_at_call 42; (with_reducible refine (QW.out).mono ?_); rintro e w1 ⟨⟨p1', n1', c1', p2', n2', c2', rfl, q1, q2⟩, hc⟩; have HC1 := Lib.hid hc; have HQ1 := Lib.hid (q1.below ((Ch.refl [] w1).alloc (.cells #[.int .i64 r.k, .int .i64 r.op, .int .i64 r.f.k, .int .i64 r.f.p, .int .i64 r.f.q, .string r.f.s, .int .i64 r.f.r, .slice p1' n1' c1', .string r.s, .int .i64 r.lv, .int .i64 r.nx, .slice p2' n2' c2'] 31))); have HQ2 := Lib.hid (q2.below ((Ch.refl [] w1).alloc (.cells #[.int .i64 r.k, .int .i64 r.op, .int .i64 r.f.k, .int .i64 r.f.p, .int .i64 r.f.q, .string r.f.s, .int .i64 r.f.r, .slice p1' n1' c1', .string r.s, .int .i64 r.lv, .int .i64 r.nx, .slice p2' n2' c2'] 31))); have HC2 : Hid (Ch [] w0 (w1.alloc (.cells #[.int .i64 r.k, .int .i64 r.op, .int .i64 r.f.k, .int .i64 r.f.p, .int .i64 r.f.q, .string r.f.s, .int .i64 r.f.r, .slice p1' n1' c1', .string r.s, .int .i64 r.lv, .int .i64 r.nx, .slice p2' n2' c2'] 31))) := Lib.hid (hc.trans ((Ch.refl [] w1).alloc _)); clear q1 q2 hc; have b0 : w1.cell? ⟨w.heap.size, 0, none⟩ = some (.int .i64 6) := (HA.out.ch HC1.out (not_nil _)).cell 0; have b1 : w1.cell? ⟨w.heap.size, 1, none⟩ = some (.int .i64 op) := (HA.out.ch HC1.out (not_nil _)).cell 1; have b2 : w1.cell? ⟨w.heap.size, 2, none⟩ = some (.int .i64 f.k) := (HA.out.ch HC1.out (not_nil _)).cell 2; have b3 : w1.cell? ⟨w.heap.size, 3, none⟩ = some (.int .i64 f.p) := (HA.out.ch HC1.out (not_nil _)).cell 3; have b4 : w1.cell? ⟨w.heap.size, 4, none⟩ = some (.int .i64 f.q) := (HA.out.ch HC1.out (not_nil _)).cell 4; have b5 : w1.cell? ⟨w.heap.size, 5, none⟩ = some (.string f.s) := (HA.out.ch HC1.out (not_nil _)).cell 5; have b6 : w1.cell? ⟨w.heap.size, 6, none⟩ = some (.int .i64 f.r) := (HA.out.ch HC1.out (not_nil _)).cell 6; have b7 : w1.cell? ⟨w.heap.size, 7, none⟩ = some (.slice p1 l.length c1) := (HA.out.ch HC1.out (not_nil _)).cell 7; have b8 : w1.cell? ⟨w.heap.size, 8, none⟩ = some (.string s) := (HA.out.ch HC1.out (not_nil _)).cell 8; have b9 : w1.cell? ⟨w.heap.size, 9, none⟩ = some (.int .i64 lv) := (HA.out.ch HC1.out (not_nil _)).cell 9; have b10 : w1.cell? ⟨w.heap.size, 10, none⟩ = some (.int .i64 nx) := (HA.out.ch HC1.out (not_nil _)).cell 10; have b11 : w1.cell? ⟨w.heap.size, 11, none⟩ = some (.slice p2 kp.length c2) := (HA.out.ch HC1.out (not_nil _)).cell 11; have bl := (HA.out.ch HC1.out (not_nil _)).lt) | (go_at_call 26; (with_reducible refine (QS.out _ _ _ HQ1.out HQ2.out).mono ?_); rintro e w3 ⟨rfl, hc⟩; have HC3 := Lib.hid (HC2.out.trans hc); clear hc; have d0 : w3.cell? ⟨w.heap.size, 0, none⟩ = some (.int .i64 6) := (HA.out.ch HC3.out (not_nil _)).cell 0; have d1 : w3.cell? ⟨w.heap.size, 1, none⟩ = some (.int .i64 op) := (HA.out.ch HC3.out (not_nil _)).cell 1; have d2 : w3.cell? ⟨w.heap.size, 2, none⟩ = some (.int .i64 f.k) := (HA.out.ch HC3.out (not_nil _)).cell 2; have d3 : w3.cell? ⟨w.heap.size, 3, none⟩ = some (.int .i64 f.p) := (HA.out.ch HC3.out (not_nil _)).cell 3; have d4 : w3.cell? ⟨w.heap.size, 4, none⟩ = some (.int .i64 f.q) := (HA.out.ch HC3.out (not_nil _)).cell 4; have d5 : w3.cell? ⟨w.heap.size, 5, none⟩ = some (.string f.s) := (HA.out.ch HC3.out (not_nil _)).cell 5; have d6 : w3.cell? ⟨w.heap.size, 6, none⟩ = some (.int .i64 f.r) := (HA.out.ch HC3.out (not_nil _)).cell 6; have d7 : w3.cell? ⟨w.heap.size, 7, none⟩ = some (.slice p1 l.length c1) := (HA.out.ch HC3.out (not_nil _)).cell 7; have d8 : w3.cell? ⟨w.heap.size, 8, none⟩ = some (.string s) := (HA.out.ch HC3.out (not_nil _)).cell 8; have d9 : w3.cell? ⟨w.heap.size, 9, none⟩ = some (.int .i64 lv) := (HA.out.ch HC3.out (not_nil _)).cell 9; have d10 : w3.cell? ⟨w.heap.size, 10, none⟩ = some (.int .i64 nx) := (HA.out.ch HC3.out (not_nil _)).cell 10; have d11 : w3.cell? ⟨w.heap.size, 11, none⟩ = some (.slice p2 kp.length c2) := (HA.out.ch HC3.out (not_nil _)).cell 11; have dl := (HA.out.ch HC3.out (not_nil _)).lt) | (go_at_call 43; (with_reducible refine (QI1.out _).mono ?_); rintro e w4 ⟨rfl, rfl⟩))
  go_ret
  exact ⟨rfl, HC0.out.trans HC3.out⟩
set_option maxHeartbeats 4000000 in
theorem hf_61 (op : Int) (f : V5) (l : List V5) (s : ByteArray) (lv nx : Int) (kp : List V5) (p1 p2 : Option Addr) (c1 c2 : Nat) (w : World) (r : Act) (hr : clrA ⟨6, op, f, l, s, lv, nx, kp⟩ = r) (hex : inK 6 = true) (hsm : decide (r = zA) = true) (ho : ¬ op < 1) (ho2 : ¬ 7 < op) (b : Bool) (hb1 : decide (0 ≤ lv ∧ lv ≤ 255) = true) (hb2 : decide (0 ≤ nx ∧ nx ≤ 255) = b)
    (h1 : VA w (.slice p1 l.length c1) l) (h2 : VA w (.slice p2 kp.length c2) kp) (n1 : r.l.length ≤ 1000000) (n2 : r.kp.length ≤ 1000000) :
    Calls Try.prog 36 #[.agg #[.int .i64 6, .int .i64 op, .int .i64 f.k, .int .i64 f.p, .int .i64 f.q, .string f.s, .int .i64 f.r, .slice p1 l.length c1, .string s, .int .i64 lv, .int .i64 nx, .slice p2 kp.length c2]] w fun e w' => e = .returned (.bool b) ∧ Ch [] w w' := by
  obtain ⟨w0, hw0⟩ : ∃ w0, w0 = w.alloc (.cells #[.int .i64 6, .int .i64 op, .int .i64 f.k, .int .i64 f.p, .int .i64 f.q, .string f.s, .int .i64 f.r, .slice p1 l.length c1, .string s, .int .i64 lv, .int .i64 nx, .slice p2 kp.length c2] 31) := ⟨_, rfl⟩
  have HC0 : Hid (Ch [] w w0) := Lib.hid (by rw [hw0]; exact (Ch.refl [] w).alloc _)
  have HA : Hid (Blk 31 w.heap.size #[.int .i64 6, .int .i64 op, .int .i64 f.k, .int .i64 f.p, .int .i64 f.q, .string f.s, .int .i64 f.r, .slice p1 l.length c1, .string s, .int .i64 lv, .int .i64 nx, .slice p2 kp.length c2] w0) := Lib.hid (by rw [hw0]; exact Blk.new w _ _ _ rfl)
  have QW : Hid (Calls Try.prog 42 #[.agg #[.int .i64 6, .int .i64 op, .int .i64 f.k, .int .i64 f.p, .int .i64 f.q, .string f.s, .int .i64 f.r, .slice p1 l.length c1, .string s, .int .i64 lv, .int .i64 nx, .slice p2 kp.length c2]] w0 fun e w' => (∃ p1' n1' c1' p2' n2' c2', e = .returned (.tuple #[.agg #[.int .i64 r.k, .int .i64 r.op, .int .i64 r.f.k, .int .i64 r.f.p, .int .i64 r.f.q, .string r.f.s, .int .i64 r.f.r, .slice p1' n1' c1', .string r.s, .int .i64 r.lv, .int .i64 r.nx, .slice p2' n2' c2'], .bool true]) ∧ VA w' (.slice p1' n1' c1') r.l ∧ VA w' (.slice p2' n2' c2') r.kp) ∧ Ch [] w0 w') := Lib.hid (by
    refine (wf_any ⟨6, op, f, l, s, lv, nx, kp⟩ _ _ w0 (h1.below HC0.out) (h2.below HC0.out)).mono ?_
    rintro e w' ⟨⟨vl, vk, rfl, q1, q2⟩, hc⟩
    rw [hr, hex] at *
    obtain ⟨a1, a2, rfl, a3, a4⟩ := q1
    obtain ⟨b1, b2, rfl, b3, b4⟩ := q2
    exact ⟨⟨_, _, _, _, _, _, rfl, VA.below ⟨a1, a2, rfl, a3, a4⟩ hc, VA.below ⟨b1, b2, rfl, b3, b4⟩ hc⟩, hc⟩)
  have QS : Hid (∀ W vl vk, VA W vl r.l → VA W vk r.kp → Calls Try.prog 26 #[.agg #[.int .i64 r.k, .int .i64 r.op, .int .i64 r.f.k, .int .i64 r.f.p, .int .i64 r.f.q, .string r.f.s, .int .i64 r.f.r, vl, .string r.s, .int .i64 r.lv, .int .i64 r.nx, vk], .agg #[.int .i64 0, .int .i64 0, .int .i64 0, .int .i64 0, .int .i64 0, .string ⟨#[]⟩, .int .i64 0, .slice none 0 0, .string ⟨#[]⟩, .int .i64 0, .int .i64 0, .slice none 0 0]] W fun e w' => e = .returned (.bool true) ∧ Ch [] W w') := Lib.hid fun W vl vk q1 q2 => by
    rw [← hsm]
    exact asame_any _ _ r zA W ⟨vl, vk, rfl, q1, q2⟩ ⟨_, _, rfl, VA.nil W, VA.nil W⟩ n1 n2 (Nat.zero_le _) (Nat.zero_le _)
  have QI1 : Hid (∀ W, Calls Try.prog 43 #[.int .i64 lv] W fun e w' => e = .returned (.bool true) ∧ W = w') := Lib.hid fun W => by rw [← hb1]; exact isnum_any lv W
  have QI2 : Hid (∀ W, Calls Try.prog 43 #[.int .i64 nx] W fun e w' => e = .returned (.bool b) ∧ W = w') := Lib.hid fun W => by rw [← hb2]; exact isnum_any nx W
  have HW := Lib.hid hw0
  clear hw0 h1 h2 n1 n2 hr hex hsm hb1 hb2
  go_enter Try.func36, Try.ntmps36
  go_upto_region 1 with fail
  rw [← HW.out]
  have a0 : w0.cell? ⟨w.heap.size, 0, none⟩ = some (.int .i64 6) := HA.out.cell 0
  have a1 : w0.cell? ⟨w.heap.size, 1, none⟩ = some (.int .i64 op) := HA.out.cell 1
  have a2 : w0.cell? ⟨w.heap.size, 2, none⟩ = some (.int .i64 f.k) := HA.out.cell 2
  have a3 : w0.cell? ⟨w.heap.size, 3, none⟩ = some (.int .i64 f.p) := HA.out.cell 3
  have a4 : w0.cell? ⟨w.heap.size, 4, none⟩ = some (.int .i64 f.q) := HA.out.cell 4
  have a5 : w0.cell? ⟨w.heap.size, 5, none⟩ = some (.string f.s) := HA.out.cell 5
  have a6 : w0.cell? ⟨w.heap.size, 6, none⟩ = some (.int .i64 f.r) := HA.out.cell 6
  have a7 : w0.cell? ⟨w.heap.size, 7, none⟩ = some (.slice p1 l.length c1) := HA.out.cell 7
  have a8 : w0.cell? ⟨w.heap.size, 8, none⟩ = some (.string s) := HA.out.cell 8
  have a9 : w0.cell? ⟨w.heap.size, 9, none⟩ = some (.int .i64 lv) := HA.out.cell 9
  have a10 : w0.cell? ⟨w.heap.size, 10, none⟩ = some (.int .i64 nx) := HA.out.cell 10
  have a11 : w0.cell? ⟨w.heap.size, 11, none⟩ = some (.slice p2 kp.length c2) := HA.out.cell 11
  have la := HA.out.lt
  go_wp2_with (first | (go_at_call 42; (with_reducible refine (QW.out).mono ?_); rintro e w1 ⟨⟨p1', n1', c1', p2', n2', c2', rfl, q1, q2⟩, hc⟩; have HC1 := Lib.hid hc; have HQ1 := Lib.hid (q1.below ((Ch.refl [] w1).alloc (.cells #[.int .i64 r.k, .int .i64 r.op, .int .i64 r.f.k, .int .i64 r.f.p, .int .i64 r.f.q, .string r.f.s, .int .i64 r.f.r, .slice p1' n1' c1', .string r.s, .int .i64 r.lv, .int .i64 r.nx, .slice p2' n2' c2'] 31))); have HQ2 := Lib.hid (q2.below ((Ch.refl [] w1).alloc (.cells #[.int .i64 r.k, .int .i64 r.op, .int .i64 r.f.k, .int .i64 r.f.p, .int .i64 r.f.q, .string r.f.s, .int .i64 r.f.r, .slice p1' n1' c1', .string r.s, .int .i64 r.lv, .int .i64 r.nx, .slice p2' n2' c2'] 31))); have HC2 : Hid (Ch [] w0 (w1.alloc (.cells #[.int .i64 r.k, .int .i64 r.op, .int .i64 r.f.k, .int .i64 r.f.p, .int .i64 r.f.q, .string r.f.s, .int .i64 r.f.r, .slice p1' n1' c1', .string r.s, .int .i64 r.lv, .int .i64 r.nx, .slice p2' n2' c2'] 31))) := Lib.hid (hc.trans ((Ch.refl [] w1).alloc _)); clear q1 q2 hc; have b0 : w1.cell? ⟨w.heap.size, 0, none⟩ = some (.int .i64 6) := (HA.out.ch HC1.out (not_nil _)).cell 0; have b1 : w1.cell? ⟨w.heap.size, 1, none⟩ = some (.int .i64 op) := (HA.out.ch HC1.out (not_nil _)).cell 1; have b2 : w1.cell? ⟨w.heap.size, 2, none⟩ = some (.int .i64 f.k) := (HA.out.ch HC1.out (not_nil _)).cell 2; have b3 : w1.cell? ⟨w.heap.size, 3, none⟩ = some (.int .i64 f.p) := (HA.out.ch HC1.out (not_nil _)).cell 3; have b4 : w1.cell? ⟨w.heap.size, 4, none⟩ = some (.int .i64 f.q) := (HA.out.ch HC1.out (not_nil _)).cell 4; have b5 : w1.cell? ⟨w.heap.size, 5, none⟩ = some (.string f.s) := (HA.out.ch HC1.out (not_nil _)).cell 5; have b6 : w1.cell? ⟨w.heap.size, 6, none⟩ = some (.int .i64 f.r) := (HA.out.ch HC1.out (not_nil _)).cell 6; have b7 : w1.cell? ⟨w.heap.size, 7, none⟩ = some (.slice p1 l.length c1) := (HA.out.ch HC1.out (not_nil _)).cell 7; have b8 : w1.cell? ⟨w.heap.size, 8, none⟩ = some (.string s) := (HA.out.ch HC1.out (not_nil _)).cell 8; have b9 : w1.cell? ⟨w.heap.size, 9, none⟩ = some (.int .i64 lv) := (HA.out.ch HC1.out (not_nil _)).cell 9; have b10 : w1.cell? ⟨w.heap.size, 10, none⟩ = some (.int .i64 nx) := (HA.out.ch HC1.out (not_nil _)).cell 10; have b11 : w1.cell? ⟨w.heap.size, 11, none⟩ = some (.slice p2 kp.length c2) := (HA.out.ch HC1.out (not_nil _)).cell 11; have bl := (HA.out.ch HC1.out (not_nil _)).lt) | (go_at_call 26; (with_reducible refine (QS.out _ _ _ HQ1.out HQ2.out).mono ?_); rintro e w3 ⟨rfl, hc⟩; have HC3 := Lib.hid (HC2.out.trans hc); clear hc; have d0 : w3.cell? ⟨w.heap.size, 0, none⟩ = some (.int .i64 6) := (HA.out.ch HC3.out (not_nil _)).cell 0; have d1 : w3.cell? ⟨w.heap.size, 1, none⟩ = some (.int .i64 op) := (HA.out.ch HC3.out (not_nil _)).cell 1; have d2 : w3.cell? ⟨w.heap.size, 2, none⟩ = some (.int .i64 f.k) := (HA.out.ch HC3.out (not_nil _)).cell 2; have d3 : w3.cell? ⟨w.heap.size, 3, none⟩ = some (.int .i64 f.p) := (HA.out.ch HC3.out (not_nil _)).cell 3; have d4 : w3.cell? ⟨w.heap.size, 4, none⟩ = some (.int .i64 f.q) := (HA.out.ch HC3.out (not_nil _)).cell 4; have d5 : w3.cell? ⟨w.heap.size, 5, none⟩ = some (.string f.s) := (HA.out.ch HC3.out (not_nil _)).cell 5; have d6 : w3.cell? ⟨w.heap.size, 6, none⟩ = some (.int .i64 f.r) := (HA.out.ch HC3.out (not_nil _)).cell 6; have d7 : w3.cell? ⟨w.heap.size, 7, none⟩ = some (.slice p1 l.length c1) := (HA.out.ch HC3.out (not_nil _)).cell 7; have d8 : w3.cell? ⟨w.heap.size, 8, none⟩ = some (.string s) := (HA.out.ch HC3.out (not_nil _)).cell 8; have d9 : w3.cell? ⟨w.heap.size, 9, none⟩ = some (.int .i64 lv) := (HA.out.ch HC3.out (not_nil _)).cell 9; have d10 : w3.cell? ⟨w.heap.size, 10, none⟩ = some (.int .i64 nx) := (HA.out.ch HC3.out (not_nil _)).cell 10; have d11 : w3.cell? ⟨w.heap.size, 11, none⟩ = some (.slice p2 kp.length c2) := (HA.out.ch HC3.out (not_nil _)).cell 11; have dl := (HA.out.ch HC3.out (not_nil _)).lt) | (go_at_call 43; (with_reducible refine (QI1.out _).mono ?_); rintro e w4 ⟨rfl, rfl⟩) | (go_at_call 43; (with_reducible refine (QI2.out _).mono ?_); rintro e w4 ⟨rfl, rfl⟩))
  go_ret
  exact ⟨rfl, HC0.out.trans HC3.out⟩
set_option maxHeartbeats 4000000 in
theorem hf_k0 (k : Int) (op : Int) (f : V5) (l : List V5) (s : ByteArray) (lv nx : Int) (kp : List V5) (p1 p2 : Option Addr) (c1 c2 : Nat) (w : World) (r : Act) (hr : clrA ⟨k, op, f, l, s, lv, nx, kp⟩ = r) (hex : inK k = true) (hsm : decide (r = zA) = true) (hk2' : ¬ k = 2) (hk6' : ¬ k = 6) (hb1 : decide (0 ≤ lv ∧ lv ≤ 255) = false)
    (h1 : VA w (.slice p1 l.length c1) l) (h2 : VA w (.slice p2 kp.length c2) kp) (n1 : r.l.length ≤ 1000000) (n2 : r.kp.length ≤ 1000000) :
    Calls Try.prog 36 #[.agg #[.int .i64 k, .int .i64 op, .int .i64 f.k, .int .i64 f.p, .int .i64 f.q, .string f.s, .int .i64 f.r, .slice p1 l.length c1, .string s, .int .i64 lv, .int .i64 nx, .slice p2 kp.length c2]] w fun e w' => e = .returned (.bool false) ∧ Ch [] w w' := by
  obtain ⟨w0, hw0⟩ : ∃ w0, w0 = w.alloc (.cells #[.int .i64 k, .int .i64 op, .int .i64 f.k, .int .i64 f.p, .int .i64 f.q, .string f.s, .int .i64 f.r, .slice p1 l.length c1, .string s, .int .i64 lv, .int .i64 nx, .slice p2 kp.length c2] 31) := ⟨_, rfl⟩
  have HC0 : Hid (Ch [] w w0) := Lib.hid (by rw [hw0]; exact (Ch.refl [] w).alloc _)
  have HA : Hid (Blk 31 w.heap.size #[.int .i64 k, .int .i64 op, .int .i64 f.k, .int .i64 f.p, .int .i64 f.q, .string f.s, .int .i64 f.r, .slice p1 l.length c1, .string s, .int .i64 lv, .int .i64 nx, .slice p2 kp.length c2] w0) := Lib.hid (by rw [hw0]; exact Blk.new w _ _ _ rfl)
  have QW : Hid (Calls Try.prog 42 #[.agg #[.int .i64 k, .int .i64 op, .int .i64 f.k, .int .i64 f.p, .int .i64 f.q, .string f.s, .int .i64 f.r, .slice p1 l.length c1, .string s, .int .i64 lv, .int .i64 nx, .slice p2 kp.length c2]] w0 fun e w' => (∃ p1' n1' c1' p2' n2' c2', e = .returned (.tuple #[.agg #[.int .i64 r.k, .int .i64 r.op, .int .i64 r.f.k, .int .i64 r.f.p, .int .i64 r.f.q, .string r.f.s, .int .i64 r.f.r, .slice p1' n1' c1', .string r.s, .int .i64 r.lv, .int .i64 r.nx, .slice p2' n2' c2'], .bool true]) ∧ VA w' (.slice p1' n1' c1') r.l ∧ VA w' (.slice p2' n2' c2') r.kp) ∧ Ch [] w0 w') := Lib.hid (by
    refine (wf_any ⟨k, op, f, l, s, lv, nx, kp⟩ _ _ w0 (h1.below HC0.out) (h2.below HC0.out)).mono ?_
    rintro e w' ⟨⟨vl, vk, rfl, q1, q2⟩, hc⟩
    rw [hr, hex] at *
    obtain ⟨a1, a2, rfl, a3, a4⟩ := q1
    obtain ⟨b1, b2, rfl, b3, b4⟩ := q2
    exact ⟨⟨_, _, _, _, _, _, rfl, VA.below ⟨a1, a2, rfl, a3, a4⟩ hc, VA.below ⟨b1, b2, rfl, b3, b4⟩ hc⟩, hc⟩)
  have QS : Hid (∀ W vl vk, VA W vl r.l → VA W vk r.kp → Calls Try.prog 26 #[.agg #[.int .i64 r.k, .int .i64 r.op, .int .i64 r.f.k, .int .i64 r.f.p, .int .i64 r.f.q, .string r.f.s, .int .i64 r.f.r, vl, .string r.s, .int .i64 r.lv, .int .i64 r.nx, vk], .agg #[.int .i64 0, .int .i64 0, .int .i64 0, .int .i64 0, .int .i64 0, .string ⟨#[]⟩, .int .i64 0, .slice none 0 0, .string ⟨#[]⟩, .int .i64 0, .int .i64 0, .slice none 0 0]] W fun e w' => e = .returned (.bool true) ∧ Ch [] W w') := Lib.hid fun W vl vk q1 q2 => by
    rw [← hsm]
    exact asame_any _ _ r zA W ⟨vl, vk, rfl, q1, q2⟩ ⟨_, _, rfl, VA.nil W, VA.nil W⟩ n1 n2 (Nat.zero_le _) (Nat.zero_le _)
  have hk2 : (k == 2) = false := by rw [beq_eq_false_iff_ne]; exact hk2'
  have hk6 : (k == 6) = false := by rw [beq_eq_false_iff_ne]; exact hk6'
  have QI1 : Hid (∀ W, Calls Try.prog 43 #[.int .i64 lv] W fun e w' => e = .returned (.bool false) ∧ W = w') := Lib.hid fun W => by rw [← hb1]; exact isnum_any lv W
  have HW := Lib.hid hw0
  clear hw0 h1 h2 n1 n2 hr hex hsm hb1
  go_enter Try.func36, Try.ntmps36
  go_upto_region 1 with fail
  rw [← HW.out]
  have a0 : w0.cell? ⟨w.heap.size, 0, none⟩ = some (.int .i64 k) := HA.out.cell 0
  have a1 : w0.cell? ⟨w.heap.size, 1, none⟩ = some (.int .i64 op) := HA.out.cell 1
  have a2 : w0.cell? ⟨w.heap.size, 2, none⟩ = some (.int .i64 f.k) := HA.out.cell 2
  have a3 : w0.cell? ⟨w.heap.size, 3, none⟩ = some (.int .i64 f.p) := HA.out.cell 3
  have a4 : w0.cell? ⟨w.heap.size, 4, none⟩ = some (.int .i64 f.q) := HA.out.cell 4
  have a5 : w0.cell? ⟨w.heap.size, 5, none⟩ = some (.string f.s) := HA.out.cell 5
  have a6 : w0.cell? ⟨w.heap.size, 6, none⟩ = some (.int .i64 f.r) := HA.out.cell 6
  have a7 : w0.cell? ⟨w.heap.size, 7, none⟩ = some (.slice p1 l.length c1) := HA.out.cell 7
  have a8 : w0.cell? ⟨w.heap.size, 8, none⟩ = some (.string s) := HA.out.cell 8
  have a9 : w0.cell? ⟨w.heap.size, 9, none⟩ = some (.int .i64 lv) := HA.out.cell 9
  have a10 : w0.cell? ⟨w.heap.size, 10, none⟩ = some (.int .i64 nx) := HA.out.cell 10
  have a11 : w0.cell? ⟨w.heap.size, 11, none⟩ = some (.slice p2 kp.length c2) := HA.out.cell 11
  have la := HA.out.lt
  go_wp2_with (first | (go_at_call 42; (with_reducible refine (QW.out).mono ?_); rintro e w1 ⟨⟨p1', n1', c1', p2', n2', c2', rfl, q1, q2⟩, hc⟩; have HC1 := Lib.hid hc; have HQ1 := Lib.hid (q1.below ((Ch.refl [] w1).alloc (.cells #[.int .i64 r.k, .int .i64 r.op, .int .i64 r.f.k, .int .i64 r.f.p, .int .i64 r.f.q, .string r.f.s, .int .i64 r.f.r, .slice p1' n1' c1', .string r.s, .int .i64 r.lv, .int .i64 r.nx, .slice p2' n2' c2'] 31))); have HQ2 := Lib.hid (q2.below ((Ch.refl [] w1).alloc (.cells #[.int .i64 r.k, .int .i64 r.op, .int .i64 r.f.k, .int .i64 r.f.p, .int .i64 r.f.q, .string r.f.s, .int .i64 r.f.r, .slice p1' n1' c1', .string r.s, .int .i64 r.lv, .int .i64 r.nx, .slice p2' n2' c2'] 31))); have HC2 : Hid (Ch [] w0 (w1.alloc (.cells #[.int .i64 r.k, .int .i64 r.op, .int .i64 r.f.k, .int .i64 r.f.p, .int .i64 r.f.q, .string r.f.s, .int .i64 r.f.r, .slice p1' n1' c1', .string r.s, .int .i64 r.lv, .int .i64 r.nx, .slice p2' n2' c2'] 31))) := Lib.hid (hc.trans ((Ch.refl [] w1).alloc _)); clear q1 q2 hc; have b0 : w1.cell? ⟨w.heap.size, 0, none⟩ = some (.int .i64 k) := (HA.out.ch HC1.out (not_nil _)).cell 0; have b1 : w1.cell? ⟨w.heap.size, 1, none⟩ = some (.int .i64 op) := (HA.out.ch HC1.out (not_nil _)).cell 1; have b2 : w1.cell? ⟨w.heap.size, 2, none⟩ = some (.int .i64 f.k) := (HA.out.ch HC1.out (not_nil _)).cell 2; have b3 : w1.cell? ⟨w.heap.size, 3, none⟩ = some (.int .i64 f.p) := (HA.out.ch HC1.out (not_nil _)).cell 3; have b4 : w1.cell? ⟨w.heap.size, 4, none⟩ = some (.int .i64 f.q) := (HA.out.ch HC1.out (not_nil _)).cell 4; have b5 : w1.cell? ⟨w.heap.size, 5, none⟩ = some (.string f.s) := (HA.out.ch HC1.out (not_nil _)).cell 5; have b6 : w1.cell? ⟨w.heap.size, 6, none⟩ = some (.int .i64 f.r) := (HA.out.ch HC1.out (not_nil _)).cell 6; have b7 : w1.cell? ⟨w.heap.size, 7, none⟩ = some (.slice p1 l.length c1) := (HA.out.ch HC1.out (not_nil _)).cell 7; have b8 : w1.cell? ⟨w.heap.size, 8, none⟩ = some (.string s) := (HA.out.ch HC1.out (not_nil _)).cell 8; have b9 : w1.cell? ⟨w.heap.size, 9, none⟩ = some (.int .i64 lv) := (HA.out.ch HC1.out (not_nil _)).cell 9; have b10 : w1.cell? ⟨w.heap.size, 10, none⟩ = some (.int .i64 nx) := (HA.out.ch HC1.out (not_nil _)).cell 10; have b11 : w1.cell? ⟨w.heap.size, 11, none⟩ = some (.slice p2 kp.length c2) := (HA.out.ch HC1.out (not_nil _)).cell 11; have bl := (HA.out.ch HC1.out (not_nil _)).lt) | (go_at_call 26; (with_reducible refine (QS.out _ _ _ HQ1.out HQ2.out).mono ?_); rintro e w3 ⟨rfl, hc⟩; have HC3 := Lib.hid (HC2.out.trans hc); clear hc; have d0 : w3.cell? ⟨w.heap.size, 0, none⟩ = some (.int .i64 k) := (HA.out.ch HC3.out (not_nil _)).cell 0; have d1 : w3.cell? ⟨w.heap.size, 1, none⟩ = some (.int .i64 op) := (HA.out.ch HC3.out (not_nil _)).cell 1; have d2 : w3.cell? ⟨w.heap.size, 2, none⟩ = some (.int .i64 f.k) := (HA.out.ch HC3.out (not_nil _)).cell 2; have d3 : w3.cell? ⟨w.heap.size, 3, none⟩ = some (.int .i64 f.p) := (HA.out.ch HC3.out (not_nil _)).cell 3; have d4 : w3.cell? ⟨w.heap.size, 4, none⟩ = some (.int .i64 f.q) := (HA.out.ch HC3.out (not_nil _)).cell 4; have d5 : w3.cell? ⟨w.heap.size, 5, none⟩ = some (.string f.s) := (HA.out.ch HC3.out (not_nil _)).cell 5; have d6 : w3.cell? ⟨w.heap.size, 6, none⟩ = some (.int .i64 f.r) := (HA.out.ch HC3.out (not_nil _)).cell 6; have d7 : w3.cell? ⟨w.heap.size, 7, none⟩ = some (.slice p1 l.length c1) := (HA.out.ch HC3.out (not_nil _)).cell 7; have d8 : w3.cell? ⟨w.heap.size, 8, none⟩ = some (.string s) := (HA.out.ch HC3.out (not_nil _)).cell 8; have d9 : w3.cell? ⟨w.heap.size, 9, none⟩ = some (.int .i64 lv) := (HA.out.ch HC3.out (not_nil _)).cell 9; have d10 : w3.cell? ⟨w.heap.size, 10, none⟩ = some (.int .i64 nx) := (HA.out.ch HC3.out (not_nil _)).cell 10; have d11 : w3.cell? ⟨w.heap.size, 11, none⟩ = some (.slice p2 kp.length c2) := (HA.out.ch HC3.out (not_nil _)).cell 11; have dl := (HA.out.ch HC3.out (not_nil _)).lt) | (go_at_call 43; (with_reducible refine (QI1.out _).mono ?_); rintro e w4 ⟨rfl, rfl⟩))
  go_ret
  exact ⟨rfl, HC0.out.trans HC3.out⟩
set_option maxHeartbeats 4000000 in
theorem hf_k1 (k : Int) (op : Int) (f : V5) (l : List V5) (s : ByteArray) (lv nx : Int) (kp : List V5) (p1 p2 : Option Addr) (c1 c2 : Nat) (w : World) (r : Act) (hr : clrA ⟨k, op, f, l, s, lv, nx, kp⟩ = r) (hex : inK k = true) (hsm : decide (r = zA) = true) (hk2' : ¬ k = 2) (hk6' : ¬ k = 6) (b : Bool) (hb1 : decide (0 ≤ lv ∧ lv ≤ 255) = true) (hb2 : decide (0 ≤ nx ∧ nx ≤ 255) = b)
    (h1 : VA w (.slice p1 l.length c1) l) (h2 : VA w (.slice p2 kp.length c2) kp) (n1 : r.l.length ≤ 1000000) (n2 : r.kp.length ≤ 1000000) :
    Calls Try.prog 36 #[.agg #[.int .i64 k, .int .i64 op, .int .i64 f.k, .int .i64 f.p, .int .i64 f.q, .string f.s, .int .i64 f.r, .slice p1 l.length c1, .string s, .int .i64 lv, .int .i64 nx, .slice p2 kp.length c2]] w fun e w' => e = .returned (.bool b) ∧ Ch [] w w' := by
  obtain ⟨w0, hw0⟩ : ∃ w0, w0 = w.alloc (.cells #[.int .i64 k, .int .i64 op, .int .i64 f.k, .int .i64 f.p, .int .i64 f.q, .string f.s, .int .i64 f.r, .slice p1 l.length c1, .string s, .int .i64 lv, .int .i64 nx, .slice p2 kp.length c2] 31) := ⟨_, rfl⟩
  have HC0 : Hid (Ch [] w w0) := Lib.hid (by rw [hw0]; exact (Ch.refl [] w).alloc _)
  have HA : Hid (Blk 31 w.heap.size #[.int .i64 k, .int .i64 op, .int .i64 f.k, .int .i64 f.p, .int .i64 f.q, .string f.s, .int .i64 f.r, .slice p1 l.length c1, .string s, .int .i64 lv, .int .i64 nx, .slice p2 kp.length c2] w0) := Lib.hid (by rw [hw0]; exact Blk.new w _ _ _ rfl)
  have QW : Hid (Calls Try.prog 42 #[.agg #[.int .i64 k, .int .i64 op, .int .i64 f.k, .int .i64 f.p, .int .i64 f.q, .string f.s, .int .i64 f.r, .slice p1 l.length c1, .string s, .int .i64 lv, .int .i64 nx, .slice p2 kp.length c2]] w0 fun e w' => (∃ p1' n1' c1' p2' n2' c2', e = .returned (.tuple #[.agg #[.int .i64 r.k, .int .i64 r.op, .int .i64 r.f.k, .int .i64 r.f.p, .int .i64 r.f.q, .string r.f.s, .int .i64 r.f.r, .slice p1' n1' c1', .string r.s, .int .i64 r.lv, .int .i64 r.nx, .slice p2' n2' c2'], .bool true]) ∧ VA w' (.slice p1' n1' c1') r.l ∧ VA w' (.slice p2' n2' c2') r.kp) ∧ Ch [] w0 w') := Lib.hid (by
    refine (wf_any ⟨k, op, f, l, s, lv, nx, kp⟩ _ _ w0 (h1.below HC0.out) (h2.below HC0.out)).mono ?_
    rintro e w' ⟨⟨vl, vk, rfl, q1, q2⟩, hc⟩
    rw [hr, hex] at *
    obtain ⟨a1, a2, rfl, a3, a4⟩ := q1
    obtain ⟨b1, b2, rfl, b3, b4⟩ := q2
    exact ⟨⟨_, _, _, _, _, _, rfl, VA.below ⟨a1, a2, rfl, a3, a4⟩ hc, VA.below ⟨b1, b2, rfl, b3, b4⟩ hc⟩, hc⟩)
  have QS : Hid (∀ W vl vk, VA W vl r.l → VA W vk r.kp → Calls Try.prog 26 #[.agg #[.int .i64 r.k, .int .i64 r.op, .int .i64 r.f.k, .int .i64 r.f.p, .int .i64 r.f.q, .string r.f.s, .int .i64 r.f.r, vl, .string r.s, .int .i64 r.lv, .int .i64 r.nx, vk], .agg #[.int .i64 0, .int .i64 0, .int .i64 0, .int .i64 0, .int .i64 0, .string ⟨#[]⟩, .int .i64 0, .slice none 0 0, .string ⟨#[]⟩, .int .i64 0, .int .i64 0, .slice none 0 0]] W fun e w' => e = .returned (.bool true) ∧ Ch [] W w') := Lib.hid fun W vl vk q1 q2 => by
    rw [← hsm]
    exact asame_any _ _ r zA W ⟨vl, vk, rfl, q1, q2⟩ ⟨_, _, rfl, VA.nil W, VA.nil W⟩ n1 n2 (Nat.zero_le _) (Nat.zero_le _)
  have hk2 : (k == 2) = false := by rw [beq_eq_false_iff_ne]; exact hk2'
  have hk6 : (k == 6) = false := by rw [beq_eq_false_iff_ne]; exact hk6'
  have QI1 : Hid (∀ W, Calls Try.prog 43 #[.int .i64 lv] W fun e w' => e = .returned (.bool true) ∧ W = w') := Lib.hid fun W => by rw [← hb1]; exact isnum_any lv W
  have QI2 : Hid (∀ W, Calls Try.prog 43 #[.int .i64 nx] W fun e w' => e = .returned (.bool b) ∧ W = w') := Lib.hid fun W => by rw [← hb2]; exact isnum_any nx W
  have HW := Lib.hid hw0
  clear hw0 h1 h2 n1 n2 hr hex hsm hb1 hb2
  go_enter Try.func36, Try.ntmps36
  go_upto_region 1 with fail
  rw [← HW.out]
  have a0 : w0.cell? ⟨w.heap.size, 0, none⟩ = some (.int .i64 k) := HA.out.cell 0
  have a1 : w0.cell? ⟨w.heap.size, 1, none⟩ = some (.int .i64 op) := HA.out.cell 1
  have a2 : w0.cell? ⟨w.heap.size, 2, none⟩ = some (.int .i64 f.k) := HA.out.cell 2
  have a3 : w0.cell? ⟨w.heap.size, 3, none⟩ = some (.int .i64 f.p) := HA.out.cell 3
  have a4 : w0.cell? ⟨w.heap.size, 4, none⟩ = some (.int .i64 f.q) := HA.out.cell 4
  have a5 : w0.cell? ⟨w.heap.size, 5, none⟩ = some (.string f.s) := HA.out.cell 5
  have a6 : w0.cell? ⟨w.heap.size, 6, none⟩ = some (.int .i64 f.r) := HA.out.cell 6
  have a7 : w0.cell? ⟨w.heap.size, 7, none⟩ = some (.slice p1 l.length c1) := HA.out.cell 7
  have a8 : w0.cell? ⟨w.heap.size, 8, none⟩ = some (.string s) := HA.out.cell 8
  have a9 : w0.cell? ⟨w.heap.size, 9, none⟩ = some (.int .i64 lv) := HA.out.cell 9
  have a10 : w0.cell? ⟨w.heap.size, 10, none⟩ = some (.int .i64 nx) := HA.out.cell 10
  have a11 : w0.cell? ⟨w.heap.size, 11, none⟩ = some (.slice p2 kp.length c2) := HA.out.cell 11
  have la := HA.out.lt
  go_wp2_with (first | (go_at_call 42; (with_reducible refine (QW.out).mono ?_); rintro e w1 ⟨⟨p1', n1', c1', p2', n2', c2', rfl, q1, q2⟩, hc⟩; have HC1 := Lib.hid hc; have HQ1 := Lib.hid (q1.below ((Ch.refl [] w1).alloc (.cells #[.int .i64 r.k, .int .i64 r.op, .int .i64 r.f.k, .int .i64 r.f.p, .int .i64 r.f.q, .string r.f.s, .int .i64 r.f.r, .slice p1' n1' c1', .string r.s, .int .i64 r.lv, .int .i64 r.nx, .slice p2' n2' c2'] 31))); have HQ2 := Lib.hid (q2.below ((Ch.refl [] w1).alloc (.cells #[.int .i64 r.k, .int .i64 r.op, .int .i64 r.f.k, .int .i64 r.f.p, .int .i64 r.f.q, .string r.f.s, .int .i64 r.f.r, .slice p1' n1' c1', .string r.s, .int .i64 r.lv, .int .i64 r.nx, .slice p2' n2' c2'] 31))); have HC2 : Hid (Ch [] w0 (w1.alloc (.cells #[.int .i64 r.k, .int .i64 r.op, .int .i64 r.f.k, .int .i64 r.f.p, .int .i64 r.f.q, .string r.f.s, .int .i64 r.f.r, .slice p1' n1' c1', .string r.s, .int .i64 r.lv, .int .i64 r.nx, .slice p2' n2' c2'] 31))) := Lib.hid (hc.trans ((Ch.refl [] w1).alloc _)); clear q1 q2 hc; have b0 : w1.cell? ⟨w.heap.size, 0, none⟩ = some (.int .i64 k) := (HA.out.ch HC1.out (not_nil _)).cell 0; have b1 : w1.cell? ⟨w.heap.size, 1, none⟩ = some (.int .i64 op) := (HA.out.ch HC1.out (not_nil _)).cell 1; have b2 : w1.cell? ⟨w.heap.size, 2, none⟩ = some (.int .i64 f.k) := (HA.out.ch HC1.out (not_nil _)).cell 2; have b3 : w1.cell? ⟨w.heap.size, 3, none⟩ = some (.int .i64 f.p) := (HA.out.ch HC1.out (not_nil _)).cell 3; have b4 : w1.cell? ⟨w.heap.size, 4, none⟩ = some (.int .i64 f.q) := (HA.out.ch HC1.out (not_nil _)).cell 4; have b5 : w1.cell? ⟨w.heap.size, 5, none⟩ = some (.string f.s) := (HA.out.ch HC1.out (not_nil _)).cell 5; have b6 : w1.cell? ⟨w.heap.size, 6, none⟩ = some (.int .i64 f.r) := (HA.out.ch HC1.out (not_nil _)).cell 6; have b7 : w1.cell? ⟨w.heap.size, 7, none⟩ = some (.slice p1 l.length c1) := (HA.out.ch HC1.out (not_nil _)).cell 7; have b8 : w1.cell? ⟨w.heap.size, 8, none⟩ = some (.string s) := (HA.out.ch HC1.out (not_nil _)).cell 8; have b9 : w1.cell? ⟨w.heap.size, 9, none⟩ = some (.int .i64 lv) := (HA.out.ch HC1.out (not_nil _)).cell 9; have b10 : w1.cell? ⟨w.heap.size, 10, none⟩ = some (.int .i64 nx) := (HA.out.ch HC1.out (not_nil _)).cell 10; have b11 : w1.cell? ⟨w.heap.size, 11, none⟩ = some (.slice p2 kp.length c2) := (HA.out.ch HC1.out (not_nil _)).cell 11; have bl := (HA.out.ch HC1.out (not_nil _)).lt) | (go_at_call 26; (with_reducible refine (QS.out _ _ _ HQ1.out HQ2.out).mono ?_); rintro e w3 ⟨rfl, hc⟩; have HC3 := Lib.hid (HC2.out.trans hc); clear hc; have d0 : w3.cell? ⟨w.heap.size, 0, none⟩ = some (.int .i64 k) := (HA.out.ch HC3.out (not_nil _)).cell 0; have d1 : w3.cell? ⟨w.heap.size, 1, none⟩ = some (.int .i64 op) := (HA.out.ch HC3.out (not_nil _)).cell 1; have d2 : w3.cell? ⟨w.heap.size, 2, none⟩ = some (.int .i64 f.k) := (HA.out.ch HC3.out (not_nil _)).cell 2; have d3 : w3.cell? ⟨w.heap.size, 3, none⟩ = some (.int .i64 f.p) := (HA.out.ch HC3.out (not_nil _)).cell 3; have d4 : w3.cell? ⟨w.heap.size, 4, none⟩ = some (.int .i64 f.q) := (HA.out.ch HC3.out (not_nil _)).cell 4; have d5 : w3.cell? ⟨w.heap.size, 5, none⟩ = some (.string f.s) := (HA.out.ch HC3.out (not_nil _)).cell 5; have d6 : w3.cell? ⟨w.heap.size, 6, none⟩ = some (.int .i64 f.r) := (HA.out.ch HC3.out (not_nil _)).cell 6; have d7 : w3.cell? ⟨w.heap.size, 7, none⟩ = some (.slice p1 l.length c1) := (HA.out.ch HC3.out (not_nil _)).cell 7; have d8 : w3.cell? ⟨w.heap.size, 8, none⟩ = some (.string s) := (HA.out.ch HC3.out (not_nil _)).cell 8; have d9 : w3.cell? ⟨w.heap.size, 9, none⟩ = some (.int .i64 lv) := (HA.out.ch HC3.out (not_nil _)).cell 9; have d10 : w3.cell? ⟨w.heap.size, 10, none⟩ = some (.int .i64 nx) := (HA.out.ch HC3.out (not_nil _)).cell 10; have d11 : w3.cell? ⟨w.heap.size, 11, none⟩ = some (.slice p2 kp.length c2) := (HA.out.ch HC3.out (not_nil _)).cell 11; have dl := (HA.out.ch HC3.out (not_nil _)).lt) | (go_at_call 43; (with_reducible refine (QI1.out _).mono ?_); rintro e w4 ⟨rfl, rfl⟩) | (go_at_call 43; (with_reducible refine (QI2.out _).mono ?_); rintro e w4 ⟨rfl, rfl⟩))
  go_ret
  exact ⟨rfl, HC0.out.trans HC3.out⟩
def formB (a : Act) : Bool := inK a.k && (decide (clrA a = zA) && (!(decide (a.k = 2) && decide (¬ a.l.length = 1)) && (!(decide (a.k = 6) && decide (a.op < 1 ∨ 7 < a.op)) && (decide (0 ≤ a.lv ∧ a.lv ≤ 255) && decide (0 ≤ a.nx ∧ a.nx ≤ 255)))))
theorem clr_len (a : Act) : (clrA a).l.length ≤ a.l.length ∧ (clrA a).kp.length ≤ a.kp.length := by
  unfold clrA
  repeat' split
  all_goals simp
set_option maxHeartbeats 4000000 in
theorem hasForm_any (a : Act) (vl vk : Value) (w : World) (h1 : VA w vl a.l) (h2 : VA w vk a.kp) (n1 : a.l.length ≤ 1000000) (n2 : a.kp.length ≤ 1000000) :
    Calls Try.prog 36 #[.agg #[.int .i64 a.k, .int .i64 a.op, .int .i64 a.f.k, .int .i64 a.f.p, .int .i64 a.f.q, .string a.f.s, .int .i64 a.f.r, vl, .string a.s, .int .i64 a.lv, .int .i64 a.nx, vk]] w fun e w' => e = .returned (.bool (formB a)) ∧ Ch [] w w' := by
  have H1 := h1
  have H2 := h2
  obtain ⟨p1, c1, rfl, _, _⟩ := h1
  obtain ⟨p2, c2, rfl, _, _⟩ := h2
  have m1 := Nat.le_trans (clr_len a).1 n1
  have m2 := Nat.le_trans (clr_len a).2 n2
  obtain ⟨k, op, f, l, s, lv, nx, kp⟩ := a
  cases hex : inK k with
  | false =>
    rw [show formB ⟨k, op, f, l, s, lv, nx, kp⟩ = false by simp [formB, hex]]
    exact hf_a k op f l s lv nx kp p1 p2 c1 c2 w _ rfl hex H1 H2 m1 m2
  | true =>
    cases hsm : decide (clrA ⟨k, op, f, l, s, lv, nx, kp⟩ = zA) with
    | false =>
      rw [show formB ⟨k, op, f, l, s, lv, nx, kp⟩ = false by simp only [formB, hsm]; simp]
      exact hf_b k op f l s lv nx kp p1 p2 c1 c2 w _ rfl hex hsm H1 H2 m1 m2
    | true =>
      have key : formB ⟨k, op, f, l, s, lv, nx, kp⟩ = (!(decide (k = 2) && decide (¬ l.length = 1)) && (!(decide (k = 6) && decide (op < 1 ∨ 7 < op)) && (decide (0 ≤ lv ∧ lv ≤ 255) && decide (0 ≤ nx ∧ nx ≤ 255)))) := by
        simp only [formB, hsm, hex, Bool.true_and]
      by_cases e2 : k = 2
      · subst e2
        by_cases hl : l.length = 1
        · cases hb1 : decide (0 ≤ lv ∧ lv ≤ 255) with
          | false =>
            rw [show formB ⟨2, op, f, l, s, lv, nx, kp⟩ = false by rw [key]; simp [hb1]]
            exact hf_20 op f l s lv nx kp p1 p2 c1 c2 w _ rfl hex hsm hl hb1 H1 H2 m1 m2
          | true =>
            rw [hb1] at key
            rw [show formB ⟨2, op, f, l, s, lv, nx, kp⟩ = decide (0 ≤ nx ∧ nx ≤ 255) by rw [key]; simp [hl]]
            exact hf_21 op f l s lv nx kp p1 p2 c1 c2 w _ rfl hex hsm hl _ hb1 rfl H1 H2 m1 m2
        · rw [show formB ⟨2, op, f, l, s, lv, nx, kp⟩ = false by rw [key]; simp [hl]]
          exact hf_c op f l s lv nx kp p1 p2 c1 c2 w _ rfl hex hsm hl H1 H2 m1 m2
      · by_cases e6 : k = 6
        · subst e6
          by_cases ho : op < 1
          · rw [show formB ⟨6, op, f, l, s, lv, nx, kp⟩ = false by rw [key]; simp [ho]]
            exact hf_d op f l s lv nx kp p1 p2 c1 c2 w _ rfl hex hsm ho H1 H2 m1 m2
          · by_cases ho2 : 7 < op
            · rw [show formB ⟨6, op, f, l, s, lv, nx, kp⟩ = false by rw [key]; simp [ho2]]
              exact hf_e op f l s lv nx kp p1 p2 c1 c2 w _ rfl hex hsm ho ho2 H1 H2 m1 m2
            · have ho3 : decide (op < 1 ∨ 7 < op) = false := by rw [decide_eq_false_iff_not]; rintro (h | h) <;> contradiction
              rw [ho3] at key
              cases hb1 : decide (0 ≤ lv ∧ lv ≤ 255) with
              | false =>
                rw [show formB ⟨6, op, f, l, s, lv, nx, kp⟩ = false by rw [key]; simp [hb1]]
                exact hf_60 op f l s lv nx kp p1 p2 c1 c2 w _ rfl hex hsm ho ho2 hb1 H1 H2 m1 m2
              | true =>
                rw [hb1] at key
                rw [show formB ⟨6, op, f, l, s, lv, nx, kp⟩ = decide (0 ≤ nx ∧ nx ≤ 255) by rw [key]; simp ]
                exact hf_61 op f l s lv nx kp p1 p2 c1 c2 w _ rfl hex hsm ho ho2 _ hb1 rfl H1 H2 m1 m2
        · cases hb1 : decide (0 ≤ lv ∧ lv ≤ 255) with
          | false =>
            rw [show formB ⟨k, op, f, l, s, lv, nx, kp⟩ = false by rw [key]; simp [hb1]]
            exact hf_k0 k op f l s lv nx kp p1 p2 c1 c2 w _ rfl hex hsm e2 e6 hb1 H1 H2 m1 m2
          | true =>
            rw [hb1] at key
            rw [show formB ⟨k, op, f, l, s, lv, nx, kp⟩ = decide (0 ≤ nx ∧ nx ≤ 255) by rw [key]; simp [e2, e6]]
            exact hf_k1 k op f l s lv nx kp p1 p2 c1 c2 w _ rfl hex hsm e2 e6 _ hb1 rfl H1 H2 m1 m2
end Go.Proofs.Ytdgdpckjcpgoaaa
