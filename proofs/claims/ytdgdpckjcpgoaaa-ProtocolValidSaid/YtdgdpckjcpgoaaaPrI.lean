/- Layer 20: the reference's fields. -/
import Derived.Test.YtdgdpckjcpgoaaaPrE
namespace Go.Proofs.Ytdgdpckjcpgoaaa
open Go.RowKit Go.Joins M1
set_option linter.unusedVariables false
set_option maxHeartbeats 2000000 in
theorem rf_1_0 (op : Int) (f : V5) (l : List V5) (s : ByteArray) (lv : Int) (nx : Int) (kp : List V5) (p1 p2 : Option Addr) (c1 c2 : Nat) (w : World) (hd : ¬ f = v5z) :
    Calls Try.prog 38 #[.agg #[.int .i64 1, .int .i64 op, .int .i64 f.k, .int .i64 f.p, .int .i64 f.q, .string f.s, .int .i64 f.r, .slice p1 l.length c1, .string s, .int .i64 lv, .int .i64 nx, .slice p2 kp.length c2]] w fun e w' => e = .returned (.bool false) ∧ Ch [] w w' := by
  have QF : ∀ W, (binOp .neq 26 (.agg #[.int .i64 f.k, .int .i64 f.p, .int .i64 f.q, .string f.s, .int .i64 f.r]) (.agg #[.int .i64 0, .int .i64 0, .int .i64 0, .string ⟨#[]⟩, .int .i64 0])).run Try.prog W = .ok (.bool true) W := fun W => by
    have := neq_v5g f v5z W
    rw [show (!decide (f = v5z)) = true by simp [hd]] at this
    exact this
  clear hd
  go_enter Try.func38, Try.ntmps38
  go_wp2
  go_ret
  exact ⟨rfl, by first | exact (Ch.refl [] w).alloc _ | exact ((Ch.refl [] w).alloc _).drew⟩
set_option maxHeartbeats 2000000 in
theorem rf_1_1 (op : Int) (l : List V5) (s : ByteArray) (lv : Int) (nx : Int) (kp : List V5) (p1 p2 : Option Addr) (c1 c2 : Nat) (w : World) (hd : ¬ nx = 0) :
    Calls Try.prog 38 #[.agg #[.int .i64 1, .int .i64 op, .int .i64 0, .int .i64 0, .int .i64 0, .string ⟨#[]⟩, .int .i64 0, .slice p1 l.length c1, .string s, .int .i64 lv, .int .i64 nx, .slice p2 kp.length c2]] w fun e w' => e = .returned (.bool false) ∧ Ch [] w w' := by
  have hd1 : (nx == 0) = false := by rw [beq_eq_false_iff_ne]; exact hd
  have hd2 : (nx != 0) = true := by rw [bne_iff_ne]; exact hd
  have QF : ∀ W, (binOp .neq 26 (.agg #[.int .i64 0, .int .i64 0, .int .i64 0, .string ⟨#[]⟩, .int .i64 0]) (.agg #[.int .i64 0, .int .i64 0, .int .i64 0, .string ⟨#[]⟩, .int .i64 0])).run Try.prog W = .ok (.bool false) W := fun W => by
    have := neq_v5g v5z v5z W
    rw [show (!decide (v5z = v5z)) = false by simp] at this
    exact this
  go_enter Try.func38, Try.ntmps38
  go_wp2
  go_ret
  exact ⟨rfl, by first | exact (Ch.refl [] w).alloc _ | exact ((Ch.refl [] w).alloc _).drew⟩
set_option maxHeartbeats 2000000 in
theorem rf_1_2 (op : Int) (l : List V5) (s : ByteArray) (lv : Int) (kp : List V5) (p1 p2 : Option Addr) (c1 c2 : Nat) (w : World) (hd : ¬ kp = []) :
    Calls Try.prog 38 #[.agg #[.int .i64 1, .int .i64 op, .int .i64 0, .int .i64 0, .int .i64 0, .string ⟨#[]⟩, .int .i64 0, .slice p1 l.length c1, .string s, .int .i64 lv, .int .i64 0, .slice p2 kp.length c2]] w fun e w' => e = .returned (.bool false) ∧ Ch [] w w' := by
  have hd1 : (0 : Int) < (kp.length : Int) := by rcases kp with _ | ⟨x, q⟩; (first | exact absurd rfl hd | contradiction); simp
  have QF : ∀ W, (binOp .neq 26 (.agg #[.int .i64 0, .int .i64 0, .int .i64 0, .string ⟨#[]⟩, .int .i64 0]) (.agg #[.int .i64 0, .int .i64 0, .int .i64 0, .string ⟨#[]⟩, .int .i64 0])).run Try.prog W = .ok (.bool false) W := fun W => by
    have := neq_v5g v5z v5z W
    rw [show (!decide (v5z = v5z)) = false by simp] at this
    exact this
  go_enter Try.func38, Try.ntmps38
  go_wp2
  go_ret
  exact ⟨rfl, by first | exact (Ch.refl [] w).alloc _ | exact ((Ch.refl [] w).alloc _).drew⟩
set_option maxHeartbeats 2000000 in
theorem rf_1_3 (op : Int) (l : List V5) (s : ByteArray) (lv : Int) (p1 p2 : Option Addr) (c1 c2 : Nat) (w : World) (hd : ¬ s = ⟨#[]⟩) :
    Calls Try.prog 38 #[.agg #[.int .i64 1, .int .i64 op, .int .i64 0, .int .i64 0, .int .i64 0, .string ⟨#[]⟩, .int .i64 0, .slice p1 l.length c1, .string s, .int .i64 lv, .int .i64 0, .slice p2 0 c2]] w fun e w' => e = .returned (.bool false) ∧ Ch [] w w' := by
  have hd1 : ¬ s.toList = [] := fun e => hd (of_decide_eq_true (by rw [← beqS]; rw [e, ByteArray.toList_eq]; rfl))
  have hd2 : (s.toList == []) = false := by simpa using hd1
  have hd3 : (s.toList == (⟨#[]⟩ : ByteArray).toList) = false := by rw [show (⟨#[]⟩ : ByteArray).toList = [] by rw [ByteArray.toList_eq]]; exact hd2
  have QF : ∀ W, (binOp .neq 26 (.agg #[.int .i64 0, .int .i64 0, .int .i64 0, .string ⟨#[]⟩, .int .i64 0]) (.agg #[.int .i64 0, .int .i64 0, .int .i64 0, .string ⟨#[]⟩, .int .i64 0])).run Try.prog W = .ok (.bool false) W := fun W => by
    have := neq_v5g v5z v5z W
    rw [show (!decide (v5z = v5z)) = false by simp] at this
    exact this
  go_enter Try.func38, Try.ntmps38
  go_wp2
  go_ret
  exact ⟨rfl, by first | exact (Ch.refl [] w).alloc _ | exact ((Ch.refl [] w).alloc _).drew⟩
set_option maxHeartbeats 2000000 in
theorem rf_1_4 (op : Int) (l : List V5) (lv : Int) (p1 p2 : Option Addr) (c1 c2 : Nat) (w : World) (hd : ¬ op = 0) :
    Calls Try.prog 38 #[.agg #[.int .i64 1, .int .i64 op, .int .i64 0, .int .i64 0, .int .i64 0, .string ⟨#[]⟩, .int .i64 0, .slice p1 l.length c1, .string ⟨#[]⟩, .int .i64 lv, .int .i64 0, .slice p2 0 c2]] w fun e w' => e = .returned (.bool false) ∧ Ch [] w w' := by
  have hd1 : (op == 0) = false := by rw [beq_eq_false_iff_ne]; exact hd
  have hd2 : (op != 0) = true := by rw [bne_iff_ne]; exact hd
  have QF : ∀ W, (binOp .neq 26 (.agg #[.int .i64 0, .int .i64 0, .int .i64 0, .string ⟨#[]⟩, .int .i64 0]) (.agg #[.int .i64 0, .int .i64 0, .int .i64 0, .string ⟨#[]⟩, .int .i64 0])).run Try.prog W = .ok (.bool false) W := fun W => by
    have := neq_v5g v5z v5z W
    rw [show (!decide (v5z = v5z)) = false by simp] at this
    exact this
  go_enter Try.func38, Try.ntmps38
  go_wp2
  go_ret
  exact ⟨rfl, by first | exact (Ch.refl [] w).alloc _ | exact ((Ch.refl [] w).alloc _).drew⟩
set_option maxHeartbeats 2000000 in
theorem rf_1_5 (l : List V5) (lv : Int) (p1 p2 : Option Addr) (c1 c2 : Nat) (w : World) (hd : ¬ lv = 0) :
    Calls Try.prog 38 #[.agg #[.int .i64 1, .int .i64 0, .int .i64 0, .int .i64 0, .int .i64 0, .string ⟨#[]⟩, .int .i64 0, .slice p1 l.length c1, .string ⟨#[]⟩, .int .i64 lv, .int .i64 0, .slice p2 0 c2]] w fun e w' => e = .returned (.bool false) ∧ Ch [] w w' := by
  have hd1 : (lv == 0) = false := by rw [beq_eq_false_iff_ne]; exact hd
  have hd2 : (lv != 0) = true := by rw [bne_iff_ne]; exact hd
  have QF : ∀ W, (binOp .neq 26 (.agg #[.int .i64 0, .int .i64 0, .int .i64 0, .string ⟨#[]⟩, .int .i64 0]) (.agg #[.int .i64 0, .int .i64 0, .int .i64 0, .string ⟨#[]⟩, .int .i64 0])).run Try.prog W = .ok (.bool false) W := fun W => by
    have := neq_v5g v5z v5z W
    rw [show (!decide (v5z = v5z)) = false by simp] at this
    exact this
  go_enter Try.func38, Try.ntmps38
  go_wp2
  go_ret
  exact ⟨rfl, by first | exact (Ch.refl [] w).alloc _ | exact ((Ch.refl [] w).alloc _).drew⟩
set_option maxHeartbeats 2000000 in
theorem rf_1_6 (l : List V5) (p1 p2 : Option Addr) (c1 c2 : Nat) (w : World) :
    Calls Try.prog 38 #[.agg #[.int .i64 1, .int .i64 0, .int .i64 0, .int .i64 0, .int .i64 0, .string ⟨#[]⟩, .int .i64 0, .slice p1 l.length c1, .string ⟨#[]⟩, .int .i64 0, .int .i64 0, .slice p2 0 c2]] w fun e w' => e = .returned (.bool true) ∧ Ch [] w w' := by
  have QF : ∀ W, (binOp .neq 26 (.agg #[.int .i64 0, .int .i64 0, .int .i64 0, .string ⟨#[]⟩, .int .i64 0]) (.agg #[.int .i64 0, .int .i64 0, .int .i64 0, .string ⟨#[]⟩, .int .i64 0])).run Try.prog W = .ok (.bool false) W := fun W => by
    have := neq_v5g v5z v5z W
    rw [show (!decide (v5z = v5z)) = false by simp] at this
    exact this
  go_enter Try.func38, Try.ntmps38
  go_wp2
  go_ret
  exact ⟨rfl, by first | exact (Ch.refl [] w).alloc _ | exact ((Ch.refl [] w).alloc _).drew⟩
set_option maxHeartbeats 2000000 in
theorem rf_2_0 (op : Int) (f : V5) (l : List V5) (s : ByteArray) (lv : Int) (nx : Int) (kp : List V5) (p1 p2 : Option Addr) (c1 c2 : Nat) (w : World) (hd : ¬ f = v5z) :
    Calls Try.prog 38 #[.agg #[.int .i64 2, .int .i64 op, .int .i64 f.k, .int .i64 f.p, .int .i64 f.q, .string f.s, .int .i64 f.r, .slice p1 l.length c1, .string s, .int .i64 lv, .int .i64 nx, .slice p2 kp.length c2]] w fun e w' => e = .returned (.bool false) ∧ Ch [] w w' := by
  have QF : ∀ W, (binOp .neq 26 (.agg #[.int .i64 f.k, .int .i64 f.p, .int .i64 f.q, .string f.s, .int .i64 f.r]) (.agg #[.int .i64 0, .int .i64 0, .int .i64 0, .string ⟨#[]⟩, .int .i64 0])).run Try.prog W = .ok (.bool true) W := fun W => by
    have := neq_v5g f v5z W
    rw [show (!decide (f = v5z)) = true by simp [hd]] at this
    exact this
  clear hd
  go_enter Try.func38, Try.ntmps38
  go_wp2
  go_ret
  exact ⟨rfl, by first | exact (Ch.refl [] w).alloc _ | exact ((Ch.refl [] w).alloc _).drew⟩
set_option maxHeartbeats 2000000 in
theorem rf_2_1 (op : Int) (l : List V5) (s : ByteArray) (lv : Int) (nx : Int) (kp : List V5) (p1 p2 : Option Addr) (c1 c2 : Nat) (w : World) (hd : ¬ nx = 0) :
    Calls Try.prog 38 #[.agg #[.int .i64 2, .int .i64 op, .int .i64 0, .int .i64 0, .int .i64 0, .string ⟨#[]⟩, .int .i64 0, .slice p1 l.length c1, .string s, .int .i64 lv, .int .i64 nx, .slice p2 kp.length c2]] w fun e w' => e = .returned (.bool false) ∧ Ch [] w w' := by
  have hd1 : (nx == 0) = false := by rw [beq_eq_false_iff_ne]; exact hd
  have hd2 : (nx != 0) = true := by rw [bne_iff_ne]; exact hd
  have QF : ∀ W, (binOp .neq 26 (.agg #[.int .i64 0, .int .i64 0, .int .i64 0, .string ⟨#[]⟩, .int .i64 0]) (.agg #[.int .i64 0, .int .i64 0, .int .i64 0, .string ⟨#[]⟩, .int .i64 0])).run Try.prog W = .ok (.bool false) W := fun W => by
    have := neq_v5g v5z v5z W
    rw [show (!decide (v5z = v5z)) = false by simp] at this
    exact this
  go_enter Try.func38, Try.ntmps38
  go_wp2
  go_ret
  exact ⟨rfl, by first | exact (Ch.refl [] w).alloc _ | exact ((Ch.refl [] w).alloc _).drew⟩
set_option maxHeartbeats 2000000 in
theorem rf_2_2 (op : Int) (l : List V5) (s : ByteArray) (lv : Int) (kp : List V5) (p1 p2 : Option Addr) (c1 c2 : Nat) (w : World) (hd : ¬ kp = []) :
    Calls Try.prog 38 #[.agg #[.int .i64 2, .int .i64 op, .int .i64 0, .int .i64 0, .int .i64 0, .string ⟨#[]⟩, .int .i64 0, .slice p1 l.length c1, .string s, .int .i64 lv, .int .i64 0, .slice p2 kp.length c2]] w fun e w' => e = .returned (.bool false) ∧ Ch [] w w' := by
  have hd1 : (0 : Int) < (kp.length : Int) := by rcases kp with _ | ⟨x, q⟩; (first | exact absurd rfl hd | contradiction); simp
  have QF : ∀ W, (binOp .neq 26 (.agg #[.int .i64 0, .int .i64 0, .int .i64 0, .string ⟨#[]⟩, .int .i64 0]) (.agg #[.int .i64 0, .int .i64 0, .int .i64 0, .string ⟨#[]⟩, .int .i64 0])).run Try.prog W = .ok (.bool false) W := fun W => by
    have := neq_v5g v5z v5z W
    rw [show (!decide (v5z = v5z)) = false by simp] at this
    exact this
  go_enter Try.func38, Try.ntmps38
  go_wp2
  go_ret
  exact ⟨rfl, by first | exact (Ch.refl [] w).alloc _ | exact ((Ch.refl [] w).alloc _).drew⟩
set_option maxHeartbeats 2000000 in
theorem rf_2_3 (op : Int) (l : List V5) (s : ByteArray) (lv : Int) (p1 p2 : Option Addr) (c1 c2 : Nat) (w : World) (hd : ¬ s = ⟨#[]⟩) :
    Calls Try.prog 38 #[.agg #[.int .i64 2, .int .i64 op, .int .i64 0, .int .i64 0, .int .i64 0, .string ⟨#[]⟩, .int .i64 0, .slice p1 l.length c1, .string s, .int .i64 lv, .int .i64 0, .slice p2 0 c2]] w fun e w' => e = .returned (.bool false) ∧ Ch [] w w' := by
  have hd1 : ¬ s.toList = [] := fun e => hd (of_decide_eq_true (by rw [← beqS]; rw [e, ByteArray.toList_eq]; rfl))
  have hd2 : (s.toList == []) = false := by simpa using hd1
  have hd3 : (s.toList == (⟨#[]⟩ : ByteArray).toList) = false := by rw [show (⟨#[]⟩ : ByteArray).toList = [] by rw [ByteArray.toList_eq]]; exact hd2
  have QF : ∀ W, (binOp .neq 26 (.agg #[.int .i64 0, .int .i64 0, .int .i64 0, .string ⟨#[]⟩, .int .i64 0]) (.agg #[.int .i64 0, .int .i64 0, .int .i64 0, .string ⟨#[]⟩, .int .i64 0])).run Try.prog W = .ok (.bool false) W := fun W => by
    have := neq_v5g v5z v5z W
    rw [show (!decide (v5z = v5z)) = false by simp] at this
    exact this
  go_enter Try.func38, Try.ntmps38
  go_wp2
  go_ret
  exact ⟨rfl, by first | exact (Ch.refl [] w).alloc _ | exact ((Ch.refl [] w).alloc _).drew⟩
set_option maxHeartbeats 2000000 in
theorem rf_2_4 (op : Int) (l : List V5) (lv : Int) (p1 p2 : Option Addr) (c1 c2 : Nat) (w : World) (hd : ¬ op = 0) :
    Calls Try.prog 38 #[.agg #[.int .i64 2, .int .i64 op, .int .i64 0, .int .i64 0, .int .i64 0, .string ⟨#[]⟩, .int .i64 0, .slice p1 l.length c1, .string ⟨#[]⟩, .int .i64 lv, .int .i64 0, .slice p2 0 c2]] w fun e w' => e = .returned (.bool false) ∧ Ch [] w w' := by
  have hd1 : (op == 0) = false := by rw [beq_eq_false_iff_ne]; exact hd
  have hd2 : (op != 0) = true := by rw [bne_iff_ne]; exact hd
  have QF : ∀ W, (binOp .neq 26 (.agg #[.int .i64 0, .int .i64 0, .int .i64 0, .string ⟨#[]⟩, .int .i64 0]) (.agg #[.int .i64 0, .int .i64 0, .int .i64 0, .string ⟨#[]⟩, .int .i64 0])).run Try.prog W = .ok (.bool false) W := fun W => by
    have := neq_v5g v5z v5z W
    rw [show (!decide (v5z = v5z)) = false by simp] at this
    exact this
  go_enter Try.func38, Try.ntmps38
  go_wp2
  go_ret
  exact ⟨rfl, by first | exact (Ch.refl [] w).alloc _ | exact ((Ch.refl [] w).alloc _).drew⟩
set_option maxHeartbeats 2000000 in
theorem rf_2_5 (l : List V5) (lv : Int) (p1 p2 : Option Addr) (c1 c2 : Nat) (w : World) :
    Calls Try.prog 38 #[.agg #[.int .i64 2, .int .i64 0, .int .i64 0, .int .i64 0, .int .i64 0, .string ⟨#[]⟩, .int .i64 0, .slice p1 l.length c1, .string ⟨#[]⟩, .int .i64 lv, .int .i64 0, .slice p2 0 c2]] w fun e w' => e = .returned (.bool true) ∧ Ch [] w w' := by
  have QF : ∀ W, (binOp .neq 26 (.agg #[.int .i64 0, .int .i64 0, .int .i64 0, .string ⟨#[]⟩, .int .i64 0]) (.agg #[.int .i64 0, .int .i64 0, .int .i64 0, .string ⟨#[]⟩, .int .i64 0])).run Try.prog W = .ok (.bool false) W := fun W => by
    have := neq_v5g v5z v5z W
    rw [show (!decide (v5z = v5z)) = false by simp] at this
    exact this
  go_enter Try.func38, Try.ntmps38
  go_wp2
  go_ret
  exact ⟨rfl, by first | exact (Ch.refl [] w).alloc _ | exact ((Ch.refl [] w).alloc _).drew⟩
set_option maxHeartbeats 2000000 in
theorem rf_3_0 (op : Int) (f : V5) (l : List V5) (s : ByteArray) (lv : Int) (nx : Int) (kp : List V5) (p1 p2 : Option Addr) (c1 c2 : Nat) (w : World) (hd : ¬ s = ⟨#[]⟩) :
    Calls Try.prog 38 #[.agg #[.int .i64 3, .int .i64 op, .int .i64 f.k, .int .i64 f.p, .int .i64 f.q, .string f.s, .int .i64 f.r, .slice p1 l.length c1, .string s, .int .i64 lv, .int .i64 nx, .slice p2 kp.length c2]] w fun e w' => e = .returned (.bool false) ∧ Ch [] w w' := by
  have hd1 : ¬ s.toList = [] := fun e => hd (of_decide_eq_true (by rw [← beqS]; rw [e, ByteArray.toList_eq]; rfl))
  have hd2 : (s.toList == []) = false := by simpa using hd1
  have hd3 : (s.toList == (⟨#[]⟩ : ByteArray).toList) = false := by rw [show (⟨#[]⟩ : ByteArray).toList = [] by rw [ByteArray.toList_eq]]; exact hd2
  go_enter Try.func38, Try.ntmps38
  go_wp2
  go_ret
  exact ⟨rfl, by first | exact (Ch.refl [] w).alloc _ | exact ((Ch.refl [] w).alloc _).drew⟩
set_option maxHeartbeats 2000000 in
theorem rf_3_1 (op : Int) (f : V5) (l : List V5) (lv : Int) (nx : Int) (kp : List V5) (p1 p2 : Option Addr) (c1 c2 : Nat) (w : World) (hd : ¬ op = 0) :
    Calls Try.prog 38 #[.agg #[.int .i64 3, .int .i64 op, .int .i64 f.k, .int .i64 f.p, .int .i64 f.q, .string f.s, .int .i64 f.r, .slice p1 l.length c1, .string ⟨#[]⟩, .int .i64 lv, .int .i64 nx, .slice p2 kp.length c2]] w fun e w' => e = .returned (.bool false) ∧ Ch [] w w' := by
  have hd1 : (op == 0) = false := by rw [beq_eq_false_iff_ne]; exact hd
  have hd2 : (op != 0) = true := by rw [bne_iff_ne]; exact hd
  go_enter Try.func38, Try.ntmps38
  go_wp2
  go_ret
  exact ⟨rfl, by first | exact (Ch.refl [] w).alloc _ | exact ((Ch.refl [] w).alloc _).drew⟩
set_option maxHeartbeats 2000000 in
theorem rf_3_2 (f : V5) (l : List V5) (lv : Int) (nx : Int) (kp : List V5) (p1 p2 : Option Addr) (c1 c2 : Nat) (w : World) (hd : ¬ lv = 0) :
    Calls Try.prog 38 #[.agg #[.int .i64 3, .int .i64 0, .int .i64 f.k, .int .i64 f.p, .int .i64 f.q, .string f.s, .int .i64 f.r, .slice p1 l.length c1, .string ⟨#[]⟩, .int .i64 lv, .int .i64 nx, .slice p2 kp.length c2]] w fun e w' => e = .returned (.bool false) ∧ Ch [] w w' := by
  have hd1 : (lv == 0) = false := by rw [beq_eq_false_iff_ne]; exact hd
  have hd2 : (lv != 0) = true := by rw [bne_iff_ne]; exact hd
  go_enter Try.func38, Try.ntmps38
  go_wp2
  go_ret
  exact ⟨rfl, by first | exact (Ch.refl [] w).alloc _ | exact ((Ch.refl [] w).alloc _).drew⟩
set_option maxHeartbeats 2000000 in
theorem rf_3_3 (f : V5) (l : List V5) (nx : Int) (kp : List V5) (p1 p2 : Option Addr) (c1 c2 : Nat) (w : World) :
    Calls Try.prog 38 #[.agg #[.int .i64 3, .int .i64 0, .int .i64 f.k, .int .i64 f.p, .int .i64 f.q, .string f.s, .int .i64 f.r, .slice p1 l.length c1, .string ⟨#[]⟩, .int .i64 0, .int .i64 nx, .slice p2 kp.length c2]] w fun e w' => e = .returned (.bool true) ∧ Ch [] w w' := by
  go_enter Try.func38, Try.ntmps38
  go_wp2
  go_ret
  exact ⟨rfl, by first | exact (Ch.refl [] w).alloc _ | exact ((Ch.refl [] w).alloc _).drew⟩
set_option maxHeartbeats 2000000 in
theorem rf_4_0 (op : Int) (f : V5) (l : List V5) (s : ByteArray) (lv : Int) (nx : Int) (kp : List V5) (p1 p2 : Option Addr) (c1 c2 : Nat) (w : World) (hd : ¬ s = ⟨#[]⟩) :
    Calls Try.prog 38 #[.agg #[.int .i64 4, .int .i64 op, .int .i64 f.k, .int .i64 f.p, .int .i64 f.q, .string f.s, .int .i64 f.r, .slice p1 l.length c1, .string s, .int .i64 lv, .int .i64 nx, .slice p2 kp.length c2]] w fun e w' => e = .returned (.bool false) ∧ Ch [] w w' := by
  have hd1 : ¬ s.toList = [] := fun e => hd (of_decide_eq_true (by rw [← beqS]; rw [e, ByteArray.toList_eq]; rfl))
  have hd2 : (s.toList == []) = false := by simpa using hd1
  have hd3 : (s.toList == (⟨#[]⟩ : ByteArray).toList) = false := by rw [show (⟨#[]⟩ : ByteArray).toList = [] by rw [ByteArray.toList_eq]]; exact hd2
  go_enter Try.func38, Try.ntmps38
  go_wp2
  go_ret
  exact ⟨rfl, by first | exact (Ch.refl [] w).alloc _ | exact ((Ch.refl [] w).alloc _).drew⟩
set_option maxHeartbeats 2000000 in
theorem rf_4_1 (op : Int) (f : V5) (l : List V5) (lv : Int) (nx : Int) (kp : List V5) (p1 p2 : Option Addr) (c1 c2 : Nat) (w : World) (hd : ¬ op = 0) :
    Calls Try.prog 38 #[.agg #[.int .i64 4, .int .i64 op, .int .i64 f.k, .int .i64 f.p, .int .i64 f.q, .string f.s, .int .i64 f.r, .slice p1 l.length c1, .string ⟨#[]⟩, .int .i64 lv, .int .i64 nx, .slice p2 kp.length c2]] w fun e w' => e = .returned (.bool false) ∧ Ch [] w w' := by
  have hd1 : (op == 0) = false := by rw [beq_eq_false_iff_ne]; exact hd
  have hd2 : (op != 0) = true := by rw [bne_iff_ne]; exact hd
  go_enter Try.func38, Try.ntmps38
  go_wp2
  go_ret
  exact ⟨rfl, by first | exact (Ch.refl [] w).alloc _ | exact ((Ch.refl [] w).alloc _).drew⟩
set_option maxHeartbeats 2000000 in
theorem rf_4_2 (f : V5) (l : List V5) (lv : Int) (nx : Int) (kp : List V5) (p1 p2 : Option Addr) (c1 c2 : Nat) (w : World) (hd : ¬ lv = 0) :
    Calls Try.prog 38 #[.agg #[.int .i64 4, .int .i64 0, .int .i64 f.k, .int .i64 f.p, .int .i64 f.q, .string f.s, .int .i64 f.r, .slice p1 l.length c1, .string ⟨#[]⟩, .int .i64 lv, .int .i64 nx, .slice p2 kp.length c2]] w fun e w' => e = .returned (.bool false) ∧ Ch [] w w' := by
  have hd1 : (lv == 0) = false := by rw [beq_eq_false_iff_ne]; exact hd
  have hd2 : (lv != 0) = true := by rw [bne_iff_ne]; exact hd
  go_enter Try.func38, Try.ntmps38
  go_wp2
  go_ret
  exact ⟨rfl, by first | exact (Ch.refl [] w).alloc _ | exact ((Ch.refl [] w).alloc _).drew⟩
set_option maxHeartbeats 2000000 in
theorem rf_4_3 (f : V5) (l : List V5) (nx : Int) (kp : List V5) (p1 p2 : Option Addr) (c1 c2 : Nat) (w : World) :
    Calls Try.prog 38 #[.agg #[.int .i64 4, .int .i64 0, .int .i64 f.k, .int .i64 f.p, .int .i64 f.q, .string f.s, .int .i64 f.r, .slice p1 l.length c1, .string ⟨#[]⟩, .int .i64 0, .int .i64 nx, .slice p2 kp.length c2]] w fun e w' => e = .returned (.bool true) ∧ Ch [] w w' := by
  go_enter Try.func38, Try.ntmps38
  go_wp2
  go_ret
  exact ⟨rfl, by first | exact (Ch.refl [] w).alloc _ | exact ((Ch.refl [] w).alloc _).drew⟩
end Go.Proofs.Ytdgdpckjcpgoaaa
