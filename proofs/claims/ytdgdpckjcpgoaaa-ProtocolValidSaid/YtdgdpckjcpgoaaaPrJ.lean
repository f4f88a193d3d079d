/- Layer 20: the reference's fields. -/
import Derived.Test.YtdgdpckjcpgoaaaPrE
namespace Go.Proofs.Ytdgdpckjcpgoaaa
open Go.RowKit Go.Joins M1
set_option linter.unusedVariables false
set_option maxHeartbeats 2000000 in
theorem rf_5_0 (op : Int) (f : V5) (l : List V5) (s : ByteArray) (lv : Int) (nx : Int) (kp : List V5) (p1 p2 : Option Addr) (c1 c2 : Nat) (w : World) (hd : ¬ f = v5z) :
    Calls Try.prog 38 #[.agg #[.int .i64 5, .int .i64 op, .int .i64 f.k, .int .i64 f.p, .int .i64 f.q, .string f.s, .int .i64 f.r, .slice p1 l.length c1, .string s, .int .i64 lv, .int .i64 nx, .slice p2 kp.length c2]] w fun e w' => e = .returned (.bool false) ∧ Ch [] w w' := by
  have QF : ∀ W, (binOp .neq 26 (.agg #[.int .i64 f.k, .int .i64 f.p, .int .i64 f.q, .string f.s, .int .i64 f.r]) (.agg #[.int .i64 0, .int .i64 0, .int .i64 0, .string ⟨#[]⟩, .int .i64 0])).run Try.prog W = .ok (.bool true) W := fun W => by
    have := neq_v5g f v5z W
    rw [show (!decide (f = v5z)) = true by simp [hd]] at this
    exact this
  clear hd
  go_enter Try.func38, Try.ntmps38
  go_wp2
  go_ret
  exact ⟨rfl, by first | exact (Ch.refl [] w).alloc _ | exact ((Ch.refl [] w).alloc _).drew⟩
set_option maxHeartbeats 2000000 in
theorem rf_5_1 (op : Int) (l : List V5) (s : ByteArray) (lv : Int) (nx : Int) (kp : List V5) (p1 p2 : Option Addr) (c1 c2 : Nat) (w : World) (hd : ¬ s = ⟨#[]⟩) :
    Calls Try.prog 38 #[.agg #[.int .i64 5, .int .i64 op, .int .i64 0, .int .i64 0, .int .i64 0, .string ⟨#[]⟩, .int .i64 0, .slice p1 l.length c1, .string s, .int .i64 lv, .int .i64 nx, .slice p2 kp.length c2]] w fun e w' => e = .returned (.bool false) ∧ Ch [] w w' := by
  have hd1 : ¬ s.toList = [] := fun e => hd (of_decide_eq_true (by rw [← beqS]; rw [e, ByteArray.toList_eq]; rfl))
  have hd2 : (s.toList == []) = false := by simpa using hd1
  have hd3 : (s.toList == (⟨#[]⟩ : ByteArray).toList) = false := by rw [show (⟨#[]⟩ : ByteArray).toList = [] by rw [ByteArray.toList_eq]]; exact hd2
  have QF : ∀ W, (binOp .neq 26 (.agg #[.int .i64 0, .int .i64 0, .int .i64 0, .string ⟨#[]⟩, .int .i64 0]) (.agg #[.int .i64 0, .int .i64 0, .int .i64 0, .string ⟨#[]⟩, .int .i64 0])).run Try.prog W = .ok (.bool false) W := fun W => by
    have := neq_v5g v5z v5z W
    rw [show (!decide (v5z = v5z)) = false by simp] at this
    exact this
  go_enter Try.func38, Try.ntmps38
  go_wp2
  go_ret
  exact ⟨rfl, by first | exact (Ch.refl [] w).alloc _ | exact ((Ch.refl [] w).alloc _).drew⟩
set_option maxHeartbeats 2000000 in
theorem rf_5_2 (op : Int) (l : List V5) (lv : Int) (nx : Int) (kp : List V5) (p1 p2 : Option Addr) (c1 c2 : Nat) (w : World) (hd : ¬ op = 0) :
    Calls Try.prog 38 #[.agg #[.int .i64 5, .int .i64 op, .int .i64 0, .int .i64 0, .int .i64 0, .string ⟨#[]⟩, .int .i64 0, .slice p1 l.length c1, .string ⟨#[]⟩, .int .i64 lv, .int .i64 nx, .slice p2 kp.length c2]] w fun e w' => e = .returned (.bool false) ∧ Ch [] w w' := by
  have hd1 : (op == 0) = false := by rw [beq_eq_false_iff_ne]; exact hd
  have hd2 : (op != 0) = true := by rw [bne_iff_ne]; exact hd
  have QF : ∀ W, (binOp .neq 26 (.agg #[.int .i64 0, .int .i64 0, .int .i64 0, .string ⟨#[]⟩, .int .i64 0]) (.agg #[.int .i64 0, .int .i64 0, .int .i64 0, .string ⟨#[]⟩, .int .i64 0])).run Try.prog W = .ok (.bool false) W := fun W => by
    have := neq_v5g v5z v5z W
    rw [show (!decide (v5z = v5z)) = false by simp] at this
    exact this
  go_enter Try.func38, Try.ntmps38
  go_wp2
  go_ret
  exact ⟨rfl, by first | exact (Ch.refl [] w).alloc _ | exact ((Ch.refl [] w).alloc _).drew⟩
set_option maxHeartbeats 2000000 in
theorem rf_5_3 (l : List V5) (lv : Int) (nx : Int) (kp : List V5) (p1 p2 : Option Addr) (c1 c2 : Nat) (w : World) (hd : ¬ lv = 0) :
    Calls Try.prog 38 #[.agg #[.int .i64 5, .int .i64 0, .int .i64 0, .int .i64 0, .int .i64 0, .string ⟨#[]⟩, .int .i64 0, .slice p1 l.length c1, .string ⟨#[]⟩, .int .i64 lv, .int .i64 nx, .slice p2 kp.length c2]] w fun e w' => e = .returned (.bool false) ∧ Ch [] w w' := by
  have hd1 : (lv == 0) = false := by rw [beq_eq_false_iff_ne]; exact hd
  have hd2 : (lv != 0) = true := by rw [bne_iff_ne]; exact hd
  have QF : ∀ W, (binOp .neq 26 (.agg #[.int .i64 0, .int .i64 0, .int .i64 0, .string ⟨#[]⟩, .int .i64 0]) (.agg #[.int .i64 0, .int .i64 0, .int .i64 0, .string ⟨#[]⟩, .int .i64 0])).run Try.prog W = .ok (.bool false) W := fun W => by
    have := neq_v5g v5z v5z W
    rw [show (!decide (v5z = v5z)) = false by simp] at this
    exact this
  go_enter Try.func38, Try.ntmps38
  go_wp2
  go_ret
  exact ⟨rfl, by first | exact (Ch.refl [] w).alloc _ | exact ((Ch.refl [] w).alloc _).drew⟩
set_option maxHeartbeats 2000000 in
theorem rf_5_4 (l : List V5) (nx : Int) (kp : List V5) (p1 p2 : Option Addr) (c1 c2 : Nat) (w : World) :
    Calls Try.prog 38 #[.agg #[.int .i64 5, .int .i64 0, .int .i64 0, .int .i64 0, .int .i64 0, .string ⟨#[]⟩, .int .i64 0, .slice p1 l.length c1, .string ⟨#[]⟩, .int .i64 0, .int .i64 nx, .slice p2 kp.length c2]] w fun e w' => e = .returned (.bool true) ∧ Ch [] w w' := by
  have QF : ∀ W, (binOp .neq 26 (.agg #[.int .i64 0, .int .i64 0, .int .i64 0, .string ⟨#[]⟩, .int .i64 0]) (.agg #[.int .i64 0, .int .i64 0, .int .i64 0, .string ⟨#[]⟩, .int .i64 0])).run Try.prog W = .ok (.bool false) W := fun W => by
    have := neq_v5g v5z v5z W
    rw [show (!decide (v5z = v5z)) = false by simp] at this
    exact this
  go_enter Try.func38, Try.ntmps38
  go_wp2
  go_ret
  exact ⟨rfl, by first | exact (Ch.refl [] w).alloc _ | exact ((Ch.refl [] w).alloc _).drew⟩
set_option maxHeartbeats 2000000 in
theorem rf_6_0 (op : Int) (f : V5) (l : List V5) (s : ByteArray) (lv : Int) (nx : Int) (kp : List V5) (p1 p2 : Option Addr) (c1 c2 : Nat) (w : World) (hd : ¬ f = v5z) :
    Calls Try.prog 38 #[.agg #[.int .i64 6, .int .i64 op, .int .i64 f.k, .int .i64 f.p, .int .i64 f.q, .string f.s, .int .i64 f.r, .slice p1 l.length c1, .string s, .int .i64 lv, .int .i64 nx, .slice p2 kp.length c2]] w fun e w' => e = .returned (.bool false) ∧ Ch [] w w' := by
  have QF : ∀ W, (binOp .neq 26 (.agg #[.int .i64 f.k, .int .i64 f.p, .int .i64 f.q, .string f.s, .int .i64 f.r]) (.agg #[.int .i64 0, .int .i64 0, .int .i64 0, .string ⟨#[]⟩, .int .i64 0])).run Try.prog W = .ok (.bool true) W := fun W => by
    have := neq_v5g f v5z W
    rw [show (!decide (f = v5z)) = true by simp [hd]] at this
    exact this
  clear hd
  go_enter Try.func38, Try.ntmps38
  go_wp2
  go_ret
  exact ⟨rfl, by first | exact (Ch.refl [] w).alloc _ | exact ((Ch.refl [] w).alloc _).drew⟩
set_option maxHeartbeats 2000000 in
theorem rf_6_1 (op : Int) (l : List V5) (s : ByteArray) (lv : Int) (nx : Int) (kp : List V5) (p1 p2 : Option Addr) (c1 c2 : Nat) (w : World) (hd : ¬ nx = 0) :
    Calls Try.prog 38 #[.agg #[.int .i64 6, .int .i64 op, .int .i64 0, .int .i64 0, .int .i64 0, .string ⟨#[]⟩, .int .i64 0, .slice p1 l.length c1, .string s, .int .i64 lv, .int .i64 nx, .slice p2 kp.length c2]] w fun e w' => e = .returned (.bool false) ∧ Ch [] w w' := by
  have hd1 : (nx == 0) = false := by rw [beq_eq_false_iff_ne]; exact hd
  have hd2 : (nx != 0) = true := by rw [bne_iff_ne]; exact hd
  have QF : ∀ W, (binOp .neq 26 (.agg #[.int .i64 0, .int .i64 0, .int .i64 0, .string ⟨#[]⟩, .int .i64 0]) (.agg #[.int .i64 0, .int .i64 0, .int .i64 0, .string ⟨#[]⟩, .int .i64 0])).run Try.prog W = .ok (.bool false) W := fun W => by
    have := neq_v5g v5z v5z W
    rw [show (!decide (v5z = v5z)) = false by simp] at this
    exact this
  go_enter Try.func38, Try.ntmps38
  go_wp2
  go_ret
  exact ⟨rfl, by first | exact (Ch.refl [] w).alloc _ | exact ((Ch.refl [] w).alloc _).drew⟩
set_option maxHeartbeats 2000000 in
theorem rf_6_2 (op : Int) (l : List V5) (s : ByteArray) (lv : Int) (kp : List V5) (p1 p2 : Option Addr) (c1 c2 : Nat) (w : World) (hd : ¬ kp = []) :
    Calls Try.prog 38 #[.agg #[.int .i64 6, .int .i64 op, .int .i64 0, .int .i64 0, .int .i64 0, .string ⟨#[]⟩, .int .i64 0, .slice p1 l.length c1, .string s, .int .i64 lv, .int .i64 0, .slice p2 kp.length c2]] w fun e w' => e = .returned (.bool false) ∧ Ch [] w w' := by
  have hd1 : (0 : Int) < (kp.length : Int) := by rcases kp with _ | ⟨x, q⟩; (first | exact absurd rfl hd | contradiction); simp
  have QF : ∀ W, (binOp .neq 26 (.agg #[.int .i64 0, .int .i64 0, .int .i64 0, .string ⟨#[]⟩, .int .i64 0]) (.agg #[.int .i64 0, .int .i64 0, .int .i64 0, .string ⟨#[]⟩, .int .i64 0])).run Try.prog W = .ok (.bool false) W := fun W => by
    have := neq_v5g v5z v5z W
    rw [show (!decide (v5z = v5z)) = false by simp] at this
    exact this
  go_enter Try.func38, Try.ntmps38
  go_wp2
  go_ret
  exact ⟨rfl, by first | exact (Ch.refl [] w).alloc _ | exact ((Ch.refl [] w).alloc _).drew⟩
set_option maxHeartbeats 2000000 in
theorem rf_6_3 (op : Int) (l : List V5) (s : ByteArray) (lv : Int) (p1 p2 : Option Addr) (c1 c2 : Nat) (w : World) (hd : ¬ s = ⟨#[]⟩) :
    Calls Try.prog 38 #[.agg #[.int .i64 6, .int .i64 op, .int .i64 0, .int .i64 0, .int .i64 0, .string ⟨#[]⟩, .int .i64 0, .slice p1 l.length c1, .string s, .int .i64 lv, .int .i64 0, .slice p2 0 c2]] w fun e w' => e = .returned (.bool false) ∧ Ch [] w w' := by
  have hd1 : ¬ s.toList = [] := fun e => hd (of_decide_eq_true (by rw [← beqS]; rw [e, ByteArray.toList_eq]; rfl))
  have hd2 : (s.toList == []) = false := by simpa using hd1
  have hd3 : (s.toList == (⟨#[]⟩ : ByteArray).toList) = false := by rw [show (⟨#[]⟩ : ByteArray).toList = [] by rw [ByteArray.toList_eq]]; exact hd2
  have QF : ∀ W, (binOp .neq 26 (.agg #[.int .i64 0, .int .i64 0, .int .i64 0, .string ⟨#[]⟩, .int .i64 0]) (.agg #[.int .i64 0, .int .i64 0, .int .i64 0, .string ⟨#[]⟩, .int .i64 0])).run Try.prog W = .ok (.bool false) W := fun W => by
    have := neq_v5g v5z v5z W
    rw [show (!decide (v5z = v5z)) = false by simp] at this
    exact this
  go_enter Try.func38, Try.ntmps38
  go_wp2
  go_ret
  exact ⟨rfl, by first | exact (Ch.refl [] w).alloc _ | exact ((Ch.refl [] w).alloc _).drew⟩
set_option maxHeartbeats 2000000 in
theorem rf_6_4 (op : Int) (l : List V5) (lv : Int) (p1 p2 : Option Addr) (c1 c2 : Nat) (w : World) (hd : ¬ lv = 0) :
    Calls Try.prog 38 #[.agg #[.int .i64 6, .int .i64 op, .int .i64 0, .int .i64 0, .int .i64 0, .string ⟨#[]⟩, .int .i64 0, .slice p1 l.length c1, .string ⟨#[]⟩, .int .i64 lv, .int .i64 0, .slice p2 0 c2]] w fun e w' => e = .returned (.bool false) ∧ Ch [] w w' := by
  have hd1 : (lv == 0) = false := by rw [beq_eq_false_iff_ne]; exact hd
  have hd2 : (lv != 0) = true := by rw [bne_iff_ne]; exact hd
  have QF : ∀ W, (binOp .neq 26 (.agg #[.int .i64 0, .int .i64 0, .int .i64 0, .string ⟨#[]⟩, .int .i64 0]) (.agg #[.int .i64 0, .int .i64 0, .int .i64 0, .string ⟨#[]⟩, .int .i64 0])).run Try.prog W = .ok (.bool false) W := fun W => by
    have := neq_v5g v5z v5z W
    rw [show (!decide (v5z = v5z)) = false by simp] at this
    exact this
  go_enter Try.func38, Try.ntmps38
  go_wp2
  go_ret
  exact ⟨rfl, by first | exact (Ch.refl [] w).alloc _ | exact ((Ch.refl [] w).alloc _).drew⟩
set_option maxHeartbeats 2000000 in
theorem rf_6_5 (op : Int) (l : List V5) (p1 p2 : Option Addr) (c1 c2 : Nat) (w : World) :
    Calls Try.prog 38 #[.agg #[.int .i64 6, .int .i64 op, .int .i64 0, .int .i64 0, .int .i64 0, .string ⟨#[]⟩, .int .i64 0, .slice p1 l.length c1, .string ⟨#[]⟩, .int .i64 0, .int .i64 0, .slice p2 0 c2]] w fun e w' => e = .returned (.bool true) ∧ Ch [] w w' := by
  have QF : ∀ W, (binOp .neq 26 (.agg #[.int .i64 0, .int .i64 0, .int .i64 0, .string ⟨#[]⟩, .int .i64 0]) (.agg #[.int .i64 0, .int .i64 0, .int .i64 0, .string ⟨#[]⟩, .int .i64 0])).run Try.prog W = .ok (.bool false) W := fun W => by
    have := neq_v5g v5z v5z W
    rw [show (!decide (v5z = v5z)) = false by simp] at this
    exact this
  go_enter Try.func38, Try.ntmps38
  go_wp2
  go_ret
  exact ⟨rfl, by first | exact (Ch.refl [] w).alloc _ | exact ((Ch.refl [] w).alloc _).drew⟩
set_option maxHeartbeats 2000000 in
theorem rf_7_0 (op : Int) (f : V5) (l : List V5) (s : ByteArray) (lv : Int) (nx : Int) (kp : List V5) (p1 p2 : Option Addr) (c1 c2 : Nat) (w : World) (hd : ¬ f = v5z) :
    Calls Try.prog 38 #[.agg #[.int .i64 7, .int .i64 op, .int .i64 f.k, .int .i64 f.p, .int .i64 f.q, .string f.s, .int .i64 f.r, .slice p1 l.length c1, .string s, .int .i64 lv, .int .i64 nx, .slice p2 kp.length c2]] w fun e w' => e = .returned (.bool false) ∧ Ch [] w w' := by
  have QF : ∀ W, (binOp .neq 26 (.agg #[.int .i64 f.k, .int .i64 f.p, .int .i64 f.q, .string f.s, .int .i64 f.r]) (.agg #[.int .i64 0, .int .i64 0, .int .i64 0, .string ⟨#[]⟩, .int .i64 0])).run Try.prog W = .ok (.bool true) W := fun W => by
    have := neq_v5g f v5z W
    rw [show (!decide (f = v5z)) = true by simp [hd]] at this
    exact this
  clear hd
  go_enter Try.func38, Try.ntmps38
  go_wp2
  go_ret
  exact ⟨rfl, by first | exact (Ch.refl [] w).alloc _ | exact ((Ch.refl [] w).alloc _).drew⟩
set_option maxHeartbeats 2000000 in
theorem rf_7_1 (op : Int) (l : List V5) (s : ByteArray) (lv : Int) (nx : Int) (kp : List V5) (p1 p2 : Option Addr) (c1 c2 : Nat) (w : World) (hd : ¬ s = ⟨#[]⟩) :
    Calls Try.prog 38 #[.agg #[.int .i64 7, .int .i64 op, .int .i64 0, .int .i64 0, .int .i64 0, .string ⟨#[]⟩, .int .i64 0, .slice p1 l.length c1, .string s, .int .i64 lv, .int .i64 nx, .slice p2 kp.length c2]] w fun e w' => e = .returned (.bool false) ∧ Ch [] w w' := by
  have hd1 : ¬ s.toList = [] := fun e => hd (of_decide_eq_true (by rw [← beqS]; rw [e, ByteArray.toList_eq]; rfl))
  have hd2 : (s.toList == []) = false := by simpa using hd1
  have hd3 : (s.toList == (⟨#[]⟩ : ByteArray).toList) = false := by rw [show (⟨#[]⟩ : ByteArray).toList = [] by rw [ByteArray.toList_eq]]; exact hd2
  have QF : ∀ W, (binOp .neq 26 (.agg #[.int .i64 0, .int .i64 0, .int .i64 0, .string ⟨#[]⟩, .int .i64 0]) (.agg #[.int .i64 0, .int .i64 0, .int .i64 0, .string ⟨#[]⟩, .int .i64 0])).run Try.prog W = .ok (.bool false) W := fun W => by
    have := neq_v5g v5z v5z W
    rw [show (!decide (v5z = v5z)) = false by simp] at this
    exact this
  go_enter Try.func38, Try.ntmps38
  go_wp2
  go_ret
  exact ⟨rfl, by first | exact (Ch.refl [] w).alloc _ | exact ((Ch.refl [] w).alloc _).drew⟩
set_option maxHeartbeats 2000000 in
theorem rf_7_2 (op : Int) (l : List V5) (lv : Int) (nx : Int) (kp : List V5) (p1 p2 : Option Addr) (c1 c2 : Nat) (w : World) (hd : ¬ l = []) :
    Calls Try.prog 38 #[.agg #[.int .i64 7, .int .i64 op, .int .i64 0, .int .i64 0, .int .i64 0, .string ⟨#[]⟩, .int .i64 0, .slice p1 l.length c1, .string ⟨#[]⟩, .int .i64 lv, .int .i64 nx, .slice p2 kp.length c2]] w fun e w' => e = .returned (.bool false) ∧ Ch [] w w' := by
  have hd1 : (0 : Int) < (l.length : Int) := by rcases l with _ | ⟨x, q⟩; (first | exact absurd rfl hd | contradiction); simp
  have QF : ∀ W, (binOp .neq 26 (.agg #[.int .i64 0, .int .i64 0, .int .i64 0, .string ⟨#[]⟩, .int .i64 0]) (.agg #[.int .i64 0, .int .i64 0, .int .i64 0, .string ⟨#[]⟩, .int .i64 0])).run Try.prog W = .ok (.bool false) W := fun W => by
    have := neq_v5g v5z v5z W
    rw [show (!decide (v5z = v5z)) = false by simp] at this
    exact this
  go_enter Try.func38, Try.ntmps38
  go_wp2
  go_ret
  exact ⟨rfl, by first | exact (Ch.refl [] w).alloc _ | exact ((Ch.refl [] w).alloc _).drew⟩
set_option maxHeartbeats 2000000 in
theorem rf_7_3 (op : Int) (lv : Int) (nx : Int) (kp : List V5) (p1 p2 : Option Addr) (c1 c2 : Nat) (w : World) (hd : ¬ op = 0) :
    Calls Try.prog 38 #[.agg #[.int .i64 7, .int .i64 op, .int .i64 0, .int .i64 0, .int .i64 0, .string ⟨#[]⟩, .int .i64 0, .slice p1 0 c1, .string ⟨#[]⟩, .int .i64 lv, .int .i64 nx, .slice p2 kp.length c2]] w fun e w' => e = .returned (.bool false) ∧ Ch [] w w' := by
  have hd1 : (op == 0) = false := by rw [beq_eq_false_iff_ne]; exact hd
  have hd2 : (op != 0) = true := by rw [bne_iff_ne]; exact hd
  have QF : ∀ W, (binOp .neq 26 (.agg #[.int .i64 0, .int .i64 0, .int .i64 0, .string ⟨#[]⟩, .int .i64 0]) (.agg #[.int .i64 0, .int .i64 0, .int .i64 0, .string ⟨#[]⟩, .int .i64 0])).run Try.prog W = .ok (.bool false) W := fun W => by
    have := neq_v5g v5z v5z W
    rw [show (!decide (v5z = v5z)) = false by simp] at this
    exact this
  go_enter Try.func38, Try.ntmps38
  go_wp2
  go_ret
  exact ⟨rfl, by first | exact (Ch.refl [] w).alloc _ | exact ((Ch.refl [] w).alloc _).drew⟩
set_option maxHeartbeats 2000000 in
theorem rf_7_4 (lv : Int) (nx : Int) (kp : List V5) (p1 p2 : Option Addr) (c1 c2 : Nat) (w : World) (hd : ¬ lv = 0) :
    Calls Try.prog 38 #[.agg #[.int .i64 7, .int .i64 0, .int .i64 0, .int .i64 0, .int .i64 0, .string ⟨#[]⟩, .int .i64 0, .slice p1 0 c1, .string ⟨#[]⟩, .int .i64 lv, .int .i64 nx, .slice p2 kp.length c2]] w fun e w' => e = .returned (.bool false) ∧ Ch [] w w' := by
  have hd1 : (lv == 0) = false := by rw [beq_eq_false_iff_ne]; exact hd
  have hd2 : (lv != 0) = true := by rw [bne_iff_ne]; exact hd
  have QF : ∀ W, (binOp .neq 26 (.agg #[.int .i64 0, .int .i64 0, .int .i64 0, .string ⟨#[]⟩, .int .i64 0]) (.agg #[.int .i64 0, .int .i64 0, .int .i64 0, .string ⟨#[]⟩, .int .i64 0])).run Try.prog W = .ok (.bool false) W := fun W => by
    have := neq_v5g v5z v5z W
    rw [show (!decide (v5z = v5z)) = false by simp] at this
    exact this
  go_enter Try.func38, Try.ntmps38
  go_wp2
  go_ret
  exact ⟨rfl, by first | exact (Ch.refl [] w).alloc _ | exact ((Ch.refl [] w).alloc _).drew⟩
set_option maxHeartbeats 2000000 in
theorem rf_7_5 (nx : Int) (kp : List V5) (p1 p2 : Option Addr) (c1 c2 : Nat) (w : World) :
    Calls Try.prog 38 #[.agg #[.int .i64 7, .int .i64 0, .int .i64 0, .int .i64 0, .int .i64 0, .string ⟨#[]⟩, .int .i64 0, .slice p1 0 c1, .string ⟨#[]⟩, .int .i64 0, .int .i64 nx, .slice p2 kp.length c2]] w fun e w' => e = .returned (.bool true) ∧ Ch [] w w' := by
  have QF : ∀ W, (binOp .neq 26 (.agg #[.int .i64 0, .int .i64 0, .int .i64 0, .string ⟨#[]⟩, .int .i64 0]) (.agg #[.int .i64 0, .int .i64 0, .int .i64 0, .string ⟨#[]⟩, .int .i64 0])).run Try.prog W = .ok (.bool false) W := fun W => by
    have := neq_v5g v5z v5z W
    rw [show (!decide (v5z = v5z)) = false by simp] at this
    exact this
  go_enter Try.func38, Try.ntmps38
  go_wp2
  go_ret
  exact ⟨rfl, by first | exact (Ch.refl [] w).alloc _ | exact ((Ch.refl [] w).alloc _).drew⟩
set_option maxHeartbeats 2000000 in
theorem rf_8_0 (op : Int) (f : V5) (l : List V5) (s : ByteArray) (lv : Int) (nx : Int) (kp : List V5) (p1 p2 : Option Addr) (c1 c2 : Nat) (w : World) (hd : ¬ f = v5z) :
    Calls Try.prog 38 #[.agg #[.int .i64 8, .int .i64 op, .int .i64 f.k, .int .i64 f.p, .int .i64 f.q, .string f.s, .int .i64 f.r, .slice p1 l.length c1, .string s, .int .i64 lv, .int .i64 nx, .slice p2 kp.length c2]] w fun e w' => e = .returned (.bool false) ∧ Ch [] w w' := by
  have QF : ∀ W, (binOp .neq 26 (.agg #[.int .i64 f.k, .int .i64 f.p, .int .i64 f.q, .string f.s, .int .i64 f.r]) (.agg #[.int .i64 0, .int .i64 0, .int .i64 0, .string ⟨#[]⟩, .int .i64 0])).run Try.prog W = .ok (.bool true) W := fun W => by
    have := neq_v5g f v5z W
    rw [show (!decide (f = v5z)) = true by simp [hd]] at this
    exact this
  clear hd
  go_enter Try.func38, Try.ntmps38
  go_wp2
  go_ret
  exact ⟨rfl, by first | exact (Ch.refl [] w).alloc _ | exact ((Ch.refl [] w).alloc _).drew⟩
set_option maxHeartbeats 2000000 in
theorem rf_8_1 (op : Int) (l : List V5) (s : ByteArray) (lv : Int) (nx : Int) (kp : List V5) (p1 p2 : Option Addr) (c1 c2 : Nat) (w : World) (hd : ¬ nx = 0) :
    Calls Try.prog 38 #[.agg #[.int .i64 8, .int .i64 op, .int .i64 0, .int .i64 0, .int .i64 0, .string ⟨#[]⟩, .int .i64 0, .slice p1 l.length c1, .string s, .int .i64 lv, .int .i64 nx, .slice p2 kp.length c2]] w fun e w' => e = .returned (.bool false) ∧ Ch [] w w' := by
  have hd1 : (nx == 0) = false := by rw [beq_eq_false_iff_ne]; exact hd
  have hd2 : (nx != 0) = true := by rw [bne_iff_ne]; exact hd
  have QF : ∀ W, (binOp .neq 26 (.agg #[.int .i64 0, .int .i64 0, .int .i64 0, .string ⟨#[]⟩, .int .i64 0]) (.agg #[.int .i64 0, .int .i64 0, .int .i64 0, .string ⟨#[]⟩, .int .i64 0])).run Try.prog W = .ok (.bool false) W := fun W => by
    have := neq_v5g v5z v5z W
    rw [show (!decide (v5z = v5z)) = false by simp] at this
    exact this
  go_enter Try.func38, Try.ntmps38
  go_wp2
  go_ret
  exact ⟨rfl, by first | exact (Ch.refl [] w).alloc _ | exact ((Ch.refl [] w).alloc _).drew⟩
set_option maxHeartbeats 2000000 in
theorem rf_8_2 (op : Int) (l : List V5) (s : ByteArray) (lv : Int) (kp : List V5) (p1 p2 : Option Addr) (c1 c2 : Nat) (w : World) (hd : ¬ kp = []) :
    Calls Try.prog 38 #[.agg #[.int .i64 8, .int .i64 op, .int .i64 0, .int .i64 0, .int .i64 0, .string ⟨#[]⟩, .int .i64 0, .slice p1 l.length c1, .string s, .int .i64 lv, .int .i64 0, .slice p2 kp.length c2]] w fun e w' => e = .returned (.bool false) ∧ Ch [] w w' := by
  have hd1 : (0 : Int) < (kp.length : Int) := by rcases kp with _ | ⟨x, q⟩; (first | exact absurd rfl hd | contradiction); simp
  have QF : ∀ W, (binOp .neq 26 (.agg #[.int .i64 0, .int .i64 0, .int .i64 0, .string ⟨#[]⟩, .int .i64 0]) (.agg #[.int .i64 0, .int .i64 0, .int .i64 0, .string ⟨#[]⟩, .int .i64 0])).run Try.prog W = .ok (.bool false) W := fun W => by
    have := neq_v5g v5z v5z W
    rw [show (!decide (v5z = v5z)) = false by simp] at this
    exact this
  go_enter Try.func38, Try.ntmps38
  go_wp2
  go_ret
  exact ⟨rfl, by first | exact (Ch.refl [] w).alloc _ | exact ((Ch.refl [] w).alloc _).drew⟩
set_option maxHeartbeats 2000000 in
theorem rf_8_3 (op : Int) (l : List V5) (s : ByteArray) (lv : Int) (p1 p2 : Option Addr) (c1 c2 : Nat) (w : World) (hd : ¬ l = []) :
    Calls Try.prog 38 #[.agg #[.int .i64 8, .int .i64 op, .int .i64 0, .int .i64 0, .int .i64 0, .string ⟨#[]⟩, .int .i64 0, .slice p1 l.length c1, .string s, .int .i64 lv, .int .i64 0, .slice p2 0 c2]] w fun e w' => e = .returned (.bool false) ∧ Ch [] w w' := by
  have hd1 : (0 : Int) < (l.length : Int) := by rcases l with _ | ⟨x, q⟩; (first | exact absurd rfl hd | contradiction); simp
  have QF : ∀ W, (binOp .neq 26 (.agg #[.int .i64 0, .int .i64 0, .int .i64 0, .string ⟨#[]⟩, .int .i64 0]) (.agg #[.int .i64 0, .int .i64 0, .int .i64 0, .string ⟨#[]⟩, .int .i64 0])).run Try.prog W = .ok (.bool false) W := fun W => by
    have := neq_v5g v5z v5z W
    rw [show (!decide (v5z = v5z)) = false by simp] at this
    exact this
  go_enter Try.func38, Try.ntmps38
  go_wp2
  go_ret
  exact ⟨rfl, by first | exact (Ch.refl [] w).alloc _ | exact ((Ch.refl [] w).alloc _).drew⟩
set_option maxHeartbeats 2000000 in
theorem rf_8_4 (op : Int) (s : ByteArray) (lv : Int) (p1 p2 : Option Addr) (c1 c2 : Nat) (w : World) (hd : ¬ op = 0) :
    Calls Try.prog 38 #[.agg #[.int .i64 8, .int .i64 op, .int .i64 0, .int .i64 0, .int .i64 0, .string ⟨#[]⟩, .int .i64 0, .slice p1 0 c1, .string s, .int .i64 lv, .int .i64 0, .slice p2 0 c2]] w fun e w' => e = .returned (.bool false) ∧ Ch [] w w' := by
  have hd1 : (op == 0) = false := by rw [beq_eq_false_iff_ne]; exact hd
  have hd2 : (op != 0) = true := by rw [bne_iff_ne]; exact hd
  have QF : ∀ W, (binOp .neq 26 (.agg #[.int .i64 0, .int .i64 0, .int .i64 0, .string ⟨#[]⟩, .int .i64 0]) (.agg #[.int .i64 0, .int .i64 0, .int .i64 0, .string ⟨#[]⟩, .int .i64 0])).run Try.prog W = .ok (.bool false) W := fun W => by
    have := neq_v5g v5z v5z W
    rw [show (!decide (v5z = v5z)) = false by simp] at this
    exact this
  go_enter Try.func38, Try.ntmps38
  go_wp2
  go_ret
  exact ⟨rfl, by first | exact (Ch.refl [] w).alloc _ | exact ((Ch.refl [] w).alloc _).drew⟩
set_option maxHeartbeats 2000000 in
theorem rf_8_5 (s : ByteArray) (lv : Int) (p1 p2 : Option Addr) (c1 c2 : Nat) (w : World) (hd : ¬ lv = 0) :
    Calls Try.prog 38 #[.agg #[.int .i64 8, .int .i64 0, .int .i64 0, .int .i64 0, .int .i64 0, .string ⟨#[]⟩, .int .i64 0, .slice p1 0 c1, .string s, .int .i64 lv, .int .i64 0, .slice p2 0 c2]] w fun e w' => e = .returned (.bool false) ∧ Ch [] w w' := by
  have hd1 : (lv == 0) = false := by rw [beq_eq_false_iff_ne]; exact hd
  have hd2 : (lv != 0) = true := by rw [bne_iff_ne]; exact hd
  have QF : ∀ W, (binOp .neq 26 (.agg #[.int .i64 0, .int .i64 0, .int .i64 0, .string ⟨#[]⟩, .int .i64 0]) (.agg #[.int .i64 0, .int .i64 0, .int .i64 0, .string ⟨#[]⟩, .int .i64 0])).run Try.prog W = .ok (.bool false) W := fun W => by
    have := neq_v5g v5z v5z W
    rw [show (!decide (v5z = v5z)) = false by simp] at this
    exact this
  go_enter Try.func38, Try.ntmps38
  go_wp2
  go_ret
  exact ⟨rfl, by first | exact (Ch.refl [] w).alloc _ | exact ((Ch.refl [] w).alloc _).drew⟩
set_option maxHeartbeats 2000000 in
theorem rf_8_6 (s : ByteArray) (p1 p2 : Option Addr) (c1 c2 : Nat) (w : World) :
    Calls Try.prog 38 #[.agg #[.int .i64 8, .int .i64 0, .int .i64 0, .int .i64 0, .int .i64 0, .string ⟨#[]⟩, .int .i64 0, .slice p1 0 c1, .string s, .int .i64 0, .int .i64 0, .slice p2 0 c2]] w fun e w' => e = .returned (.bool true) ∧ Ch [] w w' := by
  have QF : ∀ W, (binOp .neq 26 (.agg #[.int .i64 0, .int .i64 0, .int .i64 0, .string ⟨#[]⟩, .int .i64 0]) (.agg #[.int .i64 0, .int .i64 0, .int .i64 0, .string ⟨#[]⟩, .int .i64 0])).run Try.prog W = .ok (.bool false) W := fun W => by
    have := neq_v5g v5z v5z W
    rw [show (!decide (v5z = v5z)) = false by simp] at this
    exact this
  go_enter Try.func38, Try.ntmps38
  go_wp2
  go_ret
  exact ⟨rfl, by first | exact (Ch.refl [] w).alloc _ | exact ((Ch.refl [] w).alloc _).drew⟩
set_option maxHeartbeats 2000000 in
theorem rf_9_0 (op : Int) (f : V5) (l : List V5) (s : ByteArray) (lv : Int) (nx : Int) (kp : List V5) (p1 p2 : Option Addr) (c1 c2 : Nat) (w : World) (hd : ¬ f = v5z) :
    Calls Try.prog 38 #[.agg #[.int .i64 9, .int .i64 op, .int .i64 f.k, .int .i64 f.p, .int .i64 f.q, .string f.s, .int .i64 f.r, .slice p1 l.length c1, .string s, .int .i64 lv, .int .i64 nx, .slice p2 kp.length c2]] w fun e w' => e = .returned (.bool false) ∧ Ch [] w w' := by
  have QF : ∀ W, (binOp .neq 26 (.agg #[.int .i64 f.k, .int .i64 f.p, .int .i64 f.q, .string f.s, .int .i64 f.r]) (.agg #[.int .i64 0, .int .i64 0, .int .i64 0, .string ⟨#[]⟩, .int .i64 0])).run Try.prog W = .ok (.bool true) W := fun W => by
    have := neq_v5g f v5z W
    rw [show (!decide (f = v5z)) = true by simp [hd]] at this
    exact this
  clear hd
  go_enter Try.func38, Try.ntmps38
  go_wp2
  go_ret
  exact ⟨rfl, by first | exact (Ch.refl [] w).alloc _ | exact ((Ch.refl [] w).alloc _).drew⟩
set_option maxHeartbeats 2000000 in
theorem rf_9_1 (op : Int) (l : List V5) (s : ByteArray) (lv : Int) (nx : Int) (kp : List V5) (p1 p2 : Option Addr) (c1 c2 : Nat) (w : World) (hd : ¬ l = []) :
    Calls Try.prog 38 #[.agg #[.int .i64 9, .int .i64 op, .int .i64 0, .int .i64 0, .int .i64 0, .string ⟨#[]⟩, .int .i64 0, .slice p1 l.length c1, .string s, .int .i64 lv, .int .i64 nx, .slice p2 kp.length c2]] w fun e w' => e = .returned (.bool false) ∧ Ch [] w w' := by
  have hd1 : (0 : Int) < (l.length : Int) := by rcases l with _ | ⟨x, q⟩; (first | exact absurd rfl hd | contradiction); simp
  have QF : ∀ W, (binOp .neq 26 (.agg #[.int .i64 0, .int .i64 0, .int .i64 0, .string ⟨#[]⟩, .int .i64 0]) (.agg #[.int .i64 0, .int .i64 0, .int .i64 0, .string ⟨#[]⟩, .int .i64 0])).run Try.prog W = .ok (.bool false) W := fun W => by
    have := neq_v5g v5z v5z W
    rw [show (!decide (v5z = v5z)) = false by simp] at this
    exact this
  go_enter Try.func38, Try.ntmps38
  go_wp2
  go_ret
  exact ⟨rfl, by first | exact (Ch.refl [] w).alloc _ | exact ((Ch.refl [] w).alloc _).drew⟩
set_option maxHeartbeats 2000000 in
theorem rf_9_2 (op : Int) (s : ByteArray) (lv : Int) (nx : Int) (kp : List V5) (p1 p2 : Option Addr) (c1 c2 : Nat) (w : World) (hd : ¬ op = 0) :
    Calls Try.prog 38 #[.agg #[.int .i64 9, .int .i64 op, .int .i64 0, .int .i64 0, .int .i64 0, .string ⟨#[]⟩, .int .i64 0, .slice p1 0 c1, .string s, .int .i64 lv, .int .i64 nx, .slice p2 kp.length c2]] w fun e w' => e = .returned (.bool false) ∧ Ch [] w w' := by
  have hd1 : (op == 0) = false := by rw [beq_eq_false_iff_ne]; exact hd
  have hd2 : (op != 0) = true := by rw [bne_iff_ne]; exact hd
  have QF : ∀ W, (binOp .neq 26 (.agg #[.int .i64 0, .int .i64 0, .int .i64 0, .string ⟨#[]⟩, .int .i64 0]) (.agg #[.int .i64 0, .int .i64 0, .int .i64 0, .string ⟨#[]⟩, .int .i64 0])).run Try.prog W = .ok (.bool false) W := fun W => by
    have := neq_v5g v5z v5z W
    rw [show (!decide (v5z = v5z)) = false by simp] at this
    exact this
  go_enter Try.func38, Try.ntmps38
  go_wp2
  go_ret
  exact ⟨rfl, by first | exact (Ch.refl [] w).alloc _ | exact ((Ch.refl [] w).alloc _).drew⟩
set_option maxHeartbeats 2000000 in
theorem rf_9_3 (s : ByteArray) (lv : Int) (nx : Int) (kp : List V5) (p1 p2 : Option Addr) (c1 c2 : Nat) (w : World) (hd : ¬ lv = 0) :
    Calls Try.prog 38 #[.agg #[.int .i64 9, .int .i64 0, .int .i64 0, .int .i64 0, .int .i64 0, .string ⟨#[]⟩, .int .i64 0, .slice p1 0 c1, .string s, .int .i64 lv, .int .i64 nx, .slice p2 kp.length c2]] w fun e w' => e = .returned (.bool false) ∧ Ch [] w w' := by
  have hd1 : (lv == 0) = false := by rw [beq_eq_false_iff_ne]; exact hd
  have hd2 : (lv != 0) = true := by rw [bne_iff_ne]; exact hd
  have QF : ∀ W, (binOp .neq 26 (.agg #[.int .i64 0, .int .i64 0, .int .i64 0, .string ⟨#[]⟩, .int .i64 0]) (.agg #[.int .i64 0, .int .i64 0, .int .i64 0, .string ⟨#[]⟩, .int .i64 0])).run Try.prog W = .ok (.bool false) W := fun W => by
    have := neq_v5g v5z v5z W
    rw [show (!decide (v5z = v5z)) = false by simp] at this
    exact this
  go_enter Try.func38, Try.ntmps38
  go_wp2
  go_ret
  exact ⟨rfl, by first | exact (Ch.refl [] w).alloc _ | exact ((Ch.refl [] w).alloc _).drew⟩
set_option maxHeartbeats 2000000 in
theorem rf_9_4 (s : ByteArray) (nx : Int) (kp : List V5) (p1 p2 : Option Addr) (c1 c2 : Nat) (w : World) :
    Calls Try.prog 38 #[.agg #[.int .i64 9, .int .i64 0, .int .i64 0, .int .i64 0, .int .i64 0, .string ⟨#[]⟩, .int .i64 0, .slice p1 0 c1, .string s, .int .i64 0, .int .i64 nx, .slice p2 kp.length c2]] w fun e w' => e = .returned (.bool true) ∧ Ch [] w w' := by
  have QF : ∀ W, (binOp .neq 26 (.agg #[.int .i64 0, .int .i64 0, .int .i64 0, .string ⟨#[]⟩, .int .i64 0]) (.agg #[.int .i64 0, .int .i64 0, .int .i64 0, .string ⟨#[]⟩, .int .i64 0])).run Try.prog W = .ok (.bool false) W := fun W => by
    have := neq_v5g v5z v5z W
    rw [show (!decide (v5z = v5z)) = false by simp] at this
    exact this
  go_enter Try.func38, Try.ntmps38
  go_wp2
  go_ret
  exact ⟨rfl, by first | exact (Ch.refl [] w).alloc _ | exact ((Ch.refl [] w).alloc _).drew⟩
end Go.Proofs.Ytdgdpckjcpgoaaa
