/- Layer 19: the reference's messages. -/
import Derived.Test.YtimblnhigoggpaaDoorFlI
namespace Go.Proofs.YtimblnhigoggpaaDoor
open Go.RowKit Go.Joins M1
set_option linter.unusedVariables false
theorem mB_0 : msgB 0 = ⟨#[]⟩ := by kernel_rfl
theorem mB_1 : msgB 1 = ⟨#[110, 105, 108, 32, 111, 98, 106, 101, 99, 116]⟩ := by kernel_rfl
theorem mB_2 : msgB 2 = ⟨#[98, 97, 100, 32, 97, 114, 103, 117, 109, 101, 110, 116]⟩ := by kernel_rfl
theorem mB_3 : msgB 3 = ⟨#[116, 111, 111, 32, 109, 97, 110, 121, 32, 118, 97, 108, 117, 101, 115]⟩ := by kernel_rfl
theorem mB_4 : msgB 4 = ⟨#[109, 97, 108, 102, 111, 114, 109, 101, 100, 32, 116, 101, 120, 116]⟩ := by kernel_rfl
theorem mB_5 : msgB 5 = ⟨#[117, 110, 101, 120, 112, 101, 99, 116, 101, 100, 32, 101, 110, 100]⟩ := by kernel_rfl
theorem mB_6 : msgB 6 = ⟨#[110, 117, 109, 98, 101, 114, 32, 111, 117, 116, 32, 111, 102, 32, 114, 97, 110, 103, 101]⟩ := by kernel_rfl
theorem mB_7 : msgB 7 = ⟨#[100, 105, 118, 105, 115, 105, 111, 110, 32, 98, 121, 32, 122, 101, 114, 111]⟩ := by kernel_rfl
theorem mB_9 : msgB 9 = ⟨#[117, 110, 107, 110, 111, 119, 110, 32, 110, 97, 109, 101]⟩ := by kernel_rfl
theorem mB_10 : msgB 10 = ⟨#[100, 101, 99, 108, 97, 114, 101, 100, 32, 116, 119, 105, 99, 101]⟩ := by kernel_rfl
theorem mB_11 : msgB 11 = ⟨#[97, 116, 116, 101, 109, 112, 116, 32, 116, 111, 32, 97, 115, 115, 105, 103, 110, 32, 116, 111, 32, 97, 32, 99, 111, 110, 115, 116, 97, 110, 116]⟩ := by kernel_rfl
theorem mB_12 : msgB 12 = ⟨#[108, 97, 98, 101, 108, 32, 105, 115, 32, 110, 111, 116, 32, 118, 105, 115, 105, 98, 108, 101]⟩ := by kernel_rfl
theorem mB_13 : msgB 13 = ⟨#[105, 110, 100, 101, 120, 32, 105, 115, 32, 110, 105, 108]⟩ := by kernel_rfl
theorem mB_14 : msgB 14 = ⟨#[115, 116, 114, 105, 110, 103, 32, 116, 111, 111, 32, 108, 111, 110, 103]⟩ := by kernel_rfl
theorem mB_15 : msgB 15 = ⟨#[99, 104, 97, 105, 110, 32, 111, 102, 32, 109, 101, 116, 97, 116, 97, 98, 108, 101, 115, 32, 116, 111, 111, 32, 108, 111, 110, 103]⟩ := by kernel_rfl
theorem mB_16 : msgB 16 = ⟨#[99, 97, 110, 110, 111, 116, 32, 114, 101, 115, 117, 109, 101, 32, 110, 111, 110, 45, 115, 117, 115, 112, 101, 110, 100, 101, 100, 32, 99, 111, 114, 111, 117, 116, 105, 110, 101]⟩ := by kernel_rfl
theorem mB_17 : msgB 17 = ⟨#[115, 116, 97, 99, 107, 32, 111, 118, 101, 114, 102, 108, 111, 119]⟩ := by kernel_rfl
theorem mB_18 : msgB 18 = ⟨#[110, 111, 116, 104, 105, 110, 103, 32, 105, 115, 32, 116, 104, 101, 114, 101]⟩ := by kernel_rfl
theorem mB_19 : msgB 19 = ⟨#[99, 97, 110, 110, 111, 116, 32, 114, 101, 115, 117, 109, 101, 32, 100, 101, 97, 100, 32, 99, 111, 114, 111, 117, 116, 105, 110, 101]⟩ := by kernel_rfl
theorem mB_20 : msgB 20 = ⟨#[119, 114, 111, 110, 103, 32, 99, 104, 101, 99, 107, 115, 117, 109]⟩ := by kernel_rfl
theorem mB_21 : msgB 21 = ⟨#[98, 121, 116, 101, 99, 111, 100, 101, 32, 105, 115, 32, 110, 111, 116, 32, 115, 97, 102, 101]⟩ := by kernel_rfl
theorem mB_22 : msgB 22 = ⟨#[116, 104, 105, 110, 103, 115, 32, 100, 111, 32, 110, 111, 116, 32, 109, 97, 116, 99, 104]⟩ := by kernel_rfl
theorem mB_23 : msgB 23 = ⟨#[110, 111, 116, 32, 101, 110, 111, 117, 103, 104, 32, 109, 101, 109, 111, 114, 121]⟩ := by kernel_rfl
theorem mB_24 : msgB 24 = ⟨#[116, 111, 111, 32, 109, 97, 110, 121, 32, 115, 116, 101, 112, 115]⟩ := by kernel_rfl
theorem mB_25 : msgB 25 = ⟨#[97, 116, 116, 101, 109, 112, 116, 32, 116, 111, 32, 121, 105, 101, 108, 100, 32, 102, 114, 111, 109, 32, 111, 117, 116, 115, 105, 100, 101, 32, 97, 32, 99, 111, 114, 111, 117, 116, 105, 110, 101]⟩ := by kernel_rfl
theorem mB_26 : msgB 26 = ⟨#[101, 114, 114, 111, 114, 32, 105, 110, 32, 97, 32, 115, 99, 114, 105, 112, 116]⟩ := by kernel_rfl
set_option maxHeartbeats 2000000 in
theorem first_1 (v : V5) (w : World) : Calls Tryd.prog 43 #[.int .i64 1, .agg #[.int .i64 v.k, .int .i64 v.p, .int .i64 v.q, .string v.s, .int .i64 v.r]] w fun e w' => e = .returned (.string ⟨#[110, 105, 108, 32, 111, 98, 106, 101, 99, 116]⟩) ∧ Ch [] w w' := by
  have HC0 : Hid (Ch [] w (w.alloc (.cells #[.int .i64 v.k, .int .i64 v.p, .int .i64 v.q, .string v.s, .int .i64 v.r] 25))) := Lib.hid ((Ch.refl [] w).alloc _)
  go_enter Tryd.func43, Tryd.ntmps43
  go_wp2
  go_ret
  exact ⟨rfl, HC0.out⟩
set_option maxHeartbeats 2000000 in
theorem first_2 (v : V5) (w : World) : Calls Tryd.prog 43 #[.int .i64 2, .agg #[.int .i64 v.k, .int .i64 v.p, .int .i64 v.q, .string v.s, .int .i64 v.r]] w fun e w' => e = .returned (.string ⟨#[98, 97, 100, 32, 97, 114, 103, 117, 109, 101, 110, 116]⟩) ∧ Ch [] w w' := by
  have HC0 : Hid (Ch [] w (w.alloc (.cells #[.int .i64 v.k, .int .i64 v.p, .int .i64 v.q, .string v.s, .int .i64 v.r] 25))) := Lib.hid ((Ch.refl [] w).alloc _)
  go_enter Tryd.func43, Tryd.ntmps43
  go_wp2
  go_ret
  exact ⟨rfl, HC0.out⟩
set_option maxHeartbeats 2000000 in
theorem first_3 (v : V5) (w : World) : Calls Tryd.prog 43 #[.int .i64 3, .agg #[.int .i64 v.k, .int .i64 v.p, .int .i64 v.q, .string v.s, .int .i64 v.r]] w fun e w' => e = .returned (.string ⟨#[116, 111, 111, 32, 109, 97, 110, 121, 32, 118, 97, 108, 117, 101, 115]⟩) ∧ Ch [] w w' := by
  have HC0 : Hid (Ch [] w (w.alloc (.cells #[.int .i64 v.k, .int .i64 v.p, .int .i64 v.q, .string v.s, .int .i64 v.r] 25))) := Lib.hid ((Ch.refl [] w).alloc _)
  go_enter Tryd.func43, Tryd.ntmps43
  go_wp2
  go_ret
  exact ⟨rfl, HC0.out⟩
set_option maxHeartbeats 2000000 in
theorem first_4 (v : V5) (w : World) : Calls Tryd.prog 43 #[.int .i64 4, .agg #[.int .i64 v.k, .int .i64 v.p, .int .i64 v.q, .string v.s, .int .i64 v.r]] w fun e w' => e = .returned (.string ⟨#[109, 97, 108, 102, 111, 114, 109, 101, 100, 32, 116, 101, 120, 116]⟩) ∧ Ch [] w w' := by
  have HC0 : Hid (Ch [] w (w.alloc (.cells #[.int .i64 v.k, .int .i64 v.p, .int .i64 v.q, .string v.s, .int .i64 v.r] 25))) := Lib.hid ((Ch.refl [] w).alloc _)
  go_enter Tryd.func43, Tryd.ntmps43
  go_wp2
  go_ret
  exact ⟨rfl, HC0.out⟩
set_option maxHeartbeats 2000000 in
theorem first_5 (v : V5) (w : World) : Calls Tryd.prog 43 #[.int .i64 5, .agg #[.int .i64 v.k, .int .i64 v.p, .int .i64 v.q, .string v.s, .int .i64 v.r]] w fun e w' => e = .returned (.string ⟨#[117, 110, 101, 120, 112, 101, 99, 116, 101, 100, 32, 101, 110, 100]⟩) ∧ Ch [] w w' := by
  have HC0 : Hid (Ch [] w (w.alloc (.cells #[.int .i64 v.k, .int .i64 v.p, .int .i64 v.q, .string v.s, .int .i64 v.r] 25))) := Lib.hid ((Ch.refl [] w).alloc _)
  go_enter Tryd.func43, Tryd.ntmps43
  go_wp2
  go_ret
  exact ⟨rfl, HC0.out⟩
set_option maxHeartbeats 2000000 in
theorem first_6 (v : V5) (w : World) : Calls Tryd.prog 43 #[.int .i64 6, .agg #[.int .i64 v.k, .int .i64 v.p, .int .i64 v.q, .string v.s, .int .i64 v.r]] w fun e w' => e = .returned (.string ⟨#[110, 117, 109, 98, 101, 114, 32, 111, 117, 116, 32, 111, 102, 32, 114, 97, 110, 103, 101]⟩) ∧ Ch [] w w' := by
  have HC0 : Hid (Ch [] w (w.alloc (.cells #[.int .i64 v.k, .int .i64 v.p, .int .i64 v.q, .string v.s, .int .i64 v.r] 25))) := Lib.hid ((Ch.refl [] w).alloc _)
  go_enter Tryd.func43, Tryd.ntmps43
  go_wp2
  go_ret
  exact ⟨rfl, HC0.out⟩
set_option maxHeartbeats 2000000 in
theorem first_7 (v : V5) (w : World) : Calls Tryd.prog 43 #[.int .i64 7, .agg #[.int .i64 v.k, .int .i64 v.p, .int .i64 v.q, .string v.s, .int .i64 v.r]] w fun e w' => e = .returned (.string ⟨#[100, 105, 118, 105, 115, 105, 111, 110, 32, 98, 121, 32, 122, 101, 114, 111]⟩) ∧ Ch [] w w' := by
  have HC0 : Hid (Ch [] w (w.alloc (.cells #[.int .i64 v.k, .int .i64 v.p, .int .i64 v.q, .string v.s, .int .i64 v.r] 25))) := Lib.hid ((Ch.refl [] w).alloc _)
  go_enter Tryd.func43, Tryd.ntmps43
  go_wp2
  go_ret
  exact ⟨rfl, HC0.out⟩
set_option maxHeartbeats 2000000 in
theorem first_8 (v : V5) (w : World) : Calls Tryd.prog 43 #[.int .i64 8, .agg #[.int .i64 v.k, .int .i64 v.p, .int .i64 v.q, .string v.s, .int .i64 v.r]] w fun e w' => e = .returned (.string (callE v.k)) ∧ Ch [] w w' := by
  have HC0 : Hid (Ch [] w (w.alloc (.cells #[.int .i64 v.k, .int .i64 v.p, .int .i64 v.q, .string v.s, .int .i64 v.r] 25))) := Lib.hid ((Ch.refl [] w).alloc _)
  have QT : Hid (∀ W, Calls Tryd.prog 51 #[.agg #[.int .i64 v.k, .int .i64 v.p, .int .i64 v.q, .string v.s, .int .i64 v.r]] W fun e w' => e = .returned (.string (typeS v.k)) ∧ Below W.heap.size W w') := Lib.hid fun W => rtype_any v.k v.p v.q v.s v.r W
  have HE : Hid (callE v.k = (⟨#[97, 116, 116, 101, 109, 112, 116, 32, 116, 111, 32, 99, 97, 108, 108, 32, 97, 32]⟩ : ByteArray) ++ typeS v.k ++ (⟨#[32, 118, 97, 108, 117, 101]⟩ : ByteArray)) := Lib.hid rfl
  have hx1 : ¬ 9223372036854775807 < 18 + (typeS v.k).size := by have := typeS_size v.k; omega
  have hx2 : ¬ 9223372036854775807 < 18 + (typeS v.k).size + 6 := by have := typeS_size v.k; omega
  go_enter Tryd.func43, Tryd.ntmps43
  go_wp2_with (go_at_call 51; (with_reducible refine (QT.out _).mono ?_); rintro e w1 ⟨rfl, hb⟩; have HC1 := Lib.hid (HC0.out.trans (Ch.of_below (S := []) hb)); clear hb)
  go_ret
  exact ⟨by rw [HE.out]; rfl, HC1.out⟩
set_option maxHeartbeats 2000000 in
theorem first_9 (v : V5) (w : World) : Calls Tryd.prog 43 #[.int .i64 9, .agg #[.int .i64 v.k, .int .i64 v.p, .int .i64 v.q, .string v.s, .int .i64 v.r]] w fun e w' => e = .returned (.string ⟨#[117, 110, 107, 110, 111, 119, 110, 32, 110, 97, 109, 101]⟩) ∧ Ch [] w w' := by
  have HC0 : Hid (Ch [] w (w.alloc (.cells #[.int .i64 v.k, .int .i64 v.p, .int .i64 v.q, .string v.s, .int .i64 v.r] 25))) := Lib.hid ((Ch.refl [] w).alloc _)
  go_enter Tryd.func43, Tryd.ntmps43
  go_wp2
  go_ret
  exact ⟨rfl, HC0.out⟩
set_option maxHeartbeats 2000000 in
theorem first_10 (v : V5) (w : World) : Calls Tryd.prog 43 #[.int .i64 10, .agg #[.int .i64 v.k, .int .i64 v.p, .int .i64 v.q, .string v.s, .int .i64 v.r]] w fun e w' => e = .returned (.string ⟨#[100, 101, 99, 108, 97, 114, 101, 100, 32, 116, 119, 105, 99, 101]⟩) ∧ Ch [] w w' := by
  have HC0 : Hid (Ch [] w (w.alloc (.cells #[.int .i64 v.k, .int .i64 v.p, .int .i64 v.q, .string v.s, .int .i64 v.r] 25))) := Lib.hid ((Ch.refl [] w).alloc _)
  go_enter Tryd.func43, Tryd.ntmps43
  go_wp2
  go_ret
  exact ⟨rfl, HC0.out⟩
set_option maxHeartbeats 2000000 in
theorem first_11 (v : V5) (w : World) : Calls Tryd.prog 43 #[.int .i64 11, .agg #[.int .i64 v.k, .int .i64 v.p, .int .i64 v.q, .string v.s, .int .i64 v.r]] w fun e w' => e = .returned (.string ⟨#[97, 116, 116, 101, 109, 112, 116, 32, 116, 111, 32, 97, 115, 115, 105, 103, 110, 32, 116, 111, 32, 97, 32, 99, 111, 110, 115, 116, 97, 110, 116]⟩) ∧ Ch [] w w' := by
  have HC0 : Hid (Ch [] w (w.alloc (.cells #[.int .i64 v.k, .int .i64 v.p, .int .i64 v.q, .string v.s, .int .i64 v.r] 25))) := Lib.hid ((Ch.refl [] w).alloc _)
  go_enter Tryd.func43, Tryd.ntmps43
  go_wp2
  go_ret
  exact ⟨rfl, HC0.out⟩
set_option maxHeartbeats 2000000 in
theorem first_12 (v : V5) (w : World) : Calls Tryd.prog 43 #[.int .i64 12, .agg #[.int .i64 v.k, .int .i64 v.p, .int .i64 v.q, .string v.s, .int .i64 v.r]] w fun e w' => e = .returned (.string ⟨#[108, 97, 98, 101, 108, 32, 105, 115, 32, 110, 111, 116, 32, 118, 105, 115, 105, 98, 108, 101]⟩) ∧ Ch [] w w' := by
  have HC0 : Hid (Ch [] w (w.alloc (.cells #[.int .i64 v.k, .int .i64 v.p, .int .i64 v.q, .string v.s, .int .i64 v.r] 25))) := Lib.hid ((Ch.refl [] w).alloc _)
  go_enter Tryd.func43, Tryd.ntmps43
  go_wp2
  go_ret
  exact ⟨rfl, HC0.out⟩
set_option maxHeartbeats 2000000 in
theorem first_13 (v : V5) (w : World) : Calls Tryd.prog 43 #[.int .i64 13, .agg #[.int .i64 v.k, .int .i64 v.p, .int .i64 v.q, .string v.s, .int .i64 v.r]] w fun e w' => e = .returned (.string ⟨#[105, 110, 100, 101, 120, 32, 105, 115, 32, 110, 105, 108]⟩) ∧ Ch [] w w' := by
  have HC0 : Hid (Ch [] w (w.alloc (.cells #[.int .i64 v.k, .int .i64 v.p, .int .i64 v.q, .string v.s, .int .i64 v.r] 25))) := Lib.hid ((Ch.refl [] w).alloc _)
  go_enter Tryd.func43, Tryd.ntmps43
  go_wp2
  go_ret
  exact ⟨rfl, HC0.out⟩
set_option maxHeartbeats 2000000 in
theorem first_14 (v : V5) (w : World) : Calls Tryd.prog 43 #[.int .i64 14, .agg #[.int .i64 v.k, .int .i64 v.p, .int .i64 v.q, .string v.s, .int .i64 v.r]] w fun e w' => e = .returned (.string ⟨#[115, 116, 114, 105, 110, 103, 32, 116, 111, 111, 32, 108, 111, 110, 103]⟩) ∧ Ch [] w w' := by
  have HC0 : Hid (Ch [] w (w.alloc (.cells #[.int .i64 v.k, .int .i64 v.p, .int .i64 v.q, .string v.s, .int .i64 v.r] 25))) := Lib.hid ((Ch.refl [] w).alloc _)
  go_enter Tryd.func43, Tryd.ntmps43
  go_wp2
  go_ret
  exact ⟨rfl, HC0.out⟩
set_option maxHeartbeats 2000000 in
theorem first_out (e : Int) (v : V5) (w : World) (h1 : ¬ e = 1) (h2 : ¬ e = 2) (h3 : ¬ e = 3) (h4 : ¬ e = 4) (h5 : ¬ e = 5) (h6 : ¬ e = 6) (h7 : ¬ e = 7) (h8 : ¬ e = 8) (h9 : ¬ e = 9) (h10 : ¬ e = 10) (h11 : ¬ e = 11) (h12 : ¬ e = 12) (h13 : ¬ e = 13) (h14 : ¬ e = 14) : Calls Tryd.prog 43 #[.int .i64 e, .agg #[.int .i64 v.k, .int .i64 v.p, .int .i64 v.q, .string v.s, .int .i64 v.r]] w fun e' w' => e' = .returned (.string ⟨#[117, 110, 107, 110, 111, 119, 110, 32, 101, 114, 114, 111, 114]⟩) ∧ Ch [] w w' := by
  have b1 : (e == 1) = false := by rw [beq_eq_false_iff_ne]; exact h1
  have b2 : (e == 2) = false := by rw [beq_eq_false_iff_ne]; exact h2
  have b3 : (e == 3) = false := by rw [beq_eq_false_iff_ne]; exact h3
  have b4 : (e == 4) = false := by rw [beq_eq_false_iff_ne]; exact h4
  have b5 : (e == 5) = false := by rw [beq_eq_false_iff_ne]; exact h5
  have b6 : (e == 6) = false := by rw [beq_eq_false_iff_ne]; exact h6
  have b7 : (e == 7) = false := by rw [beq_eq_false_iff_ne]; exact h7
  have b8 : (e == 8) = false := by rw [beq_eq_false_iff_ne]; exact h8
  have b9 : (e == 9) = false := by rw [beq_eq_false_iff_ne]; exact h9
  have b10 : (e == 10) = false := by rw [beq_eq_false_iff_ne]; exact h10
  have b11 : (e == 11) = false := by rw [beq_eq_false_iff_ne]; exact h11
  have b12 : (e == 12) = false := by rw [beq_eq_false_iff_ne]; exact h12
  have b13 : (e == 13) = false := by rw [beq_eq_false_iff_ne]; exact h13
  have b14 : (e == 14) = false := by rw [beq_eq_false_iff_ne]; exact h14
  have HC0 : Hid (Ch [] w (w.alloc (.cells #[.int .i64 v.k, .int .i64 v.p, .int .i64 v.q, .string v.s, .int .i64 v.r] 25))) := Lib.hid ((Ch.refl [] w).alloc _)
  go_enter Tryd.func43, Tryd.ntmps43
  go_wp2
  go_ret
  exact ⟨rfl, HC0.out⟩
set_option maxHeartbeats 2000000 in
theorem rdesc_0 (v : V5) (w : World) : Calls Tryd.prog 24 #[.int .i64 0, .agg #[.int .i64 v.k, .int .i64 v.p, .int .i64 v.q, .string v.s, .int .i64 v.r]] w fun e w' => e = .returned (.string ⟨#[]⟩) ∧ Ch [] w w' := by
  have HC0 : Hid (Ch [] w (w.alloc (.cells #[.int .i64 v.k, .int .i64 v.p, .int .i64 v.q, .string v.s, .int .i64 v.r] 25))) := Lib.hid ((Ch.refl [] w).alloc _)
  go_enter Tryd.func24, Tryd.ntmps24
  go_wp2
  go_ret
  exact ⟨rfl, HC0.out⟩
set_option maxHeartbeats 2000000 in
theorem rdesc_15 (v : V5) (w : World) : Calls Tryd.prog 24 #[.int .i64 15, .agg #[.int .i64 v.k, .int .i64 v.p, .int .i64 v.q, .string v.s, .int .i64 v.r]] w fun e w' => e = .returned (.string ⟨#[99, 104, 97, 105, 110, 32, 111, 102, 32, 109, 101, 116, 97, 116, 97, 98, 108, 101, 115, 32, 116, 111, 111, 32, 108, 111, 110, 103]⟩) ∧ Ch [] w w' := by
  have HC0 : Hid (Ch [] w (w.alloc (.cells #[.int .i64 v.k, .int .i64 v.p, .int .i64 v.q, .string v.s, .int .i64 v.r] 25))) := Lib.hid ((Ch.refl [] w).alloc _)
  go_enter Tryd.func24, Tryd.ntmps24
  go_wp2
  go_ret
  exact ⟨rfl, HC0.out⟩
set_option maxHeartbeats 2000000 in
theorem rdesc_16 (v : V5) (w : World) : Calls Tryd.prog 24 #[.int .i64 16, .agg #[.int .i64 v.k, .int .i64 v.p, .int .i64 v.q, .string v.s, .int .i64 v.r]] w fun e w' => e = .returned (.string ⟨#[99, 97, 110, 110, 111, 116, 32, 114, 101, 115, 117, 109, 101, 32, 110, 111, 110, 45, 115, 117, 115, 112, 101, 110, 100, 101, 100, 32, 99, 111, 114, 111, 117, 116, 105, 110, 101]⟩) ∧ Ch [] w w' := by
  have HC0 : Hid (Ch [] w (w.alloc (.cells #[.int .i64 v.k, .int .i64 v.p, .int .i64 v.q, .string v.s, .int .i64 v.r] 25))) := Lib.hid ((Ch.refl [] w).alloc _)
  go_enter Tryd.func24, Tryd.ntmps24
  go_wp2
  go_ret
  exact ⟨rfl, HC0.out⟩
set_option maxHeartbeats 2000000 in
theorem rdesc_17 (v : V5) (w : World) : Calls Tryd.prog 24 #[.int .i64 17, .agg #[.int .i64 v.k, .int .i64 v.p, .int .i64 v.q, .string v.s, .int .i64 v.r]] w fun e w' => e = .returned (.string ⟨#[115, 116, 97, 99, 107, 32, 111, 118, 101, 114, 102, 108, 111, 119]⟩) ∧ Ch [] w w' := by
  have HC0 : Hid (Ch [] w (w.alloc (.cells #[.int .i64 v.k, .int .i64 v.p, .int .i64 v.q, .string v.s, .int .i64 v.r] 25))) := Lib.hid ((Ch.refl [] w).alloc _)
  go_enter Tryd.func24, Tryd.ntmps24
  go_wp2
  go_ret
  exact ⟨rfl, HC0.out⟩
set_option maxHeartbeats 2000000 in
theorem rdesc_18 (v : V5) (w : World) : Calls Tryd.prog 24 #[.int .i64 18, .agg #[.int .i64 v.k, .int .i64 v.p, .int .i64 v.q, .string v.s, .int .i64 v.r]] w fun e w' => e = .returned (.string ⟨#[110, 111, 116, 104, 105, 110, 103, 32, 105, 115, 32, 116, 104, 101, 114, 101]⟩) ∧ Ch [] w w' := by
  have HC0 : Hid (Ch [] w (w.alloc (.cells #[.int .i64 v.k, .int .i64 v.p, .int .i64 v.q, .string v.s, .int .i64 v.r] 25))) := Lib.hid ((Ch.refl [] w).alloc _)
  go_enter Tryd.func24, Tryd.ntmps24
  go_wp2
  go_ret
  exact ⟨rfl, HC0.out⟩
set_option maxHeartbeats 2000000 in
theorem rdesc_19 (v : V5) (w : World) : Calls Tryd.prog 24 #[.int .i64 19, .agg #[.int .i64 v.k, .int .i64 v.p, .int .i64 v.q, .string v.s, .int .i64 v.r]] w fun e w' => e = .returned (.string ⟨#[99, 97, 110, 110, 111, 116, 32, 114, 101, 115, 117, 109, 101, 32, 100, 101, 97, 100, 32, 99, 111, 114, 111, 117, 116, 105, 110, 101]⟩) ∧ Ch [] w w' := by
  have HC0 : Hid (Ch [] w (w.alloc (.cells #[.int .i64 v.k, .int .i64 v.p, .int .i64 v.q, .string v.s, .int .i64 v.r] 25))) := Lib.hid ((Ch.refl [] w).alloc _)
  go_enter Tryd.func24, Tryd.ntmps24
  go_wp2
  go_ret
  exact ⟨rfl, HC0.out⟩
set_option maxHeartbeats 2000000 in
theorem rdesc_20 (v : V5) (w : World) : Calls Tryd.prog 24 #[.int .i64 20, .agg #[.int .i64 v.k, .int .i64 v.p, .int .i64 v.q, .string v.s, .int .i64 v.r]] w fun e w' => e = .returned (.string ⟨#[119, 114, 111, 110, 103, 32, 99, 104, 101, 99, 107, 115, 117, 109]⟩) ∧ Ch [] w w' := by
  have HC0 : Hid (Ch [] w (w.alloc (.cells #[.int .i64 v.k, .int .i64 v.p, .int .i64 v.q, .string v.s, .int .i64 v.r] 25))) := Lib.hid ((Ch.refl [] w).alloc _)
  go_enter Tryd.func24, Tryd.ntmps24
  go_wp2
  go_ret
  exact ⟨rfl, HC0.out⟩
set_option maxHeartbeats 2000000 in
theorem rdesc_21 (v : V5) (w : World) : Calls Tryd.prog 24 #[.int .i64 21, .agg #[.int .i64 v.k, .int .i64 v.p, .int .i64 v.q, .string v.s, .int .i64 v.r]] w fun e w' => e = .returned (.string ⟨#[98, 121, 116, 101, 99, 111, 100, 101, 32, 105, 115, 32, 110, 111, 116, 32, 115, 97, 102, 101]⟩) ∧ Ch [] w w' := by
  have HC0 : Hid (Ch [] w (w.alloc (.cells #[.int .i64 v.k, .int .i64 v.p, .int .i64 v.q, .string v.s, .int .i64 v.r] 25))) := Lib.hid ((Ch.refl [] w).alloc _)
  go_enter Tryd.func24, Tryd.ntmps24
  go_wp2
  go_ret
  exact ⟨rfl, HC0.out⟩
set_option maxHeartbeats 2000000 in
theorem rdesc_22 (v : V5) (w : World) : Calls Tryd.prog 24 #[.int .i64 22, .agg #[.int .i64 v.k, .int .i64 v.p, .int .i64 v.q, .string v.s, .int .i64 v.r]] w fun e w' => e = .returned (.string ⟨#[116, 104, 105, 110, 103, 115, 32, 100, 111, 32, 110, 111, 116, 32, 109, 97, 116, 99, 104]⟩) ∧ Ch [] w w' := by
  have HC0 : Hid (Ch [] w (w.alloc (.cells #[.int .i64 v.k, .int .i64 v.p, .int .i64 v.q, .string v.s, .int .i64 v.r] 25))) := Lib.hid ((Ch.refl [] w).alloc _)
  go_enter Tryd.func24, Tryd.ntmps24
  go_wp2
  go_ret
  exact ⟨rfl, HC0.out⟩
set_option maxHeartbeats 2000000 in
theorem rdesc_23 (v : V5) (w : World) : Calls Tryd.prog 24 #[.int .i64 23, .agg #[.int .i64 v.k, .int .i64 v.p, .int .i64 v.q, .string v.s, .int .i64 v.r]] w fun e w' => e = .returned (.string ⟨#[110, 111, 116, 32, 101, 110, 111, 117, 103, 104, 32, 109, 101, 109, 111, 114, 121]⟩) ∧ Ch [] w w' := by
  have HC0 : Hid (Ch [] w (w.alloc (.cells #[.int .i64 v.k, .int .i64 v.p, .int .i64 v.q, .string v.s, .int .i64 v.r] 25))) := Lib.hid ((Ch.refl [] w).alloc _)
  go_enter Tryd.func24, Tryd.ntmps24
  go_wp2
  go_ret
  exact ⟨rfl, HC0.out⟩
set_option maxHeartbeats 2000000 in
theorem rdesc_24 (v : V5) (w : World) : Calls Tryd.prog 24 #[.int .i64 24, .agg #[.int .i64 v.k, .int .i64 v.p, .int .i64 v.q, .string v.s, .int .i64 v.r]] w fun e w' => e = .returned (.string ⟨#[116, 111, 111, 32, 109, 97, 110, 121, 32, 115, 116, 101, 112, 115]⟩) ∧ Ch [] w w' := by
  have HC0 : Hid (Ch [] w (w.alloc (.cells #[.int .i64 v.k, .int .i64 v.p, .int .i64 v.q, .string v.s, .int .i64 v.r] 25))) := Lib.hid ((Ch.refl [] w).alloc _)
  go_enter Tryd.func24, Tryd.ntmps24
  go_wp2
  go_ret
  exact ⟨rfl, HC0.out⟩
set_option maxHeartbeats 2000000 in
theorem rdesc_25 (v : V5) (w : World) : Calls Tryd.prog 24 #[.int .i64 25, .agg #[.int .i64 v.k, .int .i64 v.p, .int .i64 v.q, .string v.s, .int .i64 v.r]] w fun e w' => e = .returned (.string ⟨#[97, 116, 116, 101, 109, 112, 116, 32, 116, 111, 32, 121, 105, 101, 108, 100, 32, 102, 114, 111, 109, 32, 111, 117, 116, 115, 105, 100, 101, 32, 97, 32, 99, 111, 114, 111, 117, 116, 105, 110, 101]⟩) ∧ Ch [] w w' := by
  have HC0 : Hid (Ch [] w (w.alloc (.cells #[.int .i64 v.k, .int .i64 v.p, .int .i64 v.q, .string v.s, .int .i64 v.r] 25))) := Lib.hid ((Ch.refl [] w).alloc _)
  go_enter Tryd.func24, Tryd.ntmps24
  go_wp2
  go_ret
  exact ⟨rfl, HC0.out⟩
set_option maxHeartbeats 2000000 in
theorem rdesc_26 (v : V5) (w : World) : Calls Tryd.prog 24 #[.int .i64 26, .agg #[.int .i64 v.k, .int .i64 v.p, .int .i64 v.q, .string v.s, .int .i64 v.r]] w fun e w' => e = .returned (.string ⟨#[101, 114, 114, 111, 114, 32, 105, 110, 32, 97, 32, 115, 99, 114, 105, 112, 116]⟩) ∧ Ch [] w w' := by
  have HC0 : Hid (Ch [] w (w.alloc (.cells #[.int .i64 v.k, .int .i64 v.p, .int .i64 v.q, .string v.s, .int .i64 v.r] 25))) := Lib.hid ((Ch.refl [] w).alloc _)
  go_enter Tryd.func24, Tryd.ntmps24
  go_wp2
  go_ret
  exact ⟨rfl, HC0.out⟩
set_option maxHeartbeats 2000000 in
theorem rdesc_low (e : Int) (v : V5) (s : ByteArray) (w : World) (h0 : ¬ e = 0) (h15 : ¬ e = 15) (h16 : ¬ e = 16) (h17 : ¬ e = 17) (h18 : ¬ e = 18) (h19 : ¬ e = 19) (h20 : ¬ e = 20) (h21 : ¬ e = 21) (h22 : ¬ e = 22) (h23 : ¬ e = 23) (h24 : ¬ e = 24) (h25 : ¬ e = 25) (h26 : ¬ e = 26) (hq : ∀ W, Calls Tryd.prog 43 #[.int .i64 e, .agg #[.int .i64 v.k, .int .i64 v.p, .int .i64 v.q, .string v.s, .int .i64 v.r]] W fun e' w' => e' = .returned (.string s) ∧ Ch [] W w') : Calls Tryd.prog 24 #[.int .i64 e, .agg #[.int .i64 v.k, .int .i64 v.p, .int .i64 v.q, .string v.s, .int .i64 v.r]] w fun e' w' => e' = .returned (.string s) ∧ Ch [] w w' := by
  have b0 : (e == 0) = false := by rw [beq_eq_false_iff_ne]; exact h0
  have b15 : (e == 15) = false := by rw [beq_eq_false_iff_ne]; exact h15
  have b16 : (e == 16) = false := by rw [beq_eq_false_iff_ne]; exact h16
  have b17 : (e == 17) = false := by rw [beq_eq_false_iff_ne]; exact h17
  have b18 : (e == 18) = false := by rw [beq_eq_false_iff_ne]; exact h18
  have b19 : (e == 19) = false := by rw [beq_eq_false_iff_ne]; exact h19
  have b20 : (e == 20) = false := by rw [beq_eq_false_iff_ne]; exact h20
  have b21 : (e == 21) = false := by rw [beq_eq_false_iff_ne]; exact h21
  have b22 : (e == 22) = false := by rw [beq_eq_false_iff_ne]; exact h22
  have b23 : (e == 23) = false := by rw [beq_eq_false_iff_ne]; exact h23
  have b24 : (e == 24) = false := by rw [beq_eq_false_iff_ne]; exact h24
  have b25 : (e == 25) = false := by rw [beq_eq_false_iff_ne]; exact h25
  have b26 : (e == 26) = false := by rw [beq_eq_false_iff_ne]; exact h26
  have Q := Lib.hid hq
  have HC0 : Hid (Ch [] w (w.alloc (.cells #[.int .i64 v.k, .int .i64 v.p, .int .i64 v.q, .string v.s, .int .i64 v.r] 25))) := Lib.hid ((Ch.refl [] w).alloc _)
  clear hq
  go_enter Tryd.func24, Tryd.ntmps24
  go_wp2_with (go_at_call 43; (with_reducible refine (Q.out _).mono ?_); rintro e1 w1 ⟨rfl, hc⟩; have HC1 := Lib.hid (HC0.out.trans hc); clear hc)
  go_ret
  exact ⟨rfl, HC1.out⟩
theorem rdescribe_any (e : Int) (v : V5) (w : World) : Calls Tryd.prog 24 #[.int .i64 e, .agg #[.int .i64 v.k, .int .i64 v.p, .int .i64 v.q, .string v.s, .int .i64 v.r]] w fun e' w' => e' = .returned (.string (descB e v.k)) ∧ Ch [] w w' := by
  by_cases h0 : e = 0
  · subst h0
    rw [show descB 0 v.k = ⟨#[]⟩ by unfold descB; rw [if_neg (by decide), if_neg (by decide), if_neg (by decide)]; exact mB_0]
    exact rdesc_0 v w
  by_cases h15 : e = 15
  · subst h15
    rw [show descB 15 v.k = ⟨#[99, 104, 97, 105, 110, 32, 111, 102, 32, 109, 101, 116, 97, 116, 97, 98, 108, 101, 115, 32, 116, 111, 111, 32, 108, 111, 110, 103]⟩ by unfold descB; rw [if_neg (by decide), if_neg (by decide), if_neg (by decide)]; exact mB_15]
    exact rdesc_15 v w
  by_cases h16 : e = 16
  · subst h16
    rw [show descB 16 v.k = ⟨#[99, 97, 110, 110, 111, 116, 32, 114, 101, 115, 117, 109, 101, 32, 110, 111, 110, 45, 115, 117, 115, 112, 101, 110, 100, 101, 100, 32, 99, 111, 114, 111, 117, 116, 105, 110, 101]⟩ by unfold descB; rw [if_neg (by decide), if_neg (by decide), if_neg (by decide)]; exact mB_16]
    exact rdesc_16 v w
  by_cases h17 : e = 17
  · subst h17
    rw [show descB 17 v.k = ⟨#[115, 116, 97, 99, 107, 32, 111, 118, 101, 114, 102, 108, 111, 119]⟩ by unfold descB; rw [if_neg (by decide), if_neg (by decide), if_neg (by decide)]; exact mB_17]
    exact rdesc_17 v w
  by_cases h18 : e = 18
  · subst h18
    rw [show descB 18 v.k = ⟨#[110, 111, 116, 104, 105, 110, 103, 32, 105, 115, 32, 116, 104, 101, 114, 101]⟩ by unfold descB; rw [if_neg (by decide), if_neg (by decide), if_neg (by decide)]; exact mB_18]
    exact rdesc_18 v w
  by_cases h19 : e = 19
  · subst h19
    rw [show descB 19 v.k = ⟨#[99, 97, 110, 110, 111, 116, 32, 114, 101, 115, 117, 109, 101, 32, 100, 101, 97, 100, 32, 99, 111, 114, 111, 117, 116, 105, 110, 101]⟩ by unfold descB; rw [if_neg (by decide), if_neg (by decide), if_neg (by decide)]; exact mB_19]
    exact rdesc_19 v w
  by_cases h20 : e = 20
  · subst h20
    rw [show descB 20 v.k = ⟨#[119, 114, 111, 110, 103, 32, 99, 104, 101, 99, 107, 115, 117, 109]⟩ by unfold descB; rw [if_neg (by decide), if_neg (by decide), if_neg (by decide)]; exact mB_20]
    exact rdesc_20 v w
  by_cases h21 : e = 21
  · subst h21
    rw [show descB 21 v.k = ⟨#[98, 121, 116, 101, 99, 111, 100, 101, 32, 105, 115, 32, 110, 111, 116, 32, 115, 97, 102, 101]⟩ by unfold descB; rw [if_neg (by decide), if_neg (by decide), if_neg (by decide)]; exact mB_21]
    exact rdesc_21 v w
  by_cases h22 : e = 22
  · subst h22
    rw [show descB 22 v.k = ⟨#[116, 104, 105, 110, 103, 115, 32, 100, 111, 32, 110, 111, 116, 32, 109, 97, 116, 99, 104]⟩ by unfold descB; rw [if_neg (by decide), if_neg (by decide), if_neg (by decide)]; exact mB_22]
    exact rdesc_22 v w
  by_cases h23 : e = 23
  · subst h23
    rw [show descB 23 v.k = ⟨#[110, 111, 116, 32, 101, 110, 111, 117, 103, 104, 32, 109, 101, 109, 111, 114, 121]⟩ by unfold descB; rw [if_neg (by decide), if_neg (by decide), if_neg (by decide)]; exact mB_23]
    exact rdesc_23 v w
  by_cases h24 : e = 24
  · subst h24
    rw [show descB 24 v.k = ⟨#[116, 111, 111, 32, 109, 97, 110, 121, 32, 115, 116, 101, 112, 115]⟩ by unfold descB; rw [if_neg (by decide), if_neg (by decide), if_neg (by decide)]; exact mB_24]
    exact rdesc_24 v w
  by_cases h25 : e = 25
  · subst h25
    rw [show descB 25 v.k = ⟨#[97, 116, 116, 101, 109, 112, 116, 32, 116, 111, 32, 121, 105, 101, 108, 100, 32, 102, 114, 111, 109, 32, 111, 117, 116, 115, 105, 100, 101, 32, 97, 32, 99, 111, 114, 111, 117, 116, 105, 110, 101]⟩ by unfold descB; rw [if_neg (by decide), if_neg (by decide), if_neg (by decide)]; exact mB_25]
    exact rdesc_25 v w
  by_cases h26 : e = 26
  · subst h26
    rw [show descB 26 v.k = ⟨#[101, 114, 114, 111, 114, 32, 105, 110, 32, 97, 32, 115, 99, 114, 105, 112, 116]⟩ by unfold descB; rw [if_neg (by decide), if_neg (by decide), if_neg (by decide)]; exact mB_26]
    exact rdesc_26 v w
  refine rdesc_low e v _ w h0 h15 h16 h17 h18 h19 h20 h21 h22 h23 h24 h25 h26 (fun W => ?_)
  by_cases h1 : e = 1
  · subst h1
    rw [show descB 1 v.k = ⟨#[110, 105, 108, 32, 111, 98, 106, 101, 99, 116]⟩ by unfold descB; rw [if_neg (by decide), if_neg (by decide), if_neg (by decide)]; exact mB_1]
    exact first_1 v W
  by_cases h2 : e = 2
  · subst h2
    rw [show descB 2 v.k = ⟨#[98, 97, 100, 32, 97, 114, 103, 117, 109, 101, 110, 116]⟩ by unfold descB; rw [if_neg (by decide), if_neg (by decide), if_neg (by decide)]; exact mB_2]
    exact first_2 v W
  by_cases h3 : e = 3
  · subst h3
    rw [show descB 3 v.k = ⟨#[116, 111, 111, 32, 109, 97, 110, 121, 32, 118, 97, 108, 117, 101, 115]⟩ by unfold descB; rw [if_neg (by decide), if_neg (by decide), if_neg (by decide)]; exact mB_3]
    exact first_3 v W
  by_cases h4 : e = 4
  · subst h4
    rw [show descB 4 v.k = ⟨#[109, 97, 108, 102, 111, 114, 109, 101, 100, 32, 116, 101, 120, 116]⟩ by unfold descB; rw [if_neg (by decide), if_neg (by decide), if_neg (by decide)]; exact mB_4]
    exact first_4 v W
  by_cases h5 : e = 5
  · subst h5
    rw [show descB 5 v.k = ⟨#[117, 110, 101, 120, 112, 101, 99, 116, 101, 100, 32, 101, 110, 100]⟩ by unfold descB; rw [if_neg (by decide), if_neg (by decide), if_neg (by decide)]; exact mB_5]
    exact first_5 v W
  by_cases h6 : e = 6
  · subst h6
    rw [show descB 6 v.k = ⟨#[110, 117, 109, 98, 101, 114, 32, 111, 117, 116, 32, 111, 102, 32, 114, 97, 110, 103, 101]⟩ by unfold descB; rw [if_neg (by decide), if_neg (by decide), if_neg (by decide)]; exact mB_6]
    exact first_6 v W
  by_cases h7 : e = 7
  · subst h7
    rw [show descB 7 v.k = ⟨#[100, 105, 118, 105, 115, 105, 111, 110, 32, 98, 121, 32, 122, 101, 114, 111]⟩ by unfold descB; rw [if_neg (by decide), if_neg (by decide), if_neg (by decide)]; exact mB_7]
    exact first_7 v W
  by_cases h8 : e = 8
  · subst h8
    rw [show descB 8 v.k = callE v.k by unfold descB; rw [if_pos rfl]]
    exact first_8 v W
  by_cases h9 : e = 9
  · subst h9
    rw [show descB 9 v.k = ⟨#[117, 110, 107, 110, 111, 119, 110, 32, 110, 97, 109, 101]⟩ by unfold descB; rw [if_neg (by decide), if_neg (by decide), if_neg (by decide)]; exact mB_9]
    exact first_9 v W
  by_cases h10 : e = 10
  · subst h10
    rw [show descB 10 v.k = ⟨#[100, 101, 99, 108, 97, 114, 101, 100, 32, 116, 119, 105, 99, 101]⟩ by unfold descB; rw [if_neg (by decide), if_neg (by decide), if_neg (by decide)]; exact mB_10]
    exact first_10 v W
  by_cases h11 : e = 11
  · subst h11
    rw [show descB 11 v.k = ⟨#[97, 116, 116, 101, 109, 112, 116, 32, 116, 111, 32, 97, 115, 115, 105, 103, 110, 32, 116, 111, 32, 97, 32, 99, 111, 110, 115, 116, 97, 110, 116]⟩ by unfold descB; rw [if_neg (by decide), if_neg (by decide), if_neg (by decide)]; exact mB_11]
    exact first_11 v W
  by_cases h12 : e = 12
  · subst h12
    rw [show descB 12 v.k = ⟨#[108, 97, 98, 101, 108, 32, 105, 115, 32, 110, 111, 116, 32, 118, 105, 115, 105, 98, 108, 101]⟩ by unfold descB; rw [if_neg (by decide), if_neg (by decide), if_neg (by decide)]; exact mB_12]
    exact first_12 v W
  by_cases h13 : e = 13
  · subst h13
    rw [show descB 13 v.k = ⟨#[105, 110, 100, 101, 120, 32, 105, 115, 32, 110, 105, 108]⟩ by unfold descB; rw [if_neg (by decide), if_neg (by decide), if_neg (by decide)]; exact mB_13]
    exact first_13 v W
  by_cases h14 : e = 14
  · subst h14
    rw [show descB 14 v.k = ⟨#[115, 116, 114, 105, 110, 103, 32, 116, 111, 111, 32, 108, 111, 110, 103]⟩ by unfold descB; rw [if_neg (by decide), if_neg (by decide), if_neg (by decide)]; exact mB_14]
    exact first_14 v W
  rw [show descB e v.k = ⟨#[117, 110, 107, 110, 111, 119, 110, 32, 101, 114, 114, 111, 114]⟩ by unfold descB; rw [if_neg h8]; split; rfl; split; rfl; omega]
  exact first_out e v W h1 h2 h3 h4 h5 h6 h7 h8 h9 h10 h11 h12 h13 h14
end Go.Proofs.YtimblnhigoggpaaDoor
