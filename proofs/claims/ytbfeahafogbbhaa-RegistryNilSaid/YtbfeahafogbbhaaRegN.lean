/- Layer 18: no registry: the walk of RegistryNil. -/
import Derived.Test.YtbfeahafogbbhaaRegE
namespace Go.Proofs.Ytbfeahafogbbhaa
open Go.RowKit Go.Joins M1
set_option linter.unusedVariables false
theorem gput_nil (nm : ByteArray) (x : V5) (w : World) : Calls Try.prog 22 #[.pointer none, .string nm, .agg #[.int .i64 x.k, .int .i64 x.p, .int .i64 x.q, .string x.s, .int .i64 x.r]] w fun e w' => e = .returned (.int .i64 1) ∧ Ch [] w w' := by
  go_enter Try.func22, Try.ntmps22
  go_wp2
  go_ret
  exact ⟨rfl, (Ch.refl [] w).alloc _⟩
theorem gfind_nil (nm : ByteArray) (w : World) : Calls Try.prog 24 #[.pointer none, .string nm] w fun e w' => e = .returned (.tuple #[.agg #[.int .i64 0, .int .i64 0, .int .i64 0, .string ⟨#[]⟩, .int .i64 0], .bool false]) ∧ Ch [] w w' := by
  go_enter Try.func24, Try.ntmps24
  go_wp2
  refine bodyPost_ret (v := .tuple #[.agg #[.int .i64 0, .int .i64 0, .int .i64 0, .string ⟨#[]⟩, .int .i64 0], .bool false]) (by simp [results, Try.results24, go_sem]) rfl ⟨rfl, ?_⟩
  exact (Ch.refl [] w).alloc _
theorem groots_nil (w : World) : Calls Try.prog 26 #[.pointer none] w fun e w' => e = .returned (.slice none 0 0) ∧ w = w' := by
  go_enter Try.func26, Try.ntmps26
  go_wp2
  go_ret
  exact ⟨rfl, rfl⟩
set_option maxHeartbeats 8000000 in
theorem walk (k r : Int) (nm : ByteArray) (v1 v2 v3 : Int) (v4 : ByteArray) (v5 : Int) (w : World) :
    Calls Try.prog 9 #[.agg #[.int .i64 k, .int .i64 r, .string nm, .int .i64 v1, .int .i64 v2, .int .i64 v3, .string v4, .int .i64 v5]] w fun e w' => e = .returned (.bool true) ∧ Below w.heap.size w w' := by
  have HC0 : Hid (Ch [] w (w.alloc (.cells #[.int .i64 k, .int .i64 r, .string nm, .int .i64 v1, .int .i64 v2, .int .i64 v3, .string v4, .int .i64 v5] 35))) := Lib.hid ((Ch.refl [] w).alloc _)
  have HA0 : Hid (Blk 35 w.heap.size #[.int .i64 k, .int .i64 r, .string nm, .int .i64 v1, .int .i64 v2, .int .i64 v3, .string v4, .int .i64 v5] (w.alloc (.cells #[.int .i64 k, .int .i64 r, .string nm, .int .i64 v1, .int .i64 v2, .int .i64 v3, .string v4, .int .i64 v5] 35))) := Lib.hid (Blk.new w _ _ _ rfl)
  have QR := Lib.hid fun W => ref_nil ⟨v1, v2, v3, v4, v5⟩ W
  have QV := Lib.hid fun W => gval_nil r W
  have QF := Lib.hid fun W => gfind_nil nm W
  have QU := Lib.hid fun W => unref_nil r W
  have QP := Lib.hid fun W => gput_nil nm ⟨v1, v2, v3, v4, v5⟩ W
  have QN := Lib.hid fun W => glen_nil W
  have QT := Lib.hid fun W => groots_nil W
  have QA := Lib.hid fun W => lives_any W
  have EQ : ∀ W, (binOp .eql 33 (.agg #[.int .i64 0, .int .i64 0, .int .i64 0, .string ⟨#[]⟩, .int .i64 0]) (.agg #[.int .i64 0, .int .i64 0, .int .i64 0, .string ⟨#[]⟩, .int .i64 0])).run Try.prog W = .ok (.bool true) W := fun W => by have := eq_v5 v5z v5z W; rw [show decide (v5z = v5z) = true from decide_eq_true rfl] at this; exact this
  go_enter Try.func9, Try.ntmps9
  go_upto_region 2 with fail
  generalize (w.alloc (.cells #[.int .i64 k, .int .i64 r, .string nm, .int .i64 v1, .int .i64 v2, .int .i64 v3, .string v4, .int .i64 v5] 35)) = w0 at *
  have a0 : w0.cell? ⟨w.heap.size, 0, none⟩ = some (.int .i64 k) := HA0.out.cell 0
  have a1 : w0.cell? ⟨w.heap.size, 1, none⟩ = some (.int .i64 r) := HA0.out.cell 1
  have a2 : w0.cell? ⟨w.heap.size, 2, none⟩ = some (.string nm) := HA0.out.cell 2
  have a3 : w0.cell? ⟨w.heap.size, 3, none⟩ = some (.int .i64 v1) := HA0.out.cell 3
  have a4 : w0.cell? ⟨w.heap.size, 4, none⟩ = some (.int .i64 v2) := HA0.out.cell 4
  have a5 : w0.cell? ⟨w.heap.size, 5, none⟩ = some (.int .i64 v3) := HA0.out.cell 5
  have a6 : w0.cell? ⟨w.heap.size, 6, none⟩ = some (.string v4) := HA0.out.cell 6
  have a7 : w0.cell? ⟨w.heap.size, 7, none⟩ = some (.int .i64 v5) := HA0.out.cell 7
  have al := HA0.out.lt
  go_upto_region 3 with (go_at_call 18; (with_reducible refine (QR.out _).mono ?_); rintro e w1 ⟨rfl, hc⟩; have HC1 := Lib.hid hc; clear hc)
  clear a0 a1 a2 a3 a4 a5 a6 a7 al
  have HA1 := Lib.hid (HA0.out.ch HC1.out (not_nil _))
  have a0 : w1.cell? ⟨w.heap.size, 0, none⟩ = some (.int .i64 k) := HA1.out.cell 0
  have a1 : w1.cell? ⟨w.heap.size, 1, none⟩ = some (.int .i64 r) := HA1.out.cell 1
  have a2 : w1.cell? ⟨w.heap.size, 2, none⟩ = some (.string nm) := HA1.out.cell 2
  have a3 : w1.cell? ⟨w.heap.size, 3, none⟩ = some (.int .i64 v1) := HA1.out.cell 3
  have a4 : w1.cell? ⟨w.heap.size, 4, none⟩ = some (.int .i64 v2) := HA1.out.cell 4
  have a5 : w1.cell? ⟨w.heap.size, 5, none⟩ = some (.int .i64 v3) := HA1.out.cell 5
  have a6 : w1.cell? ⟨w.heap.size, 6, none⟩ = some (.string v4) := HA1.out.cell 6
  have a7 : w1.cell? ⟨w.heap.size, 7, none⟩ = some (.int .i64 v5) := HA1.out.cell 7
  have al := HA1.out.lt
  go_upto_region 4 with (go_at_call 20; (with_reducible refine (QV.out _).mono ?_); rintro e w2 ⟨rfl, hb⟩; have HC2 : Hid (Ch [] w1 (w2.alloc (.cells #[.int .i64 0, .int .i64 0, .int .i64 0, .string ⟨#[]⟩, .int .i64 0] 33))) := Lib.hid ((Ch.of_below hb).alloc _); clear hb)
  clear a0 a1 a2 a3 a4 a5 a6 a7 al
  have HX2 : Hid (Blk 33 w2.heap.size #[.int .i64 0, .int .i64 0, .int .i64 0, .string ⟨#[]⟩, .int .i64 0] (w2.alloc (.cells #[.int .i64 0, .int .i64 0, .int .i64 0, .string ⟨#[]⟩, .int .i64 0] 33))) := Lib.hid (Blk.new _ _ _ _ rfl)
  obtain ⟨b1, hb1⟩ : ∃ b1, b1 = w2.heap.size := ⟨_, rfl⟩
  rw [← hb1] at HX2 ⊢
  have HB1 := Lib.hid hb1
  clear hb1
  generalize (w2.alloc (.cells #[.int .i64 0, .int .i64 0, .int .i64 0, .string ⟨#[]⟩, .int .i64 0] 33)) = w3 at *
  have HA3 := Lib.hid (HA1.out.ch HC2.out (not_nil _))
  have a0 : w3.cell? ⟨w.heap.size, 0, none⟩ = some (.int .i64 k) := HA3.out.cell 0
  have a1 : w3.cell? ⟨w.heap.size, 1, none⟩ = some (.int .i64 r) := HA3.out.cell 1
  have a2 : w3.cell? ⟨w.heap.size, 2, none⟩ = some (.string nm) := HA3.out.cell 2
  have a3 : w3.cell? ⟨w.heap.size, 3, none⟩ = some (.int .i64 v1) := HA3.out.cell 3
  have a4 : w3.cell? ⟨w.heap.size, 4, none⟩ = some (.int .i64 v2) := HA3.out.cell 4
  have a5 : w3.cell? ⟨w.heap.size, 5, none⟩ = some (.int .i64 v3) := HA3.out.cell 5
  have a6 : w3.cell? ⟨w.heap.size, 6, none⟩ = some (.string v4) := HA3.out.cell 6
  have a7 : w3.cell? ⟨w.heap.size, 7, none⟩ = some (.int .i64 v5) := HA3.out.cell 7
  have al := HA3.out.lt
  go_upto_region 5 with (go_at_call 24; (with_reducible refine (QF.out _).mono ?_); rintro e w4 ⟨rfl, hb⟩; have HC4 : Hid (Ch [] w3 (w4.alloc (.cells #[.int .i64 0, .int .i64 0, .int .i64 0, .string ⟨#[]⟩, .int .i64 0] 33))) := Lib.hid (hb.alloc _); clear hb)
  clear a0 a1 a2 a3 a4 a5 a6 a7 al
  have HY4 : Hid (Blk 33 w4.heap.size #[.int .i64 0, .int .i64 0, .int .i64 0, .string ⟨#[]⟩, .int .i64 0] (w4.alloc (.cells #[.int .i64 0, .int .i64 0, .int .i64 0, .string ⟨#[]⟩, .int .i64 0] 33))) := Lib.hid (Blk.new _ _ _ _ rfl)
  have HX4 := Lib.hid (HX2.out.ch HC4.out (not_nil _))
  obtain ⟨b2, hb2⟩ : ∃ b2, b2 = w4.heap.size := ⟨_, rfl⟩
  rw [← hb2] at HY4 ⊢
  have HB2 := Lib.hid hb2
  clear hb2
  generalize (w4.alloc (.cells #[.int .i64 0, .int .i64 0, .int .i64 0, .string ⟨#[]⟩, .int .i64 0] 33)) = w5 at *
  have HA5 := Lib.hid (HA3.out.ch HC4.out (not_nil _))
  have HC5 : Hid (Ch [] w w5) := Lib.hid (((HC0.out.trans HC1.out).trans HC2.out).trans HC4.out)
  have a0 : w5.cell? ⟨w.heap.size, 0, none⟩ = some (.int .i64 k) := HA5.out.cell 0
  have a1 : w5.cell? ⟨w.heap.size, 1, none⟩ = some (.int .i64 r) := HA5.out.cell 1
  have a2 : w5.cell? ⟨w.heap.size, 2, none⟩ = some (.string nm) := HA5.out.cell 2
  have a3 : w5.cell? ⟨w.heap.size, 3, none⟩ = some (.int .i64 v1) := HA5.out.cell 3
  have a4 : w5.cell? ⟨w.heap.size, 4, none⟩ = some (.int .i64 v2) := HA5.out.cell 4
  have a5 : w5.cell? ⟨w.heap.size, 5, none⟩ = some (.int .i64 v3) := HA5.out.cell 5
  have a6 : w5.cell? ⟨w.heap.size, 6, none⟩ = some (.string v4) := HA5.out.cell 6
  have a7 : w5.cell? ⟨w.heap.size, 7, none⟩ = some (.int .i64 v5) := HA5.out.cell 7
  have al := HA5.out.lt
  have x0 : w5.cell? ⟨b1, 0, none⟩ = some (.int .i64 0) := HX4.out.cell 0
  have x1 : w5.cell? ⟨b1, 1, none⟩ = some (.int .i64 0) := HX4.out.cell 1
  have x2 : w5.cell? ⟨b1, 2, none⟩ = some (.int .i64 0) := HX4.out.cell 2
  have x3 : w5.cell? ⟨b1, 3, none⟩ = some (.string ⟨#[]⟩) := HX4.out.cell 3
  have x4 : w5.cell? ⟨b1, 4, none⟩ = some (.int .i64 0) := HX4.out.cell 4
  have xl := HX4.out.lt
  have y0 : w5.cell? ⟨b2, 0, none⟩ = some (.int .i64 0) := HY4.out.cell 0
  have y1 : w5.cell? ⟨b2, 1, none⟩ = some (.int .i64 0) := HY4.out.cell 1
  have y2 : w5.cell? ⟨b2, 2, none⟩ = some (.int .i64 0) := HY4.out.cell 2
  have y3 : w5.cell? ⟨b2, 3, none⟩ = some (.string ⟨#[]⟩) := HY4.out.cell 3
  have y4 : w5.cell? ⟨b2, 4, none⟩ = some (.int .i64 0) := HY4.out.cell 4
  have yl := HY4.out.lt
  go_wp2_with (first | (go_at_call 21; (with_reducible refine (QU.out _).mono ?_); rintro e w6 ⟨rfl, hc⟩; have HC6 := Lib.hid hc; clear hc; have HA6 := Lib.hid (HA5.out.ch HC6.out (not_nil _)); have e0 : w6.cell? ⟨w.heap.size, 0, none⟩ = some (.int .i64 k) := HA6.out.cell 0; have e1 : w6.cell? ⟨w.heap.size, 1, none⟩ = some (.int .i64 r) := HA6.out.cell 1; have e2 : w6.cell? ⟨w.heap.size, 2, none⟩ = some (.string nm) := HA6.out.cell 2; have e3 : w6.cell? ⟨w.heap.size, 3, none⟩ = some (.int .i64 v1) := HA6.out.cell 3; have e4 : w6.cell? ⟨w.heap.size, 4, none⟩ = some (.int .i64 v2) := HA6.out.cell 4; have e5 : w6.cell? ⟨w.heap.size, 5, none⟩ = some (.int .i64 v3) := HA6.out.cell 5; have e6 : w6.cell? ⟨w.heap.size, 6, none⟩ = some (.string v4) := HA6.out.cell 6; have e7 : w6.cell? ⟨w.heap.size, 7, none⟩ = some (.int .i64 v5) := HA6.out.cell 7; have el := HA6.out.lt) | (go_at_call 22; (with_reducible refine (QP.out _).mono ?_); rintro e w7 ⟨rfl, hc⟩; have HC7 := Lib.hid hc; clear hc) | (go_at_call 17; (with_reducible refine (QN.out _).mono ?_); rintro e w8 ⟨rfl, rfl⟩) | (go_at_call 26; (with_reducible refine (QT.out _).mono ?_); rintro e w9 ⟨rfl, rfl⟩) | (go_at_call 11; (with_reducible refine (QA.out _).mono ?_); rintro e w10 ⟨rfl, hc⟩; have HC10 := Lib.hid hc; clear hc))
  go_ret
  exact ⟨rfl, (((HC5.out.trans HC6.out).trans HC7.out).trans HC10.out).below⟩
end Go.Proofs.Ytbfeahafogbbhaa
