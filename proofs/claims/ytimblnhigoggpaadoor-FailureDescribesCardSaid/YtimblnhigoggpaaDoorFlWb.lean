/- Layer 19: the walk of FailureDescribes. -/
import Derived.Test.YtimblnhigoggpaaDoorFlG
import Derived.Test.YtimblnhigoggpaaDoorFlJ
namespace Go.Proofs.YtimblnhigoggpaaDoor
open Go.RowKit Go.Joins M1
set_option linter.unusedVariables false
set_option maxHeartbeats 8000000 in
theorem fd_8 (v u : V5) (w : World) (hv : (Lit.int .i64 v.k).wf = true) (hu : (Lit.int .i64 u.k).wf = true) :
    Calls Tryd.prog 8 #[.int .i64 8, .agg #[.int .i64 v.k, .int .i64 v.p, .int .i64 v.q, .string v.s, .int .i64 v.r], .agg #[.int .i64 u.k, .int .i64 u.p, .int .i64 u.q, .string u.s, .int .i64 u.r]] w fun e w' => e = .returned (.bool true) ∧ Below w.heap.size w w' := by
  obtain ⟨s, hs⟩ : ∃ s, s = descB 8 v.k := ⟨_, rfl⟩
  obtain ⟨W0, hW⟩ : ∃ W0, W0 = ((w.alloc (.cells #[.int .i64 v.k, .int .i64 v.p, .int .i64 v.q, .string v.s, .int .i64 v.r] 25)).alloc (.cells #[.int .i64 u.k, .int .i64 u.p, .int .i64 u.q, .string u.s, .int .i64 u.r] 25)) := ⟨_, rfl⟩
  have HC0 : Hid (Ch [] w W0) := Lib.hid (by rw [hW]; exact ((Ch.refl [] w).alloc _).alloc _)
  have HX : Hid (Blk 25 w.heap.size #[.int .i64 v.k, .int .i64 v.p, .int .i64 v.q, .string v.s, .int .i64 v.r] W0) := Lib.hid (by rw [hW]; exact (Blk.new w _ _ _ rfl).ch ((Ch.refl [] _).alloc _) (not_nil _))
  have HY : Hid (Blk 25 (w.heap.size + 1) #[.int .i64 u.k, .int .i64 u.p, .int .i64 u.q, .string u.s, .int .i64 u.r] W0) := Lib.hid (by rw [hW]; exact Blk.new _ _ _ _ (by simp))
  have QD : Hid (∀ W, Calls Tryd.prog 23 #[.int .i64 8, .agg #[.int .i64 v.k, .int .i64 v.p, .int .i64 v.q, .string v.s, .int .i64 v.r]] W fun e w' => e = .returned (.string s) ∧ Ch [] W w') := Lib.hid fun W => by rw [hs]; exact describe_any 8 v W hv
  have QR : Hid (∀ W, Calls Tryd.prog 24 #[.int .i64 8, .agg #[.int .i64 v.k, .int .i64 v.p, .int .i64 v.q, .string v.s, .int .i64 v.r]] W fun e w' => e = .returned (.string s) ∧ Ch [] W w') := Lib.hid fun W => by rw [hs]; exact rdescribe_any 8 v W
  have QA := Lib.hid fun W => awake_any W
  have HW := Lib.hid hW
  clear hW hs hv hu
  go_enter Tryd.func8, Tryd.ntmps8
  go_upto_region 1 with fail
  rw [← HW.out]
  have a0 : W0.cell? ⟨w.heap.size, 0, none⟩ = some (.int .i64 v.k) := HX.out.cell 0
  have a1 : W0.cell? ⟨w.heap.size, 1, none⟩ = some (.int .i64 v.p) := HX.out.cell 1
  have a2 : W0.cell? ⟨w.heap.size, 2, none⟩ = some (.int .i64 v.q) := HX.out.cell 2
  have a3 : W0.cell? ⟨w.heap.size, 3, none⟩ = some (.string v.s) := HX.out.cell 3
  have a4 : W0.cell? ⟨w.heap.size, 4, none⟩ = some (.int .i64 v.r) := HX.out.cell 4
  have b0 : W0.cell? ⟨(w.heap.size + 1), 0, none⟩ = some (.int .i64 u.k) := HY.out.cell 0
  have b1 : W0.cell? ⟨(w.heap.size + 1), 1, none⟩ = some (.int .i64 u.p) := HY.out.cell 1
  have b2 : W0.cell? ⟨(w.heap.size + 1), 2, none⟩ = some (.int .i64 u.q) := HY.out.cell 2
  have b3 : W0.cell? ⟨(w.heap.size + 1), 3, none⟩ = some (.string u.s) := HY.out.cell 3
  have b4 : W0.cell? ⟨(w.heap.size + 1), 4, none⟩ = some (.int .i64 u.r) := HY.out.cell 4
  have la := HX.out.lt
  have lb := HY.out.lt
  go_wp2_with (first | (go_at_call 23; (with_reducible refine (QD.out _).mono ?_); rintro e w1 ⟨rfl, hc⟩; have HC1 := Lib.hid hc; clear hc; have c0 : w1.cell? ⟨w.heap.size, 0, none⟩ = some (.int .i64 v.k) := (HX.out.ch HC1.out (not_nil _)).cell 0; have c1 : w1.cell? ⟨w.heap.size, 1, none⟩ = some (.int .i64 v.p) := (HX.out.ch HC1.out (not_nil _)).cell 1; have c2 : w1.cell? ⟨w.heap.size, 2, none⟩ = some (.int .i64 v.q) := (HX.out.ch HC1.out (not_nil _)).cell 2; have c3 : w1.cell? ⟨w.heap.size, 3, none⟩ = some (.string v.s) := (HX.out.ch HC1.out (not_nil _)).cell 3; have c4 : w1.cell? ⟨w.heap.size, 4, none⟩ = some (.int .i64 v.r) := (HX.out.ch HC1.out (not_nil _)).cell 4; have cu0 : w1.cell? ⟨w.heap.size + 1, 0, none⟩ = some (.int .i64 u.k) := (HY.out.ch HC1.out (not_nil _)).cell 0; have cu1 : w1.cell? ⟨w.heap.size + 1, 1, none⟩ = some (.int .i64 u.p) := (HY.out.ch HC1.out (not_nil _)).cell 1; have cu2 : w1.cell? ⟨w.heap.size + 1, 2, none⟩ = some (.int .i64 u.q) := (HY.out.ch HC1.out (not_nil _)).cell 2; have cu3 : w1.cell? ⟨w.heap.size + 1, 3, none⟩ = some (.string u.s) := (HY.out.ch HC1.out (not_nil _)).cell 3; have cu4 : w1.cell? ⟨w.heap.size + 1, 4, none⟩ = some (.int .i64 u.r) := (HY.out.ch HC1.out (not_nil _)).cell 4; have cl := (HX.out.ch HC1.out (not_nil _)).lt; have cm := (HY.out.ch HC1.out (not_nil _)).lt) | (go_at_call 24; (with_reducible refine (QR.out _).mono ?_); rintro e w2 ⟨rfl, hc⟩; have HC2 : Hid (Ch [] W0 w2) := Lib.hid (HC1.out.trans hc); clear hc; have d0 : w2.cell? ⟨w.heap.size, 0, none⟩ = some (.int .i64 v.k) := (HX.out.ch HC2.out (not_nil _)).cell 0; have d1 : w2.cell? ⟨w.heap.size, 1, none⟩ = some (.int .i64 v.p) := (HX.out.ch HC2.out (not_nil _)).cell 1; have d2 : w2.cell? ⟨w.heap.size, 2, none⟩ = some (.int .i64 v.q) := (HX.out.ch HC2.out (not_nil _)).cell 2; have d3 : w2.cell? ⟨w.heap.size, 3, none⟩ = some (.string v.s) := (HX.out.ch HC2.out (not_nil _)).cell 3; have d4 : w2.cell? ⟨w.heap.size, 4, none⟩ = some (.int .i64 v.r) := (HX.out.ch HC2.out (not_nil _)).cell 4; have du0 : w2.cell? ⟨w.heap.size + 1, 0, none⟩ = some (.int .i64 u.k) := (HY.out.ch HC2.out (not_nil _)).cell 0; have du1 : w2.cell? ⟨w.heap.size + 1, 1, none⟩ = some (.int .i64 u.p) := (HY.out.ch HC2.out (not_nil _)).cell 1; have du2 : w2.cell? ⟨w.heap.size + 1, 2, none⟩ = some (.int .i64 u.q) := (HY.out.ch HC2.out (not_nil _)).cell 2; have du3 : w2.cell? ⟨w.heap.size + 1, 3, none⟩ = some (.string u.s) := (HY.out.ch HC2.out (not_nil _)).cell 3; have du4 : w2.cell? ⟨w.heap.size + 1, 4, none⟩ = some (.int .i64 u.r) := (HY.out.ch HC2.out (not_nil _)).cell 4; have dl := (HX.out.ch HC2.out (not_nil _)).lt; have dm := (HY.out.ch HC2.out (not_nil _)).lt) | (go_at_call 12; (with_reducible refine (QA.out _).mono ?_); rintro e w4 ⟨rfl, hc⟩; have HC4 : Hid (Ch [] W0 w4) := Lib.hid (HC2.out.trans hc); clear hc))
  go_ret
  exact ⟨rfl, (HC0.out.trans HC4.out).below⟩
set_option maxHeartbeats 8000000 in
theorem fd_n (n : Int) (v u : V5) (w : World) (hv : (Lit.int .i64 v.k).wf = true) (hu : (Lit.int .i64 u.k).wf = true) (h8 : ¬ n = 8) :
    Calls Tryd.prog 8 #[.int .i64 n, .agg #[.int .i64 v.k, .int .i64 v.p, .int .i64 v.q, .string v.s, .int .i64 v.r], .agg #[.int .i64 u.k, .int .i64 u.p, .int .i64 u.q, .string u.s, .int .i64 u.r]] w fun e w' => e = .returned (.bool true) ∧ Below w.heap.size w w' := by
  obtain ⟨s, hs⟩ : ∃ s, s = descB n v.k := ⟨_, rfl⟩
  obtain ⟨W0, hW⟩ : ∃ W0, W0 = ((w.alloc (.cells #[.int .i64 v.k, .int .i64 v.p, .int .i64 v.q, .string v.s, .int .i64 v.r] 25)).alloc (.cells #[.int .i64 u.k, .int .i64 u.p, .int .i64 u.q, .string u.s, .int .i64 u.r] 25)) := ⟨_, rfl⟩
  have HC0 : Hid (Ch [] w W0) := Lib.hid (by rw [hW]; exact ((Ch.refl [] w).alloc _).alloc _)
  have HX : Hid (Blk 25 w.heap.size #[.int .i64 v.k, .int .i64 v.p, .int .i64 v.q, .string v.s, .int .i64 v.r] W0) := Lib.hid (by rw [hW]; exact (Blk.new w _ _ _ rfl).ch ((Ch.refl [] _).alloc _) (not_nil _))
  have HY : Hid (Blk 25 (w.heap.size + 1) #[.int .i64 u.k, .int .i64 u.p, .int .i64 u.q, .string u.s, .int .i64 u.r] W0) := Lib.hid (by rw [hW]; exact Blk.new _ _ _ _ (by simp))
  have QD : Hid (∀ W, Calls Tryd.prog 23 #[.int .i64 n, .agg #[.int .i64 v.k, .int .i64 v.p, .int .i64 v.q, .string v.s, .int .i64 v.r]] W fun e w' => e = .returned (.string s) ∧ Ch [] W w') := Lib.hid fun W => by rw [hs]; exact describe_any n v W hv
  have QR : Hid (∀ W, Calls Tryd.prog 24 #[.int .i64 n, .agg #[.int .i64 v.k, .int .i64 v.p, .int .i64 v.q, .string v.s, .int .i64 v.r]] W fun e w' => e = .returned (.string s) ∧ Ch [] W w') := Lib.hid fun W => by rw [hs]; exact rdescribe_any n v W
  have QA := Lib.hid fun W => awake_any W
  have QU : Hid (∀ W, Calls Tryd.prog 23 #[.int .i64 n, .agg #[.int .i64 u.k, .int .i64 u.p, .int .i64 u.q, .string u.s, .int .i64 u.r]] W fun e w' => e = .returned (.string s) ∧ Ch [] W w') := Lib.hid fun W => by
    rw [hs, show descB n v.k = descB n u.k by unfold descB; rw [if_neg h8, if_neg h8]]
    exact describe_any n u W hu
  have b8 : (n == 8) = false := by rw [beq_eq_false_iff_ne]; exact h8
  have HW := Lib.hid hW
  clear hW hs hv hu h8
  go_enter Tryd.func8, Tryd.ntmps8
  go_upto_region 1 with fail
  rw [← HW.out]
  have a0 : W0.cell? ⟨w.heap.size, 0, none⟩ = some (.int .i64 v.k) := HX.out.cell 0
  have a1 : W0.cell? ⟨w.heap.size, 1, none⟩ = some (.int .i64 v.p) := HX.out.cell 1
  have a2 : W0.cell? ⟨w.heap.size, 2, none⟩ = some (.int .i64 v.q) := HX.out.cell 2
  have a3 : W0.cell? ⟨w.heap.size, 3, none⟩ = some (.string v.s) := HX.out.cell 3
  have a4 : W0.cell? ⟨w.heap.size, 4, none⟩ = some (.int .i64 v.r) := HX.out.cell 4
  have b0 : W0.cell? ⟨(w.heap.size + 1), 0, none⟩ = some (.int .i64 u.k) := HY.out.cell 0
  have b1 : W0.cell? ⟨(w.heap.size + 1), 1, none⟩ = some (.int .i64 u.p) := HY.out.cell 1
  have b2 : W0.cell? ⟨(w.heap.size + 1), 2, none⟩ = some (.int .i64 u.q) := HY.out.cell 2
  have b3 : W0.cell? ⟨(w.heap.size + 1), 3, none⟩ = some (.string u.s) := HY.out.cell 3
  have b4 : W0.cell? ⟨(w.heap.size + 1), 4, none⟩ = some (.int .i64 u.r) := HY.out.cell 4
  have la := HX.out.lt
  have lb := HY.out.lt
  go_wp2_with (first | (go_at_call 23; (with_reducible refine (QD.out _).mono ?_); rintro e w1 ⟨rfl, hc⟩; have HC1 := Lib.hid hc; clear hc; have c0 : w1.cell? ⟨w.heap.size, 0, none⟩ = some (.int .i64 v.k) := (HX.out.ch HC1.out (not_nil _)).cell 0; have c1 : w1.cell? ⟨w.heap.size, 1, none⟩ = some (.int .i64 v.p) := (HX.out.ch HC1.out (not_nil _)).cell 1; have c2 : w1.cell? ⟨w.heap.size, 2, none⟩ = some (.int .i64 v.q) := (HX.out.ch HC1.out (not_nil _)).cell 2; have c3 : w1.cell? ⟨w.heap.size, 3, none⟩ = some (.string v.s) := (HX.out.ch HC1.out (not_nil _)).cell 3; have c4 : w1.cell? ⟨w.heap.size, 4, none⟩ = some (.int .i64 v.r) := (HX.out.ch HC1.out (not_nil _)).cell 4; have cu0 : w1.cell? ⟨w.heap.size + 1, 0, none⟩ = some (.int .i64 u.k) := (HY.out.ch HC1.out (not_nil _)).cell 0; have cu1 : w1.cell? ⟨w.heap.size + 1, 1, none⟩ = some (.int .i64 u.p) := (HY.out.ch HC1.out (not_nil _)).cell 1; have cu2 : w1.cell? ⟨w.heap.size + 1, 2, none⟩ = some (.int .i64 u.q) := (HY.out.ch HC1.out (not_nil _)).cell 2; have cu3 : w1.cell? ⟨w.heap.size + 1, 3, none⟩ = some (.string u.s) := (HY.out.ch HC1.out (not_nil _)).cell 3; have cu4 : w1.cell? ⟨w.heap.size + 1, 4, none⟩ = some (.int .i64 u.r) := (HY.out.ch HC1.out (not_nil _)).cell 4; have cl := (HX.out.ch HC1.out (not_nil _)).lt; have cm := (HY.out.ch HC1.out (not_nil _)).lt) | (go_at_call 24; (with_reducible refine (QR.out _).mono ?_); rintro e w2 ⟨rfl, hc⟩; have HC2 : Hid (Ch [] W0 w2) := Lib.hid (HC1.out.trans hc); clear hc; have d0 : w2.cell? ⟨w.heap.size, 0, none⟩ = some (.int .i64 v.k) := (HX.out.ch HC2.out (not_nil _)).cell 0; have d1 : w2.cell? ⟨w.heap.size, 1, none⟩ = some (.int .i64 v.p) := (HX.out.ch HC2.out (not_nil _)).cell 1; have d2 : w2.cell? ⟨w.heap.size, 2, none⟩ = some (.int .i64 v.q) := (HX.out.ch HC2.out (not_nil _)).cell 2; have d3 : w2.cell? ⟨w.heap.size, 3, none⟩ = some (.string v.s) := (HX.out.ch HC2.out (not_nil _)).cell 3; have d4 : w2.cell? ⟨w.heap.size, 4, none⟩ = some (.int .i64 v.r) := (HX.out.ch HC2.out (not_nil _)).cell 4; have du0 : w2.cell? ⟨w.heap.size + 1, 0, none⟩ = some (.int .i64 u.k) := (HY.out.ch HC2.out (not_nil _)).cell 0; have du1 : w2.cell? ⟨w.heap.size + 1, 1, none⟩ = some (.int .i64 u.p) := (HY.out.ch HC2.out (not_nil _)).cell 1; have du2 : w2.cell? ⟨w.heap.size + 1, 2, none⟩ = some (.int .i64 u.q) := (HY.out.ch HC2.out (not_nil _)).cell 2; have du3 : w2.cell? ⟨w.heap.size + 1, 3, none⟩ = some (.string u.s) := (HY.out.ch HC2.out (not_nil _)).cell 3; have du4 : w2.cell? ⟨w.heap.size + 1, 4, none⟩ = some (.int .i64 u.r) := (HY.out.ch HC2.out (not_nil _)).cell 4; have dl := (HX.out.ch HC2.out (not_nil _)).lt; have dm := (HY.out.ch HC2.out (not_nil _)).lt) | (go_at_call 23; (with_reducible refine (QU.out _).mono ?_); rintro e w3 ⟨rfl, hc⟩; have HC3 : Hid (Ch [] W0 w3) := Lib.hid (HC2.out.trans hc); clear hc) | (go_at_call 12; (with_reducible refine (QA.out _).mono ?_); rintro e w4 ⟨rfl, hc⟩; have HC4 : Hid (Ch [] W0 w4) := Lib.hid (HC3.out.trans hc); clear hc))
  go_ret
  exact ⟨rfl, (HC0.out.trans HC4.out).below⟩
theorem walk_FailureDescribes (n : Int) (v u : V5) (w : World) (hn : (Lit.int .i64 n).wf = true) (hv : (Lit.int .i64 v.k).wf = true) (_ : v.s.size ≤ maxLen) (_ : (Lit.int .i64 v.r).wf = true) (hu : (Lit.int .i64 u.k).wf = true) (_ : u.s.size ≤ maxLen) (_ : (Lit.int .i64 u.r).wf = true) :
    Calls Tryd.prog 8 #[.int .i64 n, .agg #[.int .i64 v.k, .int .i64 v.p, .int .i64 v.q, .string v.s, .int .i64 v.r], .agg #[.int .i64 u.k, .int .i64 u.p, .int .i64 u.q, .string u.s, .int .i64 u.r]] w fun e w' => e = .returned (.bool true) ∧ Below w.heap.size w w' := by
  by_cases h8 : n = 8
  · subst h8; exact fd_8 v u w hv hu
  · exact fd_n n v u w hv hu h8
end Go.Proofs.YtimblnhigoggpaaDoor
