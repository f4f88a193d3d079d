/- Layer 20: the walk of ProtocolReturns. -/
import Derived.Test.YtdgdpckjcpgoaaaPrQ
namespace Go.Proofs.Ytdgdpckjcpgoaaa
open Go.RowKit Go.Joins M1
set_option linter.unusedVariables false
set_option maxHeartbeats 8000000 in
theorem walk_ProtocolReturns (v : Value) (l : List V5) (x : V5) (lv : Int) (s : ByteArray) (w : World) (h : VA w v l) :
    Calls Try.prog 3 #[v, .agg #[.int .i64 x.k, .int .i64 x.p, .int .i64 x.q, .string x.s, .int .i64 x.r], .int .i64 lv, .string s] w fun e w' => e = .returned (.bool true) ∧ Below w.heap.size w w' := by
  have H := Lib.hid h
  obtain ⟨p, c, rfl, _, _⟩ := h
  have QL := Lib.hid (fun W => large_any p l.length c W)
  by_cases hl : 600 < l.length
  · have hd : decide (600 < l.length) = true := by simpa using hl
    rw [hd] at QL
    have QA := Lib.hid fun W => awake_any W
    have HC0 : Hid (Ch [] w (w.alloc (.cells #[.int .i64 x.k, .int .i64 x.p, .int .i64 x.q, .string x.s, .int .i64 x.r] 26))) := Lib.hid ((Ch.refl [] w).alloc _)
    clear hl hd
    go_enter Try.func3, Try.ntmps3
    go_wp2_with (first | (go_at_call 9; (with_reducible refine (QL.out _).mono ?_); rintro e w1 ⟨rfl, rfl⟩) | (go_at_call 10; (with_reducible refine (QA.out _).mono ?_); rintro e w2 ⟨rfl, hc⟩; have HC := Lib.hid (HC0.out.trans hc); clear hc))
    go_ret
    exact ⟨rfl, HC.out.below⟩
  have hd : decide (600 < l.length) = false := by simpa using hl
  rw [hd] at QL
  have hl' : l.length ≤ 1000000 := by omega
  obtain ⟨W0, hW⟩ : ∃ W0, W0 = (w.alloc (.cells #[.int .i64 x.k, .int .i64 x.p, .int .i64 x.q, .string x.s, .int .i64 x.r] 26)) := ⟨_, rfl⟩
  have HC : Hid (Ch [] w W0) := Lib.hid (by rw [hW]; exact (Ch.refl [] w).alloc _)
  have HX : Hid (Blk 26 w.heap.size #[.int .i64 x.k, .int .i64 x.p, .int .i64 x.q, .string x.s, .int .i64 x.r] W0) := Lib.hid (by rw [hW]; exact Blk.new w _ _ _ rfl)
  have HN1 : Hid ((retA l).l.length ≤ 1000000 ∧ (retA l).kp.length ≤ 1000000) := Lib.hid ⟨hl', by simp [retA]⟩
  have HN2 : Hid ((failA x lv).l.length ≤ 1000000 ∧ (failA x lv).kp.length ≤ 1000000) := Lib.hid ⟨by simp [failA], by simp [failA]⟩
  have HN3 : Hid ((errA s).l.length ≤ 1000000 ∧ (errA s).kp.length ≤ 1000000) := Lib.hid ⟨by simp [errA, failA], by simp [errA, failA]⟩
  have Q1 : Hid (∀ W, ((∀ c o, c < W0.heap.size → W.cell? ⟨c, o, none⟩ = W0.cell? ⟨c, o, none⟩) ∧ AwS W0 W) → Calls Try.prog 12 #[.slice p l.length c] W fun e w' => ∃ va, e = .returned va ∧ AA w' va (retA l) ∧ Ch [] W w' ∧ ((∀ c o, c < W0.heap.size → w'.cell? ⟨c, o, none⟩ = W0.cell? ⟨c, o, none⟩) ∧ AwS W0 w')) := Lib.hid fun W h => by
    refine (return_ao _ l W (H.out.below (HC.out.trans h.2)) hl').mono ?_
    rintro e w' ⟨va, rfl, ha, hc⟩
    exact ⟨va, rfl, ha.aa, hc, aw_keep h hc⟩
  have Q1r : Hid (∀ W, ((∀ c o, c < W0.heap.size → W.cell? ⟨c, o, none⟩ = W0.cell? ⟨c, o, none⟩) ∧ AwS W0 W) → Calls Try.prog 13 #[.slice p l.length c] W fun e w' => ∃ va, e = .returned va ∧ AA w' va (retA l) ∧ Ch [] W w' ∧ ((∀ c o, c < W0.heap.size → w'.cell? ⟨c, o, none⟩ = W0.cell? ⟨c, o, none⟩) ∧ AwS W0 w')) := Lib.hid fun W h => by
    refine (rreturn_ao _ l W (H.out.below (HC.out.trans h.2)) hl').mono ?_
    rintro e w' ⟨va, rfl, ha, hc⟩
    exact ⟨va, rfl, ha.aa, hc, aw_keep h hc⟩
  have Q2 : Hid (∀ W, ((∀ c o, c < W0.heap.size → W.cell? ⟨c, o, none⟩ = W0.cell? ⟨c, o, none⟩) ∧ AwS W0 W) → Calls Try.prog 14 #[.agg #[.int .i64 x.k, .int .i64 x.p, .int .i64 x.q, .string x.s, .int .i64 x.r], .int .i64 lv] W fun e w' => ∃ va, e = .returned va ∧ AA w' va (failA x lv) ∧ Ch [] W w' ∧ ((∀ c o, c < W0.heap.size → w'.cell? ⟨c, o, none⟩ = W0.cell? ⟨c, o, none⟩) ∧ AwS W0 w')) := Lib.hid fun W h => by
    refine (fail_ao x lv W).mono ?_
    rintro e w' ⟨va, rfl, ha, hc⟩
    exact ⟨va, rfl, ha.aa, hc, aw_keep h hc⟩
  have Q2r : Hid (∀ W, ((∀ c o, c < W0.heap.size → W.cell? ⟨c, o, none⟩ = W0.cell? ⟨c, o, none⟩) ∧ AwS W0 W) → Calls Try.prog 15 #[.agg #[.int .i64 x.k, .int .i64 x.p, .int .i64 x.q, .string x.s, .int .i64 x.r], .int .i64 lv] W fun e w' => ∃ va, e = .returned va ∧ AA w' va (failA x lv) ∧ Ch [] W w' ∧ ((∀ c o, c < W0.heap.size → w'.cell? ⟨c, o, none⟩ = W0.cell? ⟨c, o, none⟩) ∧ AwS W0 w')) := Lib.hid fun W h => by
    refine (rfail_ao x lv W).mono ?_
    rintro e w' ⟨va, rfl, ha, hc⟩
    exact ⟨va, rfl, ha.aa, hc, aw_keep h hc⟩
  have Q3 : Hid (∀ W, ((∀ c o, c < W0.heap.size → W.cell? ⟨c, o, none⟩ = W0.cell? ⟨c, o, none⟩) ∧ AwS W0 W) → Calls Try.prog 16 #[.string s] W fun e w' => ∃ va, e = .returned va ∧ AA w' va (errA s) ∧ Ch [] W w' ∧ ((∀ c o, c < W0.heap.size → w'.cell? ⟨c, o, none⟩ = W0.cell? ⟨c, o, none⟩) ∧ AwS W0 w')) := Lib.hid fun W h => by
    refine (error_ao s W).mono ?_
    rintro e w' ⟨va, rfl, ha, hc⟩
    exact ⟨va, rfl, ha.aa, hc, aw_keep h hc⟩
  have Q3r : Hid (∀ W, ((∀ c o, c < W0.heap.size → W.cell? ⟨c, o, none⟩ = W0.cell? ⟨c, o, none⟩) ∧ AwS W0 W) → Calls Try.prog 17 #[.string s] W fun e w' => ∃ va, e = .returned va ∧ AA w' va (errA s) ∧ Ch [] W w' ∧ ((∀ c o, c < W0.heap.size → w'.cell? ⟨c, o, none⟩ = W0.cell? ⟨c, o, none⟩) ∧ AwS W0 w')) := Lib.hid fun W h => by
    refine (rerror_ao s W).mono ?_
    rintro e w' ⟨va, rfl, ha, hc⟩
    exact ⟨va, rfl, ha.aa, hc, aw_keep h hc⟩
  have QS : Hid (∀ W va vb a, AA W va a → AA W vb a → a.l.length ≤ 1000000 → a.kp.length ≤ 1000000 → ((∀ c o, c < W0.heap.size → W.cell? ⟨c, o, none⟩ = W0.cell? ⟨c, o, none⟩) ∧ AwS W0 W) → Calls Try.prog 11 #[va, vb] W fun e w' => e = .returned (.bool true) ∧ ((∀ c o, c < W0.heap.size → w'.cell? ⟨c, o, none⟩ = W0.cell? ⟨c, o, none⟩) ∧ AwS W0 w')) := Lib.hid fun W va vb a h1 h2 n1 n2 h => by
    have := rasame_any va vb a a W h1 h2 n1 n2 n1 n2
    rw [decide_eq_true rfl] at this
    exact this.mono fun e w' hh => ⟨hh.1, aw_keep h hh.2⟩
  have QA : Hid (∀ W, ((∀ c o, c < W0.heap.size → W.cell? ⟨c, o, none⟩ = W0.cell? ⟨c, o, none⟩) ∧ AwS W0 W) → Calls Try.prog 10 #[] W fun e w' => e = .returned (.bool true) ∧ ((∀ c o, c < W0.heap.size → w'.cell? ⟨c, o, none⟩ = W0.cell? ⟨c, o, none⟩) ∧ AwS W0 w')) := Lib.hid fun W h => (awake_any W).mono fun e w' hh => ⟨hh.1, aw_keep h hh.2⟩
  have HW := Lib.hid hW
  have hS0 := aw_start W0
  clear hW hl hd hl'
  go_enter Try.func3, Try.ntmps3
  go_upto_region 3 with (go_at_call 9; (with_reducible refine (QL.out _).mono ?_); rintro e w1 ⟨rfl, rfl⟩)
  rw [← HW.out]
  have u0 : W0.cell? ⟨w.heap.size, 0, none⟩ = some (.int .i64 x.k) := HX.out.cell 0
  have u1 : W0.cell? ⟨w.heap.size, 1, none⟩ = some (.int .i64 x.p) := HX.out.cell 1
  have u2 : W0.cell? ⟨w.heap.size, 2, none⟩ = some (.int .i64 x.q) := HX.out.cell 2
  have u3 : W0.cell? ⟨w.heap.size, 3, none⟩ = some (.string x.s) := HX.out.cell 3
  have u4 : W0.cell? ⟨w.heap.size, 4, none⟩ = some (.int .i64 x.r) := HX.out.cell 4
  have lu := HX.out.lt
  clear QL
  go_region_held3 (fun w' => (∀ c o, c < W0.heap.size → w'.cell? ⟨c, o, none⟩ = W0.cell? ⟨c, o, none⟩) ∧ AwS W0 w') (first | assumption | exact hS0) (first | (go_at_call 12; (with_reducible refine (Q1.out _ (by assumption)).mono ?_); rintro e w11 ⟨va1, rfl, ha, hc, hq11⟩; have HA1 := Lib.hid ha; clear ha hc) | (go_at_call 13; (with_reducible refine (Q1r.out _ (by assumption)).mono ?_); rintro e w12 ⟨vb1, rfl, ha, hc, hq12⟩; have HB1 := Lib.hid ha; have HAB1 := Lib.hid (HA1.out.below hc); clear ha hc) | (go_at_call 11; (with_reducible refine (QS.out _ _ _ _ HAB1.out HB1.out HN1.out.1 HN1.out.2 (by assumption)).mono ?_); rintro e w13 ⟨rfl, hq13⟩) | (go_at_call 14; (with_reducible refine (Q2.out _ (by assumption)).mono ?_); rintro e w21 ⟨va2, rfl, ha, hc, hq21⟩; have HA2 := Lib.hid ha; clear ha hc) | (go_at_call 15; (with_reducible refine (Q2r.out _ (by assumption)).mono ?_); rintro e w22 ⟨vb2, rfl, ha, hc, hq22⟩; have HB2 := Lib.hid ha; have HAB2 := Lib.hid (HA2.out.below hc); clear ha hc) | (go_at_call 11; (with_reducible refine (QS.out _ _ _ _ HAB2.out HB2.out HN2.out.1 HN2.out.2 (by assumption)).mono ?_); rintro e w23 ⟨rfl, hq23⟩) | (go_at_call 16; (with_reducible refine (Q3.out _ (by assumption)).mono ?_); rintro e w31 ⟨va3, rfl, ha, hc, hq31⟩; have HA3 := Lib.hid ha; clear ha hc) | (go_at_call 17; (with_reducible refine (Q3r.out _ (by assumption)).mono ?_); rintro e w32 ⟨vb3, rfl, ha, hc, hq32⟩; have HB3 := Lib.hid ha; have HAB3 := Lib.hid (HA3.out.below hc); clear ha hc) | (go_at_call 11; (with_reducible refine (QS.out _ _ _ _ HAB3.out HB3.out HN3.out.1 HN3.out.2 (by assumption)).mono ?_); rintro e w33 ⟨rfl, hq33⟩) | (go_at_call 10; (with_reducible refine (QA.out _ (by assumption)).mono ?_); rintro e w9 ⟨rfl, hq9⟩))
  all_goals (
    have hS := ‹_ ∧ AwS _ _›
    go_wp2
    go_ret
    exact ⟨rfl, (HC.out.trans hS.2).below⟩)
end Go.Proofs.Ytdgdpckjcpgoaaa
