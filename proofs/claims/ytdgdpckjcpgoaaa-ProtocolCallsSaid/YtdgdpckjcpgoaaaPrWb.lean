/- Layer 20: the walk of ProtocolCalls. -/
import Derived.Test.YtdgdpckjcpgoaaaPrQ
namespace Go.Proofs.Ytdgdpckjcpgoaaa
open Go.RowKit Go.Joins M1
set_option linter.unusedVariables false
set_option maxHeartbeats 16000000 in
theorem walk_ProtocolCalls (x : V5) (v : Value) (l : List V5) (vk : Value) (kp : List V5) (nx : Int) (w : World) (h : VA w v l) (hk : VA w vk kp) :
    Calls Try.prog 4 #[.agg #[.int .i64 x.k, .int .i64 x.p, .int .i64 x.q, .string x.s, .int .i64 x.r], v, vk, .int .i64 nx] w fun e w' => e = .returned (.bool true) ∧ Below w.heap.size w w' := by
  have H := Lib.hid h
  have HK := Lib.hid hk
  obtain ⟨p1, c1, rfl, _, _⟩ := h
  obtain ⟨p2, c2, rfl, _, _⟩ := hk
  have QL0 := Lib.hid (fun W => large_any p1 l.length c1 W)
  have QL1 := Lib.hid (fun W => large_any p2 kp.length c2 W)
  by_cases hl0 : 600 < l.length
  · have hd0 : decide (600 < l.length) = true := by simpa using hl0
    rw [hd0] at QL0
    have QA := Lib.hid fun W => awake_any W
    have HC0 : Hid (Ch [] w ((w.alloc (.cells #[.int .i64 x.k, .int .i64 x.p, .int .i64 x.q, .string x.s, .int .i64 x.r] 26)))) := Lib.hid (by first | exact Ch.refl _ _ | exact (Ch.refl [] w).alloc _ | exact ((Ch.refl [] w).alloc _).alloc _)
    clear hl0 hd0
    go_enter Try.func4, Try.ntmps4
    go_wp2_with (first | (go_at_call 9; (with_reducible refine (QL0.out _).mono ?_); rintro e w1 ⟨rfl, rfl⟩) | (go_at_call 10; (with_reducible refine (QA.out _).mono ?_); rintro e w2 ⟨rfl, hc⟩; have HC := Lib.hid (HC0.out.trans hc); clear hc))
    go_ret
    exact ⟨rfl, HC.out.below⟩
  have hd0 : decide (600 < l.length) = false := by simpa using hl0
  rw [hd0] at QL0
  have hm0 : l.length ≤ 1000000 := by omega
  by_cases hl1 : 600 < kp.length
  · have hd1 : decide (600 < kp.length) = true := by simpa using hl1
    rw [hd1] at QL1
    have QA := Lib.hid fun W => awake_any W
    have HC0 : Hid (Ch [] w ((w.alloc (.cells #[.int .i64 x.k, .int .i64 x.p, .int .i64 x.q, .string x.s, .int .i64 x.r] 26)))) := Lib.hid (by first | exact Ch.refl _ _ | exact (Ch.refl [] w).alloc _ | exact ((Ch.refl [] w).alloc _).alloc _)
    clear hl0 hd0 hl1 hd1
    go_enter Try.func4, Try.ntmps4
    go_wp2_with (first | (go_at_call 9; (with_reducible refine (QL0.out _).mono ?_); rintro e w1 ⟨rfl, rfl⟩) | (go_at_call 9; (with_reducible refine (QL1.out _).mono ?_); rintro e w1 ⟨rfl, rfl⟩) | (go_at_call 10; (with_reducible refine (QA.out _).mono ?_); rintro e w2 ⟨rfl, hc⟩; have HC := Lib.hid (HC0.out.trans hc); clear hc))
    go_ret
    exact ⟨rfl, HC.out.below⟩
  have hd1 : decide (600 < kp.length) = false := by simpa using hl1
  rw [hd1] at QL1
  have hm1 : kp.length ≤ 1000000 := by omega
  obtain ⟨W0, hW⟩ : ∃ W0, W0 = (w.alloc (.cells #[.int .i64 x.k, .int .i64 x.p, .int .i64 x.q, .string x.s, .int .i64 x.r] 26)) := ⟨_, rfl⟩
  have HC : Hid (Ch [] w W0) := Lib.hid (by rw [hW]; exact (Ch.refl [] w).alloc _)
  have HX : Hid (Blk 26 w.heap.size #[.int .i64 x.k, .int .i64 x.p, .int .i64 x.q, .string x.s, .int .i64 x.r] W0) := Lib.hid (by rw [hW]; exact Blk.new w _ _ _ rfl)
  have HN1 : Hid ((callA 3 x l nx kp).l.length ≤ 1000000 ∧ (callA 3 x l nx kp).kp.length ≤ 1000000) := Lib.hid ⟨hm0, hm1⟩
  have HN2 : Hid ((callA 4 x l nx kp).l.length ≤ 1000000 ∧ (callA 4 x l nx kp).kp.length ≤ 1000000) := Lib.hid ⟨hm0, hm1⟩
  have HN3 : Hid ((yldA l nx kp).l.length ≤ 1000000 ∧ (yldA l nx kp).kp.length ≤ 1000000) := Lib.hid ⟨hm0, hm1⟩
  have Q1 : Hid (∀ W, ((∀ c o, c < W0.heap.size → W.cell? ⟨c, o, none⟩ = W0.cell? ⟨c, o, none⟩) ∧ AwS W0 W) → Calls Try.prog 18 #[.agg #[.int .i64 x.k, .int .i64 x.p, .int .i64 x.q, .string x.s, .int .i64 x.r], .slice p1 l.length c1, .int .i64 nx, .slice p2 kp.length c2] W fun e w' => ∃ va, e = .returned va ∧ AA w' va (callA 3 x l nx kp) ∧ Ch [] W w' ∧ ((∀ c o, c < W0.heap.size → w'.cell? ⟨c, o, none⟩ = W0.cell? ⟨c, o, none⟩) ∧ AwS W0 w')) := Lib.hid fun W h => by
    refine (call_ao x _ _ l kp nx W (H.out.below (HC.out.trans h.2)) (HK.out.below (HC.out.trans h.2)) hm0 hm1).mono ?_
    rintro e w' ⟨va, rfl, ha, hc⟩
    exact ⟨va, rfl, ha.aa, hc, aw_keep h hc⟩
  have Q1r : Hid (∀ W, ((∀ c o, c < W0.heap.size → W.cell? ⟨c, o, none⟩ = W0.cell? ⟨c, o, none⟩) ∧ AwS W0 W) → Calls Try.prog 19 #[.agg #[.int .i64 x.k, .int .i64 x.p, .int .i64 x.q, .string x.s, .int .i64 x.r], .slice p1 l.length c1, .int .i64 nx, .slice p2 kp.length c2] W fun e w' => ∃ va, e = .returned va ∧ AA w' va (callA 3 x l nx kp) ∧ Ch [] W w' ∧ ((∀ c o, c < W0.heap.size → w'.cell? ⟨c, o, none⟩ = W0.cell? ⟨c, o, none⟩) ∧ AwS W0 w')) := Lib.hid fun W h => by
    refine (rcall_ao x _ _ l kp nx W (H.out.below (HC.out.trans h.2)) (HK.out.below (HC.out.trans h.2)) hm0 hm1).mono ?_
    rintro e w' ⟨va, rfl, ha, hc⟩
    exact ⟨va, rfl, ha.aa, hc, aw_keep h hc⟩
  have Q2 : Hid (∀ W, ((∀ c o, c < W0.heap.size → W.cell? ⟨c, o, none⟩ = W0.cell? ⟨c, o, none⟩) ∧ AwS W0 W) → Calls Try.prog 20 #[.agg #[.int .i64 x.k, .int .i64 x.p, .int .i64 x.q, .string x.s, .int .i64 x.r], .slice p1 l.length c1, .int .i64 nx, .slice p2 kp.length c2] W fun e w' => ∃ va, e = .returned va ∧ AA w' va (callA 4 x l nx kp) ∧ Ch [] W w' ∧ ((∀ c o, c < W0.heap.size → w'.cell? ⟨c, o, none⟩ = W0.cell? ⟨c, o, none⟩) ∧ AwS W0 w')) := Lib.hid fun W h => by
    refine (try_ao x _ _ l kp nx W (H.out.below (HC.out.trans h.2)) (HK.out.below (HC.out.trans h.2)) hm0 hm1).mono ?_
    rintro e w' ⟨va, rfl, ha, hc⟩
    exact ⟨va, rfl, ha.aa, hc, aw_keep h hc⟩
  have Q2r : Hid (∀ W, ((∀ c o, c < W0.heap.size → W.cell? ⟨c, o, none⟩ = W0.cell? ⟨c, o, none⟩) ∧ AwS W0 W) → Calls Try.prog 21 #[.agg #[.int .i64 x.k, .int .i64 x.p, .int .i64 x.q, .string x.s, .int .i64 x.r], .slice p1 l.length c1, .int .i64 nx, .slice p2 kp.length c2] W fun e w' => ∃ va, e = .returned va ∧ AA w' va (callA 4 x l nx kp) ∧ Ch [] W w' ∧ ((∀ c o, c < W0.heap.size → w'.cell? ⟨c, o, none⟩ = W0.cell? ⟨c, o, none⟩) ∧ AwS W0 w')) := Lib.hid fun W h => by
    refine (rtry_ao x _ _ l kp nx W (H.out.below (HC.out.trans h.2)) (HK.out.below (HC.out.trans h.2)) hm0 hm1).mono ?_
    rintro e w' ⟨va, rfl, ha, hc⟩
    exact ⟨va, rfl, ha.aa, hc, aw_keep h hc⟩
  have Q3 : Hid (∀ W, ((∀ c o, c < W0.heap.size → W.cell? ⟨c, o, none⟩ = W0.cell? ⟨c, o, none⟩) ∧ AwS W0 W) → Calls Try.prog 22 #[.slice p1 l.length c1, .int .i64 nx, .slice p2 kp.length c2] W fun e w' => ∃ va, e = .returned va ∧ AA w' va (yldA l nx kp) ∧ Ch [] W w' ∧ ((∀ c o, c < W0.heap.size → w'.cell? ⟨c, o, none⟩ = W0.cell? ⟨c, o, none⟩) ∧ AwS W0 w')) := Lib.hid fun W h => by
    refine (yield_ao _ _ l kp nx W (H.out.below (HC.out.trans h.2)) (HK.out.below (HC.out.trans h.2)) hm0 hm1).mono ?_
    rintro e w' ⟨va, rfl, ha, hc⟩
    exact ⟨va, rfl, ha.aa, hc, aw_keep h hc⟩
  have Q3r : Hid (∀ W, ((∀ c o, c < W0.heap.size → W.cell? ⟨c, o, none⟩ = W0.cell? ⟨c, o, none⟩) ∧ AwS W0 W) → Calls Try.prog 23 #[.slice p1 l.length c1, .int .i64 nx, .slice p2 kp.length c2] W fun e w' => ∃ va, e = .returned va ∧ AA w' va (yldA l nx kp) ∧ Ch [] W w' ∧ ((∀ c o, c < W0.heap.size → w'.cell? ⟨c, o, none⟩ = W0.cell? ⟨c, o, none⟩) ∧ AwS W0 w')) := Lib.hid fun W h => by
    refine (ryield_ao _ _ l kp nx W (H.out.below (HC.out.trans h.2)) (HK.out.below (HC.out.trans h.2)) hm0 hm1).mono ?_
    rintro e w' ⟨va, rfl, ha, hc⟩
    exact ⟨va, rfl, ha.aa, hc, aw_keep h hc⟩
  have QS : Hid (∀ W va vb a, AA W va a → AA W vb a → a.l.length ≤ 1000000 → a.kp.length ≤ 1000000 → ((∀ c o, c < W0.heap.size → W.cell? ⟨c, o, none⟩ = W0.cell? ⟨c, o, none⟩) ∧ AwS W0 W) → Calls Try.prog 11 #[va, vb] W fun e w' => e = .returned (.bool true) ∧ ((∀ c o, c < W0.heap.size → w'.cell? ⟨c, o, none⟩ = W0.cell? ⟨c, o, none⟩) ∧ AwS W0 w')) := Lib.hid fun W va vb a h1 h2 n1 n2 h => by
    have := rasame_any va vb a a W h1 h2 n1 n2 n1 n2
    rw [decide_eq_true rfl] at this
    exact this.mono fun e w' hh => ⟨hh.1, aw_keep h hh.2⟩
  have QA : Hid (∀ W, ((∀ c o, c < W0.heap.size → W.cell? ⟨c, o, none⟩ = W0.cell? ⟨c, o, none⟩) ∧ AwS W0 W) → Calls Try.prog 10 #[] W fun e w' => e = .returned (.bool true) ∧ ((∀ c o, c < W0.heap.size → w'.cell? ⟨c, o, none⟩ = W0.cell? ⟨c, o, none⟩) ∧ AwS W0 w')) := Lib.hid fun W h => (awake_any W).mono fun e w' hh => ⟨hh.1, aw_keep h hh.2⟩
  have HW := Lib.hid hW
  have hS0 := aw_start W0
  clear hW hl0 hl1 hd0 hd1 hm0 hm1
  go_enter Try.func4, Try.ntmps4
  go_upto_region 3 with (first | (go_at_call 9; (with_reducible refine (QL0.out _).mono ?_); rintro e w1 ⟨rfl, rfl⟩) | (go_at_call 9; (with_reducible refine (QL1.out _).mono ?_); rintro e w1 ⟨rfl, rfl⟩))
  rw [← HW.out]
  have u0 : W0.cell? ⟨w.heap.size, 0, none⟩ = some (.int .i64 x.k) := HX.out.cell 0
  have u1 : W0.cell? ⟨w.heap.size, 1, none⟩ = some (.int .i64 x.p) := HX.out.cell 1
  have u2 : W0.cell? ⟨w.heap.size, 2, none⟩ = some (.int .i64 x.q) := HX.out.cell 2
  have u3 : W0.cell? ⟨w.heap.size, 3, none⟩ = some (.string x.s) := HX.out.cell 3
  have u4 : W0.cell? ⟨w.heap.size, 4, none⟩ = some (.int .i64 x.r) := HX.out.cell 4
  have ul := HX.out.lt
  clear QL0 QL1
  go_region_held3 (fun w' => (∀ c o, c < W0.heap.size → w'.cell? ⟨c, o, none⟩ = W0.cell? ⟨c, o, none⟩) ∧ AwS W0 w') (first | assumption | exact hS0) (first | (go_at_call 18; (with_reducible refine (Q1.out _ (by assumption)).mono ?_); rintro e w11 ⟨va1, rfl, ha, hc, hq11⟩; have HA1 := Lib.hid ha; clear ha hc) | (go_at_call 19; (with_reducible refine (Q1r.out _ (by assumption)).mono ?_); rintro e w12 ⟨vb1, rfl, ha, hc, hq12⟩; have HB1 := Lib.hid ha; have HAB1 := Lib.hid (HA1.out.below hc); clear ha hc) | (go_at_call 11; (with_reducible refine (QS.out _ _ _ _ HAB1.out HB1.out HN1.out.1 HN1.out.2 (by assumption)).mono ?_); rintro e w13 ⟨rfl, hq13⟩) | (go_at_call 20; (with_reducible refine (Q2.out _ (by assumption)).mono ?_); rintro e w21 ⟨va2, rfl, ha, hc, hq21⟩; have HA2 := Lib.hid ha; clear ha hc) | (go_at_call 21; (with_reducible refine (Q2r.out _ (by assumption)).mono ?_); rintro e w22 ⟨vb2, rfl, ha, hc, hq22⟩; have HB2 := Lib.hid ha; have HAB2 := Lib.hid (HA2.out.below hc); clear ha hc) | (go_at_call 11; (with_reducible refine (QS.out _ _ _ _ HAB2.out HB2.out HN2.out.1 HN2.out.2 (by assumption)).mono ?_); rintro e w23 ⟨rfl, hq23⟩) | (go_at_call 22; (with_reducible refine (Q3.out _ (by assumption)).mono ?_); rintro e w31 ⟨va3, rfl, ha, hc, hq31⟩; have HA3 := Lib.hid ha; clear ha hc) | (go_at_call 23; (with_reducible refine (Q3r.out _ (by assumption)).mono ?_); rintro e w32 ⟨vb3, rfl, ha, hc, hq32⟩; have HB3 := Lib.hid ha; have HAB3 := Lib.hid (HA3.out.below hc); clear ha hc) | (go_at_call 11; (with_reducible refine (QS.out _ _ _ _ HAB3.out HB3.out HN3.out.1 HN3.out.2 (by assumption)).mono ?_); rintro e w33 ⟨rfl, hq33⟩) | (go_at_call 10; (with_reducible refine (QA.out _ (by assumption)).mono ?_); rintro e w9 ⟨rfl, hq9⟩))
  all_goals (
    have hS := ‹_ ∧ AwS _ _›
    go_wp2
    go_ret
    exact ⟨rfl, (HC.out.trans hS.2).below⟩)
end Go.Proofs.Ytdgdpckjcpgoaaa
