/- Layer 20: the walk of ProtocolNeeds. -/
import Derived.Test.YtdgdpckjcpgoaaaPrQ
namespace Go.Proofs.Ytdgdpckjcpgoaaa
open Go.RowKit Go.Joins M1
set_option linter.unusedVariables false
theorem need_len (n : Nd) (nx : Int) (kp : List V5) (h1 : n.l.length ≤ 1000000) (h2 : kp.length ≤ 1000000) : (needA n nx kp).l.length ≤ 1000000 ∧ (needA n nx kp).kp.length ≤ 1000000 := by
  unfold needA
  repeat' split
  all_goals simp [retA, callA, errA, failA, h1, h2]
set_option maxHeartbeats 16000000 in
theorem walk_ProtocolNeeds (va : Value) (n : Nd) (nx : Int) (vk : Value) (kp : List V5) (w : World) (h : VA w va n.l) (hk : VA w vk kp) :
    Calls Try.prog 7 #[.agg #[.int .i64 n.k, .int .i64 n.v.k, .int .i64 n.v.p, .int .i64 n.v.q, .string n.v.s, .int .i64 n.v.r, .int .i64 n.f.k, .int .i64 n.f.p, .int .i64 n.f.q, .string n.f.s, .int .i64 n.f.r, va, .int .i64 n.af, .string n.s], .int .i64 nx, vk] w fun e w' => e = .returned (.bool true) ∧ Below w.heap.size w w' := by
  have H := Lib.hid h
  have HK := Lib.hid hk
  obtain ⟨p1, c1, rfl, _, _⟩ := h
  obtain ⟨p2, c2, rfl, _, _⟩ := hk
  have QL0 := Lib.hid (fun W => large_any p1 n.l.length c1 W)
  have QL1 := Lib.hid (fun W => large_any p2 kp.length c2 W)
  by_cases hl0 : 600 < n.l.length
  · have hd0 : decide (600 < n.l.length) = true := by simpa using hl0
    rw [hd0] at QL0
    have QA := Lib.hid fun W => awake_any W
    have HC0 : Hid (Ch [] w ((w.alloc (.cells #[.int .i64 n.k, .int .i64 n.v.k, .int .i64 n.v.p, .int .i64 n.v.q, .string n.v.s, .int .i64 n.v.r, .int .i64 n.f.k, .int .i64 n.f.p, .int .i64 n.f.q, .string n.f.s, .int .i64 n.f.r, .slice p1 n.l.length c1, .int .i64 n.af, .string n.s] 45)))) := Lib.hid (by first | exact Ch.refl _ _ | exact (Ch.refl [] w).alloc _ | exact ((Ch.refl [] w).alloc _).alloc _)
    clear hl0 hd0
    go_enter Try.func7, Try.ntmps7
    go_wp2_with (first | (go_at_call 9; (with_reducible refine (QL0.out _).mono ?_); rintro e w1 ⟨rfl, rfl⟩) | (go_at_call 10; (with_reducible refine (QA.out _).mono ?_); rintro e w2 ⟨rfl, hc⟩; have HC := Lib.hid (HC0.out.trans hc); clear hc))
    go_ret
    exact ⟨rfl, HC.out.below⟩
  have hd0 : decide (600 < n.l.length) = false := by simpa using hl0
  rw [hd0] at QL0
  have hm0 : n.l.length ≤ 1000000 := by omega
  by_cases hl1 : 600 < kp.length
  · have hd1 : decide (600 < kp.length) = true := by simpa using hl1
    rw [hd1] at QL1
    have QA := Lib.hid fun W => awake_any W
    have HC0 : Hid (Ch [] w ((w.alloc (.cells #[.int .i64 n.k, .int .i64 n.v.k, .int .i64 n.v.p, .int .i64 n.v.q, .string n.v.s, .int .i64 n.v.r, .int .i64 n.f.k, .int .i64 n.f.p, .int .i64 n.f.q, .string n.f.s, .int .i64 n.f.r, .slice p1 n.l.length c1, .int .i64 n.af, .string n.s] 45)))) := Lib.hid (by first | exact Ch.refl _ _ | exact (Ch.refl [] w).alloc _ | exact ((Ch.refl [] w).alloc _).alloc _)
    clear hl0 hd0 hl1 hd1
    go_enter Try.func7, Try.ntmps7
    go_wp2_with (first | (go_at_call 9; (with_reducible refine (QL0.out _).mono ?_); rintro e w1 ⟨rfl, rfl⟩) | (go_at_call 9; (with_reducible refine (QL1.out _).mono ?_); rintro e w1 ⟨rfl, rfl⟩) | (go_at_call 10; (with_reducible refine (QA.out _).mono ?_); rintro e w2 ⟨rfl, hc⟩; have HC := Lib.hid (HC0.out.trans hc); clear hc))
    go_ret
    exact ⟨rfl, HC.out.below⟩
  have hd1 : decide (600 < kp.length) = false := by simpa using hl1
  rw [hd1] at QL1
  have hm1 : kp.length ≤ 1000000 := by omega
  obtain ⟨W0, hW⟩ : ∃ W0, W0 = (w.alloc (.cells #[.int .i64 n.k, .int .i64 n.v.k, .int .i64 n.v.p, .int .i64 n.v.q, .string n.v.s, .int .i64 n.v.r, .int .i64 n.f.k, .int .i64 n.f.p, .int .i64 n.f.q, .string n.f.s, .int .i64 n.f.r, .slice p1 n.l.length c1, .int .i64 n.af, .string n.s] 45)) := ⟨_, rfl⟩
  have HC : Hid (Ch [] w W0) := Lib.hid (by rw [hW]; exact (Ch.refl [] w).alloc _)
  have HX : Hid (Blk 45 w.heap.size #[.int .i64 n.k, .int .i64 n.v.k, .int .i64 n.v.p, .int .i64 n.v.q, .string n.v.s, .int .i64 n.v.r, .int .i64 n.f.k, .int .i64 n.f.p, .int .i64 n.f.q, .string n.f.s, .int .i64 n.f.r, .slice p1 n.l.length c1, .int .i64 n.af, .string n.s] W0) := Lib.hid (by rw [hW]; exact Blk.new w _ _ _ rfl)
  have HN1 := Lib.hid (need_len n nx kp hm0 hm1)
  have Q1 : Hid (∀ W, ((∀ c o, c < W0.heap.size → W.cell? ⟨c, o, none⟩ = W0.cell? ⟨c, o, none⟩) ∧ AwS W0 W) → Calls Try.prog 29 #[.agg #[.int .i64 n.k, .int .i64 n.v.k, .int .i64 n.v.p, .int .i64 n.v.q, .string n.v.s, .int .i64 n.v.r, .int .i64 n.f.k, .int .i64 n.f.p, .int .i64 n.f.q, .string n.f.s, .int .i64 n.f.r, .slice p1 n.l.length c1, .int .i64 n.af, .string n.s], .int .i64 nx, .slice p2 kp.length c2] W fun e w' => ∃ va, e = .returned va ∧ AA w' va (needA n nx kp) ∧ Ch [] W w' ∧ ((∀ c o, c < W0.heap.size → w'.cell? ⟨c, o, none⟩ = W0.cell? ⟨c, o, none⟩) ∧ AwS W0 w')) := Lib.hid fun W h => by
    refine (need_any n _ nx _ kp W (H.out.below (HC.out.trans h.2)) (HK.out.below (HC.out.trans h.2)) hm0 hm1).mono ?_
    rintro e w' ⟨va, rfl, ha, hc⟩
    exact ⟨va, rfl, ha.aa, hc, aw_keep h hc⟩
  have Q1r : Hid (∀ W, ((∀ c o, c < W0.heap.size → W.cell? ⟨c, o, none⟩ = W0.cell? ⟨c, o, none⟩) ∧ AwS W0 W) → Calls Try.prog 30 #[.agg #[.int .i64 n.k, .int .i64 n.v.k, .int .i64 n.v.p, .int .i64 n.v.q, .string n.v.s, .int .i64 n.v.r, .int .i64 n.f.k, .int .i64 n.f.p, .int .i64 n.f.q, .string n.f.s, .int .i64 n.f.r, .slice p1 n.l.length c1, .int .i64 n.af, .string n.s], .int .i64 nx, .slice p2 kp.length c2] W fun e w' => ∃ va, e = .returned va ∧ AA w' va (needA n nx kp) ∧ Ch [] W w' ∧ ((∀ c o, c < W0.heap.size → w'.cell? ⟨c, o, none⟩ = W0.cell? ⟨c, o, none⟩) ∧ AwS W0 w')) := Lib.hid fun W h => by
    refine (rneed_any n _ nx _ kp W (H.out.below (HC.out.trans h.2)) (HK.out.below (HC.out.trans h.2)) hm0 hm1).mono ?_
    rintro e w' ⟨va, rfl, ha, hc⟩
    exact ⟨va, rfl, ha.aa, hc, aw_keep h hc⟩
  have QS : Hid (∀ W va vb a, AA W va a → AA W vb a → a.l.length ≤ 1000000 → a.kp.length ≤ 1000000 → ((∀ c o, c < W0.heap.size → W.cell? ⟨c, o, none⟩ = W0.cell? ⟨c, o, none⟩) ∧ AwS W0 W) → Calls Try.prog 11 #[va, vb] W fun e w' => e = .returned (.bool true) ∧ ((∀ c o, c < W0.heap.size → w'.cell? ⟨c, o, none⟩ = W0.cell? ⟨c, o, none⟩) ∧ AwS W0 w')) := Lib.hid fun W va vb a h1 h2 n1 n2 h => by
    have := rasame_any va vb a a W h1 h2 n1 n2 n1 n2
    rw [decide_eq_true rfl] at this
    exact this.mono fun e w' hh => ⟨hh.1, aw_keep h hh.2⟩
  have QA : Hid (∀ W, ((∀ c o, c < W0.heap.size → W.cell? ⟨c, o, none⟩ = W0.cell? ⟨c, o, none⟩) ∧ AwS W0 W) → Calls Try.prog 10 #[] W fun e w' => e = .returned (.bool true) ∧ ((∀ c o, c < W0.heap.size → w'.cell? ⟨c, o, none⟩ = W0.cell? ⟨c, o, none⟩) ∧ AwS W0 w')) := Lib.hid fun W h => (awake_any W).mono fun e w' hh => ⟨hh.1, aw_keep h hh.2⟩
  have HW := Lib.hid hW
  have hS0 := aw_start W0
  clear hW hl0 hl1 hd0 hd1 hm0 hm1
  go_enter Try.func7, Try.ntmps7
  go_upto_region 3 with (first | (go_at_call 9; (with_reducible refine (QL0.out _).mono ?_); rintro e w1 ⟨rfl, rfl⟩) | (go_at_call 9; (with_reducible refine (QL1.out _).mono ?_); rintro e w1 ⟨rfl, rfl⟩))
  rw [← HW.out]
  have u0 : W0.cell? ⟨w.heap.size, 0, none⟩ = some (.int .i64 n.k) := HX.out.cell 0
  have u1 : W0.cell? ⟨w.heap.size, 1, none⟩ = some (.int .i64 n.v.k) := HX.out.cell 1
  have u2 : W0.cell? ⟨w.heap.size, 2, none⟩ = some (.int .i64 n.v.p) := HX.out.cell 2
  have u3 : W0.cell? ⟨w.heap.size, 3, none⟩ = some (.int .i64 n.v.q) := HX.out.cell 3
  have u4 : W0.cell? ⟨w.heap.size, 4, none⟩ = some (.string n.v.s) := HX.out.cell 4
  have u5 : W0.cell? ⟨w.heap.size, 5, none⟩ = some (.int .i64 n.v.r) := HX.out.cell 5
  have u6 : W0.cell? ⟨w.heap.size, 6, none⟩ = some (.int .i64 n.f.k) := HX.out.cell 6
  have u7 : W0.cell? ⟨w.heap.size, 7, none⟩ = some (.int .i64 n.f.p) := HX.out.cell 7
  have u8 : W0.cell? ⟨w.heap.size, 8, none⟩ = some (.int .i64 n.f.q) := HX.out.cell 8
  have u9 : W0.cell? ⟨w.heap.size, 9, none⟩ = some (.string n.f.s) := HX.out.cell 9
  have u10 : W0.cell? ⟨w.heap.size, 10, none⟩ = some (.int .i64 n.f.r) := HX.out.cell 10
  have u11 : W0.cell? ⟨w.heap.size, 11, none⟩ = some (.slice p1 n.l.length c1) := HX.out.cell 11
  have u12 : W0.cell? ⟨w.heap.size, 12, none⟩ = some (.int .i64 n.af) := HX.out.cell 12
  have u13 : W0.cell? ⟨w.heap.size, 13, none⟩ = some (.string n.s) := HX.out.cell 13
  have ul := HX.out.lt
  clear QL0 QL1
  go_region_held3 (fun w' => (∀ c o, c < W0.heap.size → w'.cell? ⟨c, o, none⟩ = W0.cell? ⟨c, o, none⟩) ∧ AwS W0 w') (first | assumption | exact hS0) (first | (go_at_call 29; (with_reducible refine (Q1.out _ (by assumption)).mono ?_); rintro e w11 ⟨va1, rfl, ha, hc, hq11⟩; have HA1 := Lib.hid ha; clear ha hc) | (go_at_call 30; (with_reducible refine (Q1r.out _ (by assumption)).mono ?_); rintro e w12 ⟨vb1, rfl, ha, hc, hq12⟩; have HB1 := Lib.hid ha; have HAB1 := Lib.hid (HA1.out.below hc); clear ha hc) | (go_at_call 11; (with_reducible refine (QS.out _ _ _ _ HAB1.out HB1.out HN1.out.1 HN1.out.2 (by assumption)).mono ?_); rintro e w13 ⟨rfl, hq13⟩) | (go_at_call 10; (with_reducible refine (QA.out _ (by assumption)).mono ?_); rintro e w9 ⟨rfl, hq9⟩))
  all_goals (
    have hS := ‹_ ∧ AwS _ _›
    go_wp2
    go_ret
    exact ⟨rfl, (HC.out.trans hS.2).below⟩)
end Go.Proofs.Ytdgdpckjcpgoaaa
