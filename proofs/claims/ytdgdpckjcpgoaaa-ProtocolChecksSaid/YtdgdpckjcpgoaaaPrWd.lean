/- Layer 20: the walk of ProtocolChecks. -/
import Derived.Test.YtdgdpckjcpgoaaaPrQ
namespace Go.Proofs.Ytdgdpckjcpgoaaa
open Go.RowKit Go.Joins M1
set_option linter.unusedVariables false
set_option maxHeartbeats 16000000 in
theorem walk_ProtocolChecks (vl vk : Value) (a : Act) (w : World) (h : VA w vl a.l) (hk : VA w vk a.kp) :
    Calls Try.prog 5 #[aV a vl vk] w fun e w' => e = .returned (.bool true) ∧ Below w.heap.size w w' := by
  have H := Lib.hid h
  have HK := Lib.hid hk
  obtain ⟨p1, c1, rfl, _, _⟩ := h
  obtain ⟨p2, c2, rfl, _, _⟩ := hk
  unfold aV
  have QL0 := Lib.hid (fun W => large_any p1 a.l.length c1 W)
  have QL1 := Lib.hid (fun W => large_any p2 a.kp.length c2 W)
  by_cases hl0 : 600 < a.l.length
  · have hd0 : decide (600 < a.l.length) = true := by simpa using hl0
    rw [hd0] at QL0
    have QA := Lib.hid fun W => awake_any W
    have HC0 : Hid (Ch [] w ((w.alloc (.cells #[.int .i64 a.k, .int .i64 a.op, .int .i64 a.f.k, .int .i64 a.f.p, .int .i64 a.f.q, .string a.f.s, .int .i64 a.f.r, .slice p1 a.l.length c1, .string a.s, .int .i64 a.lv, .int .i64 a.nx, .slice p2 a.kp.length c2] 31)))) := Lib.hid (by first | exact Ch.refl _ _ | exact (Ch.refl [] w).alloc _ | exact ((Ch.refl [] w).alloc _).alloc _)
    clear hl0 hd0
    go_enter Try.func5, Try.ntmps5
    go_wp2_with (first | (go_at_call 9; (with_reducible refine (QL0.out _).mono ?_); rintro e w1 ⟨rfl, rfl⟩) | (go_at_call 10; (with_reducible refine (QA.out _).mono ?_); rintro e w2 ⟨rfl, hc⟩; have HC := Lib.hid (HC0.out.trans hc); clear hc))
    go_ret
    exact ⟨rfl, HC.out.below⟩
  have hd0 : decide (600 < a.l.length) = false := by simpa using hl0
  rw [hd0] at QL0
  have hm0 : a.l.length ≤ 1000000 := by omega
  by_cases hl1 : 600 < a.kp.length
  · have hd1 : decide (600 < a.kp.length) = true := by simpa using hl1
    rw [hd1] at QL1
    have QA := Lib.hid fun W => awake_any W
    have HC0 : Hid (Ch [] w ((w.alloc (.cells #[.int .i64 a.k, .int .i64 a.op, .int .i64 a.f.k, .int .i64 a.f.p, .int .i64 a.f.q, .string a.f.s, .int .i64 a.f.r, .slice p1 a.l.length c1, .string a.s, .int .i64 a.lv, .int .i64 a.nx, .slice p2 a.kp.length c2] 31)))) := Lib.hid (by first | exact Ch.refl _ _ | exact (Ch.refl [] w).alloc _ | exact ((Ch.refl [] w).alloc _).alloc _)
    clear hl0 hd0 hl1 hd1
    go_enter Try.func5, Try.ntmps5
    go_wp2_with (first | (go_at_call 9; (with_reducible refine (QL0.out _).mono ?_); rintro e w1 ⟨rfl, rfl⟩) | (go_at_call 9; (with_reducible refine (QL1.out _).mono ?_); rintro e w1 ⟨rfl, rfl⟩) | (go_at_call 10; (with_reducible refine (QA.out _).mono ?_); rintro e w2 ⟨rfl, hc⟩; have HC := Lib.hid (HC0.out.trans hc); clear hc))
    go_ret
    exact ⟨rfl, HC.out.below⟩
  have hd1 : decide (600 < a.kp.length) = false := by simpa using hl1
  rw [hd1] at QL1
  have hm1 : a.kp.length ≤ 1000000 := by omega
  obtain ⟨W0, hW⟩ : ∃ W0, W0 = (w.alloc (.cells #[.int .i64 a.k, .int .i64 a.op, .int .i64 a.f.k, .int .i64 a.f.p, .int .i64 a.f.q, .string a.f.s, .int .i64 a.f.r, .slice p1 a.l.length c1, .string a.s, .int .i64 a.lv, .int .i64 a.nx, .slice p2 a.kp.length c2] 31)) := ⟨_, rfl⟩
  have HC : Hid (Ch [] w W0) := Lib.hid (by rw [hW]; exact (Ch.refl [] w).alloc _)
  have HX : Hid (Blk 31 w.heap.size #[.int .i64 a.k, .int .i64 a.op, .int .i64 a.f.k, .int .i64 a.f.p, .int .i64 a.f.q, .string a.f.s, .int .i64 a.f.r, .slice p1 a.l.length c1, .string a.s, .int .i64 a.lv, .int .i64 a.nx, .slice p2 a.kp.length c2] W0) := Lib.hid (by rw [hW]; exact Blk.new w _ _ _ rfl)
  obtain ⟨E, hE⟩ : ∃ E, E = checkE a := ⟨_, rfl⟩
  have Q1 : Hid (∀ W, ((∀ c o, c < W0.heap.size → W.cell? ⟨c, o, none⟩ = W0.cell? ⟨c, o, none⟩) ∧ AwS W0 W) → Calls Try.prog 24 #[.agg #[.int .i64 a.k, .int .i64 a.op, .int .i64 a.f.k, .int .i64 a.f.p, .int .i64 a.f.q, .string a.f.s, .int .i64 a.f.r, .slice p1 a.l.length c1, .string a.s, .int .i64 a.lv, .int .i64 a.nx, .slice p2 a.kp.length c2]] W fun e w' => e = .returned (.int .i64 E) ∧ ((∀ c o, c < W0.heap.size → w'.cell? ⟨c, o, none⟩ = W0.cell? ⟨c, o, none⟩) ∧ AwS W0 w')) := Lib.hid fun W h => by
    rw [hE]
    exact (check_any _ a W ⟨.slice p1 a.l.length c1, .slice p2 a.kp.length c2, rfl, H.out.below (HC.out.trans h.2), HK.out.below (HC.out.trans h.2)⟩ hm0 hm1).mono fun e w' hh => ⟨hh.1, aw_keep h hh.2⟩
  have Q1r : Hid (∀ W, ((∀ c o, c < W0.heap.size → W.cell? ⟨c, o, none⟩ = W0.cell? ⟨c, o, none⟩) ∧ AwS W0 W) → Calls Try.prog 25 #[.agg #[.int .i64 a.k, .int .i64 a.op, .int .i64 a.f.k, .int .i64 a.f.p, .int .i64 a.f.q, .string a.f.s, .int .i64 a.f.r, .slice p1 a.l.length c1, .string a.s, .int .i64 a.lv, .int .i64 a.nx, .slice p2 a.kp.length c2]] W fun e w' => e = .returned (.int .i64 E) ∧ ((∀ c o, c < W0.heap.size → w'.cell? ⟨c, o, none⟩ = W0.cell? ⟨c, o, none⟩) ∧ AwS W0 w')) := Lib.hid fun W h => by
    rw [hE]
    exact (rcheck_any _ a W ⟨.slice p1 a.l.length c1, .slice p2 a.kp.length c2, rfl, H.out.below (HC.out.trans h.2), HK.out.below (HC.out.trans h.2)⟩ hm0 hm1).mono fun e w' hh => ⟨hh.1, aw_keep h hh.2⟩
  have QA : Hid (∀ W, ((∀ c o, c < W0.heap.size → W.cell? ⟨c, o, none⟩ = W0.cell? ⟨c, o, none⟩) ∧ AwS W0 W) → Calls Try.prog 10 #[] W fun e w' => e = .returned (.bool true) ∧ ((∀ c o, c < W0.heap.size → w'.cell? ⟨c, o, none⟩ = W0.cell? ⟨c, o, none⟩) ∧ AwS W0 w')) := Lib.hid fun W h => (awake_any W).mono fun e w' hh => ⟨hh.1, aw_keep h hh.2⟩
  have HW := Lib.hid hW
  have hS0 := aw_start W0
  clear hW hl0 hl1 hd0 hd1 hm0 hm1 hE
  go_enter Try.func5, Try.ntmps5
  go_upto_region 3 with (first | (go_at_call 9; (with_reducible refine (QL0.out _).mono ?_); rintro e w1 ⟨rfl, rfl⟩) | (go_at_call 9; (with_reducible refine (QL1.out _).mono ?_); rintro e w1 ⟨rfl, rfl⟩))
  rw [← HW.out]
  have u0 : W0.cell? ⟨w.heap.size, 0, none⟩ = some (.int .i64 a.k) := HX.out.cell 0
  have u1 : W0.cell? ⟨w.heap.size, 1, none⟩ = some (.int .i64 a.op) := HX.out.cell 1
  have u2 : W0.cell? ⟨w.heap.size, 2, none⟩ = some (.int .i64 a.f.k) := HX.out.cell 2
  have u3 : W0.cell? ⟨w.heap.size, 3, none⟩ = some (.int .i64 a.f.p) := HX.out.cell 3
  have u4 : W0.cell? ⟨w.heap.size, 4, none⟩ = some (.int .i64 a.f.q) := HX.out.cell 4
  have u5 : W0.cell? ⟨w.heap.size, 5, none⟩ = some (.string a.f.s) := HX.out.cell 5
  have u6 : W0.cell? ⟨w.heap.size, 6, none⟩ = some (.int .i64 a.f.r) := HX.out.cell 6
  have u7 : W0.cell? ⟨w.heap.size, 7, none⟩ = some (.slice p1 a.l.length c1) := HX.out.cell 7
  have u8 : W0.cell? ⟨w.heap.size, 8, none⟩ = some (.string a.s) := HX.out.cell 8
  have u9 : W0.cell? ⟨w.heap.size, 9, none⟩ = some (.int .i64 a.lv) := HX.out.cell 9
  have u10 : W0.cell? ⟨w.heap.size, 10, none⟩ = some (.int .i64 a.nx) := HX.out.cell 10
  have u11 : W0.cell? ⟨w.heap.size, 11, none⟩ = some (.slice p2 a.kp.length c2) := HX.out.cell 11
  have ul := HX.out.lt
  clear QL0 QL1
  go_region_held3 (fun w' => (∀ c o, c < W0.heap.size → w'.cell? ⟨c, o, none⟩ = W0.cell? ⟨c, o, none⟩) ∧ AwS W0 w') (first | assumption | exact hS0) (first | (go_at_call 24; (with_reducible refine (Q1.out _ (by assumption)).mono ?_); rintro e w1 ⟨rfl, hq1⟩) | (go_at_call 25; (with_reducible refine (Q1r.out _ (by assumption)).mono ?_); rintro e w2 ⟨rfl, hq2⟩) | (go_at_call 10; (with_reducible refine (QA.out _ (by assumption)).mono ?_); rintro e w9 ⟨rfl, hq9⟩))
  all_goals (
    have hS := ‹_ ∧ AwS _ _›
    go_wp2
    go_ret
    exact ⟨rfl, (HC.out.trans hS.2).below⟩)
end Go.Proofs.Ytdgdpckjcpgoaaa
