/- Layer 19: the walk of FailureCompares. -/
import Derived.Test.YtimblnhigoggpaaDoorFlG
import Derived.Test.YtimblnhigoggpaaDoorFlH
namespace Go.Proofs.YtimblnhigoggpaaDoor
open Go.RowKit Go.Joins M1
set_option linter.unusedVariables false
set_option maxHeartbeats 16000000 in
theorem walk_FailureCompares (va : Value) (f : Flr) (vb : Value) (g : Flr) (w : World) (h : FA w va f) (k : FA w vb g) :
    Calls Tryd.prog 7 #[va, vb] w fun e w' => e = .returned (.bool true) ∧ Below w.heap.size w w' := by
  obtain ⟨vt1, rfl, q1⟩ := h
  obtain ⟨vt2, rfl, q2⟩ := k
  have H := Lib.hid q1
  have G := Lib.hid q2
  obtain ⟨p1, c1, rfl, _⟩ := q1
  obtain ⟨p2, c2, rfl, _⟩ := q2
  unfold fV
  have QL0 := Lib.hid (fun W => large_any p1 f.t.length c1 W)
  have QL1 := Lib.hid (fun W => large_any p2 g.t.length c2 W)
  by_cases hl0 : 400 < f.t.length
  · have hd0 : decide (400 < f.t.length) = true := by simpa using hl0
    rw [hd0] at QL0
    have QA := Lib.hid fun W => awake_any W
    have HC0 : Hid (Ch [] w ((w.alloc (.cells #[.int .i64 f.v.k, .int .i64 f.v.p, .int .i64 f.v.q, .string f.v.s, .int .i64 f.v.r, .slice p1 f.t.length c1] 31)).alloc (.cells #[.int .i64 g.v.k, .int .i64 g.v.p, .int .i64 g.v.q, .string g.v.s, .int .i64 g.v.r, .slice p2 g.t.length c2] 31))) := Lib.hid (((Ch.refl [] w).alloc _).alloc _)
    clear hl0 hd0
    go_enter Tryd.func7, Tryd.ntmps7
    go_wp2_with (first | (go_at_call 11; (with_reducible refine (QL0.out _).mono ?_); rintro e w1 ⟨rfl, rfl⟩) | (go_at_call 12; (with_reducible refine (QA.out _).mono ?_); rintro e w2 ⟨rfl, hc⟩; have HC := Lib.hid (HC0.out.trans hc); clear hc))
    go_ret
    exact ⟨rfl, HC.out.below⟩
  have hd0 : decide (400 < f.t.length) = false := by simpa using hl0
  rw [hd0] at QL0
  have hm0 : f.t.length ≤ 1000000 := by omega
  by_cases hl1 : 400 < g.t.length
  · have hd1 : decide (400 < g.t.length) = true := by simpa using hl1
    rw [hd1] at QL1
    have QA := Lib.hid fun W => awake_any W
    have HC0 : Hid (Ch [] w ((w.alloc (.cells #[.int .i64 f.v.k, .int .i64 f.v.p, .int .i64 f.v.q, .string f.v.s, .int .i64 f.v.r, .slice p1 f.t.length c1] 31)).alloc (.cells #[.int .i64 g.v.k, .int .i64 g.v.p, .int .i64 g.v.q, .string g.v.s, .int .i64 g.v.r, .slice p2 g.t.length c2] 31))) := Lib.hid (((Ch.refl [] w).alloc _).alloc _)
    clear hl0 hd0 hl1 hd1
    go_enter Tryd.func7, Tryd.ntmps7
    go_wp2_with (first | (go_at_call 11; (with_reducible refine (QL0.out _).mono ?_); rintro e w1 ⟨rfl, rfl⟩) | (go_at_call 11; (with_reducible refine (QL1.out _).mono ?_); rintro e w1 ⟨rfl, rfl⟩) | (go_at_call 12; (with_reducible refine (QA.out _).mono ?_); rintro e w2 ⟨rfl, hc⟩; have HC := Lib.hid (HC0.out.trans hc); clear hc))
    go_ret
    exact ⟨rfl, HC.out.below⟩
  have hd1 : decide (400 < g.t.length) = false := by simpa using hl1
  rw [hd1] at QL1
  have hm1 : g.t.length ≤ 1000000 := by omega
  obtain ⟨W0, hW⟩ : ∃ W0, W0 = ((w.alloc (.cells #[.int .i64 f.v.k, .int .i64 f.v.p, .int .i64 f.v.q, .string f.v.s, .int .i64 f.v.r, .slice p1 f.t.length c1] 31)).alloc (.cells #[.int .i64 g.v.k, .int .i64 g.v.p, .int .i64 g.v.q, .string g.v.s, .int .i64 g.v.r, .slice p2 g.t.length c2] 31)) := ⟨_, rfl⟩
  have HC : Hid (Ch [] w W0) := Lib.hid (by rw [hW]; exact ((Ch.refl [] w).alloc _).alloc _)
  have HX : Hid (Blk 31 w.heap.size #[.int .i64 f.v.k, .int .i64 f.v.p, .int .i64 f.v.q, .string f.v.s, .int .i64 f.v.r, .slice p1 f.t.length c1] W0) := Lib.hid (by rw [hW]; exact (Blk.new w _ _ _ rfl).ch ((Ch.refl [] _).alloc _) (not_nil _))
  have HY : Hid (Blk 31 (w.heap.size + 1) #[.int .i64 g.v.k, .int .i64 g.v.p, .int .i64 g.v.q, .string g.v.s, .int .i64 g.v.r, .slice p2 g.t.length c2] W0) := Lib.hid (by rw [hW]; exact Blk.new _ _ _ _ (by simp))
  have AAa : ∀ W, ((∀ c o, c < W0.heap.size → W.cell? ⟨c, o, none⟩ = W0.cell? ⟨c, o, none⟩) ∧ AwS W0 W) → FA W (.agg #[.int .i64 f.v.k, .int .i64 f.v.p, .int .i64 f.v.q, .string f.v.s, .int .i64 f.v.r, .slice p1 f.t.length c1]) f := fun W h => ⟨.slice p1 f.t.length c1, rfl, H.out.below (HC.out.trans h.2)⟩
  have AAb : ∀ W, ((∀ c o, c < W0.heap.size → W.cell? ⟨c, o, none⟩ = W0.cell? ⟨c, o, none⟩) ∧ AwS W0 W) → FA W (.agg #[.int .i64 g.v.k, .int .i64 g.v.p, .int .i64 g.v.q, .string g.v.s, .int .i64 g.v.r, .slice p2 g.t.length c2]) g := fun W h => ⟨.slice p2 g.t.length c2, rfl, G.out.below (HC.out.trans h.2)⟩
  have QA : Hid (∀ W, ((∀ c o, c < W0.heap.size → W.cell? ⟨c, o, none⟩ = W0.cell? ⟨c, o, none⟩) ∧ AwS W0 W) → Calls Tryd.prog 12 #[] W fun e w' => e = .returned (.bool true) ∧ ((∀ c o, c < W0.heap.size → w'.cell? ⟨c, o, none⟩ = W0.cell? ⟨c, o, none⟩) ∧ AwS W0 w')) := Lib.hid fun W h => (awake_any W).mono fun e w' hh => ⟨hh.1, aw_keep h hh.2⟩
  have HW := Lib.hid hW
  have hS0 := aw_start W0
  clear hW hd0 hd1
  cases hR : decide (f = g) with
  | false =>
    have hR2 : decide (g = f) = false := by rw [← hR]; exact decide_eq_decide.2 eq_comm
    have QS1 : Hid (∀ W, ((∀ c o, c < W0.heap.size → W.cell? ⟨c, o, none⟩ = W0.cell? ⟨c, o, none⟩) ∧ AwS W0 W) → Calls Tryd.prog 22 #[.agg #[.int .i64 f.v.k, .int .i64 f.v.p, .int .i64 f.v.q, .string f.v.s, .int .i64 f.v.r, .slice p1 f.t.length c1], .agg #[.int .i64 g.v.k, .int .i64 g.v.p, .int .i64 g.v.q, .string g.v.s, .int .i64 g.v.r, .slice p2 g.t.length c2]] W fun e w' => e = .returned (.bool false) ∧ ((∀ c o, c < W0.heap.size → w'.cell? ⟨c, o, none⟩ = W0.cell? ⟨c, o, none⟩) ∧ AwS W0 w')) := Lib.hid fun W h => by
      have := fsame_any _ _ f g W (AAa W h) (AAb W h) (by assumption) (by assumption)
      rw [hR] at this
      exact this.mono fun e w' hh => ⟨hh.1, aw_keep h hh.2⟩
    have QS2 : Hid (∀ W, ((∀ c o, c < W0.heap.size → W.cell? ⟨c, o, none⟩ = W0.cell? ⟨c, o, none⟩) ∧ AwS W0 W) → Calls Tryd.prog 13 #[.agg #[.int .i64 f.v.k, .int .i64 f.v.p, .int .i64 f.v.q, .string f.v.s, .int .i64 f.v.r, .slice p1 f.t.length c1], .agg #[.int .i64 g.v.k, .int .i64 g.v.p, .int .i64 g.v.q, .string g.v.s, .int .i64 g.v.r, .slice p2 g.t.length c2]] W fun e w' => e = .returned (.bool false) ∧ ((∀ c o, c < W0.heap.size → w'.cell? ⟨c, o, none⟩ = W0.cell? ⟨c, o, none⟩) ∧ AwS W0 w')) := Lib.hid fun W h => by
      have := rfsame_any _ _ f g W (AAa W h) (AAb W h) (by assumption) (by assumption)
      rw [hR] at this
      exact this.mono fun e w' hh => ⟨hh.1, aw_keep h hh.2⟩
    have QS3 : Hid (∀ W, ((∀ c o, c < W0.heap.size → W.cell? ⟨c, o, none⟩ = W0.cell? ⟨c, o, none⟩) ∧ AwS W0 W) → Calls Tryd.prog 22 #[.agg #[.int .i64 f.v.k, .int .i64 f.v.p, .int .i64 f.v.q, .string f.v.s, .int .i64 f.v.r, .slice p1 f.t.length c1], .agg #[.int .i64 f.v.k, .int .i64 f.v.p, .int .i64 f.v.q, .string f.v.s, .int .i64 f.v.r, .slice p1 f.t.length c1]] W fun e w' => e = .returned (.bool true) ∧ ((∀ c o, c < W0.heap.size → w'.cell? ⟨c, o, none⟩ = W0.cell? ⟨c, o, none⟩) ∧ AwS W0 w')) := Lib.hid fun W h => by
      have := fsame_any _ _ f f W (AAa W h) (AAa W h) (by assumption) (by assumption)
      rw [decide_eq_true rfl] at this
      exact this.mono fun e w' hh => ⟨hh.1, aw_keep h hh.2⟩
    have QS4 : Hid (∀ W, ((∀ c o, c < W0.heap.size → W.cell? ⟨c, o, none⟩ = W0.cell? ⟨c, o, none⟩) ∧ AwS W0 W) → Calls Tryd.prog 22 #[.agg #[.int .i64 g.v.k, .int .i64 g.v.p, .int .i64 g.v.q, .string g.v.s, .int .i64 g.v.r, .slice p2 g.t.length c2], .agg #[.int .i64 f.v.k, .int .i64 f.v.p, .int .i64 f.v.q, .string f.v.s, .int .i64 f.v.r, .slice p1 f.t.length c1]] W fun e w' => e = .returned (.bool false) ∧ ((∀ c o, c < W0.heap.size → w'.cell? ⟨c, o, none⟩ = W0.cell? ⟨c, o, none⟩) ∧ AwS W0 w')) := Lib.hid fun W h => by
      have := fsame_any _ _ g f W (AAb W h) (AAa W h) (by assumption) (by assumption)
      rw [hR2] at this
      exact this.mono fun e w' hh => ⟨hh.1, aw_keep h hh.2⟩
    clear hR hR2 hl0 hl1 hm0 hm1 AAa AAb
    go_enter Tryd.func7, Tryd.ntmps7
    go_upto_region 3 with (first | (go_at_call 11; (with_reducible refine (QL0.out _).mono ?_); rintro e w1 ⟨rfl, rfl⟩) | (go_at_call 11; (with_reducible refine (QL1.out _).mono ?_); rintro e w1 ⟨rfl, rfl⟩))
    rw [← HW.out]
    have u0 : W0.cell? ⟨w.heap.size, 0, none⟩ = some (.int .i64 f.v.k) := HX.out.cell 0
    have u1 : W0.cell? ⟨w.heap.size, 1, none⟩ = some (.int .i64 f.v.p) := HX.out.cell 1
    have u2 : W0.cell? ⟨w.heap.size, 2, none⟩ = some (.int .i64 f.v.q) := HX.out.cell 2
    have u3 : W0.cell? ⟨w.heap.size, 3, none⟩ = some (.string f.v.s) := HX.out.cell 3
    have u4 : W0.cell? ⟨w.heap.size, 4, none⟩ = some (.int .i64 f.v.r) := HX.out.cell 4
    have u5 : W0.cell? ⟨w.heap.size, 5, none⟩ = some (.slice p1 f.t.length c1) := HX.out.cell 5
    have ul := HX.out.lt
    have z0 : W0.cell? ⟨w.heap.size + 1, 0, none⟩ = some (.int .i64 g.v.k) := HY.out.cell 0
    have z1 : W0.cell? ⟨w.heap.size + 1, 1, none⟩ = some (.int .i64 g.v.p) := HY.out.cell 1
    have z2 : W0.cell? ⟨w.heap.size + 1, 2, none⟩ = some (.int .i64 g.v.q) := HY.out.cell 2
    have z3 : W0.cell? ⟨w.heap.size + 1, 3, none⟩ = some (.string g.v.s) := HY.out.cell 3
    have z4 : W0.cell? ⟨w.heap.size + 1, 4, none⟩ = some (.int .i64 g.v.r) := HY.out.cell 4
    have z5 : W0.cell? ⟨w.heap.size + 1, 5, none⟩ = some (.slice p2 g.t.length c2) := HY.out.cell 5
    have zl := HY.out.lt
    clear QL0 QL1
    go_region_held3 (fun w' => (∀ c o, c < W0.heap.size → w'.cell? ⟨c, o, none⟩ = W0.cell? ⟨c, o, none⟩) ∧ AwS W0 w') (first | assumption | exact hS0) (first | (go_at_call 22; (with_reducible refine (QS1.out _ (by assumption)).mono ?_); rintro e w1 ⟨rfl, hq1⟩) | (go_at_call 22; (with_reducible refine (QS3.out _ (by assumption)).mono ?_); rintro e w1 ⟨rfl, hq1⟩) | (go_at_call 22; (with_reducible refine (QS4.out _ (by assumption)).mono ?_); rintro e w1 ⟨rfl, hq1⟩) | (go_at_call 13; (with_reducible refine (QS2.out _ (by assumption)).mono ?_); rintro e w1 ⟨rfl, hq1⟩) | (go_at_call 12; (with_reducible refine (QA.out _ (by assumption)).mono ?_); rintro e w9 ⟨rfl, hq9⟩))
    all_goals (
      have hS := ‹_ ∧ AwS _ _›
      go_wp2
      go_ret
      exact ⟨rfl, (HC.out.trans hS.2).below⟩)
  | true =>
    have hR2 : decide (g = f) = true := by rw [← hR]; exact decide_eq_decide.2 eq_comm
    have QS1 : Hid (∀ W, ((∀ c o, c < W0.heap.size → W.cell? ⟨c, o, none⟩ = W0.cell? ⟨c, o, none⟩) ∧ AwS W0 W) → Calls Tryd.prog 22 #[.agg #[.int .i64 f.v.k, .int .i64 f.v.p, .int .i64 f.v.q, .string f.v.s, .int .i64 f.v.r, .slice p1 f.t.length c1], .agg #[.int .i64 g.v.k, .int .i64 g.v.p, .int .i64 g.v.q, .string g.v.s, .int .i64 g.v.r, .slice p2 g.t.length c2]] W fun e w' => e = .returned (.bool true) ∧ ((∀ c o, c < W0.heap.size → w'.cell? ⟨c, o, none⟩ = W0.cell? ⟨c, o, none⟩) ∧ AwS W0 w')) := Lib.hid fun W h => by
      have := fsame_any _ _ f g W (AAa W h) (AAb W h) (by assumption) (by assumption)
      rw [hR] at this
      exact this.mono fun e w' hh => ⟨hh.1, aw_keep h hh.2⟩
    have QS2 : Hid (∀ W, ((∀ c o, c < W0.heap.size → W.cell? ⟨c, o, none⟩ = W0.cell? ⟨c, o, none⟩) ∧ AwS W0 W) → Calls Tryd.prog 13 #[.agg #[.int .i64 f.v.k, .int .i64 f.v.p, .int .i64 f.v.q, .string f.v.s, .int .i64 f.v.r, .slice p1 f.t.length c1], .agg #[.int .i64 g.v.k, .int .i64 g.v.p, .int .i64 g.v.q, .string g.v.s, .int .i64 g.v.r, .slice p2 g.t.length c2]] W fun e w' => e = .returned (.bool true) ∧ ((∀ c o, c < W0.heap.size → w'.cell? ⟨c, o, none⟩ = W0.cell? ⟨c, o, none⟩) ∧ AwS W0 w')) := Lib.hid fun W h => by
      have := rfsame_any _ _ f g W (AAa W h) (AAb W h) (by assumption) (by assumption)
      rw [hR] at this
      exact this.mono fun e w' hh => ⟨hh.1, aw_keep h hh.2⟩
    have QS3 : Hid (∀ W, ((∀ c o, c < W0.heap.size → W.cell? ⟨c, o, none⟩ = W0.cell? ⟨c, o, none⟩) ∧ AwS W0 W) → Calls Tryd.prog 22 #[.agg #[.int .i64 f.v.k, .int .i64 f.v.p, .int .i64 f.v.q, .string f.v.s, .int .i64 f.v.r, .slice p1 f.t.length c1], .agg #[.int .i64 f.v.k, .int .i64 f.v.p, .int .i64 f.v.q, .string f.v.s, .int .i64 f.v.r, .slice p1 f.t.length c1]] W fun e w' => e = .returned (.bool true) ∧ ((∀ c o, c < W0.heap.size → w'.cell? ⟨c, o, none⟩ = W0.cell? ⟨c, o, none⟩) ∧ AwS W0 w')) := Lib.hid fun W h => by
      have := fsame_any _ _ f f W (AAa W h) (AAa W h) (by assumption) (by assumption)
      rw [decide_eq_true rfl] at this
      exact this.mono fun e w' hh => ⟨hh.1, aw_keep h hh.2⟩
    have QS4 : Hid (∀ W, ((∀ c o, c < W0.heap.size → W.cell? ⟨c, o, none⟩ = W0.cell? ⟨c, o, none⟩) ∧ AwS W0 W) → Calls Tryd.prog 22 #[.agg #[.int .i64 g.v.k, .int .i64 g.v.p, .int .i64 g.v.q, .string g.v.s, .int .i64 g.v.r, .slice p2 g.t.length c2], .agg #[.int .i64 f.v.k, .int .i64 f.v.p, .int .i64 f.v.q, .string f.v.s, .int .i64 f.v.r, .slice p1 f.t.length c1]] W fun e w' => e = .returned (.bool true) ∧ ((∀ c o, c < W0.heap.size → w'.cell? ⟨c, o, none⟩ = W0.cell? ⟨c, o, none⟩) ∧ AwS W0 w')) := Lib.hid fun W h => by
      have := fsame_any _ _ g f W (AAb W h) (AAa W h) (by assumption) (by assumption)
      rw [hR2] at this
      exact this.mono fun e w' hh => ⟨hh.1, aw_keep h hh.2⟩
    clear hR hR2 hl0 hl1 hm0 hm1 AAa AAb
    go_enter Tryd.func7, Tryd.ntmps7
    go_upto_region 3 with (first | (go_at_call 11; (with_reducible refine (QL0.out _).mono ?_); rintro e w1 ⟨rfl, rfl⟩) | (go_at_call 11; (with_reducible refine (QL1.out _).mono ?_); rintro e w1 ⟨rfl, rfl⟩))
    rw [← HW.out]
    have u0 : W0.cell? ⟨w.heap.size, 0, none⟩ = some (.int .i64 f.v.k) := HX.out.cell 0
    have u1 : W0.cell? ⟨w.heap.size, 1, none⟩ = some (.int .i64 f.v.p) := HX.out.cell 1
    have u2 : W0.cell? ⟨w.heap.size, 2, none⟩ = some (.int .i64 f.v.q) := HX.out.cell 2
    have u3 : W0.cell? ⟨w.heap.size, 3, none⟩ = some (.string f.v.s) := HX.out.cell 3
    have u4 : W0.cell? ⟨w.heap.size, 4, none⟩ = some (.int .i64 f.v.r) := HX.out.cell 4
    have u5 : W0.cell? ⟨w.heap.size, 5, none⟩ = some (.slice p1 f.t.length c1) := HX.out.cell 5
    have ul := HX.out.lt
    have z0 : W0.cell? ⟨w.heap.size + 1, 0, none⟩ = some (.int .i64 g.v.k) := HY.out.cell 0
    have z1 : W0.cell? ⟨w.heap.size + 1, 1, none⟩ = some (.int .i64 g.v.p) := HY.out.cell 1
    have z2 : W0.cell? ⟨w.heap.size + 1, 2, none⟩ = some (.int .i64 g.v.q) := HY.out.cell 2
    have z3 : W0.cell? ⟨w.heap.size + 1, 3, none⟩ = some (.string g.v.s) := HY.out.cell 3
    have z4 : W0.cell? ⟨w.heap.size + 1, 4, none⟩ = some (.int .i64 g.v.r) := HY.out.cell 4
    have z5 : W0.cell? ⟨w.heap.size + 1, 5, none⟩ = some (.slice p2 g.t.length c2) := HY.out.cell 5
    have zl := HY.out.lt
    clear QL0 QL1
    go_region_held3 (fun w' => (∀ c o, c < W0.heap.size → w'.cell? ⟨c, o, none⟩ = W0.cell? ⟨c, o, none⟩) ∧ AwS W0 w') (first | assumption | exact hS0) (first | (go_at_call 22; (with_reducible refine (QS1.out _ (by assumption)).mono ?_); rintro e w1 ⟨rfl, hq1⟩) | (go_at_call 22; (with_reducible refine (QS3.out _ (by assumption)).mono ?_); rintro e w1 ⟨rfl, hq1⟩) | (go_at_call 22; (with_reducible refine (QS4.out _ (by assumption)).mono ?_); rintro e w1 ⟨rfl, hq1⟩) | (go_at_call 13; (with_reducible refine (QS2.out _ (by assumption)).mono ?_); rintro e w1 ⟨rfl, hq1⟩) | (go_at_call 12; (with_reducible refine (QA.out _ (by assumption)).mono ?_); rintro e w9 ⟨rfl, hq9⟩))
    all_goals (
      have hS := ‹_ ∧ AwS _ _›
      go_wp2
      go_ret
      exact ⟨rfl, (HC.out.trans hS.2).below⟩)
end Go.Proofs.YtimblnhigoggpaaDoor
