/- Layer 20: the walk of ProtocolCompares. -/
import Derived.Test.YtdgdpckjcpgoaaaPrU
namespace Go.Proofs.Ytdgdpckjcpgoaaa
open Go.RowKit Go.Joins M1
set_option linter.unusedVariables false
set_option maxHeartbeats 16000000 in
theorem walk_ProtocolCompares (vl vk : Value) (a : Act) (xl xk : Value) (b : Act) (i : Int) (w : World) (h : VA w vl a.l) (hk : VA w vk a.kp) (g : VA w xl b.l) (gk : VA w xk b.kp) :
    Calls Try.prog 6 #[aV a vl vk, aV b xl xk, .int .i64 i] w fun e w' => e = .returned (.bool true) ∧ Below w.heap.size w w' := by
  have H := Lib.hid h
  have HK := Lib.hid hk
  have G := Lib.hid g
  have GK := Lib.hid gk
  obtain ⟨p1, c1, rfl, _, _⟩ := h
  obtain ⟨p2, c2, rfl, _, _⟩ := hk
  obtain ⟨q1, e1, rfl, _, _⟩ := g
  obtain ⟨q2, e2, rfl, _, _⟩ := gk
  unfold aV
  have QL0 := Lib.hid (fun W => large_any p1 a.l.length c1 W)
  have QL1 := Lib.hid (fun W => large_any p2 a.kp.length c2 W)
  have QL2 := Lib.hid (fun W => large_any q1 b.l.length e1 W)
  have QL3 := Lib.hid (fun W => large_any q2 b.kp.length e2 W)
  by_cases hl0 : 600 < a.l.length
  · have hd0 : decide (600 < a.l.length) = true := by simpa using hl0
    rw [hd0] at QL0
    have QA := Lib.hid fun W => awake_any W
    have HC0 : Hid (Ch [] w ((w.alloc (.cells #[.int .i64 a.k, .int .i64 a.op, .int .i64 a.f.k, .int .i64 a.f.p, .int .i64 a.f.q, .string a.f.s, .int .i64 a.f.r, .slice p1 a.l.length c1, .string a.s, .int .i64 a.lv, .int .i64 a.nx, .slice p2 a.kp.length c2] 31)).alloc (.cells #[.int .i64 b.k, .int .i64 b.op, .int .i64 b.f.k, .int .i64 b.f.p, .int .i64 b.f.q, .string b.f.s, .int .i64 b.f.r, .slice q1 b.l.length e1, .string b.s, .int .i64 b.lv, .int .i64 b.nx, .slice q2 b.kp.length e2] 31))) := Lib.hid (((Ch.refl [] w).alloc _).alloc _)
    clear hl0 hd0
    go_enter Try.func6, Try.ntmps6
    go_wp2_with (first | (go_at_call 9; (with_reducible refine (QL0.out _).mono ?_); rintro e w1 ⟨rfl, rfl⟩) | (go_at_call 10; (with_reducible refine (QA.out _).mono ?_); rintro e w2 ⟨rfl, hc⟩; have HC := Lib.hid (HC0.out.trans hc); clear hc))
    go_ret
    exact ⟨rfl, HC.out.below⟩
  have hd0 : decide (600 < a.l.length) = false := by simpa using hl0
  rw [hd0] at QL0
  have hm0 : a.l.length ≤ 1000000 := by omega
  by_cases hl1 : 600 < a.kp.length
  · have hd1 : decide (600 < a.kp.length) = true := by simpa using hl1
    rw [hd1] at QL1
    have QA := Lib.hid fun W => awake_any W
    have HC0 : Hid (Ch [] w ((w.alloc (.cells #[.int .i64 a.k, .int .i64 a.op, .int .i64 a.f.k, .int .i64 a.f.p, .int .i64 a.f.q, .string a.f.s, .int .i64 a.f.r, .slice p1 a.l.length c1, .string a.s, .int .i64 a.lv, .int .i64 a.nx, .slice p2 a.kp.length c2] 31)).alloc (.cells #[.int .i64 b.k, .int .i64 b.op, .int .i64 b.f.k, .int .i64 b.f.p, .int .i64 b.f.q, .string b.f.s, .int .i64 b.f.r, .slice q1 b.l.length e1, .string b.s, .int .i64 b.lv, .int .i64 b.nx, .slice q2 b.kp.length e2] 31))) := Lib.hid (((Ch.refl [] w).alloc _).alloc _)
    clear hl0 hd0 hl1 hd1
    go_enter Try.func6, Try.ntmps6
    go_wp2_with (first | (go_at_call 9; (with_reducible refine (QL0.out _).mono ?_); rintro e w1 ⟨rfl, rfl⟩) | (go_at_call 9; (with_reducible refine (QL1.out _).mono ?_); rintro e w1 ⟨rfl, rfl⟩) | (go_at_call 10; (with_reducible refine (QA.out _).mono ?_); rintro e w2 ⟨rfl, hc⟩; have HC := Lib.hid (HC0.out.trans hc); clear hc))
    go_ret
    exact ⟨rfl, HC.out.below⟩
  have hd1 : decide (600 < a.kp.length) = false := by simpa using hl1
  rw [hd1] at QL1
  have hm1 : a.kp.length ≤ 1000000 := by omega
  by_cases hl2 : 600 < b.l.length
  · have hd2 : decide (600 < b.l.length) = true := by simpa using hl2
    rw [hd2] at QL2
    have QA := Lib.hid fun W => awake_any W
    have HC0 : Hid (Ch [] w ((w.alloc (.cells #[.int .i64 a.k, .int .i64 a.op, .int .i64 a.f.k, .int .i64 a.f.p, .int .i64 a.f.q, .string a.f.s, .int .i64 a.f.r, .slice p1 a.l.length c1, .string a.s, .int .i64 a.lv, .int .i64 a.nx, .slice p2 a.kp.length c2] 31)).alloc (.cells #[.int .i64 b.k, .int .i64 b.op, .int .i64 b.f.k, .int .i64 b.f.p, .int .i64 b.f.q, .string b.f.s, .int .i64 b.f.r, .slice q1 b.l.length e1, .string b.s, .int .i64 b.lv, .int .i64 b.nx, .slice q2 b.kp.length e2] 31))) := Lib.hid (((Ch.refl [] w).alloc _).alloc _)
    clear hl0 hd0 hl1 hd1 hl2 hd2
    go_enter Try.func6, Try.ntmps6
    go_wp2_with (first | (go_at_call 9; (with_reducible refine (QL0.out _).mono ?_); rintro e w1 ⟨rfl, rfl⟩) | (go_at_call 9; (with_reducible refine (QL1.out _).mono ?_); rintro e w1 ⟨rfl, rfl⟩) | (go_at_call 9; (with_reducible refine (QL2.out _).mono ?_); rintro e w1 ⟨rfl, rfl⟩) | (go_at_call 10; (with_reducible refine (QA.out _).mono ?_); rintro e w2 ⟨rfl, hc⟩; have HC := Lib.hid (HC0.out.trans hc); clear hc))
    go_ret
    exact ⟨rfl, HC.out.below⟩
  have hd2 : decide (600 < b.l.length) = false := by simpa using hl2
  rw [hd2] at QL2
  have hm2 : b.l.length ≤ 1000000 := by omega
  by_cases hl3 : 600 < b.kp.length
  · have hd3 : decide (600 < b.kp.length) = true := by simpa using hl3
    rw [hd3] at QL3
    have QA := Lib.hid fun W => awake_any W
    have HC0 : Hid (Ch [] w ((w.alloc (.cells #[.int .i64 a.k, .int .i64 a.op, .int .i64 a.f.k, .int .i64 a.f.p, .int .i64 a.f.q, .string a.f.s, .int .i64 a.f.r, .slice p1 a.l.length c1, .string a.s, .int .i64 a.lv, .int .i64 a.nx, .slice p2 a.kp.length c2] 31)).alloc (.cells #[.int .i64 b.k, .int .i64 b.op, .int .i64 b.f.k, .int .i64 b.f.p, .int .i64 b.f.q, .string b.f.s, .int .i64 b.f.r, .slice q1 b.l.length e1, .string b.s, .int .i64 b.lv, .int .i64 b.nx, .slice q2 b.kp.length e2] 31))) := Lib.hid (((Ch.refl [] w).alloc _).alloc _)
    clear hl0 hd0 hl1 hd1 hl2 hd2 hl3 hd3
    go_enter Try.func6, Try.ntmps6
    go_wp2_with (first | (go_at_call 9; (with_reducible refine (QL0.out _).mono ?_); rintro e w1 ⟨rfl, rfl⟩) | (go_at_call 9; (with_reducible refine (QL1.out _).mono ?_); rintro e w1 ⟨rfl, rfl⟩) | (go_at_call 9; (with_reducible refine (QL2.out _).mono ?_); rintro e w1 ⟨rfl, rfl⟩) | (go_at_call 9; (with_reducible refine (QL3.out _).mono ?_); rintro e w1 ⟨rfl, rfl⟩) | (go_at_call 10; (with_reducible refine (QA.out _).mono ?_); rintro e w2 ⟨rfl, hc⟩; have HC := Lib.hid (HC0.out.trans hc); clear hc))
    go_ret
    exact ⟨rfl, HC.out.below⟩
  have hd3 : decide (600 < b.kp.length) = false := by simpa using hl3
  rw [hd3] at QL3
  have hm3 : b.kp.length ≤ 1000000 := by omega
  obtain ⟨W0, hW⟩ : ∃ W0, W0 = ((w.alloc (.cells #[.int .i64 a.k, .int .i64 a.op, .int .i64 a.f.k, .int .i64 a.f.p, .int .i64 a.f.q, .string a.f.s, .int .i64 a.f.r, .slice p1 a.l.length c1, .string a.s, .int .i64 a.lv, .int .i64 a.nx, .slice p2 a.kp.length c2] 31)).alloc (.cells #[.int .i64 b.k, .int .i64 b.op, .int .i64 b.f.k, .int .i64 b.f.p, .int .i64 b.f.q, .string b.f.s, .int .i64 b.f.r, .slice q1 b.l.length e1, .string b.s, .int .i64 b.lv, .int .i64 b.nx, .slice q2 b.kp.length e2] 31)) := ⟨_, rfl⟩
  have HC : Hid (Ch [] w W0) := Lib.hid (by rw [hW]; exact ((Ch.refl [] w).alloc _).alloc _)
  have HX : Hid (Blk 31 w.heap.size #[.int .i64 a.k, .int .i64 a.op, .int .i64 a.f.k, .int .i64 a.f.p, .int .i64 a.f.q, .string a.f.s, .int .i64 a.f.r, .slice p1 a.l.length c1, .string a.s, .int .i64 a.lv, .int .i64 a.nx, .slice p2 a.kp.length c2] W0) := Lib.hid (by rw [hW]; exact (Blk.new w _ _ _ rfl).ch ((Ch.refl [] _).alloc _) (not_nil _))
  have HY : Hid (Blk 31 (w.heap.size + 1) #[.int .i64 b.k, .int .i64 b.op, .int .i64 b.f.k, .int .i64 b.f.p, .int .i64 b.f.q, .string b.f.s, .int .i64 b.f.r, .slice q1 b.l.length e1, .string b.s, .int .i64 b.lv, .int .i64 b.nx, .slice q2 b.kp.length e2] W0) := Lib.hid (by rw [hW]; exact Blk.new _ _ _ _ (by simp))
  obtain ⟨x, hx⟩ : ∃ x, x = argL a.l i := ⟨_, rfl⟩
  have AAa : ∀ W, ((∀ c o, c < W0.heap.size → W.cell? ⟨c, o, none⟩ = W0.cell? ⟨c, o, none⟩) ∧ AwS W0 W) → AA W (.agg #[.int .i64 a.k, .int .i64 a.op, .int .i64 a.f.k, .int .i64 a.f.p, .int .i64 a.f.q, .string a.f.s, .int .i64 a.f.r, .slice p1 a.l.length c1, .string a.s, .int .i64 a.lv, .int .i64 a.nx, .slice p2 a.kp.length c2]) a := fun W h => ⟨.slice p1 a.l.length c1, .slice p2 a.kp.length c2, rfl, H.out.below (HC.out.trans h.2), HK.out.below (HC.out.trans h.2)⟩
  have AAb : ∀ W, ((∀ c o, c < W0.heap.size → W.cell? ⟨c, o, none⟩ = W0.cell? ⟨c, o, none⟩) ∧ AwS W0 W) → AA W (.agg #[.int .i64 b.k, .int .i64 b.op, .int .i64 b.f.k, .int .i64 b.f.p, .int .i64 b.f.q, .string b.f.s, .int .i64 b.f.r, .slice q1 b.l.length e1, .string b.s, .int .i64 b.lv, .int .i64 b.nx, .slice q2 b.kp.length e2]) b := fun W h => ⟨.slice q1 b.l.length e1, .slice q2 b.kp.length e2, rfl, G.out.below (HC.out.trans h.2), GK.out.below (HC.out.trans h.2)⟩
  have QA0 : Hid (∀ W, ((∀ c o, c < W0.heap.size → W.cell? ⟨c, o, none⟩ = W0.cell? ⟨c, o, none⟩) ∧ AwS W0 W) → Calls Try.prog 27 #[.slice p1 a.l.length c1, .int .i64 i] W fun e w' => e = .returned (.agg #[.int .i64 x.k, .int .i64 x.p, .int .i64 x.q, .string x.s, .int .i64 x.r]) ∧ ((∀ c o, c < W0.heap.size → w'.cell? ⟨c, o, none⟩ = W0.cell? ⟨c, o, none⟩) ∧ AwS W0 w')) := Lib.hid fun W h => by
    rw [hx]
    exact (arg_any _ a.l i W (H.out.below (HC.out.trans h.2))).mono fun e w' hh => ⟨hh.1, aw_keep h hh.2⟩
  have QrA : Hid (∀ W, ((∀ c o, c < W0.heap.size → W.cell? ⟨c, o, none⟩ = W0.cell? ⟨c, o, none⟩) ∧ AwS W0 W) → Calls Try.prog 28 #[.slice p1 a.l.length c1, .int .i64 i] W fun e w' => e = .returned (.agg #[.int .i64 x.k, .int .i64 x.p, .int .i64 x.q, .string x.s, .int .i64 x.r]) ∧ ((∀ c o, c < W0.heap.size → w'.cell? ⟨c, o, none⟩ = W0.cell? ⟨c, o, none⟩) ∧ AwS W0 w')) := Lib.hid fun W h => by
    rw [hx]
    exact (rarg_any _ a.l i W (H.out.below (HC.out.trans h.2))).mono fun e w' hh => ⟨hh.1, aw_keep h hh.2⟩
  have EQ : ∀ W, (binOp .eql 26 (.agg #[.int .i64 x.k, .int .i64 x.p, .int .i64 x.q, .string x.s, .int .i64 x.r]) (.agg #[.int .i64 x.k, .int .i64 x.p, .int .i64 x.q, .string x.s, .int .i64 x.r])).run Try.prog W = .ok (.bool true) W := fun W => by have := eq_v5 x x W; rw [decide_eq_true rfl] at this; exact this
  have QA : Hid (∀ W, ((∀ c o, c < W0.heap.size → W.cell? ⟨c, o, none⟩ = W0.cell? ⟨c, o, none⟩) ∧ AwS W0 W) → Calls Try.prog 10 #[] W fun e w' => e = .returned (.bool true) ∧ ((∀ c o, c < W0.heap.size → w'.cell? ⟨c, o, none⟩ = W0.cell? ⟨c, o, none⟩) ∧ AwS W0 w')) := Lib.hid fun W h => (awake_any W).mono fun e w' hh => ⟨hh.1, aw_keep h hh.2⟩
  have HW := Lib.hid hW
  have hS0 := aw_start W0
  clear hW hx hd0 hd1 hd2 hd3
  cases hR : decide (a = b) with
  | false =>
    have hR2 : decide (b = a) = false := by rw [← hR]; exact decide_eq_decide.2 eq_comm
    have QS1 : Hid (∀ W, ((∀ c o, c < W0.heap.size → W.cell? ⟨c, o, none⟩ = W0.cell? ⟨c, o, none⟩) ∧ AwS W0 W) → Calls Try.prog 26 #[.agg #[.int .i64 a.k, .int .i64 a.op, .int .i64 a.f.k, .int .i64 a.f.p, .int .i64 a.f.q, .string a.f.s, .int .i64 a.f.r, .slice p1 a.l.length c1, .string a.s, .int .i64 a.lv, .int .i64 a.nx, .slice p2 a.kp.length c2], .agg #[.int .i64 b.k, .int .i64 b.op, .int .i64 b.f.k, .int .i64 b.f.p, .int .i64 b.f.q, .string b.f.s, .int .i64 b.f.r, .slice q1 b.l.length e1, .string b.s, .int .i64 b.lv, .int .i64 b.nx, .slice q2 b.kp.length e2]] W fun e w' => e = .returned (.bool false) ∧ ((∀ c o, c < W0.heap.size → w'.cell? ⟨c, o, none⟩ = W0.cell? ⟨c, o, none⟩) ∧ AwS W0 w')) := Lib.hid fun W h => by
      have := asame_any _ _ a b W (AAa W h) (AAb W h) (by assumption) (by assumption) (by assumption) (by assumption)
      rw [hR] at this
      exact this.mono fun e w' hh => ⟨hh.1, aw_keep h hh.2⟩
    have QS2 : Hid (∀ W, ((∀ c o, c < W0.heap.size → W.cell? ⟨c, o, none⟩ = W0.cell? ⟨c, o, none⟩) ∧ AwS W0 W) → Calls Try.prog 11 #[.agg #[.int .i64 a.k, .int .i64 a.op, .int .i64 a.f.k, .int .i64 a.f.p, .int .i64 a.f.q, .string a.f.s, .int .i64 a.f.r, .slice p1 a.l.length c1, .string a.s, .int .i64 a.lv, .int .i64 a.nx, .slice p2 a.kp.length c2], .agg #[.int .i64 b.k, .int .i64 b.op, .int .i64 b.f.k, .int .i64 b.f.p, .int .i64 b.f.q, .string b.f.s, .int .i64 b.f.r, .slice q1 b.l.length e1, .string b.s, .int .i64 b.lv, .int .i64 b.nx, .slice q2 b.kp.length e2]] W fun e w' => e = .returned (.bool false) ∧ ((∀ c o, c < W0.heap.size → w'.cell? ⟨c, o, none⟩ = W0.cell? ⟨c, o, none⟩) ∧ AwS W0 w')) := Lib.hid fun W h => by
      have := rasame_any _ _ a b W (AAa W h) (AAb W h) (by assumption) (by assumption) (by assumption) (by assumption)
      rw [hR] at this
      exact this.mono fun e w' hh => ⟨hh.1, aw_keep h hh.2⟩
    have QS3 : Hid (∀ W, ((∀ c o, c < W0.heap.size → W.cell? ⟨c, o, none⟩ = W0.cell? ⟨c, o, none⟩) ∧ AwS W0 W) → Calls Try.prog 26 #[.agg #[.int .i64 a.k, .int .i64 a.op, .int .i64 a.f.k, .int .i64 a.f.p, .int .i64 a.f.q, .string a.f.s, .int .i64 a.f.r, .slice p1 a.l.length c1, .string a.s, .int .i64 a.lv, .int .i64 a.nx, .slice p2 a.kp.length c2], .agg #[.int .i64 a.k, .int .i64 a.op, .int .i64 a.f.k, .int .i64 a.f.p, .int .i64 a.f.q, .string a.f.s, .int .i64 a.f.r, .slice p1 a.l.length c1, .string a.s, .int .i64 a.lv, .int .i64 a.nx, .slice p2 a.kp.length c2]] W fun e w' => e = .returned (.bool true) ∧ ((∀ c o, c < W0.heap.size → w'.cell? ⟨c, o, none⟩ = W0.cell? ⟨c, o, none⟩) ∧ AwS W0 w')) := Lib.hid fun W h => by
      have := asame_any _ _ a a W (AAa W h) (AAa W h) (by assumption) (by assumption) (by assumption) (by assumption)
      rw [decide_eq_true rfl] at this
      exact this.mono fun e w' hh => ⟨hh.1, aw_keep h hh.2⟩
    have QS4 : Hid (∀ W, ((∀ c o, c < W0.heap.size → W.cell? ⟨c, o, none⟩ = W0.cell? ⟨c, o, none⟩) ∧ AwS W0 W) → Calls Try.prog 26 #[.agg #[.int .i64 b.k, .int .i64 b.op, .int .i64 b.f.k, .int .i64 b.f.p, .int .i64 b.f.q, .string b.f.s, .int .i64 b.f.r, .slice q1 b.l.length e1, .string b.s, .int .i64 b.lv, .int .i64 b.nx, .slice q2 b.kp.length e2], .agg #[.int .i64 a.k, .int .i64 a.op, .int .i64 a.f.k, .int .i64 a.f.p, .int .i64 a.f.q, .string a.f.s, .int .i64 a.f.r, .slice p1 a.l.length c1, .string a.s, .int .i64 a.lv, .int .i64 a.nx, .slice p2 a.kp.length c2]] W fun e w' => e = .returned (.bool false) ∧ ((∀ c o, c < W0.heap.size → w'.cell? ⟨c, o, none⟩ = W0.cell? ⟨c, o, none⟩) ∧ AwS W0 w')) := Lib.hid fun W h => by
      have := asame_any _ _ b a W (AAb W h) (AAa W h) (by assumption) (by assumption) (by assumption) (by assumption)
      rw [hR2] at this
      exact this.mono fun e w' hh => ⟨hh.1, aw_keep h hh.2⟩
    clear hR hR2 hl0 hl1 hl2 hl3 hm0 hm1 hm2 hm3 AAa AAb
    go_enter Try.func6, Try.ntmps6
    go_upto_region 3 with (first | (go_at_call 9; (with_reducible refine (QL0.out _).mono ?_); rintro e w1 ⟨rfl, rfl⟩) | (go_at_call 9; (with_reducible refine (QL1.out _).mono ?_); rintro e w1 ⟨rfl, rfl⟩) | (go_at_call 9; (with_reducible refine (QL2.out _).mono ?_); rintro e w1 ⟨rfl, rfl⟩) | (go_at_call 9; (with_reducible refine (QL3.out _).mono ?_); rintro e w1 ⟨rfl, rfl⟩))
    rw [← HW.out]
    have u0 : W0.cell? ⟨w.heap.size, 0, none⟩ = some (.int .i64 a.k) := HX.out.cell 0
    have u1 : W0.cell? ⟨w.heap.size, 1, none⟩ = some (.int .i64 a.op) := HX.out.cell 1
    have u2 : W0.cell? ⟨w.heap.size, 2, none⟩ = some (.int .i64 a.f.k) := HX.out.cell 2
    have u3 : W0.cell? ⟨w.heap.size, 3, none⟩ = some (.int .i64 a.f.p) := HX.out.cell 3
    have u4 : W0.cell? ⟨w.heap.size, 4, none⟩ = some (.int .i64 a.f.q) := HX.out.cell 4
    have u5 : W0.cell? ⟨w.heap.size, 5, none⟩ = some (.string a.f.s) := HX.out.cell 5
    have u6 : W0.cell? ⟨w.heap.size, 6, none⟩ = some (.int .i64 a.f.r) := HX.out.cell 6
    have u7 : W0.cell? ⟨w.heap.size, 7, none⟩ = some (.slice p1 a.l.length c1) := HX.out.cell 7
    have u8 : W0.cell? ⟨w.heap.size, 8, none⟩ = some (.string a.s) := HX.out.cell 8
    have u9 : W0.cell? ⟨w.heap.size, 9, none⟩ = some (.int .i64 a.lv) := HX.out.cell 9
    have u10 : W0.cell? ⟨w.heap.size, 10, none⟩ = some (.int .i64 a.nx) := HX.out.cell 10
    have u11 : W0.cell? ⟨w.heap.size, 11, none⟩ = some (.slice p2 a.kp.length c2) := HX.out.cell 11
    have ul := HX.out.lt
    have z0 : W0.cell? ⟨w.heap.size + 1, 0, none⟩ = some (.int .i64 b.k) := HY.out.cell 0
    have z1 : W0.cell? ⟨w.heap.size + 1, 1, none⟩ = some (.int .i64 b.op) := HY.out.cell 1
    have z2 : W0.cell? ⟨w.heap.size + 1, 2, none⟩ = some (.int .i64 b.f.k) := HY.out.cell 2
    have z3 : W0.cell? ⟨w.heap.size + 1, 3, none⟩ = some (.int .i64 b.f.p) := HY.out.cell 3
    have z4 : W0.cell? ⟨w.heap.size + 1, 4, none⟩ = some (.int .i64 b.f.q) := HY.out.cell 4
    have z5 : W0.cell? ⟨w.heap.size + 1, 5, none⟩ = some (.string b.f.s) := HY.out.cell 5
    have z6 : W0.cell? ⟨w.heap.size + 1, 6, none⟩ = some (.int .i64 b.f.r) := HY.out.cell 6
    have z7 : W0.cell? ⟨w.heap.size + 1, 7, none⟩ = some (.slice q1 b.l.length e1) := HY.out.cell 7
    have z8 : W0.cell? ⟨w.heap.size + 1, 8, none⟩ = some (.string b.s) := HY.out.cell 8
    have z9 : W0.cell? ⟨w.heap.size + 1, 9, none⟩ = some (.int .i64 b.lv) := HY.out.cell 9
    have z10 : W0.cell? ⟨w.heap.size + 1, 10, none⟩ = some (.int .i64 b.nx) := HY.out.cell 10
    have z11 : W0.cell? ⟨w.heap.size + 1, 11, none⟩ = some (.slice q2 b.kp.length e2) := HY.out.cell 11
    have zl := HY.out.lt
    clear QL0 QL1 QL2 QL3
    go_region_held3 (fun w' => (∀ c o, c < W0.heap.size → w'.cell? ⟨c, o, none⟩ = W0.cell? ⟨c, o, none⟩) ∧ AwS W0 w') (first | assumption | exact hS0) (first | (go_at_call 26; (with_reducible refine (QS1.out _ (by assumption)).mono ?_); rintro e w1 ⟨rfl, hq1⟩) | (go_at_call 26; (with_reducible refine (QS3.out _ (by assumption)).mono ?_); rintro e w1 ⟨rfl, hq1⟩) | (go_at_call 26; (with_reducible refine (QS4.out _ (by assumption)).mono ?_); rintro e w1 ⟨rfl, hq1⟩) | (go_at_call 11; (with_reducible refine (QS2.out _ (by assumption)).mono ?_); rintro e w1 ⟨rfl, hq1⟩) | (go_at_call 27; (with_reducible refine (QA0.out _ (by assumption)).mono ?_); rintro e w1 ⟨rfl, hq1⟩) | (go_at_call 28; (with_reducible refine (QrA.out _ (by assumption)).mono ?_); rintro e w1 ⟨rfl, hq1⟩) | (go_at_call 10; (with_reducible refine (QA.out _ (by assumption)).mono ?_); rintro e w9 ⟨rfl, hq9⟩))
    all_goals (
      have hS := ‹_ ∧ AwS _ _›
      go_wp2
      go_ret
      exact ⟨rfl, (HC.out.trans hS.2).below⟩)
  | true =>
    have hR2 : decide (b = a) = true := by rw [← hR]; exact decide_eq_decide.2 eq_comm
    have QS1 : Hid (∀ W, ((∀ c o, c < W0.heap.size → W.cell? ⟨c, o, none⟩ = W0.cell? ⟨c, o, none⟩) ∧ AwS W0 W) → Calls Try.prog 26 #[.agg #[.int .i64 a.k, .int .i64 a.op, .int .i64 a.f.k, .int .i64 a.f.p, .int .i64 a.f.q, .string a.f.s, .int .i64 a.f.r, .slice p1 a.l.length c1, .string a.s, .int .i64 a.lv, .int .i64 a.nx, .slice p2 a.kp.length c2], .agg #[.int .i64 b.k, .int .i64 b.op, .int .i64 b.f.k, .int .i64 b.f.p, .int .i64 b.f.q, .string b.f.s, .int .i64 b.f.r, .slice q1 b.l.length e1, .string b.s, .int .i64 b.lv, .int .i64 b.nx, .slice q2 b.kp.length e2]] W fun e w' => e = .returned (.bool true) ∧ ((∀ c o, c < W0.heap.size → w'.cell? ⟨c, o, none⟩ = W0.cell? ⟨c, o, none⟩) ∧ AwS W0 w')) := Lib.hid fun W h => by
      have := asame_any _ _ a b W (AAa W h) (AAb W h) (by assumption) (by assumption) (by assumption) (by assumption)
      rw [hR] at this
      exact this.mono fun e w' hh => ⟨hh.1, aw_keep h hh.2⟩
    have QS2 : Hid (∀ W, ((∀ c o, c < W0.heap.size → W.cell? ⟨c, o, none⟩ = W0.cell? ⟨c, o, none⟩) ∧ AwS W0 W) → Calls Try.prog 11 #[.agg #[.int .i64 a.k, .int .i64 a.op, .int .i64 a.f.k, .int .i64 a.f.p, .int .i64 a.f.q, .string a.f.s, .int .i64 a.f.r, .slice p1 a.l.length c1, .string a.s, .int .i64 a.lv, .int .i64 a.nx, .slice p2 a.kp.length c2], .agg #[.int .i64 b.k, .int .i64 b.op, .int .i64 b.f.k, .int .i64 b.f.p, .int .i64 b.f.q, .string b.f.s, .int .i64 b.f.r, .slice q1 b.l.length e1, .string b.s, .int .i64 b.lv, .int .i64 b.nx, .slice q2 b.kp.length e2]] W fun e w' => e = .returned (.bool true) ∧ ((∀ c o, c < W0.heap.size → w'.cell? ⟨c, o, none⟩ = W0.cell? ⟨c, o, none⟩) ∧ AwS W0 w')) := Lib.hid fun W h => by
      have := rasame_any _ _ a b W (AAa W h) (AAb W h) (by assumption) (by assumption) (by assumption) (by assumption)
      rw [hR] at this
      exact this.mono fun e w' hh => ⟨hh.1, aw_keep h hh.2⟩
    have QS3 : Hid (∀ W, ((∀ c o, c < W0.heap.size → W.cell? ⟨c, o, none⟩ = W0.cell? ⟨c, o, none⟩) ∧ AwS W0 W) → Calls Try.prog 26 #[.agg #[.int .i64 a.k, .int .i64 a.op, .int .i64 a.f.k, .int .i64 a.f.p, .int .i64 a.f.q, .string a.f.s, .int .i64 a.f.r, .slice p1 a.l.length c1, .string a.s, .int .i64 a.lv, .int .i64 a.nx, .slice p2 a.kp.length c2], .agg #[.int .i64 a.k, .int .i64 a.op, .int .i64 a.f.k, .int .i64 a.f.p, .int .i64 a.f.q, .string a.f.s, .int .i64 a.f.r, .slice p1 a.l.length c1, .string a.s, .int .i64 a.lv, .int .i64 a.nx, .slice p2 a.kp.length c2]] W fun e w' => e = .returned (.bool true) ∧ ((∀ c o, c < W0.heap.size → w'.cell? ⟨c, o, none⟩ = W0.cell? ⟨c, o, none⟩) ∧ AwS W0 w')) := Lib.hid fun W h => by
      have := asame_any _ _ a a W (AAa W h) (AAa W h) (by assumption) (by assumption) (by assumption) (by assumption)
      rw [decide_eq_true rfl] at this
      exact this.mono fun e w' hh => ⟨hh.1, aw_keep h hh.2⟩
    have QS4 : Hid (∀ W, ((∀ c o, c < W0.heap.size → W.cell? ⟨c, o, none⟩ = W0.cell? ⟨c, o, none⟩) ∧ AwS W0 W) → Calls Try.prog 26 #[.agg #[.int .i64 b.k, .int .i64 b.op, .int .i64 b.f.k, .int .i64 b.f.p, .int .i64 b.f.q, .string b.f.s, .int .i64 b.f.r, .slice q1 b.l.length e1, .string b.s, .int .i64 b.lv, .int .i64 b.nx, .slice q2 b.kp.length e2], .agg #[.int .i64 a.k, .int .i64 a.op, .int .i64 a.f.k, .int .i64 a.f.p, .int .i64 a.f.q, .string a.f.s, .int .i64 a.f.r, .slice p1 a.l.length c1, .string a.s, .int .i64 a.lv, .int .i64 a.nx, .slice p2 a.kp.length c2]] W fun e w' => e = .returned (.bool true) ∧ ((∀ c o, c < W0.heap.size → w'.cell? ⟨c, o, none⟩ = W0.cell? ⟨c, o, none⟩) ∧ AwS W0 w')) := Lib.hid fun W h => by
      have := asame_any _ _ b a W (AAb W h) (AAa W h) (by assumption) (by assumption) (by assumption) (by assumption)
      rw [hR2] at this
      exact this.mono fun e w' hh => ⟨hh.1, aw_keep h hh.2⟩
    clear hR hR2 hl0 hl1 hl2 hl3 hm0 hm1 hm2 hm3 AAa AAb
    go_enter Try.func6, Try.ntmps6
    go_upto_region 3 with (first | (go_at_call 9; (with_reducible refine (QL0.out _).mono ?_); rintro e w1 ⟨rfl, rfl⟩) | (go_at_call 9; (with_reducible refine (QL1.out _).mono ?_); rintro e w1 ⟨rfl, rfl⟩) | (go_at_call 9; (with_reducible refine (QL2.out _).mono ?_); rintro e w1 ⟨rfl, rfl⟩) | (go_at_call 9; (with_reducible refine (QL3.out _).mono ?_); rintro e w1 ⟨rfl, rfl⟩))
    rw [← HW.out]
    have u0 : W0.cell? ⟨w.heap.size, 0, none⟩ = some (.int .i64 a.k) := HX.out.cell 0
    have u1 : W0.cell? ⟨w.heap.size, 1, none⟩ = some (.int .i64 a.op) := HX.out.cell 1
    have u2 : W0.cell? ⟨w.heap.size, 2, none⟩ = some (.int .i64 a.f.k) := HX.out.cell 2
    have u3 : W0.cell? ⟨w.heap.size, 3, none⟩ = some (.int .i64 a.f.p) := HX.out.cell 3
    have u4 : W0.cell? ⟨w.heap.size, 4, none⟩ = some (.int .i64 a.f.q) := HX.out.cell 4
    have u5 : W0.cell? ⟨w.heap.size, 5, none⟩ = some (.string a.f.s) := HX.out.cell 5
    have u6 : W0.cell? ⟨w.heap.size, 6, none⟩ = some (.int .i64 a.f.r) := HX.out.cell 6
    have u7 : W0.cell? ⟨w.heap.size, 7, none⟩ = some (.slice p1 a.l.length c1) := HX.out.cell 7
    have u8 : W0.cell? ⟨w.heap.size, 8, none⟩ = some (.string a.s) := HX.out.cell 8
    have u9 : W0.cell? ⟨w.heap.size, 9, none⟩ = some (.int .i64 a.lv) := HX.out.cell 9
    have u10 : W0.cell? ⟨w.heap.size, 10, none⟩ = some (.int .i64 a.nx) := HX.out.cell 10
    have u11 : W0.cell? ⟨w.heap.size, 11, none⟩ = some (.slice p2 a.kp.length c2) := HX.out.cell 11
    have ul := HX.out.lt
    have z0 : W0.cell? ⟨w.heap.size + 1, 0, none⟩ = some (.int .i64 b.k) := HY.out.cell 0
    have z1 : W0.cell? ⟨w.heap.size + 1, 1, none⟩ = some (.int .i64 b.op) := HY.out.cell 1
    have z2 : W0.cell? ⟨w.heap.size + 1, 2, none⟩ = some (.int .i64 b.f.k) := HY.out.cell 2
    have z3 : W0.cell? ⟨w.heap.size + 1, 3, none⟩ = some (.int .i64 b.f.p) := HY.out.cell 3
    have z4 : W0.cell? ⟨w.heap.size + 1, 4, none⟩ = some (.int .i64 b.f.q) := HY.out.cell 4
    have z5 : W0.cell? ⟨w.heap.size + 1, 5, none⟩ = some (.string b.f.s) := HY.out.cell 5
    have z6 : W0.cell? ⟨w.heap.size + 1, 6, none⟩ = some (.int .i64 b.f.r) := HY.out.cell 6
    have z7 : W0.cell? ⟨w.heap.size + 1, 7, none⟩ = some (.slice q1 b.l.length e1) := HY.out.cell 7
    have z8 : W0.cell? ⟨w.heap.size + 1, 8, none⟩ = some (.string b.s) := HY.out.cell 8
    have z9 : W0.cell? ⟨w.heap.size + 1, 9, none⟩ = some (.int .i64 b.lv) := HY.out.cell 9
    have z10 : W0.cell? ⟨w.heap.size + 1, 10, none⟩ = some (.int .i64 b.nx) := HY.out.cell 10
    have z11 : W0.cell? ⟨w.heap.size + 1, 11, none⟩ = some (.slice q2 b.kp.length e2) := HY.out.cell 11
    have zl := HY.out.lt
    clear QL0 QL1 QL2 QL3
    go_region_held3 (fun w' => (∀ c o, c < W0.heap.size → w'.cell? ⟨c, o, none⟩ = W0.cell? ⟨c, o, none⟩) ∧ AwS W0 w') (first | assumption | exact hS0) (first | (go_at_call 26; (with_reducible refine (QS1.out _ (by assumption)).mono ?_); rintro e w1 ⟨rfl, hq1⟩) | (go_at_call 26; (with_reducible refine (QS3.out _ (by assumption)).mono ?_); rintro e w1 ⟨rfl, hq1⟩) | (go_at_call 26; (with_reducible refine (QS4.out _ (by assumption)).mono ?_); rintro e w1 ⟨rfl, hq1⟩) | (go_at_call 11; (with_reducible refine (QS2.out _ (by assumption)).mono ?_); rintro e w1 ⟨rfl, hq1⟩) | (go_at_call 27; (with_reducible refine (QA0.out _ (by assumption)).mono ?_); rintro e w1 ⟨rfl, hq1⟩) | (go_at_call 28; (with_reducible refine (QrA.out _ (by assumption)).mono ?_); rintro e w1 ⟨rfl, hq1⟩) | (go_at_call 10; (with_reducible refine (QA.out _ (by assumption)).mono ?_); rintro e w9 ⟨rfl, hq9⟩))
    all_goals (
      have hS := ‹_ ∧ AwS _ _›
      go_wp2
      go_ret
      exact ⟨rfl, (HC.out.trans hS.2).below⟩)
end Go.Proofs.Ytdgdpckjcpgoaaa
