/- Layer 20: calls, protected calls, yields. -/
import Derived.Test.YtdgdpckjcpgoaaaPrB
namespace Go.Proofs.Ytdgdpckjcpgoaaa
open Go.RowKit Go.Joins M1
set_option linter.unusedVariables false
set_option maxHeartbeats 4000000 in
theorem call_any (x : V5) (v vk : Value) (l lk : List V5) (nx : Int) (w : World) (h : VA w v l) (hk : VA w vk lk) (hl : l.length ≤ 1000000) (hlk : lk.length ≤ 1000000) :
    Calls Try.prog 18 #[.agg #[.int .i64 x.k, .int .i64 x.p, .int .i64 x.q, .string x.s, .int .i64 x.r], v, .int .i64 nx, vk] w fun e w' => ∃ vl vp, e = .returned (.agg #[.int .i64 3, .int .i64 0, .int .i64 x.k, .int .i64 x.p, .int .i64 x.q, .string x.s, .int .i64 x.r, vl, .string ⟨#[]⟩, .int .i64 0, .int .i64 nx, vp]) ∧ Rw w.heap.size vl l w' ∧ Rw w.heap.size vp lk w' ∧ Ch [] w w' := by
  obtain ⟨w0, hw0⟩ : ∃ w0, w0 = ((w.alloc (.cells #[.int .i64 x.k, .int .i64 x.p, .int .i64 x.q, .string x.s, .int .i64 x.r] 26)).alloc (.cells #[.int .i64 0, .int .i64 0, .int .i64 0, .int .i64 0, .int .i64 0, .string ⟨#[]⟩, .int .i64 0, .slice none 0 0, .string ⟨#[]⟩, .int .i64 0, .int .i64 0, .slice none 0 0] 31)) := ⟨_, rfl⟩
  have HC0 : Hid (Ch [] w w0) := Lib.hid (by rw [hw0]; exact ((Ch.refl [] w).alloc _).alloc _)
  have HB : Hid (Blk 31 (w.heap.size + 1) #[.int .i64 0, .int .i64 0, .int .i64 0, .int .i64 0, .int .i64 0, .string ⟨#[]⟩, .int .i64 0, .slice none 0 0, .string ⟨#[]⟩, .int .i64 0, .int .i64 0, .slice none 0 0] w0) := Lib.hid (by rw [hw0]; exact Blk.new _ _ _ _ (by simp))
  have HX : Hid (Blk 26 w.heap.size #[.int .i64 x.k, .int .i64 x.p, .int .i64 x.q, .string x.s, .int .i64 x.r] w0) := Lib.hid (by rw [hw0]; exact (Blk.new w _ _ _ rfl).ch ((Ch.refl [] _).alloc _) (not_nil _))
  have Q1 : Hid (∀ W, Ch [] w0 W → Calls Try.prog 33 #[v] W fun e w' => ∃ p c, e = .returned (.slice p l.length c) ∧ Rw w0.heap.size (.slice p l.length c) l w' ∧ Ch [] W w') := Lib.hid fun W hW => by
    refine (taken_any v l W (h.below (HC0.out.trans hW)) hl).mono ?_
    rintro e w' ⟨v', rfl, hr, hc⟩
    obtain ⟨p, c, rfl⟩ := ownB_form hr
    exact ⟨p, c, rfl, hr.mono hW.size, hc⟩
  have Q2 : Hid (∀ W, Ch [] w0 W → Calls Try.prog 33 #[vk] W fun e w' => ∃ p c, e = .returned (.slice p lk.length c) ∧ Rw w0.heap.size (.slice p lk.length c) lk w' ∧ Ch [] W w') := Lib.hid fun W hW => by
    refine (taken_any vk lk W (hk.below (HC0.out.trans hW)) hlk).mono ?_
    rintro e w' ⟨v', rfl, hr, hc⟩
    obtain ⟨p, c, rfl⟩ := ownB_form hr
    exact ⟨p, c, rfl, hr.mono hW.size, hc⟩
  have H0 : Hid (Ch [] w0 w0.drew) := Lib.hid (Ch.refl [] w0).drew
  have HW := Lib.hid hw0
  clear h hk hw0
  go_enter Try.func18, Try.ntmps18
  go_upto_region 1 with fail
  rw [← HW.out]
  have u0 : w0.cell? ⟨w.heap.size, 0, none⟩ = some (.int .i64 x.k) := HX.out.cell 0
  have u1 : w0.cell? ⟨w.heap.size, 1, none⟩ = some (.int .i64 x.p) := HX.out.cell 1
  have u2 : w0.cell? ⟨w.heap.size, 2, none⟩ = some (.int .i64 x.q) := HX.out.cell 2
  have u3 : w0.cell? ⟨w.heap.size, 3, none⟩ = some (.string x.s) := HX.out.cell 3
  have u4 : w0.cell? ⟨w.heap.size, 4, none⟩ = some (.int .i64 x.r) := HX.out.cell 4
  have lu := HX.out.lt
  have lR0 := HB.out.lt
  go_region_law (go_simp; first | (go_at_call 33; (with_reducible refine (Q1.out _ H0.out).mono ?_); rintro e w1 ⟨p1, c1, rfl, hr, hc⟩; have HR1 := Lib.hid hr; have HC1 := Lib.hid (H0.out.trans hc); clear hr hc; have HX1 := Lib.hid (HX.out.ch HC1.out (not_nil _)); have t0 : w1.cell? ⟨w.heap.size, 0, none⟩ = some (.int .i64 x.k) := HX1.out.cell 0; have t1 : w1.cell? ⟨w.heap.size, 1, none⟩ = some (.int .i64 x.p) := HX1.out.cell 1; have t2 : w1.cell? ⟨w.heap.size, 2, none⟩ = some (.int .i64 x.q) := HX1.out.cell 2; have t3 : w1.cell? ⟨w.heap.size, 3, none⟩ = some (.string x.s) := HX1.out.cell 3; have t4 : w1.cell? ⟨w.heap.size, 4, none⟩ = some (.int .i64 x.r) := HX1.out.cell 4; have tl := HX1.out.lt) | (go_at_call 33; (with_reducible refine (Q2.out _ HC1.out).mono ?_); rintro e w2 ⟨p2, c2, rfl, hr, hc⟩; have HR2 := Lib.hid hr; have HR1' := Lib.hid (HR1.out.ch0 hc); have HC2 := Lib.hid (HC1.out.trans hc); clear hr hc; have HX2 := Lib.hid (HX.out.ch HC2.out (not_nil _)); have KB := Lib.hid (HB.out.ch HC2.out (not_nil _)); have q0 : w2.cell? ⟨w.heap.size, 0, none⟩ = some (.int .i64 x.k) := HX2.out.cell 0; have q1 : w2.cell? ⟨w.heap.size, 1, none⟩ = some (.int .i64 x.p) := HX2.out.cell 1; have q2 : w2.cell? ⟨w.heap.size, 2, none⟩ = some (.int .i64 x.q) := HX2.out.cell 2; have q3 : w2.cell? ⟨w.heap.size, 3, none⟩ = some (.string x.s) := HX2.out.cell 3; have q4 : w2.cell? ⟨w.heap.size, 4, none⟩ = some (.int .i64 x.r) := HX2.out.cell 4; have ql := HX2.out.lt; have d0 : w2.cell? ⟨(w.heap.size + 1), 0, none⟩ = some (.int .i64 0) := KB.out.cell 0; have d1 : w2.cell? ⟨(w.heap.size + 1), 1, none⟩ = some (.int .i64 0) := KB.out.cell 1; have d2 : w2.cell? ⟨(w.heap.size + 1), 2, none⟩ = some (.int .i64 0) := KB.out.cell 2; have d3 : w2.cell? ⟨(w.heap.size + 1), 3, none⟩ = some (.int .i64 0) := KB.out.cell 3; have d4 : w2.cell? ⟨(w.heap.size + 1), 4, none⟩ = some (.int .i64 0) := KB.out.cell 4; have d5 : w2.cell? ⟨(w.heap.size + 1), 5, none⟩ = some (.string ⟨#[]⟩) := KB.out.cell 5; have d6 : w2.cell? ⟨(w.heap.size + 1), 6, none⟩ = some (.int .i64 0) := KB.out.cell 6; have d7 : w2.cell? ⟨(w.heap.size + 1), 7, none⟩ = some (.slice none 0 0) := KB.out.cell 7; have d8 : w2.cell? ⟨(w.heap.size + 1), 8, none⟩ = some (.string ⟨#[]⟩) := KB.out.cell 8; have d9 : w2.cell? ⟨(w.heap.size + 1), 9, none⟩ = some (.int .i64 0) := KB.out.cell 9; have d10 : w2.cell? ⟨(w.heap.size + 1), 10, none⟩ = some (.int .i64 0) := KB.out.cell 10; have d11 : w2.cell? ⟨(w.heap.size + 1), 11, none⟩ = some (.slice none 0 0) := KB.out.cell 11; have f0 : w2.frozen? ⟨(w.heap.size + 1), 0, none⟩ = false := KB.out.fz 0; have f1 : w2.frozen? ⟨(w.heap.size + 1), 1, none⟩ = false := KB.out.fz 1; have f2 : w2.frozen? ⟨(w.heap.size + 1), 2, none⟩ = false := KB.out.fz 2; have f3 : w2.frozen? ⟨(w.heap.size + 1), 3, none⟩ = false := KB.out.fz 3; have f4 : w2.frozen? ⟨(w.heap.size + 1), 4, none⟩ = false := KB.out.fz 4; have f5 : w2.frozen? ⟨(w.heap.size + 1), 5, none⟩ = false := KB.out.fz 5; have f6 : w2.frozen? ⟨(w.heap.size + 1), 6, none⟩ = false := KB.out.fz 6; have f7 : w2.frozen? ⟨(w.heap.size + 1), 7, none⟩ = false := KB.out.fz 7; have f8 : w2.frozen? ⟨(w.heap.size + 1), 8, none⟩ = false := KB.out.fz 8; have f9 : w2.frozen? ⟨(w.heap.size + 1), 9, none⟩ = false := KB.out.fz 9; have f10 : w2.frozen? ⟨(w.heap.size + 1), 10, none⟩ = false := KB.out.fz 10; have f11 : w2.frozen? ⟨(w.heap.size + 1), 11, none⟩ = false := KB.out.fz 11; have lR := KB.out.lt))
  all_goals (go_wp2)
  all_goals (
    clear d0 f0 d1 f1 d2 f2 d3 f3 d4 f4 d5 f5 d6 f6 d7 f7 d8 f8 d9 f9 d10 f10 d11 f11
    show bodyPost _ _ _ Exit.ret _ (st12 w2 (w.heap.size + 1) (.int .i64 3) (.int .i64 0) (.int .i64 x.k) (.int .i64 x.p) (.int .i64 x.q) (.string x.s) (.int .i64 x.r) (.slice p1 l.length c1) (.string ⟨#[]⟩) (.int .i64 0) (.int .i64 nx) (.slice p2 lk.length c2))
    have hI : Blk 31 (w.heap.size + 1) #[.int .i64 3, .int .i64 0, .int .i64 x.k, .int .i64 x.p, .int .i64 x.q, .string x.s, .int .i64 x.r, .slice p1 l.length c1, .string ⟨#[]⟩, .int .i64 0, .int .i64 nx, .slice p2 lk.length c2] (st12 w2 (w.heap.size + 1) (.int .i64 3) (.int .i64 0) (.int .i64 x.k) (.int .i64 x.p) (.int .i64 x.q) (.string x.s) (.int .i64 x.r) (.slice p1 l.length c1) (.string ⟨#[]⟩) (.int .i64 0) (.int .i64 nx) (.slice p2 lk.length c2)) := st12_blk KB.out
    have hS : Ch [(w.heap.size + 1)] w2 (st12 w2 (w.heap.size + 1) (.int .i64 3) (.int .i64 0) (.int .i64 x.k) (.int .i64 x.p) (.int .i64 x.q) (.string x.s) (.int .i64 x.r) (.slice p1 l.length c1) (.string ⟨#[]⟩) (.int .i64 0) (.int .i64 nx) (.slice p2 lk.length c2)) := st12_ch (Ch.refl [(w.heap.size + 1)] w2) (.inl (by simp))
    generalize (st12 w2 (w.heap.size + 1) (.int .i64 3) (.int .i64 0) (.int .i64 x.k) (.int .i64 x.p) (.int .i64 x.q) (.string x.s) (.int .i64 x.r) (.slice p1 l.length c1) (.string ⟨#[]⟩) (.int .i64 0) (.int .i64 nx) (.slice p2 lk.length c2)) = W9 at *
    have d0 : W9.cell? ⟨(w.heap.size + 1), 0, none⟩ = some (.int .i64 3) := hI.cell 0
    have d1 : W9.cell? ⟨(w.heap.size + 1), 1, none⟩ = some (.int .i64 0) := hI.cell 1
    have d2 : W9.cell? ⟨(w.heap.size + 1), 2, none⟩ = some (.int .i64 x.k) := hI.cell 2
    have d3 : W9.cell? ⟨(w.heap.size + 1), 3, none⟩ = some (.int .i64 x.p) := hI.cell 3
    have d4 : W9.cell? ⟨(w.heap.size + 1), 4, none⟩ = some (.int .i64 x.q) := hI.cell 4
    have d5 : W9.cell? ⟨(w.heap.size + 1), 5, none⟩ = some (.string x.s) := hI.cell 5
    have d6 : W9.cell? ⟨(w.heap.size + 1), 6, none⟩ = some (.int .i64 x.r) := hI.cell 6
    have d7 : W9.cell? ⟨(w.heap.size + 1), 7, none⟩ = some (.slice p1 l.length c1) := hI.cell 7
    have d8 : W9.cell? ⟨(w.heap.size + 1), 8, none⟩ = some (.string ⟨#[]⟩) := hI.cell 8
    have d9 : W9.cell? ⟨(w.heap.size + 1), 9, none⟩ = some (.int .i64 0) := hI.cell 9
    have d10 : W9.cell? ⟨(w.heap.size + 1), 10, none⟩ = some (.int .i64 nx) := hI.cell 10
    have d11 : W9.cell? ⟨(w.heap.size + 1), 11, none⟩ = some (.slice p2 lk.length c2) := hI.cell 11
    refine bodyPost_ret (v := .agg #[.int .i64 3, .int .i64 0, .int .i64 x.k, .int .i64 x.p, .int .i64 x.q, .string x.s, .int .i64 x.r, .slice p1 l.length c1, .string ⟨#[]⟩, .int .i64 0, .int .i64 nx, .slice p2 lk.length c2]) (by simp [results, Try.results18, go_sem, d0, d1, d2, d3, d4, d5, d6, d7, d8, d9, d10, d11]) rfl ⟨_, _, rfl, (HR1'.out.mono (by omega)).ch hS (HR1'.out.off (by omega)), (HR2.out.mono (by omega)).ch hS (HR2.out.off (by omega)), (HC0.out.trans HC2.out).fresh (fun g hg => by simp at hg; omega) hS⟩)
set_option maxHeartbeats 4000000 in
theorem rcall_any (x : V5) (v vk : Value) (l lk : List V5) (nx : Int) (w : World) (h : VA w v l) (hk : VA w vk lk) (hl : l.length ≤ 1000000) (hlk : lk.length ≤ 1000000) :
    Calls Try.prog 19 #[.agg #[.int .i64 x.k, .int .i64 x.p, .int .i64 x.q, .string x.s, .int .i64 x.r], v, .int .i64 nx, vk] w fun e w' => ∃ vl vp, e = .returned (.agg #[.int .i64 3, .int .i64 0, .int .i64 x.k, .int .i64 x.p, .int .i64 x.q, .string x.s, .int .i64 x.r, vl, .string ⟨#[]⟩, .int .i64 0, .int .i64 nx, vp]) ∧ Rw w.heap.size vl l w' ∧ Rw w.heap.size vp lk w' ∧ Ch [] w w' := by
  obtain ⟨w0, hw0⟩ : ∃ w0, w0 = ((w.alloc (.cells #[.int .i64 x.k, .int .i64 x.p, .int .i64 x.q, .string x.s, .int .i64 x.r] 26)).alloc (.cells #[.int .i64 0, .int .i64 0, .int .i64 0, .int .i64 0, .int .i64 0, .string ⟨#[]⟩, .int .i64 0, .slice none 0 0, .string ⟨#[]⟩, .int .i64 0, .int .i64 0, .slice none 0 0] 31)) := ⟨_, rfl⟩
  have HC0 : Hid (Ch [] w w0) := Lib.hid (by rw [hw0]; exact ((Ch.refl [] w).alloc _).alloc _)
  have HB : Hid (Blk 31 (w.heap.size + 1) #[.int .i64 0, .int .i64 0, .int .i64 0, .int .i64 0, .int .i64 0, .string ⟨#[]⟩, .int .i64 0, .slice none 0 0, .string ⟨#[]⟩, .int .i64 0, .int .i64 0, .slice none 0 0] w0) := Lib.hid (by rw [hw0]; exact Blk.new _ _ _ _ (by simp))
  have HX : Hid (Blk 26 w.heap.size #[.int .i64 x.k, .int .i64 x.p, .int .i64 x.q, .string x.s, .int .i64 x.r] w0) := Lib.hid (by rw [hw0]; exact (Blk.new w _ _ _ rfl).ch ((Ch.refl [] _).alloc _) (not_nil _))
  have Q1 : Hid (∀ W, Ch [] w0 W → Calls Try.prog 34 #[v] W fun e w' => ∃ p c, e = .returned (.slice p l.length c) ∧ Rw w0.heap.size (.slice p l.length c) l w' ∧ Ch [] W w') := Lib.hid fun W hW => by
    refine (copied_any v l W (h.below (HC0.out.trans hW)) hl).mono ?_
    rintro e w' ⟨v', rfl, hr, hc⟩
    obtain ⟨p, c, rfl⟩ := ownB_form hr
    exact ⟨p, c, rfl, hr.mono hW.size, hc⟩
  have Q2 : Hid (∀ W, Ch [] w0 W → Calls Try.prog 34 #[vk] W fun e w' => ∃ p c, e = .returned (.slice p lk.length c) ∧ Rw w0.heap.size (.slice p lk.length c) lk w' ∧ Ch [] W w') := Lib.hid fun W hW => by
    refine (copied_any vk lk W (hk.below (HC0.out.trans hW)) hlk).mono ?_
    rintro e w' ⟨v', rfl, hr, hc⟩
    obtain ⟨p, c, rfl⟩ := ownB_form hr
    exact ⟨p, c, rfl, hr.mono hW.size, hc⟩
  have H0 : Hid (Ch [] w0 w0.drew) := Lib.hid (Ch.refl [] w0).drew
  have HW := Lib.hid hw0
  clear h hk hw0
  go_enter Try.func19, Try.ntmps19
  go_upto_region 1 with fail
  rw [← HW.out]
  have u0 : w0.cell? ⟨w.heap.size, 0, none⟩ = some (.int .i64 x.k) := HX.out.cell 0
  have u1 : w0.cell? ⟨w.heap.size, 1, none⟩ = some (.int .i64 x.p) := HX.out.cell 1
  have u2 : w0.cell? ⟨w.heap.size, 2, none⟩ = some (.int .i64 x.q) := HX.out.cell 2
  have u3 : w0.cell? ⟨w.heap.size, 3, none⟩ = some (.string x.s) := HX.out.cell 3
  have u4 : w0.cell? ⟨w.heap.size, 4, none⟩ = some (.int .i64 x.r) := HX.out.cell 4
  have lu := HX.out.lt
  have lR0 := HB.out.lt
  go_region_law (go_simp; first | (go_at_call 34; (with_reducible refine (Q1.out _ H0.out).mono ?_); rintro e w1 ⟨p1, c1, rfl, hr, hc⟩; have HR1 := Lib.hid hr; have HC1 := Lib.hid (H0.out.trans hc); clear hr hc; have HX1 := Lib.hid (HX.out.ch HC1.out (not_nil _)); have t0 : w1.cell? ⟨w.heap.size, 0, none⟩ = some (.int .i64 x.k) := HX1.out.cell 0; have t1 : w1.cell? ⟨w.heap.size, 1, none⟩ = some (.int .i64 x.p) := HX1.out.cell 1; have t2 : w1.cell? ⟨w.heap.size, 2, none⟩ = some (.int .i64 x.q) := HX1.out.cell 2; have t3 : w1.cell? ⟨w.heap.size, 3, none⟩ = some (.string x.s) := HX1.out.cell 3; have t4 : w1.cell? ⟨w.heap.size, 4, none⟩ = some (.int .i64 x.r) := HX1.out.cell 4; have tl := HX1.out.lt) | (go_at_call 34; (with_reducible refine (Q2.out _ HC1.out).mono ?_); rintro e w2 ⟨p2, c2, rfl, hr, hc⟩; have HR2 := Lib.hid hr; have HR1' := Lib.hid (HR1.out.ch0 hc); have HC2 := Lib.hid (HC1.out.trans hc); clear hr hc; have HX2 := Lib.hid (HX.out.ch HC2.out (not_nil _)); have KB := Lib.hid (HB.out.ch HC2.out (not_nil _)); have q0 : w2.cell? ⟨w.heap.size, 0, none⟩ = some (.int .i64 x.k) := HX2.out.cell 0; have q1 : w2.cell? ⟨w.heap.size, 1, none⟩ = some (.int .i64 x.p) := HX2.out.cell 1; have q2 : w2.cell? ⟨w.heap.size, 2, none⟩ = some (.int .i64 x.q) := HX2.out.cell 2; have q3 : w2.cell? ⟨w.heap.size, 3, none⟩ = some (.string x.s) := HX2.out.cell 3; have q4 : w2.cell? ⟨w.heap.size, 4, none⟩ = some (.int .i64 x.r) := HX2.out.cell 4; have ql := HX2.out.lt; have d0 : w2.cell? ⟨(w.heap.size + 1), 0, none⟩ = some (.int .i64 0) := KB.out.cell 0; have d1 : w2.cell? ⟨(w.heap.size + 1), 1, none⟩ = some (.int .i64 0) := KB.out.cell 1; have d2 : w2.cell? ⟨(w.heap.size + 1), 2, none⟩ = some (.int .i64 0) := KB.out.cell 2; have d3 : w2.cell? ⟨(w.heap.size + 1), 3, none⟩ = some (.int .i64 0) := KB.out.cell 3; have d4 : w2.cell? ⟨(w.heap.size + 1), 4, none⟩ = some (.int .i64 0) := KB.out.cell 4; have d5 : w2.cell? ⟨(w.heap.size + 1), 5, none⟩ = some (.string ⟨#[]⟩) := KB.out.cell 5; have d6 : w2.cell? ⟨(w.heap.size + 1), 6, none⟩ = some (.int .i64 0) := KB.out.cell 6; have d7 : w2.cell? ⟨(w.heap.size + 1), 7, none⟩ = some (.slice none 0 0) := KB.out.cell 7; have d8 : w2.cell? ⟨(w.heap.size + 1), 8, none⟩ = some (.string ⟨#[]⟩) := KB.out.cell 8; have d9 : w2.cell? ⟨(w.heap.size + 1), 9, none⟩ = some (.int .i64 0) := KB.out.cell 9; have d10 : w2.cell? ⟨(w.heap.size + 1), 10, none⟩ = some (.int .i64 0) := KB.out.cell 10; have d11 : w2.cell? ⟨(w.heap.size + 1), 11, none⟩ = some (.slice none 0 0) := KB.out.cell 11; have f0 : w2.frozen? ⟨(w.heap.size + 1), 0, none⟩ = false := KB.out.fz 0; have f1 : w2.frozen? ⟨(w.heap.size + 1), 1, none⟩ = false := KB.out.fz 1; have f2 : w2.frozen? ⟨(w.heap.size + 1), 2, none⟩ = false := KB.out.fz 2; have f3 : w2.frozen? ⟨(w.heap.size + 1), 3, none⟩ = false := KB.out.fz 3; have f4 : w2.frozen? ⟨(w.heap.size + 1), 4, none⟩ = false := KB.out.fz 4; have f5 : w2.frozen? ⟨(w.heap.size + 1), 5, none⟩ = false := KB.out.fz 5; have f6 : w2.frozen? ⟨(w.heap.size + 1), 6, none⟩ = false := KB.out.fz 6; have f7 : w2.frozen? ⟨(w.heap.size + 1), 7, none⟩ = false := KB.out.fz 7; have f8 : w2.frozen? ⟨(w.heap.size + 1), 8, none⟩ = false := KB.out.fz 8; have f9 : w2.frozen? ⟨(w.heap.size + 1), 9, none⟩ = false := KB.out.fz 9; have f10 : w2.frozen? ⟨(w.heap.size + 1), 10, none⟩ = false := KB.out.fz 10; have f11 : w2.frozen? ⟨(w.heap.size + 1), 11, none⟩ = false := KB.out.fz 11; have lR := KB.out.lt))
  all_goals (go_wp2)
  all_goals (
    clear d0 f0 d1 f1 d2 f2 d3 f3 d4 f4 d5 f5 d6 f6 d7 f7 d8 f8 d9 f9 d10 f10 d11 f11
    show bodyPost _ _ _ Exit.ret _ (st12 w2 (w.heap.size + 1) (.int .i64 3) (.int .i64 0) (.int .i64 x.k) (.int .i64 x.p) (.int .i64 x.q) (.string x.s) (.int .i64 x.r) (.slice p1 l.length c1) (.string ⟨#[]⟩) (.int .i64 0) (.int .i64 nx) (.slice p2 lk.length c2))
    have hI : Blk 31 (w.heap.size + 1) #[.int .i64 3, .int .i64 0, .int .i64 x.k, .int .i64 x.p, .int .i64 x.q, .string x.s, .int .i64 x.r, .slice p1 l.length c1, .string ⟨#[]⟩, .int .i64 0, .int .i64 nx, .slice p2 lk.length c2] (st12 w2 (w.heap.size + 1) (.int .i64 3) (.int .i64 0) (.int .i64 x.k) (.int .i64 x.p) (.int .i64 x.q) (.string x.s) (.int .i64 x.r) (.slice p1 l.length c1) (.string ⟨#[]⟩) (.int .i64 0) (.int .i64 nx) (.slice p2 lk.length c2)) := st12_blk KB.out
    have hS : Ch [(w.heap.size + 1)] w2 (st12 w2 (w.heap.size + 1) (.int .i64 3) (.int .i64 0) (.int .i64 x.k) (.int .i64 x.p) (.int .i64 x.q) (.string x.s) (.int .i64 x.r) (.slice p1 l.length c1) (.string ⟨#[]⟩) (.int .i64 0) (.int .i64 nx) (.slice p2 lk.length c2)) := st12_ch (Ch.refl [(w.heap.size + 1)] w2) (.inl (by simp))
    generalize (st12 w2 (w.heap.size + 1) (.int .i64 3) (.int .i64 0) (.int .i64 x.k) (.int .i64 x.p) (.int .i64 x.q) (.string x.s) (.int .i64 x.r) (.slice p1 l.length c1) (.string ⟨#[]⟩) (.int .i64 0) (.int .i64 nx) (.slice p2 lk.length c2)) = W9 at *
    have d0 : W9.cell? ⟨(w.heap.size + 1), 0, none⟩ = some (.int .i64 3) := hI.cell 0
    have d1 : W9.cell? ⟨(w.heap.size + 1), 1, none⟩ = some (.int .i64 0) := hI.cell 1
    have d2 : W9.cell? ⟨(w.heap.size + 1), 2, none⟩ = some (.int .i64 x.k) := hI.cell 2
    have d3 : W9.cell? ⟨(w.heap.size + 1), 3, none⟩ = some (.int .i64 x.p) := hI.cell 3
    have d4 : W9.cell? ⟨(w.heap.size + 1), 4, none⟩ = some (.int .i64 x.q) := hI.cell 4
    have d5 : W9.cell? ⟨(w.heap.size + 1), 5, none⟩ = some (.string x.s) := hI.cell 5
    have d6 : W9.cell? ⟨(w.heap.size + 1), 6, none⟩ = some (.int .i64 x.r) := hI.cell 6
    have d7 : W9.cell? ⟨(w.heap.size + 1), 7, none⟩ = some (.slice p1 l.length c1) := hI.cell 7
    have d8 : W9.cell? ⟨(w.heap.size + 1), 8, none⟩ = some (.string ⟨#[]⟩) := hI.cell 8
    have d9 : W9.cell? ⟨(w.heap.size + 1), 9, none⟩ = some (.int .i64 0) := hI.cell 9
    have d10 : W9.cell? ⟨(w.heap.size + 1), 10, none⟩ = some (.int .i64 nx) := hI.cell 10
    have d11 : W9.cell? ⟨(w.heap.size + 1), 11, none⟩ = some (.slice p2 lk.length c2) := hI.cell 11
    refine bodyPost_ret (v := .agg #[.int .i64 3, .int .i64 0, .int .i64 x.k, .int .i64 x.p, .int .i64 x.q, .string x.s, .int .i64 x.r, .slice p1 l.length c1, .string ⟨#[]⟩, .int .i64 0, .int .i64 nx, .slice p2 lk.length c2]) (by simp [results, Try.results19, go_sem, d0, d1, d2, d3, d4, d5, d6, d7, d8, d9, d10, d11]) rfl ⟨_, _, rfl, (HR1'.out.mono (by omega)).ch hS (HR1'.out.off (by omega)), (HR2.out.mono (by omega)).ch hS (HR2.out.off (by omega)), (HC0.out.trans HC2.out).fresh (fun g hg => by simp at hg; omega) hS⟩)
set_option maxHeartbeats 4000000 in
theorem rtry_any (x : V5) (v vk : Value) (l lk : List V5) (nx : Int) (w : World) (h : VA w v l) (hk : VA w vk lk) (hl : l.length ≤ 1000000) (hlk : lk.length ≤ 1000000) :
    Calls Try.prog 21 #[.agg #[.int .i64 x.k, .int .i64 x.p, .int .i64 x.q, .string x.s, .int .i64 x.r], v, .int .i64 nx, vk] w fun e w' => ∃ vl vp, e = .returned (.agg #[.int .i64 4, .int .i64 0, .int .i64 x.k, .int .i64 x.p, .int .i64 x.q, .string x.s, .int .i64 x.r, vl, .string ⟨#[]⟩, .int .i64 0, .int .i64 nx, vp]) ∧ Rw w.heap.size vl l w' ∧ Rw w.heap.size vp lk w' ∧ Ch [] w w' := by
  obtain ⟨w0, hw0⟩ : ∃ w0, w0 = ((w.alloc (.cells #[.int .i64 x.k, .int .i64 x.p, .int .i64 x.q, .string x.s, .int .i64 x.r] 26)).alloc (.cells #[.int .i64 0, .int .i64 0, .int .i64 0, .int .i64 0, .int .i64 0, .string ⟨#[]⟩, .int .i64 0, .slice none 0 0, .string ⟨#[]⟩, .int .i64 0, .int .i64 0, .slice none 0 0] 31)) := ⟨_, rfl⟩
  have HC0 : Hid (Ch [] w w0) := Lib.hid (by rw [hw0]; exact ((Ch.refl [] w).alloc _).alloc _)
  have HB : Hid (Blk 31 (w.heap.size + 1) #[.int .i64 0, .int .i64 0, .int .i64 0, .int .i64 0, .int .i64 0, .string ⟨#[]⟩, .int .i64 0, .slice none 0 0, .string ⟨#[]⟩, .int .i64 0, .int .i64 0, .slice none 0 0] w0) := Lib.hid (by rw [hw0]; exact Blk.new _ _ _ _ (by simp))
  have HX : Hid (Blk 26 w.heap.size #[.int .i64 x.k, .int .i64 x.p, .int .i64 x.q, .string x.s, .int .i64 x.r] w0) := Lib.hid (by rw [hw0]; exact (Blk.new w _ _ _ rfl).ch ((Ch.refl [] _).alloc _) (not_nil _))
  have Q1 : Hid (∀ W, Ch [] w0 W → Calls Try.prog 34 #[v] W fun e w' => ∃ p c, e = .returned (.slice p l.length c) ∧ Rw w0.heap.size (.slice p l.length c) l w' ∧ Ch [] W w') := Lib.hid fun W hW => by
    refine (copied_any v l W (h.below (HC0.out.trans hW)) hl).mono ?_
    rintro e w' ⟨v', rfl, hr, hc⟩
    obtain ⟨p, c, rfl⟩ := ownB_form hr
    exact ⟨p, c, rfl, hr.mono hW.size, hc⟩
  have Q2 : Hid (∀ W, Ch [] w0 W → Calls Try.prog 34 #[vk] W fun e w' => ∃ p c, e = .returned (.slice p lk.length c) ∧ Rw w0.heap.size (.slice p lk.length c) lk w' ∧ Ch [] W w') := Lib.hid fun W hW => by
    refine (copied_any vk lk W (hk.below (HC0.out.trans hW)) hlk).mono ?_
    rintro e w' ⟨v', rfl, hr, hc⟩
    obtain ⟨p, c, rfl⟩ := ownB_form hr
    exact ⟨p, c, rfl, hr.mono hW.size, hc⟩
  have H0 : Hid (Ch [] w0 w0.drew) := Lib.hid (Ch.refl [] w0).drew
  have HW := Lib.hid hw0
  clear h hk hw0
  go_enter Try.func21, Try.ntmps21
  go_upto_region 1 with fail
  rw [← HW.out]
  have u0 : w0.cell? ⟨w.heap.size, 0, none⟩ = some (.int .i64 x.k) := HX.out.cell 0
  have u1 : w0.cell? ⟨w.heap.size, 1, none⟩ = some (.int .i64 x.p) := HX.out.cell 1
  have u2 : w0.cell? ⟨w.heap.size, 2, none⟩ = some (.int .i64 x.q) := HX.out.cell 2
  have u3 : w0.cell? ⟨w.heap.size, 3, none⟩ = some (.string x.s) := HX.out.cell 3
  have u4 : w0.cell? ⟨w.heap.size, 4, none⟩ = some (.int .i64 x.r) := HX.out.cell 4
  have lu := HX.out.lt
  have lR0 := HB.out.lt
  go_region_law (go_simp; first | (go_at_call 34; (with_reducible refine (Q1.out _ H0.out).mono ?_); rintro e w1 ⟨p1, c1, rfl, hr, hc⟩; have HR1 := Lib.hid hr; have HC1 := Lib.hid (H0.out.trans hc); clear hr hc; have HX1 := Lib.hid (HX.out.ch HC1.out (not_nil _)); have t0 : w1.cell? ⟨w.heap.size, 0, none⟩ = some (.int .i64 x.k) := HX1.out.cell 0; have t1 : w1.cell? ⟨w.heap.size, 1, none⟩ = some (.int .i64 x.p) := HX1.out.cell 1; have t2 : w1.cell? ⟨w.heap.size, 2, none⟩ = some (.int .i64 x.q) := HX1.out.cell 2; have t3 : w1.cell? ⟨w.heap.size, 3, none⟩ = some (.string x.s) := HX1.out.cell 3; have t4 : w1.cell? ⟨w.heap.size, 4, none⟩ = some (.int .i64 x.r) := HX1.out.cell 4; have tl := HX1.out.lt) | (go_at_call 34; (with_reducible refine (Q2.out _ HC1.out).mono ?_); rintro e w2 ⟨p2, c2, rfl, hr, hc⟩; have HR2 := Lib.hid hr; have HR1' := Lib.hid (HR1.out.ch0 hc); have HC2 := Lib.hid (HC1.out.trans hc); clear hr hc; have HX2 := Lib.hid (HX.out.ch HC2.out (not_nil _)); have KB := Lib.hid (HB.out.ch HC2.out (not_nil _)); have q0 : w2.cell? ⟨w.heap.size, 0, none⟩ = some (.int .i64 x.k) := HX2.out.cell 0; have q1 : w2.cell? ⟨w.heap.size, 1, none⟩ = some (.int .i64 x.p) := HX2.out.cell 1; have q2 : w2.cell? ⟨w.heap.size, 2, none⟩ = some (.int .i64 x.q) := HX2.out.cell 2; have q3 : w2.cell? ⟨w.heap.size, 3, none⟩ = some (.string x.s) := HX2.out.cell 3; have q4 : w2.cell? ⟨w.heap.size, 4, none⟩ = some (.int .i64 x.r) := HX2.out.cell 4; have ql := HX2.out.lt; have d0 : w2.cell? ⟨(w.heap.size + 1), 0, none⟩ = some (.int .i64 0) := KB.out.cell 0; have d1 : w2.cell? ⟨(w.heap.size + 1), 1, none⟩ = some (.int .i64 0) := KB.out.cell 1; have d2 : w2.cell? ⟨(w.heap.size + 1), 2, none⟩ = some (.int .i64 0) := KB.out.cell 2; have d3 : w2.cell? ⟨(w.heap.size + 1), 3, none⟩ = some (.int .i64 0) := KB.out.cell 3; have d4 : w2.cell? ⟨(w.heap.size + 1), 4, none⟩ = some (.int .i64 0) := KB.out.cell 4; have d5 : w2.cell? ⟨(w.heap.size + 1), 5, none⟩ = some (.string ⟨#[]⟩) := KB.out.cell 5; have d6 : w2.cell? ⟨(w.heap.size + 1), 6, none⟩ = some (.int .i64 0) := KB.out.cell 6; have d7 : w2.cell? ⟨(w.heap.size + 1), 7, none⟩ = some (.slice none 0 0) := KB.out.cell 7; have d8 : w2.cell? ⟨(w.heap.size + 1), 8, none⟩ = some (.string ⟨#[]⟩) := KB.out.cell 8; have d9 : w2.cell? ⟨(w.heap.size + 1), 9, none⟩ = some (.int .i64 0) := KB.out.cell 9; have d10 : w2.cell? ⟨(w.heap.size + 1), 10, none⟩ = some (.int .i64 0) := KB.out.cell 10; have d11 : w2.cell? ⟨(w.heap.size + 1), 11, none⟩ = some (.slice none 0 0) := KB.out.cell 11; have f0 : w2.frozen? ⟨(w.heap.size + 1), 0, none⟩ = false := KB.out.fz 0; have f1 : w2.frozen? ⟨(w.heap.size + 1), 1, none⟩ = false := KB.out.fz 1; have f2 : w2.frozen? ⟨(w.heap.size + 1), 2, none⟩ = false := KB.out.fz 2; have f3 : w2.frozen? ⟨(w.heap.size + 1), 3, none⟩ = false := KB.out.fz 3; have f4 : w2.frozen? ⟨(w.heap.size + 1), 4, none⟩ = false := KB.out.fz 4; have f5 : w2.frozen? ⟨(w.heap.size + 1), 5, none⟩ = false := KB.out.fz 5; have f6 : w2.frozen? ⟨(w.heap.size + 1), 6, none⟩ = false := KB.out.fz 6; have f7 : w2.frozen? ⟨(w.heap.size + 1), 7, none⟩ = false := KB.out.fz 7; have f8 : w2.frozen? ⟨(w.heap.size + 1), 8, none⟩ = false := KB.out.fz 8; have f9 : w2.frozen? ⟨(w.heap.size + 1), 9, none⟩ = false := KB.out.fz 9; have f10 : w2.frozen? ⟨(w.heap.size + 1), 10, none⟩ = false := KB.out.fz 10; have f11 : w2.frozen? ⟨(w.heap.size + 1), 11, none⟩ = false := KB.out.fz 11; have lR := KB.out.lt))
  all_goals (go_wp2)
  all_goals (
    clear d0 f0 d1 f1 d2 f2 d3 f3 d4 f4 d5 f5 d6 f6 d7 f7 d8 f8 d9 f9 d10 f10 d11 f11
    show bodyPost _ _ _ Exit.ret _ (st12 w2 (w.heap.size + 1) (.int .i64 4) (.int .i64 0) (.int .i64 x.k) (.int .i64 x.p) (.int .i64 x.q) (.string x.s) (.int .i64 x.r) (.slice p1 l.length c1) (.string ⟨#[]⟩) (.int .i64 0) (.int .i64 nx) (.slice p2 lk.length c2))
    have hI : Blk 31 (w.heap.size + 1) #[.int .i64 4, .int .i64 0, .int .i64 x.k, .int .i64 x.p, .int .i64 x.q, .string x.s, .int .i64 x.r, .slice p1 l.length c1, .string ⟨#[]⟩, .int .i64 0, .int .i64 nx, .slice p2 lk.length c2] (st12 w2 (w.heap.size + 1) (.int .i64 4) (.int .i64 0) (.int .i64 x.k) (.int .i64 x.p) (.int .i64 x.q) (.string x.s) (.int .i64 x.r) (.slice p1 l.length c1) (.string ⟨#[]⟩) (.int .i64 0) (.int .i64 nx) (.slice p2 lk.length c2)) := st12_blk KB.out
    have hS : Ch [(w.heap.size + 1)] w2 (st12 w2 (w.heap.size + 1) (.int .i64 4) (.int .i64 0) (.int .i64 x.k) (.int .i64 x.p) (.int .i64 x.q) (.string x.s) (.int .i64 x.r) (.slice p1 l.length c1) (.string ⟨#[]⟩) (.int .i64 0) (.int .i64 nx) (.slice p2 lk.length c2)) := st12_ch (Ch.refl [(w.heap.size + 1)] w2) (.inl (by simp))
    generalize (st12 w2 (w.heap.size + 1) (.int .i64 4) (.int .i64 0) (.int .i64 x.k) (.int .i64 x.p) (.int .i64 x.q) (.string x.s) (.int .i64 x.r) (.slice p1 l.length c1) (.string ⟨#[]⟩) (.int .i64 0) (.int .i64 nx) (.slice p2 lk.length c2)) = W9 at *
    have d0 : W9.cell? ⟨(w.heap.size + 1), 0, none⟩ = some (.int .i64 4) := hI.cell 0
    have d1 : W9.cell? ⟨(w.heap.size + 1), 1, none⟩ = some (.int .i64 0) := hI.cell 1
    have d2 : W9.cell? ⟨(w.heap.size + 1), 2, none⟩ = some (.int .i64 x.k) := hI.cell 2
    have d3 : W9.cell? ⟨(w.heap.size + 1), 3, none⟩ = some (.int .i64 x.p) := hI.cell 3
    have d4 : W9.cell? ⟨(w.heap.size + 1), 4, none⟩ = some (.int .i64 x.q) := hI.cell 4
    have d5 : W9.cell? ⟨(w.heap.size + 1), 5, none⟩ = some (.string x.s) := hI.cell 5
    have d6 : W9.cell? ⟨(w.heap.size + 1), 6, none⟩ = some (.int .i64 x.r) := hI.cell 6
    have d7 : W9.cell? ⟨(w.heap.size + 1), 7, none⟩ = some (.slice p1 l.length c1) := hI.cell 7
    have d8 : W9.cell? ⟨(w.heap.size + 1), 8, none⟩ = some (.string ⟨#[]⟩) := hI.cell 8
    have d9 : W9.cell? ⟨(w.heap.size + 1), 9, none⟩ = some (.int .i64 0) := hI.cell 9
    have d10 : W9.cell? ⟨(w.heap.size + 1), 10, none⟩ = some (.int .i64 nx) := hI.cell 10
    have d11 : W9.cell? ⟨(w.heap.size + 1), 11, none⟩ = some (.slice p2 lk.length c2) := hI.cell 11
    refine bodyPost_ret (v := .agg #[.int .i64 4, .int .i64 0, .int .i64 x.k, .int .i64 x.p, .int .i64 x.q, .string x.s, .int .i64 x.r, .slice p1 l.length c1, .string ⟨#[]⟩, .int .i64 0, .int .i64 nx, .slice p2 lk.length c2]) (by simp [results, Try.results21, go_sem, d0, d1, d2, d3, d4, d5, d6, d7, d8, d9, d10, d11]) rfl ⟨_, _, rfl, (HR1'.out.mono (by omega)).ch hS (HR1'.out.off (by omega)), (HR2.out.mono (by omega)).ch hS (HR2.out.off (by omega)), (HC0.out.trans HC2.out).fresh (fun g hg => by simp at hg; omega) hS⟩)
set_option maxHeartbeats 4000000 in
theorem yield_any (v vk : Value) (l lk : List V5) (nx : Int) (w : World) (h : VA w v l) (hk : VA w vk lk) (hl : l.length ≤ 1000000) (hlk : lk.length ≤ 1000000) :
    Calls Try.prog 22 #[v, .int .i64 nx, vk] w fun e w' => ∃ vl vp, e = .returned (.agg #[.int .i64 5, .int .i64 0, .int .i64 0, .int .i64 0, .int .i64 0, .string ⟨#[]⟩, .int .i64 0, vl, .string ⟨#[]⟩, .int .i64 0, .int .i64 nx, vp]) ∧ Rw w.heap.size vl l w' ∧ Rw w.heap.size vp lk w' ∧ Ch [] w w' := by
  obtain ⟨w0, hw0⟩ : ∃ w0, w0 = w.alloc (.cells #[.int .i64 0, .int .i64 0, .int .i64 0, .int .i64 0, .int .i64 0, .string ⟨#[]⟩, .int .i64 0, .slice none 0 0, .string ⟨#[]⟩, .int .i64 0, .int .i64 0, .slice none 0 0] 31) := ⟨_, rfl⟩
  have HC0 : Hid (Ch [] w w0) := Lib.hid (by rw [hw0]; exact (Ch.refl [] w).alloc _)
  have HB : Hid (Blk 31 w.heap.size #[.int .i64 0, .int .i64 0, .int .i64 0, .int .i64 0, .int .i64 0, .string ⟨#[]⟩, .int .i64 0, .slice none 0 0, .string ⟨#[]⟩, .int .i64 0, .int .i64 0, .slice none 0 0] w0) := Lib.hid (by rw [hw0]; exact Blk.new _ _ _ _ rfl)
  have Q1 : Hid (∀ W, Ch [] w0 W → Calls Try.prog 33 #[v] W fun e w' => ∃ p c, e = .returned (.slice p l.length c) ∧ Rw w0.heap.size (.slice p l.length c) l w' ∧ Ch [] W w') := Lib.hid fun W hW => by
    refine (taken_any v l W (h.below (HC0.out.trans hW)) hl).mono ?_
    rintro e w' ⟨v', rfl, hr, hc⟩
    obtain ⟨p, c, rfl⟩ := ownB_form hr
    exact ⟨p, c, rfl, hr.mono hW.size, hc⟩
  have Q2 : Hid (∀ W, Ch [] w0 W → Calls Try.prog 33 #[vk] W fun e w' => ∃ p c, e = .returned (.slice p lk.length c) ∧ Rw w0.heap.size (.slice p lk.length c) lk w' ∧ Ch [] W w') := Lib.hid fun W hW => by
    refine (taken_any vk lk W (hk.below (HC0.out.trans hW)) hlk).mono ?_
    rintro e w' ⟨v', rfl, hr, hc⟩
    obtain ⟨p, c, rfl⟩ := ownB_form hr
    exact ⟨p, c, rfl, hr.mono hW.size, hc⟩
  have HW := Lib.hid hw0
  have lR0 := HB.out.lt
  clear h hk hw0
  go_enter Try.func22, Try.ntmps22
  go_upto_region 1 with fail
  rw [← HW.out]
  go_wp2_with (first | (go_at_call 33; (with_reducible refine (Q1.out _ (Ch.refl _ _)).mono ?_); rintro e w1 ⟨p1, c1, rfl, hr, hc⟩; have HR1 := Lib.hid hr; have HC1 := Lib.hid hc; clear hr hc) | (go_at_call 33; (with_reducible refine (Q2.out _ HC1.out).mono ?_); rintro e w2 ⟨p2, c2, rfl, hr, hc⟩; have HR2 := Lib.hid hr; have HR1' := Lib.hid (HR1.out.ch0 hc); have HC2 := Lib.hid (HC1.out.trans hc); clear hr hc; have KB := Lib.hid (HB.out.ch HC2.out (not_nil _)); have d0 : w2.cell? ⟨w.heap.size, 0, none⟩ = some (.int .i64 0) := KB.out.cell 0; have d1 : w2.cell? ⟨w.heap.size, 1, none⟩ = some (.int .i64 0) := KB.out.cell 1; have d2 : w2.cell? ⟨w.heap.size, 2, none⟩ = some (.int .i64 0) := KB.out.cell 2; have d3 : w2.cell? ⟨w.heap.size, 3, none⟩ = some (.int .i64 0) := KB.out.cell 3; have d4 : w2.cell? ⟨w.heap.size, 4, none⟩ = some (.int .i64 0) := KB.out.cell 4; have d5 : w2.cell? ⟨w.heap.size, 5, none⟩ = some (.string ⟨#[]⟩) := KB.out.cell 5; have d6 : w2.cell? ⟨w.heap.size, 6, none⟩ = some (.int .i64 0) := KB.out.cell 6; have d7 : w2.cell? ⟨w.heap.size, 7, none⟩ = some (.slice none 0 0) := KB.out.cell 7; have d8 : w2.cell? ⟨w.heap.size, 8, none⟩ = some (.string ⟨#[]⟩) := KB.out.cell 8; have d9 : w2.cell? ⟨w.heap.size, 9, none⟩ = some (.int .i64 0) := KB.out.cell 9; have d10 : w2.cell? ⟨w.heap.size, 10, none⟩ = some (.int .i64 0) := KB.out.cell 10; have d11 : w2.cell? ⟨w.heap.size, 11, none⟩ = some (.slice none 0 0) := KB.out.cell 11; have f0 : w2.frozen? ⟨w.heap.size, 0, none⟩ = false := KB.out.fz 0; have f1 : w2.frozen? ⟨w.heap.size, 1, none⟩ = false := KB.out.fz 1; have f2 : w2.frozen? ⟨w.heap.size, 2, none⟩ = false := KB.out.fz 2; have f3 : w2.frozen? ⟨w.heap.size, 3, none⟩ = false := KB.out.fz 3; have f4 : w2.frozen? ⟨w.heap.size, 4, none⟩ = false := KB.out.fz 4; have f5 : w2.frozen? ⟨w.heap.size, 5, none⟩ = false := KB.out.fz 5; have f6 : w2.frozen? ⟨w.heap.size, 6, none⟩ = false := KB.out.fz 6; have f7 : w2.frozen? ⟨w.heap.size, 7, none⟩ = false := KB.out.fz 7; have f8 : w2.frozen? ⟨w.heap.size, 8, none⟩ = false := KB.out.fz 8; have f9 : w2.frozen? ⟨w.heap.size, 9, none⟩ = false := KB.out.fz 9; have f10 : w2.frozen? ⟨w.heap.size, 10, none⟩ = false := KB.out.fz 10; have f11 : w2.frozen? ⟨w.heap.size, 11, none⟩ = false := KB.out.fz 11; have lR := KB.out.lt))
  clear d0 f0 d1 f1 d2 f2 d3 f3 d4 f4 d5 f5 d6 f6 d7 f7 d8 f8 d9 f9 d10 f10 d11 f11
  show bodyPost _ _ _ Exit.ret _ (st12 w2 w.heap.size (.int .i64 5) (.int .i64 0) (.int .i64 0) (.int .i64 0) (.int .i64 0) (.string ⟨#[]⟩) (.int .i64 0) (.slice p1 l.length c1) (.string ⟨#[]⟩) (.int .i64 0) (.int .i64 nx) (.slice p2 lk.length c2))
  have hI : Blk 31 w.heap.size #[.int .i64 5, .int .i64 0, .int .i64 0, .int .i64 0, .int .i64 0, .string ⟨#[]⟩, .int .i64 0, .slice p1 l.length c1, .string ⟨#[]⟩, .int .i64 0, .int .i64 nx, .slice p2 lk.length c2] (st12 w2 w.heap.size (.int .i64 5) (.int .i64 0) (.int .i64 0) (.int .i64 0) (.int .i64 0) (.string ⟨#[]⟩) (.int .i64 0) (.slice p1 l.length c1) (.string ⟨#[]⟩) (.int .i64 0) (.int .i64 nx) (.slice p2 lk.length c2)) := st12_blk KB.out
  have hS : Ch [w.heap.size] w2 (st12 w2 w.heap.size (.int .i64 5) (.int .i64 0) (.int .i64 0) (.int .i64 0) (.int .i64 0) (.string ⟨#[]⟩) (.int .i64 0) (.slice p1 l.length c1) (.string ⟨#[]⟩) (.int .i64 0) (.int .i64 nx) (.slice p2 lk.length c2)) := st12_ch (Ch.refl [w.heap.size] w2) (.inl (by simp))
  generalize (st12 w2 w.heap.size (.int .i64 5) (.int .i64 0) (.int .i64 0) (.int .i64 0) (.int .i64 0) (.string ⟨#[]⟩) (.int .i64 0) (.slice p1 l.length c1) (.string ⟨#[]⟩) (.int .i64 0) (.int .i64 nx) (.slice p2 lk.length c2)) = W9 at *
  have d0 : W9.cell? ⟨w.heap.size, 0, none⟩ = some (.int .i64 5) := hI.cell 0
  have d1 : W9.cell? ⟨w.heap.size, 1, none⟩ = some (.int .i64 0) := hI.cell 1
  have d2 : W9.cell? ⟨w.heap.size, 2, none⟩ = some (.int .i64 0) := hI.cell 2
  have d3 : W9.cell? ⟨w.heap.size, 3, none⟩ = some (.int .i64 0) := hI.cell 3
  have d4 : W9.cell? ⟨w.heap.size, 4, none⟩ = some (.int .i64 0) := hI.cell 4
  have d5 : W9.cell? ⟨w.heap.size, 5, none⟩ = some (.string ⟨#[]⟩) := hI.cell 5
  have d6 : W9.cell? ⟨w.heap.size, 6, none⟩ = some (.int .i64 0) := hI.cell 6
  have d7 : W9.cell? ⟨w.heap.size, 7, none⟩ = some (.slice p1 l.length c1) := hI.cell 7
  have d8 : W9.cell? ⟨w.heap.size, 8, none⟩ = some (.string ⟨#[]⟩) := hI.cell 8
  have d9 : W9.cell? ⟨w.heap.size, 9, none⟩ = some (.int .i64 0) := hI.cell 9
  have d10 : W9.cell? ⟨w.heap.size, 10, none⟩ = some (.int .i64 nx) := hI.cell 10
  have d11 : W9.cell? ⟨w.heap.size, 11, none⟩ = some (.slice p2 lk.length c2) := hI.cell 11
  refine bodyPost_ret (v := .agg #[.int .i64 5, .int .i64 0, .int .i64 0, .int .i64 0, .int .i64 0, .string ⟨#[]⟩, .int .i64 0, .slice p1 l.length c1, .string ⟨#[]⟩, .int .i64 0, .int .i64 nx, .slice p2 lk.length c2]) (by simp [results, Try.results22, go_sem, d0, d1, d2, d3, d4, d5, d6, d7, d8, d9, d10, d11]) rfl ⟨_, _, rfl, (HR1'.out.mono (by omega)).ch hS (HR1'.out.off (by omega)), (HR2.out.mono (by omega)).ch hS (HR2.out.off (by omega)), (HC0.out.trans HC2.out).fresh (fun g hg => by simp at hg; omega) hS⟩
set_option maxHeartbeats 4000000 in
theorem ryield_any (v vk : Value) (l lk : List V5) (nx : Int) (w : World) (h : VA w v l) (hk : VA w vk lk) (hl : l.length ≤ 1000000) (hlk : lk.length ≤ 1000000) :
    Calls Try.prog 23 #[v, .int .i64 nx, vk] w fun e w' => ∃ vl vp, e = .returned (.agg #[.int .i64 5, .int .i64 0, .int .i64 0, .int .i64 0, .int .i64 0, .string ⟨#[]⟩, .int .i64 0, vl, .string ⟨#[]⟩, .int .i64 0, .int .i64 nx, vp]) ∧ Rw w.heap.size vl l w' ∧ Rw w.heap.size vp lk w' ∧ Ch [] w w' := by
  obtain ⟨w0, hw0⟩ : ∃ w0, w0 = w.alloc (.cells #[.int .i64 0, .int .i64 0, .int .i64 0, .int .i64 0, .int .i64 0, .string ⟨#[]⟩, .int .i64 0, .slice none 0 0, .string ⟨#[]⟩, .int .i64 0, .int .i64 0, .slice none 0 0] 31) := ⟨_, rfl⟩
  have HC0 : Hid (Ch [] w w0) := Lib.hid (by rw [hw0]; exact (Ch.refl [] w).alloc _)
  have HB : Hid (Blk 31 w.heap.size #[.int .i64 0, .int .i64 0, .int .i64 0, .int .i64 0, .int .i64 0, .string ⟨#[]⟩, .int .i64 0, .slice none 0 0, .string ⟨#[]⟩, .int .i64 0, .int .i64 0, .slice none 0 0] w0) := Lib.hid (by rw [hw0]; exact Blk.new _ _ _ _ rfl)
  have Q1 : Hid (∀ W, Ch [] w0 W → Calls Try.prog 34 #[v] W fun e w' => ∃ p c, e = .returned (.slice p l.length c) ∧ Rw w0.heap.size (.slice p l.length c) l w' ∧ Ch [] W w') := Lib.hid fun W hW => by
    refine (copied_any v l W (h.below (HC0.out.trans hW)) hl).mono ?_
    rintro e w' ⟨v', rfl, hr, hc⟩
    obtain ⟨p, c, rfl⟩ := ownB_form hr
    exact ⟨p, c, rfl, hr.mono hW.size, hc⟩
  have Q2 : Hid (∀ W, Ch [] w0 W → Calls Try.prog 34 #[vk] W fun e w' => ∃ p c, e = .returned (.slice p lk.length c) ∧ Rw w0.heap.size (.slice p lk.length c) lk w' ∧ Ch [] W w') := Lib.hid fun W hW => by
    refine (copied_any vk lk W (hk.below (HC0.out.trans hW)) hlk).mono ?_
    rintro e w' ⟨v', rfl, hr, hc⟩
    obtain ⟨p, c, rfl⟩ := ownB_form hr
    exact ⟨p, c, rfl, hr.mono hW.size, hc⟩
  have HW := Lib.hid hw0
  have lR0 := HB.out.lt
  clear h hk hw0
  go_enter Try.func23, Try.ntmps23
  go_upto_region 1 with fail
  rw [← HW.out]
  go_wp2_with (first | (go_at_call 34; (with_reducible refine (Q1.out _ (Ch.refl _ _)).mono ?_); rintro e w1 ⟨p1, c1, rfl, hr, hc⟩; have HR1 := Lib.hid hr; have HC1 := Lib.hid hc; clear hr hc) | (go_at_call 34; (with_reducible refine (Q2.out _ HC1.out).mono ?_); rintro e w2 ⟨p2, c2, rfl, hr, hc⟩; have HR2 := Lib.hid hr; have HR1' := Lib.hid (HR1.out.ch0 hc); have HC2 := Lib.hid (HC1.out.trans hc); clear hr hc; have KB := Lib.hid (HB.out.ch HC2.out (not_nil _)); have d0 : w2.cell? ⟨w.heap.size, 0, none⟩ = some (.int .i64 0) := KB.out.cell 0; have d1 : w2.cell? ⟨w.heap.size, 1, none⟩ = some (.int .i64 0) := KB.out.cell 1; have d2 : w2.cell? ⟨w.heap.size, 2, none⟩ = some (.int .i64 0) := KB.out.cell 2; have d3 : w2.cell? ⟨w.heap.size, 3, none⟩ = some (.int .i64 0) := KB.out.cell 3; have d4 : w2.cell? ⟨w.heap.size, 4, none⟩ = some (.int .i64 0) := KB.out.cell 4; have d5 : w2.cell? ⟨w.heap.size, 5, none⟩ = some (.string ⟨#[]⟩) := KB.out.cell 5; have d6 : w2.cell? ⟨w.heap.size, 6, none⟩ = some (.int .i64 0) := KB.out.cell 6; have d7 : w2.cell? ⟨w.heap.size, 7, none⟩ = some (.slice none 0 0) := KB.out.cell 7; have d8 : w2.cell? ⟨w.heap.size, 8, none⟩ = some (.string ⟨#[]⟩) := KB.out.cell 8; have d9 : w2.cell? ⟨w.heap.size, 9, none⟩ = some (.int .i64 0) := KB.out.cell 9; have d10 : w2.cell? ⟨w.heap.size, 10, none⟩ = some (.int .i64 0) := KB.out.cell 10; have d11 : w2.cell? ⟨w.heap.size, 11, none⟩ = some (.slice none 0 0) := KB.out.cell 11; have f0 : w2.frozen? ⟨w.heap.size, 0, none⟩ = false := KB.out.fz 0; have f1 : w2.frozen? ⟨w.heap.size, 1, none⟩ = false := KB.out.fz 1; have f2 : w2.frozen? ⟨w.heap.size, 2, none⟩ = false := KB.out.fz 2; have f3 : w2.frozen? ⟨w.heap.size, 3, none⟩ = false := KB.out.fz 3; have f4 : w2.frozen? ⟨w.heap.size, 4, none⟩ = false := KB.out.fz 4; have f5 : w2.frozen? ⟨w.heap.size, 5, none⟩ = false := KB.out.fz 5; have f6 : w2.frozen? ⟨w.heap.size, 6, none⟩ = false := KB.out.fz 6; have f7 : w2.frozen? ⟨w.heap.size, 7, none⟩ = false := KB.out.fz 7; have f8 : w2.frozen? ⟨w.heap.size, 8, none⟩ = false := KB.out.fz 8; have f9 : w2.frozen? ⟨w.heap.size, 9, none⟩ = false := KB.out.fz 9; have f10 : w2.frozen? ⟨w.heap.size, 10, none⟩ = false := KB.out.fz 10; have f11 : w2.frozen? ⟨w.heap.size, 11, none⟩ = false := KB.out.fz 11; have lR := KB.out.lt))
  clear d0 f0 d1 f1 d2 f2 d3 f3 d4 f4 d5 f5 d6 f6 d7 f7 d8 f8 d9 f9 d10 f10 d11 f11
  show bodyPost _ _ _ Exit.ret _ (st12 w2 w.heap.size (.int .i64 5) (.int .i64 0) (.int .i64 0) (.int .i64 0) (.int .i64 0) (.string ⟨#[]⟩) (.int .i64 0) (.slice p1 l.length c1) (.string ⟨#[]⟩) (.int .i64 0) (.int .i64 nx) (.slice p2 lk.length c2))
  have hI : Blk 31 w.heap.size #[.int .i64 5, .int .i64 0, .int .i64 0, .int .i64 0, .int .i64 0, .string ⟨#[]⟩, .int .i64 0, .slice p1 l.length c1, .string ⟨#[]⟩, .int .i64 0, .int .i64 nx, .slice p2 lk.length c2] (st12 w2 w.heap.size (.int .i64 5) (.int .i64 0) (.int .i64 0) (.int .i64 0) (.int .i64 0) (.string ⟨#[]⟩) (.int .i64 0) (.slice p1 l.length c1) (.string ⟨#[]⟩) (.int .i64 0) (.int .i64 nx) (.slice p2 lk.length c2)) := st12_blk KB.out
  have hS : Ch [w.heap.size] w2 (st12 w2 w.heap.size (.int .i64 5) (.int .i64 0) (.int .i64 0) (.int .i64 0) (.int .i64 0) (.string ⟨#[]⟩) (.int .i64 0) (.slice p1 l.length c1) (.string ⟨#[]⟩) (.int .i64 0) (.int .i64 nx) (.slice p2 lk.length c2)) := st12_ch (Ch.refl [w.heap.size] w2) (.inl (by simp))
  generalize (st12 w2 w.heap.size (.int .i64 5) (.int .i64 0) (.int .i64 0) (.int .i64 0) (.int .i64 0) (.string ⟨#[]⟩) (.int .i64 0) (.slice p1 l.length c1) (.string ⟨#[]⟩) (.int .i64 0) (.int .i64 nx) (.slice p2 lk.length c2)) = W9 at *
  have d0 : W9.cell? ⟨w.heap.size, 0, none⟩ = some (.int .i64 5) := hI.cell 0
  have d1 : W9.cell? ⟨w.heap.size, 1, none⟩ = some (.int .i64 0) := hI.cell 1
  have d2 : W9.cell? ⟨w.heap.size, 2, none⟩ = some (.int .i64 0) := hI.cell 2
  have d3 : W9.cell? ⟨w.heap.size, 3, none⟩ = some (.int .i64 0) := hI.cell 3
  have d4 : W9.cell? ⟨w.heap.size, 4, none⟩ = some (.int .i64 0) := hI.cell 4
  have d5 : W9.cell? ⟨w.heap.size, 5, none⟩ = some (.string ⟨#[]⟩) := hI.cell 5
  have d6 : W9.cell? ⟨w.heap.size, 6, none⟩ = some (.int .i64 0) := hI.cell 6
  have d7 : W9.cell? ⟨w.heap.size, 7, none⟩ = some (.slice p1 l.length c1) := hI.cell 7
  have d8 : W9.cell? ⟨w.heap.size, 8, none⟩ = some (.string ⟨#[]⟩) := hI.cell 8
  have d9 : W9.cell? ⟨w.heap.size, 9, none⟩ = some (.int .i64 0) := hI.cell 9
  have d10 : W9.cell? ⟨w.heap.size, 10, none⟩ = some (.int .i64 nx) := hI.cell 10
  have d11 : W9.cell? ⟨w.heap.size, 11, none⟩ = some (.slice p2 lk.length c2) := hI.cell 11
  refine bodyPost_ret (v := .agg #[.int .i64 5, .int .i64 0, .int .i64 0, .int .i64 0, .int .i64 0, .string ⟨#[]⟩, .int .i64 0, .slice p1 l.length c1, .string ⟨#[]⟩, .int .i64 0, .int .i64 nx, .slice p2 lk.length c2]) (by simp [results, Try.results23, go_sem, d0, d1, d2, d3, d4, d5, d6, d7, d8, d9, d10, d11]) rfl ⟨_, _, rfl, (HR1'.out.mono (by omega)).ch hS (HR1'.out.off (by omega)), (HR2.out.mono (by omega)).ch hS (HR2.out.off (by omega)), (HC0.out.trans HC2.out).fresh (fun g hg => by simp at hg; omega) hS⟩
end Go.Proofs.Ytdgdpckjcpgoaaa
