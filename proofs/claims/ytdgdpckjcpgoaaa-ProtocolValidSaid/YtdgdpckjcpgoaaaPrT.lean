/- Layer 20: the code's Try. -/
import Derived.Test.YtdgdpckjcpgoaaaPrD
namespace Go.Proofs.Ytdgdpckjcpgoaaa
open Go.RowKit Go.Joins M1
set_option linter.unusedVariables false
set_option maxHeartbeats 4000000 in
theorem try_any (x : V5) (v vk : Value) (l lk : List V5) (nx : Int) (w : World) (h : VA w v l) (hk : VA w vk lk) (hl : l.length ≤ 1000000) (hlk : lk.length ≤ 1000000) :
    Calls Try.prog 20 #[.agg #[.int .i64 x.k, .int .i64 x.p, .int .i64 x.q, .string x.s, .int .i64 x.r], v, .int .i64 nx, vk] w fun e w' => ∃ vl vp, e = .returned (.agg #[.int .i64 4, .int .i64 0, .int .i64 x.k, .int .i64 x.p, .int .i64 x.q, .string x.s, .int .i64 x.r, vl, .string ⟨#[]⟩, .int .i64 0, .int .i64 nx, vp]) ∧ Rw w.heap.size vl l w' ∧ Rw w.heap.size vp lk w' ∧ Ch [] w w' := by
  obtain ⟨w0, hw0⟩ : ∃ w0, w0 = ((w.alloc (.cells #[.int .i64 x.k, .int .i64 x.p, .int .i64 x.q, .string x.s, .int .i64 x.r] 26)).alloc (.cells #[.int .i64 0, .int .i64 0, .int .i64 0, .int .i64 0, .int .i64 0, .string ⟨#[]⟩, .int .i64 0, .slice none 0 0, .string ⟨#[]⟩, .int .i64 0, .int .i64 0, .slice none 0 0] 31)) := ⟨_, rfl⟩
  have HC0 : Hid (Ch [] w w0) := Lib.hid (by rw [hw0]; exact ((Ch.refl [] w).alloc _).alloc _)
  have HB : Hid (Blk 31 (w.heap.size + 1) #[.int .i64 0, .int .i64 0, .int .i64 0, .int .i64 0, .int .i64 0, .string ⟨#[]⟩, .int .i64 0, .slice none 0 0, .string ⟨#[]⟩, .int .i64 0, .int .i64 0, .slice none 0 0] w0) := Lib.hid (by rw [hw0]; exact Blk.new _ _ _ _ (by simp))
  have HX : Hid (Blk 26 w.heap.size #[.int .i64 x.k, .int .i64 x.p, .int .i64 x.q, .string x.s, .int .i64 x.r] w0) := Lib.hid (by rw [hw0]; exact (Blk.new w _ _ _ rfl).ch ((Ch.refl [] _).alloc _) (not_nil _))
  have QC := Lib.hid (call_any x v vk l lk nx w0 (h.below HC0.out) (hk.below HC0.out) hl hlk)
  have HW := Lib.hid hw0
  clear h hk hw0
  go_enter Try.func20, Try.ntmps20
  go_upto_region 1 with fail
  rw [← HW.out]
  have u0 : w0.cell? ⟨w.heap.size, 0, none⟩ = some (.int .i64 x.k) := HX.out.cell 0
  have u1 : w0.cell? ⟨w.heap.size, 1, none⟩ = some (.int .i64 x.p) := HX.out.cell 1
  have u2 : w0.cell? ⟨w.heap.size, 2, none⟩ = some (.int .i64 x.q) := HX.out.cell 2
  have u3 : w0.cell? ⟨w.heap.size, 3, none⟩ = some (.string x.s) := HX.out.cell 3
  have u4 : w0.cell? ⟨w.heap.size, 4, none⟩ = some (.int .i64 x.r) := HX.out.cell 4
  have lu := HX.out.lt
  have lR0 := HB.out.lt
  go_wp2_with (go_at_call 18; (with_reducible refine (QC.out).mono ?_); rintro e w1 ⟨vl, vp, rfl, hr, hr2, hc⟩; obtain ⟨p1, c1, rfl⟩ := ownB_form hr; obtain ⟨p2, c2, rfl⟩ := ownB_form hr2; have HR1 := Lib.hid hr; have HR2 := Lib.hid hr2; have HC1 := Lib.hid hc; have KB1 := Lib.hid (HB.out.ch hc (not_nil _)); clear hr hr2 hc; have d0 : w1.cell? ⟨(w.heap.size + 1), 0, none⟩ = some (.int .i64 0) := KB1.out.cell 0; have d1 : w1.cell? ⟨(w.heap.size + 1), 1, none⟩ = some (.int .i64 0) := KB1.out.cell 1; have d2 : w1.cell? ⟨(w.heap.size + 1), 2, none⟩ = some (.int .i64 0) := KB1.out.cell 2; have d3 : w1.cell? ⟨(w.heap.size + 1), 3, none⟩ = some (.int .i64 0) := KB1.out.cell 3; have d4 : w1.cell? ⟨(w.heap.size + 1), 4, none⟩ = some (.int .i64 0) := KB1.out.cell 4; have d5 : w1.cell? ⟨(w.heap.size + 1), 5, none⟩ = some (.string ⟨#[]⟩) := KB1.out.cell 5; have d6 : w1.cell? ⟨(w.heap.size + 1), 6, none⟩ = some (.int .i64 0) := KB1.out.cell 6; have d7 : w1.cell? ⟨(w.heap.size + 1), 7, none⟩ = some (.slice none 0 0) := KB1.out.cell 7; have d8 : w1.cell? ⟨(w.heap.size + 1), 8, none⟩ = some (.string ⟨#[]⟩) := KB1.out.cell 8; have d9 : w1.cell? ⟨(w.heap.size + 1), 9, none⟩ = some (.int .i64 0) := KB1.out.cell 9; have d10 : w1.cell? ⟨(w.heap.size + 1), 10, none⟩ = some (.int .i64 0) := KB1.out.cell 10; have d11 : w1.cell? ⟨(w.heap.size + 1), 11, none⟩ = some (.slice none 0 0) := KB1.out.cell 11; have f0 : w1.frozen? ⟨(w.heap.size + 1), 0, none⟩ = false := KB1.out.fz 0; have f1 : w1.frozen? ⟨(w.heap.size + 1), 1, none⟩ = false := KB1.out.fz 1; have f2 : w1.frozen? ⟨(w.heap.size + 1), 2, none⟩ = false := KB1.out.fz 2; have f3 : w1.frozen? ⟨(w.heap.size + 1), 3, none⟩ = false := KB1.out.fz 3; have f4 : w1.frozen? ⟨(w.heap.size + 1), 4, none⟩ = false := KB1.out.fz 4; have f5 : w1.frozen? ⟨(w.heap.size + 1), 5, none⟩ = false := KB1.out.fz 5; have f6 : w1.frozen? ⟨(w.heap.size + 1), 6, none⟩ = false := KB1.out.fz 6; have f7 : w1.frozen? ⟨(w.heap.size + 1), 7, none⟩ = false := KB1.out.fz 7; have f8 : w1.frozen? ⟨(w.heap.size + 1), 8, none⟩ = false := KB1.out.fz 8; have f9 : w1.frozen? ⟨(w.heap.size + 1), 9, none⟩ = false := KB1.out.fz 9; have f10 : w1.frozen? ⟨(w.heap.size + 1), 10, none⟩ = false := KB1.out.fz 10; have f11 : w1.frozen? ⟨(w.heap.size + 1), 11, none⟩ = false := KB1.out.fz 11; have lR := KB1.out.lt)
  clear d0 f0 d1 f1 d2 f2 d3 f3 d4 f4 d5 f5 d6 f6 d7 f7 d8 f8 d9 f9 d10 f10 d11 f11
  show bodyPost _ _ _ Exit.ret _ ((st12 w1 (w.heap.size + 1) (.int .i64 4) (.int .i64 0) (.int .i64 x.k) (.int .i64 x.p) (.int .i64 x.q) (.string x.s) (.int .i64 x.r) (.slice p1 l.length c1) (.string ⟨#[]⟩) (.int .i64 0) (.int .i64 nx) (.slice p2 lk.length c2)).alloc (.cells #[.int .i64 4, .int .i64 0, .int .i64 x.k, .int .i64 x.p, .int .i64 x.q, .string x.s, .int .i64 x.r, .slice p1 l.length c1, .string ⟨#[]⟩, .int .i64 0, .int .i64 nx, .slice p2 lk.length c2] 31))
  have hI0 : Blk 31 (w.heap.size + 1) #[.int .i64 4, .int .i64 0, .int .i64 x.k, .int .i64 x.p, .int .i64 x.q, .string x.s, .int .i64 x.r, .slice p1 l.length c1, .string ⟨#[]⟩, .int .i64 0, .int .i64 nx, .slice p2 lk.length c2] (st12 w1 (w.heap.size + 1) (.int .i64 4) (.int .i64 0) (.int .i64 x.k) (.int .i64 x.p) (.int .i64 x.q) (.string x.s) (.int .i64 x.r) (.slice p1 l.length c1) (.string ⟨#[]⟩) (.int .i64 0) (.int .i64 nx) (.slice p2 lk.length c2)) := st12_blk KB1.out
  have hS : Ch [(w.heap.size + 1)] w1 (st12 w1 (w.heap.size + 1) (.int .i64 4) (.int .i64 0) (.int .i64 x.k) (.int .i64 x.p) (.int .i64 x.q) (.string x.s) (.int .i64 x.r) (.slice p1 l.length c1) (.string ⟨#[]⟩) (.int .i64 0) (.int .i64 nx) (.slice p2 lk.length c2)) := st12_ch (Ch.refl [(w.heap.size + 1)] w1) (.inl (by simp))
  generalize (st12 w1 (w.heap.size + 1) (.int .i64 4) (.int .i64 0) (.int .i64 x.k) (.int .i64 x.p) (.int .i64 x.q) (.string x.s) (.int .i64 x.r) (.slice p1 l.length c1) (.string ⟨#[]⟩) (.int .i64 0) (.int .i64 nx) (.slice p2 lk.length c2)) = W8 at *
  have hI := hI0.ch ((Ch.refl [] W8).alloc (.cells #[.int .i64 4, .int .i64 0, .int .i64 x.k, .int .i64 x.p, .int .i64 x.q, .string x.s, .int .i64 x.r, .slice p1 l.length c1, .string ⟨#[]⟩, .int .i64 0, .int .i64 nx, .slice p2 lk.length c2] 31)) (not_nil _)
  have hA : Ch [] W8 (W8.alloc (.cells #[.int .i64 4, .int .i64 0, .int .i64 x.k, .int .i64 x.p, .int .i64 x.q, .string x.s, .int .i64 x.r, .slice p1 l.length c1, .string ⟨#[]⟩, .int .i64 0, .int .i64 nx, .slice p2 lk.length c2] 31)) := (Ch.refl [] W8).alloc _
  generalize (W8.alloc (.cells #[.int .i64 4, .int .i64 0, .int .i64 x.k, .int .i64 x.p, .int .i64 x.q, .string x.s, .int .i64 x.r, .slice p1 l.length c1, .string ⟨#[]⟩, .int .i64 0, .int .i64 nx, .slice p2 lk.length c2] 31)) = W9 at *
  have d0 : W9.cell? ⟨(w.heap.size + 1), 0, none⟩ = some (.int .i64 4) := hI.cell 0
  have d1 : W9.cell? ⟨(w.heap.size + 1), 1, none⟩ = some (.int .i64 0) := hI.cell 1
  have d2 : W9.cell? ⟨(w.heap.size + 1), 2, none⟩ = some (.int .i64 x.k) := hI.cell 2
  have d3 : W9.cell? ⟨(w.heap.size + 1), 3, none⟩ = some (.int .i64 x.p) := hI.cell 3
  have d4 : W9.cell? ⟨(w.heap.size + 1), 4, none⟩ = some (.int .i64 x.q) := hI.cell 4
  have d5 : W9.cell? ⟨(w.heap.size + 1), 5, none⟩ = some (.string x.s) := hI.cell 5
  have d6 : W9.cell? ⟨(w.heap.size + 1), 6, none⟩ = some (.int .i64 x.r) := hI.cell 6
  have d7 : W9.cell? ⟨(w.heap.size + 1), 7, none⟩ = some (.slice p1 l.length c1) := hI.cell 7
  have d8 : W9.cell? ⟨(w.heap.size + 1), 8, none⟩ = some (.string ⟨#[]⟩) := hI.cell 8
  have d9 : W9.cell? ⟨(w.heap.size + 1), 9, none⟩ = some (.int .i64 0) := hI.cell 9
  have d10 : W9.cell? ⟨(w.heap.size + 1), 10, none⟩ = some (.int .i64 nx) := hI.cell 10
  have d11 : W9.cell? ⟨(w.heap.size + 1), 11, none⟩ = some (.slice p2 lk.length c2) := hI.cell 11
  refine bodyPost_ret (v := .agg #[.int .i64 4, .int .i64 0, .int .i64 x.k, .int .i64 x.p, .int .i64 x.q, .string x.s, .int .i64 x.r, .slice p1 l.length c1, .string ⟨#[]⟩, .int .i64 0, .int .i64 nx, .slice p2 lk.length c2]) (by simp [results, Try.results20, go_sem, d0, d1, d2, d3, d4, d5, d6, d7, d8, d9, d10, d11]) rfl ⟨_, _, rfl, (((HR1.out.mono (by omega)).ch hS (HR1.out.off (by omega))).ch0 hA), (((HR2.out.mono (by omega)).ch hS (HR2.out.off (by omega))).ch0 hA), ((HC0.out.trans HC1.out).fresh (fun g hg => by simp at hg; omega) hS).trans hA⟩
end Go.Proofs.Ytdgdpckjcpgoaaa
