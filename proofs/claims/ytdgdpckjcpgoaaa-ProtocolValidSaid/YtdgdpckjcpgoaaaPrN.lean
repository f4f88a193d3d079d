/- Layer 20: needs. -/
import Derived.Test.YtdgdpckjcpgoaaaPrT
import Derived.Test.YtdgdpckjcpgoaaaPrE
namespace Go.Proofs.Ytdgdpckjcpgoaaa
open Go.RowKit Go.Joins M1
set_option linter.unusedVariables false
structure Nd where
  k : Int
  v : V5
  f : V5
  l : List V5
  af : Int
  s : ByteArray
def retA (l : List V5) : Act := ⟨1, 0, v5z, l, ⟨#[]⟩, 0, 0, []⟩
def failA (x : V5) (lv : Int) : Act := ⟨2, 0, v5z, [x], ⟨#[]⟩, lv, 0, []⟩
def errA (s : ByteArray) : Act := failA (v5s (cutS s)) 1
def callA (k : Int) (f : V5) (l : List V5) (nx : Int) (kp : List V5) : Act := ⟨k, 0, f, l, ⟨#[]⟩, 0, nx, kp⟩
def yldA (l : List V5) (nx : Int) (kp : List V5) : Act := ⟨5, 0, v5z, l, ⟨#[]⟩, 0, nx, kp⟩
def needA (n : Nd) (nx : Int) (kp : List V5) : Act := if n.k = 1 then retA [n.v] else if n.k = 2 then callA 3 n.f n.l nx kp else if n.k = 3 then errA n.s else retA []
set_option maxHeartbeats 4000000 in
theorem need_1 (v f : V5) (va : Value) (l : List V5) (af : Int) (s : ByteArray) (nx : Int) (vk : Value) (kp : List V5) (w : World) (h : VA w va l) (hk : VA w vk kp) (n1 : l.length ≤ 1000000) (n2 : kp.length ≤ 1000000) :
    Calls Try.prog 29 #[.agg #[.int .i64 1, .int .i64 v.k, .int .i64 v.p, .int .i64 v.q, .string v.s, .int .i64 v.r, .int .i64 f.k, .int .i64 f.p, .int .i64 f.q, .string f.s, .int .i64 f.r, va, .int .i64 af, .string s], .int .i64 nx, vk] w fun e w' => ∃ v', e = .returned v' ∧ AO w.heap.size v' (retA [v]) w' ∧ Ch [] w w' := by
  obtain ⟨w0, hw0⟩ : ∃ w0, w0 = ((w.alloc (.cells #[.int .i64 1, .int .i64 v.k, .int .i64 v.p, .int .i64 v.q, .string v.s, .int .i64 v.r, .int .i64 f.k, .int .i64 f.p, .int .i64 f.q, .string f.s, .int .i64 f.r, va, .int .i64 af, .string s] 45)).alloc (.cells #[.int .i64 0, .int .i64 0, .int .i64 0, .int .i64 0, .int .i64 0, .string ⟨#[]⟩, .int .i64 0, .slice none 0 0, .string ⟨#[]⟩, .int .i64 0, .int .i64 0, .slice none 0 0] 31)) := ⟨_, rfl⟩
  have HC0 : Hid (Ch [] w w0) := Lib.hid (by rw [hw0]; exact ((Ch.refl [] w).alloc _).alloc _)
  have HB : Hid (Blk 31 (w.heap.size + 1) #[.int .i64 0, .int .i64 0, .int .i64 0, .int .i64 0, .int .i64 0, .string ⟨#[]⟩, .int .i64 0, .slice none 0 0, .string ⟨#[]⟩, .int .i64 0, .int .i64 0, .slice none 0 0] w0) := Lib.hid (by rw [hw0]; exact Blk.new _ _ _ _ (by simp))
  have HX : Hid (Blk 45 w.heap.size #[.int .i64 1, .int .i64 v.k, .int .i64 v.p, .int .i64 v.q, .string v.s, .int .i64 v.r, .int .i64 f.k, .int .i64 f.p, .int .i64 f.q, .string f.s, .int .i64 f.r, va, .int .i64 af, .string s] w0) := Lib.hid (by rw [hw0]; exact (Blk.new w _ _ _ rfl).ch ((Ch.refl [] _).alloc _) (not_nil _))
  have Q : Hid (Calls Try.prog 12 #[.slice (some ⟨w0.heap.size, 0, none⟩) 1 1] (w0.alloc (.cells #[.int .i64 v.k, .int .i64 v.p, .int .i64 v.q, .string v.s, .int .i64 v.r] 26)) fun e w' => ∃ vl, e = .returned (.agg #[.int .i64 1, .int .i64 0, .int .i64 0, .int .i64 0, .int .i64 0, .string ⟨#[]⟩, .int .i64 0, vl, .string ⟨#[]⟩, .int .i64 0, .int .i64 0, .slice none 0 0]) ∧ Rw w0.heap.size vl [v] w' ∧ Ch [] w0 w') := Lib.hid (by
    refine (return_any _ [v] (w0.alloc (.cells #[.int .i64 v.k, .int .i64 v.p, .int .i64 v.q, .string v.s, .int .i64 v.r] 26)) (VA.one v w0) (by simp)).mono ?_
    rintro e w' ⟨vl, rfl, hr, hc⟩
    exact ⟨vl, rfl, hr.mono (by simp), ((Ch.refl [] w0).alloc _).trans hc⟩)
  have HW := Lib.hid hw0
  clear hw0 h hk n1 n2
  go_enter Try.func29, Try.ntmps29
  go_upto_region 1 with fail
  rw [← HW.out]
  have u0 : w0.cell? ⟨w.heap.size, 0, none⟩ = some (.int .i64 1) := HX.out.cell 0
  have u1 : w0.cell? ⟨w.heap.size, 1, none⟩ = some (.int .i64 v.k) := HX.out.cell 1
  have u2 : w0.cell? ⟨w.heap.size, 2, none⟩ = some (.int .i64 v.p) := HX.out.cell 2
  have u3 : w0.cell? ⟨w.heap.size, 3, none⟩ = some (.int .i64 v.q) := HX.out.cell 3
  have u4 : w0.cell? ⟨w.heap.size, 4, none⟩ = some (.string v.s) := HX.out.cell 4
  have u5 : w0.cell? ⟨w.heap.size, 5, none⟩ = some (.int .i64 v.r) := HX.out.cell 5
  have u6 : w0.cell? ⟨w.heap.size, 6, none⟩ = some (.int .i64 f.k) := HX.out.cell 6
  have u7 : w0.cell? ⟨w.heap.size, 7, none⟩ = some (.int .i64 f.p) := HX.out.cell 7
  have u8 : w0.cell? ⟨w.heap.size, 8, none⟩ = some (.int .i64 f.q) := HX.out.cell 8
  have u9 : w0.cell? ⟨w.heap.size, 9, none⟩ = some (.string f.s) := HX.out.cell 9
  have u10 : w0.cell? ⟨w.heap.size, 10, none⟩ = some (.int .i64 f.r) := HX.out.cell 10
  have u11 : w0.cell? ⟨w.heap.size, 11, none⟩ = some (va) := HX.out.cell 11
  have u12 : w0.cell? ⟨w.heap.size, 12, none⟩ = some (.int .i64 af) := HX.out.cell 12
  have u13 : w0.cell? ⟨w.heap.size, 13, none⟩ = some (.string s) := HX.out.cell 13
  have lu := HX.out.lt
  have lR0 := HB.out.lt
  go_wp2_with (go_at_call 12; (with_reducible refine (Q.out).mono ?_); rintro e w1 ⟨vl, rfl, hr, hc⟩; obtain ⟨pl, cl, rfl⟩ := ownB_form hr; have HR := Lib.hid hr; have HC := Lib.hid hc; have KB := Lib.hid (HB.out.ch hc (not_nil _)); clear hr hc; have d0 : w1.cell? ⟨(w.heap.size + 1), 0, none⟩ = some (.int .i64 0) := KB.out.cell 0; have d1 : w1.cell? ⟨(w.heap.size + 1), 1, none⟩ = some (.int .i64 0) := KB.out.cell 1; have d2 : w1.cell? ⟨(w.heap.size + 1), 2, none⟩ = some (.int .i64 0) := KB.out.cell 2; have d3 : w1.cell? ⟨(w.heap.size + 1), 3, none⟩ = some (.int .i64 0) := KB.out.cell 3; have d4 : w1.cell? ⟨(w.heap.size + 1), 4, none⟩ = some (.int .i64 0) := KB.out.cell 4; have d5 : w1.cell? ⟨(w.heap.size + 1), 5, none⟩ = some (.string ⟨#[]⟩) := KB.out.cell 5; have d6 : w1.cell? ⟨(w.heap.size + 1), 6, none⟩ = some (.int .i64 0) := KB.out.cell 6; have d7 : w1.cell? ⟨(w.heap.size + 1), 7, none⟩ = some (.slice none 0 0) := KB.out.cell 7; have d8 : w1.cell? ⟨(w.heap.size + 1), 8, none⟩ = some (.string ⟨#[]⟩) := KB.out.cell 8; have d9 : w1.cell? ⟨(w.heap.size + 1), 9, none⟩ = some (.int .i64 0) := KB.out.cell 9; have d10 : w1.cell? ⟨(w.heap.size + 1), 10, none⟩ = some (.int .i64 0) := KB.out.cell 10; have d11 : w1.cell? ⟨(w.heap.size + 1), 11, none⟩ = some (.slice none 0 0) := KB.out.cell 11; have f0 : w1.frozen? ⟨(w.heap.size + 1), 0, none⟩ = false := KB.out.fz 0; have f1 : w1.frozen? ⟨(w.heap.size + 1), 1, none⟩ = false := KB.out.fz 1; have f2 : w1.frozen? ⟨(w.heap.size + 1), 2, none⟩ = false := KB.out.fz 2; have f3 : w1.frozen? ⟨(w.heap.size + 1), 3, none⟩ = false := KB.out.fz 3; have f4 : w1.frozen? ⟨(w.heap.size + 1), 4, none⟩ = false := KB.out.fz 4; have f5 : w1.frozen? ⟨(w.heap.size + 1), 5, none⟩ = false := KB.out.fz 5; have f6 : w1.frozen? ⟨(w.heap.size + 1), 6, none⟩ = false := KB.out.fz 6; have f7 : w1.frozen? ⟨(w.heap.size + 1), 7, none⟩ = false := KB.out.fz 7; have f8 : w1.frozen? ⟨(w.heap.size + 1), 8, none⟩ = false := KB.out.fz 8; have f9 : w1.frozen? ⟨(w.heap.size + 1), 9, none⟩ = false := KB.out.fz 9; have f10 : w1.frozen? ⟨(w.heap.size + 1), 10, none⟩ = false := KB.out.fz 10; have f11 : w1.frozen? ⟨(w.heap.size + 1), 11, none⟩ = false := KB.out.fz 11; have lR := KB.out.lt)
  clear d0 f0 d1 f1 d2 f2 d3 f3 d4 f4 d5 f5 d6 f6 d7 f7 d8 f8 d9 f9 d10 f10 d11 f11
  show bodyPost _ _ _ Exit.ret _ (st12 w1 (w.heap.size + 1) (.int .i64 1) (.int .i64 0) (.int .i64 0) (.int .i64 0) (.int .i64 0) (.string ⟨#[]⟩) (.int .i64 0) (.slice pl [v].length cl) (.string ⟨#[]⟩) (.int .i64 0) (.int .i64 0) (.slice none 0 0))
  have hI : Blk 31 (w.heap.size + 1) #[.int .i64 1, .int .i64 0, .int .i64 0, .int .i64 0, .int .i64 0, .string ⟨#[]⟩, .int .i64 0, .slice pl [v].length cl, .string ⟨#[]⟩, .int .i64 0, .int .i64 0, .slice none 0 0] (st12 w1 (w.heap.size + 1) (.int .i64 1) (.int .i64 0) (.int .i64 0) (.int .i64 0) (.int .i64 0) (.string ⟨#[]⟩) (.int .i64 0) (.slice pl [v].length cl) (.string ⟨#[]⟩) (.int .i64 0) (.int .i64 0) (.slice none 0 0)) := st12_blk KB.out
  have hS : Ch [(w.heap.size + 1)] w1 (st12 w1 (w.heap.size + 1) (.int .i64 1) (.int .i64 0) (.int .i64 0) (.int .i64 0) (.int .i64 0) (.string ⟨#[]⟩) (.int .i64 0) (.slice pl [v].length cl) (.string ⟨#[]⟩) (.int .i64 0) (.int .i64 0) (.slice none 0 0)) := st12_ch (Ch.refl [(w.heap.size + 1)] w1) (.inl (by simp))
  generalize (st12 w1 (w.heap.size + 1) (.int .i64 1) (.int .i64 0) (.int .i64 0) (.int .i64 0) (.int .i64 0) (.string ⟨#[]⟩) (.int .i64 0) (.slice pl [v].length cl) (.string ⟨#[]⟩) (.int .i64 0) (.int .i64 0) (.slice none 0 0)) = W9 at *
  have d0 : W9.cell? ⟨(w.heap.size + 1), 0, none⟩ = some (.int .i64 1) := hI.cell 0
  have d1 : W9.cell? ⟨(w.heap.size + 1), 1, none⟩ = some (.int .i64 0) := hI.cell 1
  have d2 : W9.cell? ⟨(w.heap.size + 1), 2, none⟩ = some (.int .i64 0) := hI.cell 2
  have d3 : W9.cell? ⟨(w.heap.size + 1), 3, none⟩ = some (.int .i64 0) := hI.cell 3
  have d4 : W9.cell? ⟨(w.heap.size + 1), 4, none⟩ = some (.int .i64 0) := hI.cell 4
  have d5 : W9.cell? ⟨(w.heap.size + 1), 5, none⟩ = some (.string ⟨#[]⟩) := hI.cell 5
  have d6 : W9.cell? ⟨(w.heap.size + 1), 6, none⟩ = some (.int .i64 0) := hI.cell 6
  have d7 : W9.cell? ⟨(w.heap.size + 1), 7, none⟩ = some (.slice pl [v].length cl) := hI.cell 7
  have d8 : W9.cell? ⟨(w.heap.size + 1), 8, none⟩ = some (.string ⟨#[]⟩) := hI.cell 8
  have d9 : W9.cell? ⟨(w.heap.size + 1), 9, none⟩ = some (.int .i64 0) := hI.cell 9
  have d10 : W9.cell? ⟨(w.heap.size + 1), 10, none⟩ = some (.int .i64 0) := hI.cell 10
  have d11 : W9.cell? ⟨(w.heap.size + 1), 11, none⟩ = some (.slice none 0 0) := hI.cell 11
  refine bodyPost_ret (v := .agg #[.int .i64 1, .int .i64 0, .int .i64 0, .int .i64 0, .int .i64 0, .string ⟨#[]⟩, .int .i64 0, .slice pl [v].length cl, .string ⟨#[]⟩, .int .i64 0, .int .i64 0, .slice none 0 0]) (by simp [results, Try.results29, go_sem, d0, d1, d2, d3, d4, d5, d6, d7, d8, d9, d10, d11]) rfl ⟨_, rfl, ⟨_, _, rfl, (HR.out.mono (by omega)).ch hS (HR.out.off (by omega)), Rw.nil _ _⟩, (HC0.out.trans HC.out).fresh (fun g hg => by simp at hg; omega) hS⟩
set_option maxHeartbeats 4000000 in
theorem need_2 (v f : V5) (va : Value) (l : List V5) (af : Int) (s : ByteArray) (nx : Int) (vk : Value) (kp : List V5) (w : World) (h : VA w va l) (hk : VA w vk kp) (n1 : l.length ≤ 1000000) (n2 : kp.length ≤ 1000000) :
    Calls Try.prog 29 #[.agg #[.int .i64 2, .int .i64 v.k, .int .i64 v.p, .int .i64 v.q, .string v.s, .int .i64 v.r, .int .i64 f.k, .int .i64 f.p, .int .i64 f.q, .string f.s, .int .i64 f.r, va, .int .i64 af, .string s], .int .i64 nx, vk] w fun e w' => ∃ v', e = .returned v' ∧ AO w.heap.size v' (callA 3 f l nx kp) w' ∧ Ch [] w w' := by
  obtain ⟨w0, hw0⟩ : ∃ w0, w0 = ((w.alloc (.cells #[.int .i64 2, .int .i64 v.k, .int .i64 v.p, .int .i64 v.q, .string v.s, .int .i64 v.r, .int .i64 f.k, .int .i64 f.p, .int .i64 f.q, .string f.s, .int .i64 f.r, va, .int .i64 af, .string s] 45)).alloc (.cells #[.int .i64 0, .int .i64 0, .int .i64 0, .int .i64 0, .int .i64 0, .string ⟨#[]⟩, .int .i64 0, .slice none 0 0, .string ⟨#[]⟩, .int .i64 0, .int .i64 0, .slice none 0 0] 31)) := ⟨_, rfl⟩
  have HC0 : Hid (Ch [] w w0) := Lib.hid (by rw [hw0]; exact ((Ch.refl [] w).alloc _).alloc _)
  have HB : Hid (Blk 31 (w.heap.size + 1) #[.int .i64 0, .int .i64 0, .int .i64 0, .int .i64 0, .int .i64 0, .string ⟨#[]⟩, .int .i64 0, .slice none 0 0, .string ⟨#[]⟩, .int .i64 0, .int .i64 0, .slice none 0 0] w0) := Lib.hid (by rw [hw0]; exact Blk.new _ _ _ _ (by simp))
  have HX : Hid (Blk 45 w.heap.size #[.int .i64 2, .int .i64 v.k, .int .i64 v.p, .int .i64 v.q, .string v.s, .int .i64 v.r, .int .i64 f.k, .int .i64 f.p, .int .i64 f.q, .string f.s, .int .i64 f.r, va, .int .i64 af, .string s] w0) := Lib.hid (by rw [hw0]; exact (Blk.new w _ _ _ rfl).ch ((Ch.refl [] _).alloc _) (not_nil _))
  have Q : Hid (Calls Try.prog 18 #[.agg #[.int .i64 f.k, .int .i64 f.p, .int .i64 f.q, .string f.s, .int .i64 f.r], va, .int .i64 nx, vk] w0 fun e w' => ∃ vl vp, e = .returned (.agg #[.int .i64 3, .int .i64 0, .int .i64 f.k, .int .i64 f.p, .int .i64 f.q, .string f.s, .int .i64 f.r, vl, .string ⟨#[]⟩, .int .i64 0, .int .i64 nx, vp]) ∧ Rw w0.heap.size vl l w' ∧ Rw w0.heap.size vp kp w' ∧ Ch [] w0 w') := Lib.hid (call_any f va vk l kp nx w0 (h.below HC0.out) (hk.below HC0.out) n1 n2)
  have HW := Lib.hid hw0
  clear hw0 h hk n1 n2
  go_enter Try.func29, Try.ntmps29
  go_upto_region 1 with fail
  rw [← HW.out]
  have u0 : w0.cell? ⟨w.heap.size, 0, none⟩ = some (.int .i64 2) := HX.out.cell 0
  have u1 : w0.cell? ⟨w.heap.size, 1, none⟩ = some (.int .i64 v.k) := HX.out.cell 1
  have u2 : w0.cell? ⟨w.heap.size, 2, none⟩ = some (.int .i64 v.p) := HX.out.cell 2
  have u3 : w0.cell? ⟨w.heap.size, 3, none⟩ = some (.int .i64 v.q) := HX.out.cell 3
  have u4 : w0.cell? ⟨w.heap.size, 4, none⟩ = some (.string v.s) := HX.out.cell 4
  have u5 : w0.cell? ⟨w.heap.size, 5, none⟩ = some (.int .i64 v.r) := HX.out.cell 5
  have u6 : w0.cell? ⟨w.heap.size, 6, none⟩ = some (.int .i64 f.k) := HX.out.cell 6
  have u7 : w0.cell? ⟨w.heap.size, 7, none⟩ = some (.int .i64 f.p) := HX.out.cell 7
  have u8 : w0.cell? ⟨w.heap.size, 8, none⟩ = some (.int .i64 f.q) := HX.out.cell 8
  have u9 : w0.cell? ⟨w.heap.size, 9, none⟩ = some (.string f.s) := HX.out.cell 9
  have u10 : w0.cell? ⟨w.heap.size, 10, none⟩ = some (.int .i64 f.r) := HX.out.cell 10
  have u11 : w0.cell? ⟨w.heap.size, 11, none⟩ = some (va) := HX.out.cell 11
  have u12 : w0.cell? ⟨w.heap.size, 12, none⟩ = some (.int .i64 af) := HX.out.cell 12
  have u13 : w0.cell? ⟨w.heap.size, 13, none⟩ = some (.string s) := HX.out.cell 13
  have lu := HX.out.lt
  have lR0 := HB.out.lt
  go_wp2_with (go_at_call 18; (with_reducible refine (Q.out).mono ?_); rintro e w1 ⟨vl, vp, rfl, hr, hr2, hc⟩; obtain ⟨pl, cl, rfl⟩ := ownB_form hr; obtain ⟨pk, ck, rfl⟩ := ownB_form hr2; have HR := Lib.hid hr; have HR2 := Lib.hid hr2; have HC := Lib.hid hc; have KB := Lib.hid (HB.out.ch hc (not_nil _)); clear hr hc; clear hr2; have d0 : w1.cell? ⟨(w.heap.size + 1), 0, none⟩ = some (.int .i64 0) := KB.out.cell 0; have d1 : w1.cell? ⟨(w.heap.size + 1), 1, none⟩ = some (.int .i64 0) := KB.out.cell 1; have d2 : w1.cell? ⟨(w.heap.size + 1), 2, none⟩ = some (.int .i64 0) := KB.out.cell 2; have d3 : w1.cell? ⟨(w.heap.size + 1), 3, none⟩ = some (.int .i64 0) := KB.out.cell 3; have d4 : w1.cell? ⟨(w.heap.size + 1), 4, none⟩ = some (.int .i64 0) := KB.out.cell 4; have d5 : w1.cell? ⟨(w.heap.size + 1), 5, none⟩ = some (.string ⟨#[]⟩) := KB.out.cell 5; have d6 : w1.cell? ⟨(w.heap.size + 1), 6, none⟩ = some (.int .i64 0) := KB.out.cell 6; have d7 : w1.cell? ⟨(w.heap.size + 1), 7, none⟩ = some (.slice none 0 0) := KB.out.cell 7; have d8 : w1.cell? ⟨(w.heap.size + 1), 8, none⟩ = some (.string ⟨#[]⟩) := KB.out.cell 8; have d9 : w1.cell? ⟨(w.heap.size + 1), 9, none⟩ = some (.int .i64 0) := KB.out.cell 9; have d10 : w1.cell? ⟨(w.heap.size + 1), 10, none⟩ = some (.int .i64 0) := KB.out.cell 10; have d11 : w1.cell? ⟨(w.heap.size + 1), 11, none⟩ = some (.slice none 0 0) := KB.out.cell 11; have f0 : w1.frozen? ⟨(w.heap.size + 1), 0, none⟩ = false := KB.out.fz 0; have f1 : w1.frozen? ⟨(w.heap.size + 1), 1, none⟩ = false := KB.out.fz 1; have f2 : w1.frozen? ⟨(w.heap.size + 1), 2, none⟩ = false := KB.out.fz 2; have f3 : w1.frozen? ⟨(w.heap.size + 1), 3, none⟩ = false := KB.out.fz 3; have f4 : w1.frozen? ⟨(w.heap.size + 1), 4, none⟩ = false := KB.out.fz 4; have f5 : w1.frozen? ⟨(w.heap.size + 1), 5, none⟩ = false := KB.out.fz 5; have f6 : w1.frozen? ⟨(w.heap.size + 1), 6, none⟩ = false := KB.out.fz 6; have f7 : w1.frozen? ⟨(w.heap.size + 1), 7, none⟩ = false := KB.out.fz 7; have f8 : w1.frozen? ⟨(w.heap.size + 1), 8, none⟩ = false := KB.out.fz 8; have f9 : w1.frozen? ⟨(w.heap.size + 1), 9, none⟩ = false := KB.out.fz 9; have f10 : w1.frozen? ⟨(w.heap.size + 1), 10, none⟩ = false := KB.out.fz 10; have f11 : w1.frozen? ⟨(w.heap.size + 1), 11, none⟩ = false := KB.out.fz 11; have lR := KB.out.lt)
  clear d0 f0 d1 f1 d2 f2 d3 f3 d4 f4 d5 f5 d6 f6 d7 f7 d8 f8 d9 f9 d10 f10 d11 f11
  show bodyPost _ _ _ Exit.ret _ (st12 w1 (w.heap.size + 1) (.int .i64 3) (.int .i64 0) (.int .i64 f.k) (.int .i64 f.p) (.int .i64 f.q) (.string f.s) (.int .i64 f.r) (.slice pl l.length cl) (.string ⟨#[]⟩) (.int .i64 0) (.int .i64 nx) (.slice pk kp.length ck))
  have hI : Blk 31 (w.heap.size + 1) #[.int .i64 3, .int .i64 0, .int .i64 f.k, .int .i64 f.p, .int .i64 f.q, .string f.s, .int .i64 f.r, .slice pl l.length cl, .string ⟨#[]⟩, .int .i64 0, .int .i64 nx, .slice pk kp.length ck] (st12 w1 (w.heap.size + 1) (.int .i64 3) (.int .i64 0) (.int .i64 f.k) (.int .i64 f.p) (.int .i64 f.q) (.string f.s) (.int .i64 f.r) (.slice pl l.length cl) (.string ⟨#[]⟩) (.int .i64 0) (.int .i64 nx) (.slice pk kp.length ck)) := st12_blk KB.out
  have hS : Ch [(w.heap.size + 1)] w1 (st12 w1 (w.heap.size + 1) (.int .i64 3) (.int .i64 0) (.int .i64 f.k) (.int .i64 f.p) (.int .i64 f.q) (.string f.s) (.int .i64 f.r) (.slice pl l.length cl) (.string ⟨#[]⟩) (.int .i64 0) (.int .i64 nx) (.slice pk kp.length ck)) := st12_ch (Ch.refl [(w.heap.size + 1)] w1) (.inl (by simp))
  generalize (st12 w1 (w.heap.size + 1) (.int .i64 3) (.int .i64 0) (.int .i64 f.k) (.int .i64 f.p) (.int .i64 f.q) (.string f.s) (.int .i64 f.r) (.slice pl l.length cl) (.string ⟨#[]⟩) (.int .i64 0) (.int .i64 nx) (.slice pk kp.length ck)) = W9 at *
  have d0 : W9.cell? ⟨(w.heap.size + 1), 0, none⟩ = some (.int .i64 3) := hI.cell 0
  have d1 : W9.cell? ⟨(w.heap.size + 1), 1, none⟩ = some (.int .i64 0) := hI.cell 1
  have d2 : W9.cell? ⟨(w.heap.size + 1), 2, none⟩ = some (.int .i64 f.k) := hI.cell 2
  have d3 : W9.cell? ⟨(w.heap.size + 1), 3, none⟩ = some (.int .i64 f.p) := hI.cell 3
  have d4 : W9.cell? ⟨(w.heap.size + 1), 4, none⟩ = some (.int .i64 f.q) := hI.cell 4
  have d5 : W9.cell? ⟨(w.heap.size + 1), 5, none⟩ = some (.string f.s) := hI.cell 5
  have d6 : W9.cell? ⟨(w.heap.size + 1), 6, none⟩ = some (.int .i64 f.r) := hI.cell 6
  have d7 : W9.cell? ⟨(w.heap.size + 1), 7, none⟩ = some (.slice pl l.length cl) := hI.cell 7
  have d8 : W9.cell? ⟨(w.heap.size + 1), 8, none⟩ = some (.string ⟨#[]⟩) := hI.cell 8
  have d9 : W9.cell? ⟨(w.heap.size + 1), 9, none⟩ = some (.int .i64 0) := hI.cell 9
  have d10 : W9.cell? ⟨(w.heap.size + 1), 10, none⟩ = some (.int .i64 nx) := hI.cell 10
  have d11 : W9.cell? ⟨(w.heap.size + 1), 11, none⟩ = some (.slice pk kp.length ck) := hI.cell 11
  refine bodyPost_ret (v := .agg #[.int .i64 3, .int .i64 0, .int .i64 f.k, .int .i64 f.p, .int .i64 f.q, .string f.s, .int .i64 f.r, .slice pl l.length cl, .string ⟨#[]⟩, .int .i64 0, .int .i64 nx, .slice pk kp.length ck]) (by simp [results, Try.results29, go_sem, d0, d1, d2, d3, d4, d5, d6, d7, d8, d9, d10, d11]) rfl ⟨_, rfl, ⟨_, _, rfl, (HR.out.mono (by omega)).ch hS (HR.out.off (by omega)), (HR2.out.mono (by omega)).ch hS (HR2.out.off (by omega))⟩, (HC0.out.trans HC.out).fresh (fun g hg => by simp at hg; omega) hS⟩
set_option maxHeartbeats 4000000 in
theorem need_3 (v f : V5) (va : Value) (l : List V5) (af : Int) (s : ByteArray) (nx : Int) (vk : Value) (kp : List V5) (w : World) (h : VA w va l) (hk : VA w vk kp) (n1 : l.length ≤ 1000000) (n2 : kp.length ≤ 1000000) :
    Calls Try.prog 29 #[.agg #[.int .i64 3, .int .i64 v.k, .int .i64 v.p, .int .i64 v.q, .string v.s, .int .i64 v.r, .int .i64 f.k, .int .i64 f.p, .int .i64 f.q, .string f.s, .int .i64 f.r, va, .int .i64 af, .string s], .int .i64 nx, vk] w fun e w' => ∃ v', e = .returned v' ∧ AO w.heap.size v' (errA s) w' ∧ Ch [] w w' := by
  obtain ⟨w0, hw0⟩ : ∃ w0, w0 = ((w.alloc (.cells #[.int .i64 3, .int .i64 v.k, .int .i64 v.p, .int .i64 v.q, .string v.s, .int .i64 v.r, .int .i64 f.k, .int .i64 f.p, .int .i64 f.q, .string f.s, .int .i64 f.r, va, .int .i64 af, .string s] 45)).alloc (.cells #[.int .i64 0, .int .i64 0, .int .i64 0, .int .i64 0, .int .i64 0, .string ⟨#[]⟩, .int .i64 0, .slice none 0 0, .string ⟨#[]⟩, .int .i64 0, .int .i64 0, .slice none 0 0] 31)) := ⟨_, rfl⟩
  have HC0 : Hid (Ch [] w w0) := Lib.hid (by rw [hw0]; exact ((Ch.refl [] w).alloc _).alloc _)
  have HB : Hid (Blk 31 (w.heap.size + 1) #[.int .i64 0, .int .i64 0, .int .i64 0, .int .i64 0, .int .i64 0, .string ⟨#[]⟩, .int .i64 0, .slice none 0 0, .string ⟨#[]⟩, .int .i64 0, .int .i64 0, .slice none 0 0] w0) := Lib.hid (by rw [hw0]; exact Blk.new _ _ _ _ (by simp))
  have HX : Hid (Blk 45 w.heap.size #[.int .i64 3, .int .i64 v.k, .int .i64 v.p, .int .i64 v.q, .string v.s, .int .i64 v.r, .int .i64 f.k, .int .i64 f.p, .int .i64 f.q, .string f.s, .int .i64 f.r, va, .int .i64 af, .string s] w0) := Lib.hid (by rw [hw0]; exact (Blk.new w _ _ _ rfl).ch ((Ch.refl [] _).alloc _) (not_nil _))
  have Q : Hid (Calls Try.prog 16 #[.string s] w0 fun e w' => ∃ vl, e = .returned (.agg #[.int .i64 2, .int .i64 0, .int .i64 0, .int .i64 0, .int .i64 0, .string ⟨#[]⟩, .int .i64 0, vl, .string ⟨#[]⟩, .int .i64 1, .int .i64 0, .slice none 0 0]) ∧ Rw w0.heap.size vl [v5s (cutS s)] w' ∧ Ch [] w0 w') := Lib.hid (error_any s w0)
  have HW := Lib.hid hw0
  clear hw0 h hk n1 n2
  go_enter Try.func29, Try.ntmps29
  go_upto_region 1 with fail
  rw [← HW.out]
  have u0 : w0.cell? ⟨w.heap.size, 0, none⟩ = some (.int .i64 3) := HX.out.cell 0
  have u1 : w0.cell? ⟨w.heap.size, 1, none⟩ = some (.int .i64 v.k) := HX.out.cell 1
  have u2 : w0.cell? ⟨w.heap.size, 2, none⟩ = some (.int .i64 v.p) := HX.out.cell 2
  have u3 : w0.cell? ⟨w.heap.size, 3, none⟩ = some (.int .i64 v.q) := HX.out.cell 3
  have u4 : w0.cell? ⟨w.heap.size, 4, none⟩ = some (.string v.s) := HX.out.cell 4
  have u5 : w0.cell? ⟨w.heap.size, 5, none⟩ = some (.int .i64 v.r) := HX.out.cell 5
  have u6 : w0.cell? ⟨w.heap.size, 6, none⟩ = some (.int .i64 f.k) := HX.out.cell 6
  have u7 : w0.cell? ⟨w.heap.size, 7, none⟩ = some (.int .i64 f.p) := HX.out.cell 7
  have u8 : w0.cell? ⟨w.heap.size, 8, none⟩ = some (.int .i64 f.q) := HX.out.cell 8
  have u9 : w0.cell? ⟨w.heap.size, 9, none⟩ = some (.string f.s) := HX.out.cell 9
  have u10 : w0.cell? ⟨w.heap.size, 10, none⟩ = some (.int .i64 f.r) := HX.out.cell 10
  have u11 : w0.cell? ⟨w.heap.size, 11, none⟩ = some (va) := HX.out.cell 11
  have u12 : w0.cell? ⟨w.heap.size, 12, none⟩ = some (.int .i64 af) := HX.out.cell 12
  have u13 : w0.cell? ⟨w.heap.size, 13, none⟩ = some (.string s) := HX.out.cell 13
  have lu := HX.out.lt
  have lR0 := HB.out.lt
  go_wp2_with (go_at_call 16; (with_reducible refine (Q.out).mono ?_); rintro e w1 ⟨vl, rfl, hr, hc⟩; obtain ⟨pl, cl, rfl⟩ := ownB_form hr; have HR := Lib.hid hr; have HC := Lib.hid hc; have KB := Lib.hid (HB.out.ch hc (not_nil _)); clear hr hc; have d0 : w1.cell? ⟨(w.heap.size + 1), 0, none⟩ = some (.int .i64 0) := KB.out.cell 0; have d1 : w1.cell? ⟨(w.heap.size + 1), 1, none⟩ = some (.int .i64 0) := KB.out.cell 1; have d2 : w1.cell? ⟨(w.heap.size + 1), 2, none⟩ = some (.int .i64 0) := KB.out.cell 2; have d3 : w1.cell? ⟨(w.heap.size + 1), 3, none⟩ = some (.int .i64 0) := KB.out.cell 3; have d4 : w1.cell? ⟨(w.heap.size + 1), 4, none⟩ = some (.int .i64 0) := KB.out.cell 4; have d5 : w1.cell? ⟨(w.heap.size + 1), 5, none⟩ = some (.string ⟨#[]⟩) := KB.out.cell 5; have d6 : w1.cell? ⟨(w.heap.size + 1), 6, none⟩ = some (.int .i64 0) := KB.out.cell 6; have d7 : w1.cell? ⟨(w.heap.size + 1), 7, none⟩ = some (.slice none 0 0) := KB.out.cell 7; have d8 : w1.cell? ⟨(w.heap.size + 1), 8, none⟩ = some (.string ⟨#[]⟩) := KB.out.cell 8; have d9 : w1.cell? ⟨(w.heap.size + 1), 9, none⟩ = some (.int .i64 0) := KB.out.cell 9; have d10 : w1.cell? ⟨(w.heap.size + 1), 10, none⟩ = some (.int .i64 0) := KB.out.cell 10; have d11 : w1.cell? ⟨(w.heap.size + 1), 11, none⟩ = some (.slice none 0 0) := KB.out.cell 11; have f0 : w1.frozen? ⟨(w.heap.size + 1), 0, none⟩ = false := KB.out.fz 0; have f1 : w1.frozen? ⟨(w.heap.size + 1), 1, none⟩ = false := KB.out.fz 1; have f2 : w1.frozen? ⟨(w.heap.size + 1), 2, none⟩ = false := KB.out.fz 2; have f3 : w1.frozen? ⟨(w.heap.size + 1), 3, none⟩ = false := KB.out.fz 3; have f4 : w1.frozen? ⟨(w.heap.size + 1), 4, none⟩ = false := KB.out.fz 4; have f5 : w1.frozen? ⟨(w.heap.size + 1), 5, none⟩ = false := KB.out.fz 5; have f6 : w1.frozen? ⟨(w.heap.size + 1), 6, none⟩ = false := KB.out.fz 6; have f7 : w1.frozen? ⟨(w.heap.size + 1), 7, none⟩ = false := KB.out.fz 7; have f8 : w1.frozen? ⟨(w.heap.size + 1), 8, none⟩ = false := KB.out.fz 8; have f9 : w1.frozen? ⟨(w.heap.size + 1), 9, none⟩ = false := KB.out.fz 9; have f10 : w1.frozen? ⟨(w.heap.size + 1), 10, none⟩ = false := KB.out.fz 10; have f11 : w1.frozen? ⟨(w.heap.size + 1), 11, none⟩ = false := KB.out.fz 11; have lR := KB.out.lt)
  clear d0 f0 d1 f1 d2 f2 d3 f3 d4 f4 d5 f5 d6 f6 d7 f7 d8 f8 d9 f9 d10 f10 d11 f11
  show bodyPost _ _ _ Exit.ret _ (st12 w1 (w.heap.size + 1) (.int .i64 2) (.int .i64 0) (.int .i64 0) (.int .i64 0) (.int .i64 0) (.string ⟨#[]⟩) (.int .i64 0) (.slice pl [v5s (cutS s)].length cl) (.string ⟨#[]⟩) (.int .i64 1) (.int .i64 0) (.slice none 0 0))
  have hI : Blk 31 (w.heap.size + 1) #[.int .i64 2, .int .i64 0, .int .i64 0, .int .i64 0, .int .i64 0, .string ⟨#[]⟩, .int .i64 0, .slice pl [v5s (cutS s)].length cl, .string ⟨#[]⟩, .int .i64 1, .int .i64 0, .slice none 0 0] (st12 w1 (w.heap.size + 1) (.int .i64 2) (.int .i64 0) (.int .i64 0) (.int .i64 0) (.int .i64 0) (.string ⟨#[]⟩) (.int .i64 0) (.slice pl [v5s (cutS s)].length cl) (.string ⟨#[]⟩) (.int .i64 1) (.int .i64 0) (.slice none 0 0)) := st12_blk KB.out
  have hS : Ch [(w.heap.size + 1)] w1 (st12 w1 (w.heap.size + 1) (.int .i64 2) (.int .i64 0) (.int .i64 0) (.int .i64 0) (.int .i64 0) (.string ⟨#[]⟩) (.int .i64 0) (.slice pl [v5s (cutS s)].length cl) (.string ⟨#[]⟩) (.int .i64 1) (.int .i64 0) (.slice none 0 0)) := st12_ch (Ch.refl [(w.heap.size + 1)] w1) (.inl (by simp))
  generalize (st12 w1 (w.heap.size + 1) (.int .i64 2) (.int .i64 0) (.int .i64 0) (.int .i64 0) (.int .i64 0) (.string ⟨#[]⟩) (.int .i64 0) (.slice pl [v5s (cutS s)].length cl) (.string ⟨#[]⟩) (.int .i64 1) (.int .i64 0) (.slice none 0 0)) = W9 at *
  have d0 : W9.cell? ⟨(w.heap.size + 1), 0, none⟩ = some (.int .i64 2) := hI.cell 0
  have d1 : W9.cell? ⟨(w.heap.size + 1), 1, none⟩ = some (.int .i64 0) := hI.cell 1
  have d2 : W9.cell? ⟨(w.heap.size + 1), 2, none⟩ = some (.int .i64 0) := hI.cell 2
  have d3 : W9.cell? ⟨(w.heap.size + 1), 3, none⟩ = some (.int .i64 0) := hI.cell 3
  have d4 : W9.cell? ⟨(w.heap.size + 1), 4, none⟩ = some (.int .i64 0) := hI.cell 4
  have d5 : W9.cell? ⟨(w.heap.size + 1), 5, none⟩ = some (.string ⟨#[]⟩) := hI.cell 5
  have d6 : W9.cell? ⟨(w.heap.size + 1), 6, none⟩ = some (.int .i64 0) := hI.cell 6
  have d7 : W9.cell? ⟨(w.heap.size + 1), 7, none⟩ = some (.slice pl [v5s (cutS s)].length cl) := hI.cell 7
  have d8 : W9.cell? ⟨(w.heap.size + 1), 8, none⟩ = some (.string ⟨#[]⟩) := hI.cell 8
  have d9 : W9.cell? ⟨(w.heap.size + 1), 9, none⟩ = some (.int .i64 1) := hI.cell 9
  have d10 : W9.cell? ⟨(w.heap.size + 1), 10, none⟩ = some (.int .i64 0) := hI.cell 10
  have d11 : W9.cell? ⟨(w.heap.size + 1), 11, none⟩ = some (.slice none 0 0) := hI.cell 11
  refine bodyPost_ret (v := .agg #[.int .i64 2, .int .i64 0, .int .i64 0, .int .i64 0, .int .i64 0, .string ⟨#[]⟩, .int .i64 0, .slice pl [v5s (cutS s)].length cl, .string ⟨#[]⟩, .int .i64 1, .int .i64 0, .slice none 0 0]) (by simp [results, Try.results29, go_sem, d0, d1, d2, d3, d4, d5, d6, d7, d8, d9, d10, d11]) rfl ⟨_, rfl, ⟨_, _, rfl, (HR.out.mono (by omega)).ch hS (HR.out.off (by omega)), Rw.nil _ _⟩, (HC0.out.trans HC.out).fresh (fun g hg => by simp at hg; omega) hS⟩
set_option maxHeartbeats 4000000 in
theorem need_0 (k : Int) (v f : V5) (va : Value) (l : List V5) (af : Int) (s : ByteArray) (nx : Int) (vk : Value) (kp : List V5) (w : World) (h : VA w va l) (hk : VA w vk kp) (n1 : l.length ≤ 1000000) (n2 : kp.length ≤ 1000000) (h1' : ¬ k = 1) (h2' : ¬ k = 2) (h3' : ¬ k = 3) :
    Calls Try.prog 29 #[.agg #[.int .i64 k, .int .i64 v.k, .int .i64 v.p, .int .i64 v.q, .string v.s, .int .i64 v.r, .int .i64 f.k, .int .i64 f.p, .int .i64 f.q, .string f.s, .int .i64 f.r, va, .int .i64 af, .string s], .int .i64 nx, vk] w fun e w' => ∃ v', e = .returned v' ∧ AO w.heap.size v' (retA []) w' ∧ Ch [] w w' := by
  obtain ⟨w0, hw0⟩ : ∃ w0, w0 = ((w.alloc (.cells #[.int .i64 k, .int .i64 v.k, .int .i64 v.p, .int .i64 v.q, .string v.s, .int .i64 v.r, .int .i64 f.k, .int .i64 f.p, .int .i64 f.q, .string f.s, .int .i64 f.r, va, .int .i64 af, .string s] 45)).alloc (.cells #[.int .i64 0, .int .i64 0, .int .i64 0, .int .i64 0, .int .i64 0, .string ⟨#[]⟩, .int .i64 0, .slice none 0 0, .string ⟨#[]⟩, .int .i64 0, .int .i64 0, .slice none 0 0] 31)) := ⟨_, rfl⟩
  have HC0 : Hid (Ch [] w w0) := Lib.hid (by rw [hw0]; exact ((Ch.refl [] w).alloc _).alloc _)
  have HB : Hid (Blk 31 (w.heap.size + 1) #[.int .i64 0, .int .i64 0, .int .i64 0, .int .i64 0, .int .i64 0, .string ⟨#[]⟩, .int .i64 0, .slice none 0 0, .string ⟨#[]⟩, .int .i64 0, .int .i64 0, .slice none 0 0] w0) := Lib.hid (by rw [hw0]; exact Blk.new _ _ _ _ (by simp))
  have HX : Hid (Blk 45 w.heap.size #[.int .i64 k, .int .i64 v.k, .int .i64 v.p, .int .i64 v.q, .string v.s, .int .i64 v.r, .int .i64 f.k, .int .i64 f.p, .int .i64 f.q, .string f.s, .int .i64 f.r, va, .int .i64 af, .string s] w0) := Lib.hid (by rw [hw0]; exact (Blk.new w _ _ _ rfl).ch ((Ch.refl [] _).alloc _) (not_nil _))
  have b1 : (k == 1) = false := by rw [beq_eq_false_iff_ne]; exact h1'
  have b2 : (k == 2) = false := by rw [beq_eq_false_iff_ne]; exact h2'
  have b3 : (k == 3) = false := by rw [beq_eq_false_iff_ne]; exact h3'
  have Q : Hid (Calls Try.prog 12 #[.slice none 0 0] w0 fun e w' => ∃ vl, e = .returned (.agg #[.int .i64 1, .int .i64 0, .int .i64 0, .int .i64 0, .int .i64 0, .string ⟨#[]⟩, .int .i64 0, vl, .string ⟨#[]⟩, .int .i64 0, .int .i64 0, .slice none 0 0]) ∧ Rw w0.heap.size vl [] w' ∧ Ch [] w0 w') := Lib.hid (return_any _ [] w0 (VA.nil w0) (by simp))
  have HW := Lib.hid hw0
  clear hw0 h hk n1 n2
  go_enter Try.func29, Try.ntmps29
  go_upto_region 1 with fail
  rw [← HW.out]
  have u0 : w0.cell? ⟨w.heap.size, 0, none⟩ = some (.int .i64 k) := HX.out.cell 0
  have u1 : w0.cell? ⟨w.heap.size, 1, none⟩ = some (.int .i64 v.k) := HX.out.cell 1
  have u2 : w0.cell? ⟨w.heap.size, 2, none⟩ = some (.int .i64 v.p) := HX.out.cell 2
  have u3 : w0.cell? ⟨w.heap.size, 3, none⟩ = some (.int .i64 v.q) := HX.out.cell 3
  have u4 : w0.cell? ⟨w.heap.size, 4, none⟩ = some (.string v.s) := HX.out.cell 4
  have u5 : w0.cell? ⟨w.heap.size, 5, none⟩ = some (.int .i64 v.r) := HX.out.cell 5
  have u6 : w0.cell? ⟨w.heap.size, 6, none⟩ = some (.int .i64 f.k) := HX.out.cell 6
  have u7 : w0.cell? ⟨w.heap.size, 7, none⟩ = some (.int .i64 f.p) := HX.out.cell 7
  have u8 : w0.cell? ⟨w.heap.size, 8, none⟩ = some (.int .i64 f.q) := HX.out.cell 8
  have u9 : w0.cell? ⟨w.heap.size, 9, none⟩ = some (.string f.s) := HX.out.cell 9
  have u10 : w0.cell? ⟨w.heap.size, 10, none⟩ = some (.int .i64 f.r) := HX.out.cell 10
  have u11 : w0.cell? ⟨w.heap.size, 11, none⟩ = some (va) := HX.out.cell 11
  have u12 : w0.cell? ⟨w.heap.size, 12, none⟩ = some (.int .i64 af) := HX.out.cell 12
  have u13 : w0.cell? ⟨w.heap.size, 13, none⟩ = some (.string s) := HX.out.cell 13
  have lu := HX.out.lt
  have lR0 := HB.out.lt
  go_wp2_with (go_at_call 12; (with_reducible refine (Q.out).mono ?_); rintro e w1 ⟨vl, rfl, hr, hc⟩; obtain ⟨pl, cl, rfl⟩ := ownB_form hr; have HR := Lib.hid hr; have HC := Lib.hid hc; have KB := Lib.hid (HB.out.ch hc (not_nil _)); clear hr hc; have d0 : w1.cell? ⟨(w.heap.size + 1), 0, none⟩ = some (.int .i64 0) := KB.out.cell 0; have d1 : w1.cell? ⟨(w.heap.size + 1), 1, none⟩ = some (.int .i64 0) := KB.out.cell 1; have d2 : w1.cell? ⟨(w.heap.size + 1), 2, none⟩ = some (.int .i64 0) := KB.out.cell 2; have d3 : w1.cell? ⟨(w.heap.size + 1), 3, none⟩ = some (.int .i64 0) := KB.out.cell 3; have d4 : w1.cell? ⟨(w.heap.size + 1), 4, none⟩ = some (.int .i64 0) := KB.out.cell 4; have d5 : w1.cell? ⟨(w.heap.size + 1), 5, none⟩ = some (.string ⟨#[]⟩) := KB.out.cell 5; have d6 : w1.cell? ⟨(w.heap.size + 1), 6, none⟩ = some (.int .i64 0) := KB.out.cell 6; have d7 : w1.cell? ⟨(w.heap.size + 1), 7, none⟩ = some (.slice none 0 0) := KB.out.cell 7; have d8 : w1.cell? ⟨(w.heap.size + 1), 8, none⟩ = some (.string ⟨#[]⟩) := KB.out.cell 8; have d9 : w1.cell? ⟨(w.heap.size + 1), 9, none⟩ = some (.int .i64 0) := KB.out.cell 9; have d10 : w1.cell? ⟨(w.heap.size + 1), 10, none⟩ = some (.int .i64 0) := KB.out.cell 10; have d11 : w1.cell? ⟨(w.heap.size + 1), 11, none⟩ = some (.slice none 0 0) := KB.out.cell 11; have f0 : w1.frozen? ⟨(w.heap.size + 1), 0, none⟩ = false := KB.out.fz 0; have f1 : w1.frozen? ⟨(w.heap.size + 1), 1, none⟩ = false := KB.out.fz 1; have f2 : w1.frozen? ⟨(w.heap.size + 1), 2, none⟩ = false := KB.out.fz 2; have f3 : w1.frozen? ⟨(w.heap.size + 1), 3, none⟩ = false := KB.out.fz 3; have f4 : w1.frozen? ⟨(w.heap.size + 1), 4, none⟩ = false := KB.out.fz 4; have f5 : w1.frozen? ⟨(w.heap.size + 1), 5, none⟩ = false := KB.out.fz 5; have f6 : w1.frozen? ⟨(w.heap.size + 1), 6, none⟩ = false := KB.out.fz 6; have f7 : w1.frozen? ⟨(w.heap.size + 1), 7, none⟩ = false := KB.out.fz 7; have f8 : w1.frozen? ⟨(w.heap.size + 1), 8, none⟩ = false := KB.out.fz 8; have f9 : w1.frozen? ⟨(w.heap.size + 1), 9, none⟩ = false := KB.out.fz 9; have f10 : w1.frozen? ⟨(w.heap.size + 1), 10, none⟩ = false := KB.out.fz 10; have f11 : w1.frozen? ⟨(w.heap.size + 1), 11, none⟩ = false := KB.out.fz 11; have lR := KB.out.lt)
  clear d0 f0 d1 f1 d2 f2 d3 f3 d4 f4 d5 f5 d6 f6 d7 f7 d8 f8 d9 f9 d10 f10 d11 f11
  show bodyPost _ _ _ Exit.ret _ (st12 w1 (w.heap.size + 1) (.int .i64 1) (.int .i64 0) (.int .i64 0) (.int .i64 0) (.int .i64 0) (.string ⟨#[]⟩) (.int .i64 0) (.slice pl ([] : List V5).length cl) (.string ⟨#[]⟩) (.int .i64 0) (.int .i64 0) (.slice none 0 0))
  have hI : Blk 31 (w.heap.size + 1) #[.int .i64 1, .int .i64 0, .int .i64 0, .int .i64 0, .int .i64 0, .string ⟨#[]⟩, .int .i64 0, .slice pl ([] : List V5).length cl, .string ⟨#[]⟩, .int .i64 0, .int .i64 0, .slice none 0 0] (st12 w1 (w.heap.size + 1) (.int .i64 1) (.int .i64 0) (.int .i64 0) (.int .i64 0) (.int .i64 0) (.string ⟨#[]⟩) (.int .i64 0) (.slice pl ([] : List V5).length cl) (.string ⟨#[]⟩) (.int .i64 0) (.int .i64 0) (.slice none 0 0)) := st12_blk KB.out
  have hS : Ch [(w.heap.size + 1)] w1 (st12 w1 (w.heap.size + 1) (.int .i64 1) (.int .i64 0) (.int .i64 0) (.int .i64 0) (.int .i64 0) (.string ⟨#[]⟩) (.int .i64 0) (.slice pl ([] : List V5).length cl) (.string ⟨#[]⟩) (.int .i64 0) (.int .i64 0) (.slice none 0 0)) := st12_ch (Ch.refl [(w.heap.size + 1)] w1) (.inl (by simp))
  generalize (st12 w1 (w.heap.size + 1) (.int .i64 1) (.int .i64 0) (.int .i64 0) (.int .i64 0) (.int .i64 0) (.string ⟨#[]⟩) (.int .i64 0) (.slice pl ([] : List V5).length cl) (.string ⟨#[]⟩) (.int .i64 0) (.int .i64 0) (.slice none 0 0)) = W9 at *
  have d0 : W9.cell? ⟨(w.heap.size + 1), 0, none⟩ = some (.int .i64 1) := hI.cell 0
  have d1 : W9.cell? ⟨(w.heap.size + 1), 1, none⟩ = some (.int .i64 0) := hI.cell 1
  have d2 : W9.cell? ⟨(w.heap.size + 1), 2, none⟩ = some (.int .i64 0) := hI.cell 2
  have d3 : W9.cell? ⟨(w.heap.size + 1), 3, none⟩ = some (.int .i64 0) := hI.cell 3
  have d4 : W9.cell? ⟨(w.heap.size + 1), 4, none⟩ = some (.int .i64 0) := hI.cell 4
  have d5 : W9.cell? ⟨(w.heap.size + 1), 5, none⟩ = some (.string ⟨#[]⟩) := hI.cell 5
  have d6 : W9.cell? ⟨(w.heap.size + 1), 6, none⟩ = some (.int .i64 0) := hI.cell 6
  have d7 : W9.cell? ⟨(w.heap.size + 1), 7, none⟩ = some (.slice pl ([] : List V5).length cl) := hI.cell 7
  have d8 : W9.cell? ⟨(w.heap.size + 1), 8, none⟩ = some (.string ⟨#[]⟩) := hI.cell 8
  have d9 : W9.cell? ⟨(w.heap.size + 1), 9, none⟩ = some (.int .i64 0) := hI.cell 9
  have d10 : W9.cell? ⟨(w.heap.size + 1), 10, none⟩ = some (.int .i64 0) := hI.cell 10
  have d11 : W9.cell? ⟨(w.heap.size + 1), 11, none⟩ = some (.slice none 0 0) := hI.cell 11
  refine bodyPost_ret (v := .agg #[.int .i64 1, .int .i64 0, .int .i64 0, .int .i64 0, .int .i64 0, .string ⟨#[]⟩, .int .i64 0, .slice pl ([] : List V5).length cl, .string ⟨#[]⟩, .int .i64 0, .int .i64 0, .slice none 0 0]) (by simp [results, Try.results29, go_sem, d0, d1, d2, d3, d4, d5, d6, d7, d8, d9, d10, d11]) rfl ⟨_, rfl, ⟨_, _, rfl, (HR.out.mono (by omega)).ch hS (HR.out.off (by omega)), Rw.nil _ _⟩, (HC0.out.trans HC.out).fresh (fun g hg => by simp at hg; omega) hS⟩
theorem need_any (n : Nd) (va : Value) (nx : Int) (vk : Value) (kp : List V5) (w : World) (h : VA w va n.l) (hk : VA w vk kp) (n1 : n.l.length ≤ 1000000) (n2 : kp.length ≤ 1000000) :
    Calls Try.prog 29 #[.agg #[.int .i64 n.k, .int .i64 n.v.k, .int .i64 n.v.p, .int .i64 n.v.q, .string n.v.s, .int .i64 n.v.r, .int .i64 n.f.k, .int .i64 n.f.p, .int .i64 n.f.q, .string n.f.s, .int .i64 n.f.r, va, .int .i64 n.af, .string n.s], .int .i64 nx, vk] w fun e w' => ∃ v', e = .returned v' ∧ AO w.heap.size v' (needA n nx kp) w' ∧ Ch [] w w' := by
  obtain ⟨k, v, f, l, af, s⟩ := n
  unfold needA
  by_cases e1 : k = 1
  · subst e1
    exact need_1 v f va l af s nx vk kp w h hk n1 n2
  rw [if_neg e1]
  by_cases e2 : k = 2
  · subst e2
    exact need_2 v f va l af s nx vk kp w h hk n1 n2
  rw [if_neg e2]
  by_cases e3 : k = 3
  · subst e3
    exact need_3 v f va l af s nx vk kp w h hk n1 n2
  rw [if_neg e3]
  exact need_0 k v f va l af s nx vk kp w h hk n1 n2 e1 e2 e3
set_option maxHeartbeats 4000000 in
theorem rneed_1 (v f : V5) (va : Value) (l : List V5) (af : Int) (s : ByteArray) (nx : Int) (vk : Value) (kp : List V5) (w : World) (h : VA w va l) (hk : VA w vk kp) (n1 : l.length ≤ 1000000) (n2 : kp.length ≤ 1000000) :
    Calls Try.prog 30 #[.agg #[.int .i64 1, .int .i64 v.k, .int .i64 v.p, .int .i64 v.q, .string v.s, .int .i64 v.r, .int .i64 f.k, .int .i64 f.p, .int .i64 f.q, .string f.s, .int .i64 f.r, va, .int .i64 af, .string s], .int .i64 nx, vk] w fun e w' => ∃ v', e = .returned v' ∧ AO w.heap.size v' (retA [v]) w' ∧ Ch [] w w' := by
  obtain ⟨w0, hw0⟩ : ∃ w0, w0 = ((w.alloc (.cells #[.int .i64 1, .int .i64 v.k, .int .i64 v.p, .int .i64 v.q, .string v.s, .int .i64 v.r, .int .i64 f.k, .int .i64 f.p, .int .i64 f.q, .string f.s, .int .i64 f.r, va, .int .i64 af, .string s] 45)).alloc (.cells #[.int .i64 0, .int .i64 0, .int .i64 0, .int .i64 0, .int .i64 0, .string ⟨#[]⟩, .int .i64 0, .slice none 0 0, .string ⟨#[]⟩, .int .i64 0, .int .i64 0, .slice none 0 0] 31)) := ⟨_, rfl⟩
  have HC0 : Hid (Ch [] w w0) := Lib.hid (by rw [hw0]; exact ((Ch.refl [] w).alloc _).alloc _)
  have HB : Hid (Blk 31 (w.heap.size + 1) #[.int .i64 0, .int .i64 0, .int .i64 0, .int .i64 0, .int .i64 0, .string ⟨#[]⟩, .int .i64 0, .slice none 0 0, .string ⟨#[]⟩, .int .i64 0, .int .i64 0, .slice none 0 0] w0) := Lib.hid (by rw [hw0]; exact Blk.new _ _ _ _ (by simp))
  have HX : Hid (Blk 45 w.heap.size #[.int .i64 1, .int .i64 v.k, .int .i64 v.p, .int .i64 v.q, .string v.s, .int .i64 v.r, .int .i64 f.k, .int .i64 f.p, .int .i64 f.q, .string f.s, .int .i64 f.r, va, .int .i64 af, .string s] w0) := Lib.hid (by rw [hw0]; exact (Blk.new w _ _ _ rfl).ch ((Ch.refl [] _).alloc _) (not_nil _))
  have Q : Hid (Calls Try.prog 13 #[.slice (some ⟨w0.heap.size, 0, none⟩) 1 1] (w0.alloc (.cells #[.int .i64 v.k, .int .i64 v.p, .int .i64 v.q, .string v.s, .int .i64 v.r] 26)) fun e w' => ∃ vl, e = .returned (.agg #[.int .i64 1, .int .i64 0, .int .i64 0, .int .i64 0, .int .i64 0, .string ⟨#[]⟩, .int .i64 0, vl, .string ⟨#[]⟩, .int .i64 0, .int .i64 0, .slice none 0 0]) ∧ Rw w0.heap.size vl [v] w' ∧ Ch [] w0 w') := Lib.hid (by
    refine (rreturn_any _ [v] (w0.alloc (.cells #[.int .i64 v.k, .int .i64 v.p, .int .i64 v.q, .string v.s, .int .i64 v.r] 26)) (VA.one v w0) (by simp)).mono ?_
    rintro e w' ⟨vl, rfl, hr, hc⟩
    exact ⟨vl, rfl, hr.mono (by simp), ((Ch.refl [] w0).alloc _).trans hc⟩)
  have HW := Lib.hid hw0
  clear hw0 h hk n1 n2
  go_enter Try.func30, Try.ntmps30
  go_upto_region 1 with fail
  rw [← HW.out]
  have u0 : w0.cell? ⟨w.heap.size, 0, none⟩ = some (.int .i64 1) := HX.out.cell 0
  have u1 : w0.cell? ⟨w.heap.size, 1, none⟩ = some (.int .i64 v.k) := HX.out.cell 1
  have u2 : w0.cell? ⟨w.heap.size, 2, none⟩ = some (.int .i64 v.p) := HX.out.cell 2
  have u3 : w0.cell? ⟨w.heap.size, 3, none⟩ = some (.int .i64 v.q) := HX.out.cell 3
  have u4 : w0.cell? ⟨w.heap.size, 4, none⟩ = some (.string v.s) := HX.out.cell 4
  have u5 : w0.cell? ⟨w.heap.size, 5, none⟩ = some (.int .i64 v.r) := HX.out.cell 5
  have u6 : w0.cell? ⟨w.heap.size, 6, none⟩ = some (.int .i64 f.k) := HX.out.cell 6
  have u7 : w0.cell? ⟨w.heap.size, 7, none⟩ = some (.int .i64 f.p) := HX.out.cell 7
  have u8 : w0.cell? ⟨w.heap.size, 8, none⟩ = some (.int .i64 f.q) := HX.out.cell 8
  have u9 : w0.cell? ⟨w.heap.size, 9, none⟩ = some (.string f.s) := HX.out.cell 9
  have u10 : w0.cell? ⟨w.heap.size, 10, none⟩ = some (.int .i64 f.r) := HX.out.cell 10
  have u11 : w0.cell? ⟨w.heap.size, 11, none⟩ = some (va) := HX.out.cell 11
  have u12 : w0.cell? ⟨w.heap.size, 12, none⟩ = some (.int .i64 af) := HX.out.cell 12
  have u13 : w0.cell? ⟨w.heap.size, 13, none⟩ = some (.string s) := HX.out.cell 13
  have lu := HX.out.lt
  have lR0 := HB.out.lt
  go_wp2_with (go_at_call 13; (with_reducible refine (Q.out).mono ?_); rintro e w1 ⟨vl, rfl, hr, hc⟩; obtain ⟨pl, cl, rfl⟩ := ownB_form hr; have HR := Lib.hid hr; have HC := Lib.hid hc; have KB := Lib.hid (HB.out.ch hc (not_nil _)); clear hr hc; have d0 : w1.cell? ⟨(w.heap.size + 1), 0, none⟩ = some (.int .i64 0) := KB.out.cell 0; have d1 : w1.cell? ⟨(w.heap.size + 1), 1, none⟩ = some (.int .i64 0) := KB.out.cell 1; have d2 : w1.cell? ⟨(w.heap.size + 1), 2, none⟩ = some (.int .i64 0) := KB.out.cell 2; have d3 : w1.cell? ⟨(w.heap.size + 1), 3, none⟩ = some (.int .i64 0) := KB.out.cell 3; have d4 : w1.cell? ⟨(w.heap.size + 1), 4, none⟩ = some (.int .i64 0) := KB.out.cell 4; have d5 : w1.cell? ⟨(w.heap.size + 1), 5, none⟩ = some (.string ⟨#[]⟩) := KB.out.cell 5; have d6 : w1.cell? ⟨(w.heap.size + 1), 6, none⟩ = some (.int .i64 0) := KB.out.cell 6; have d7 : w1.cell? ⟨(w.heap.size + 1), 7, none⟩ = some (.slice none 0 0) := KB.out.cell 7; have d8 : w1.cell? ⟨(w.heap.size + 1), 8, none⟩ = some (.string ⟨#[]⟩) := KB.out.cell 8; have d9 : w1.cell? ⟨(w.heap.size + 1), 9, none⟩ = some (.int .i64 0) := KB.out.cell 9; have d10 : w1.cell? ⟨(w.heap.size + 1), 10, none⟩ = some (.int .i64 0) := KB.out.cell 10; have d11 : w1.cell? ⟨(w.heap.size + 1), 11, none⟩ = some (.slice none 0 0) := KB.out.cell 11; have f0 : w1.frozen? ⟨(w.heap.size + 1), 0, none⟩ = false := KB.out.fz 0; have f1 : w1.frozen? ⟨(w.heap.size + 1), 1, none⟩ = false := KB.out.fz 1; have f2 : w1.frozen? ⟨(w.heap.size + 1), 2, none⟩ = false := KB.out.fz 2; have f3 : w1.frozen? ⟨(w.heap.size + 1), 3, none⟩ = false := KB.out.fz 3; have f4 : w1.frozen? ⟨(w.heap.size + 1), 4, none⟩ = false := KB.out.fz 4; have f5 : w1.frozen? ⟨(w.heap.size + 1), 5, none⟩ = false := KB.out.fz 5; have f6 : w1.frozen? ⟨(w.heap.size + 1), 6, none⟩ = false := KB.out.fz 6; have f7 : w1.frozen? ⟨(w.heap.size + 1), 7, none⟩ = false := KB.out.fz 7; have f8 : w1.frozen? ⟨(w.heap.size + 1), 8, none⟩ = false := KB.out.fz 8; have f9 : w1.frozen? ⟨(w.heap.size + 1), 9, none⟩ = false := KB.out.fz 9; have f10 : w1.frozen? ⟨(w.heap.size + 1), 10, none⟩ = false := KB.out.fz 10; have f11 : w1.frozen? ⟨(w.heap.size + 1), 11, none⟩ = false := KB.out.fz 11; have lR := KB.out.lt)
  clear d0 f0 d1 f1 d2 f2 d3 f3 d4 f4 d5 f5 d6 f6 d7 f7 d8 f8 d9 f9 d10 f10 d11 f11
  show bodyPost _ _ _ Exit.ret _ (st12 w1 (w.heap.size + 1) (.int .i64 1) (.int .i64 0) (.int .i64 0) (.int .i64 0) (.int .i64 0) (.string ⟨#[]⟩) (.int .i64 0) (.slice pl [v].length cl) (.string ⟨#[]⟩) (.int .i64 0) (.int .i64 0) (.slice none 0 0))
  have hI : Blk 31 (w.heap.size + 1) #[.int .i64 1, .int .i64 0, .int .i64 0, .int .i64 0, .int .i64 0, .string ⟨#[]⟩, .int .i64 0, .slice pl [v].length cl, .string ⟨#[]⟩, .int .i64 0, .int .i64 0, .slice none 0 0] (st12 w1 (w.heap.size + 1) (.int .i64 1) (.int .i64 0) (.int .i64 0) (.int .i64 0) (.int .i64 0) (.string ⟨#[]⟩) (.int .i64 0) (.slice pl [v].length cl) (.string ⟨#[]⟩) (.int .i64 0) (.int .i64 0) (.slice none 0 0)) := st12_blk KB.out
  have hS : Ch [(w.heap.size + 1)] w1 (st12 w1 (w.heap.size + 1) (.int .i64 1) (.int .i64 0) (.int .i64 0) (.int .i64 0) (.int .i64 0) (.string ⟨#[]⟩) (.int .i64 0) (.slice pl [v].length cl) (.string ⟨#[]⟩) (.int .i64 0) (.int .i64 0) (.slice none 0 0)) := st12_ch (Ch.refl [(w.heap.size + 1)] w1) (.inl (by simp))
  generalize (st12 w1 (w.heap.size + 1) (.int .i64 1) (.int .i64 0) (.int .i64 0) (.int .i64 0) (.int .i64 0) (.string ⟨#[]⟩) (.int .i64 0) (.slice pl [v].length cl) (.string ⟨#[]⟩) (.int .i64 0) (.int .i64 0) (.slice none 0 0)) = W9 at *
  have d0 : W9.cell? ⟨(w.heap.size + 1), 0, none⟩ = some (.int .i64 1) := hI.cell 0
  have d1 : W9.cell? ⟨(w.heap.size + 1), 1, none⟩ = some (.int .i64 0) := hI.cell 1
  have d2 : W9.cell? ⟨(w.heap.size + 1), 2, none⟩ = some (.int .i64 0) := hI.cell 2
  have d3 : W9.cell? ⟨(w.heap.size + 1), 3, none⟩ = some (.int .i64 0) := hI.cell 3
  have d4 : W9.cell? ⟨(w.heap.size + 1), 4, none⟩ = some (.int .i64 0) := hI.cell 4
  have d5 : W9.cell? ⟨(w.heap.size + 1), 5, none⟩ = some (.string ⟨#[]⟩) := hI.cell 5
  have d6 : W9.cell? ⟨(w.heap.size + 1), 6, none⟩ = some (.int .i64 0) := hI.cell 6
  have d7 : W9.cell? ⟨(w.heap.size + 1), 7, none⟩ = some (.slice pl [v].length cl) := hI.cell 7
  have d8 : W9.cell? ⟨(w.heap.size + 1), 8, none⟩ = some (.string ⟨#[]⟩) := hI.cell 8
  have d9 : W9.cell? ⟨(w.heap.size + 1), 9, none⟩ = some (.int .i64 0) := hI.cell 9
  have d10 : W9.cell? ⟨(w.heap.size + 1), 10, none⟩ = some (.int .i64 0) := hI.cell 10
  have d11 : W9.cell? ⟨(w.heap.size + 1), 11, none⟩ = some (.slice none 0 0) := hI.cell 11
  refine bodyPost_ret (v := .agg #[.int .i64 1, .int .i64 0, .int .i64 0, .int .i64 0, .int .i64 0, .string ⟨#[]⟩, .int .i64 0, .slice pl [v].length cl, .string ⟨#[]⟩, .int .i64 0, .int .i64 0, .slice none 0 0]) (by simp [results, Try.results30, go_sem, d0, d1, d2, d3, d4, d5, d6, d7, d8, d9, d10, d11]) rfl ⟨_, rfl, ⟨_, _, rfl, (HR.out.mono (by omega)).ch hS (HR.out.off (by omega)), Rw.nil _ _⟩, (HC0.out.trans HC.out).fresh (fun g hg => by simp at hg; omega) hS⟩
set_option maxHeartbeats 4000000 in
theorem rneed_2 (v f : V5) (va : Value) (l : List V5) (af : Int) (s : ByteArray) (nx : Int) (vk : Value) (kp : List V5) (w : World) (h : VA w va l) (hk : VA w vk kp) (n1 : l.length ≤ 1000000) (n2 : kp.length ≤ 1000000) :
    Calls Try.prog 30 #[.agg #[.int .i64 2, .int .i64 v.k, .int .i64 v.p, .int .i64 v.q, .string v.s, .int .i64 v.r, .int .i64 f.k, .int .i64 f.p, .int .i64 f.q, .string f.s, .int .i64 f.r, va, .int .i64 af, .string s], .int .i64 nx, vk] w fun e w' => ∃ v', e = .returned v' ∧ AO w.heap.size v' (callA 3 f l nx kp) w' ∧ Ch [] w w' := by
  obtain ⟨w0, hw0⟩ : ∃ w0, w0 = ((w.alloc (.cells #[.int .i64 2, .int .i64 v.k, .int .i64 v.p, .int .i64 v.q, .string v.s, .int .i64 v.r, .int .i64 f.k, .int .i64 f.p, .int .i64 f.q, .string f.s, .int .i64 f.r, va, .int .i64 af, .string s] 45)).alloc (.cells #[.int .i64 0, .int .i64 0, .int .i64 0, .int .i64 0, .int .i64 0, .string ⟨#[]⟩, .int .i64 0, .slice none 0 0, .string ⟨#[]⟩, .int .i64 0, .int .i64 0, .slice none 0 0] 31)) := ⟨_, rfl⟩
  have HC0 : Hid (Ch [] w w0) := Lib.hid (by rw [hw0]; exact ((Ch.refl [] w).alloc _).alloc _)
  have HB : Hid (Blk 31 (w.heap.size + 1) #[.int .i64 0, .int .i64 0, .int .i64 0, .int .i64 0, .int .i64 0, .string ⟨#[]⟩, .int .i64 0, .slice none 0 0, .string ⟨#[]⟩, .int .i64 0, .int .i64 0, .slice none 0 0] w0) := Lib.hid (by rw [hw0]; exact Blk.new _ _ _ _ (by simp))
  have HX : Hid (Blk 45 w.heap.size #[.int .i64 2, .int .i64 v.k, .int .i64 v.p, .int .i64 v.q, .string v.s, .int .i64 v.r, .int .i64 f.k, .int .i64 f.p, .int .i64 f.q, .string f.s, .int .i64 f.r, va, .int .i64 af, .string s] w0) := Lib.hid (by rw [hw0]; exact (Blk.new w _ _ _ rfl).ch ((Ch.refl [] _).alloc _) (not_nil _))
  have Q : Hid (Calls Try.prog 19 #[.agg #[.int .i64 f.k, .int .i64 f.p, .int .i64 f.q, .string f.s, .int .i64 f.r], va, .int .i64 nx, vk] w0 fun e w' => ∃ vl vp, e = .returned (.agg #[.int .i64 3, .int .i64 0, .int .i64 f.k, .int .i64 f.p, .int .i64 f.q, .string f.s, .int .i64 f.r, vl, .string ⟨#[]⟩, .int .i64 0, .int .i64 nx, vp]) ∧ Rw w0.heap.size vl l w' ∧ Rw w0.heap.size vp kp w' ∧ Ch [] w0 w') := Lib.hid (rcall_any f va vk l kp nx w0 (h.below HC0.out) (hk.below HC0.out) n1 n2)
  have HW := Lib.hid hw0
  clear hw0 h hk n1 n2
  go_enter Try.func30, Try.ntmps30
  go_upto_region 1 with fail
  rw [← HW.out]
  have u0 : w0.cell? ⟨w.heap.size, 0, none⟩ = some (.int .i64 2) := HX.out.cell 0
  have u1 : w0.cell? ⟨w.heap.size, 1, none⟩ = some (.int .i64 v.k) := HX.out.cell 1
  have u2 : w0.cell? ⟨w.heap.size, 2, none⟩ = some (.int .i64 v.p) := HX.out.cell 2
  have u3 : w0.cell? ⟨w.heap.size, 3, none⟩ = some (.int .i64 v.q) := HX.out.cell 3
  have u4 : w0.cell? ⟨w.heap.size, 4, none⟩ = some (.string v.s) := HX.out.cell 4
  have u5 : w0.cell? ⟨w.heap.size, 5, none⟩ = some (.int .i64 v.r) := HX.out.cell 5
  have u6 : w0.cell? ⟨w.heap.size, 6, none⟩ = some (.int .i64 f.k) := HX.out.cell 6
  have u7 : w0.cell? ⟨w.heap.size, 7, none⟩ = some (.int .i64 f.p) := HX.out.cell 7
  have u8 : w0.cell? ⟨w.heap.size, 8, none⟩ = some (.int .i64 f.q) := HX.out.cell 8
  have u9 : w0.cell? ⟨w.heap.size, 9, none⟩ = some (.string f.s) := HX.out.cell 9
  have u10 : w0.cell? ⟨w.heap.size, 10, none⟩ = some (.int .i64 f.r) := HX.out.cell 10
  have u11 : w0.cell? ⟨w.heap.size, 11, none⟩ = some (va) := HX.out.cell 11
  have u12 : w0.cell? ⟨w.heap.size, 12, none⟩ = some (.int .i64 af) := HX.out.cell 12
  have u13 : w0.cell? ⟨w.heap.size, 13, none⟩ = some (.string s) := HX.out.cell 13
  have lu := HX.out.lt
  have lR0 := HB.out.lt
  go_wp2_with (go_at_call 19; (with_reducible refine (Q.out).mono ?_); rintro e w1 ⟨vl, vp, rfl, hr, hr2, hc⟩; obtain ⟨pl, cl, rfl⟩ := ownB_form hr; obtain ⟨pk, ck, rfl⟩ := ownB_form hr2; have HR := Lib.hid hr; have HR2 := Lib.hid hr2; have HC := Lib.hid hc; have KB := Lib.hid (HB.out.ch hc (not_nil _)); clear hr hc; clear hr2; have d0 : w1.cell? ⟨(w.heap.size + 1), 0, none⟩ = some (.int .i64 0) := KB.out.cell 0; have d1 : w1.cell? ⟨(w.heap.size + 1), 1, none⟩ = some (.int .i64 0) := KB.out.cell 1; have d2 : w1.cell? ⟨(w.heap.size + 1), 2, none⟩ = some (.int .i64 0) := KB.out.cell 2; have d3 : w1.cell? ⟨(w.heap.size + 1), 3, none⟩ = some (.int .i64 0) := KB.out.cell 3; have d4 : w1.cell? ⟨(w.heap.size + 1), 4, none⟩ = some (.int .i64 0) := KB.out.cell 4; have d5 : w1.cell? ⟨(w.heap.size + 1), 5, none⟩ = some (.string ⟨#[]⟩) := KB.out.cell 5; have d6 : w1.cell? ⟨(w.heap.size + 1), 6, none⟩ = some (.int .i64 0) := KB.out.cell 6; have d7 : w1.cell? ⟨(w.heap.size + 1), 7, none⟩ = some (.slice none 0 0) := KB.out.cell 7; have d8 : w1.cell? ⟨(w.heap.size + 1), 8, none⟩ = some (.string ⟨#[]⟩) := KB.out.cell 8; have d9 : w1.cell? ⟨(w.heap.size + 1), 9, none⟩ = some (.int .i64 0) := KB.out.cell 9; have d10 : w1.cell? ⟨(w.heap.size + 1), 10, none⟩ = some (.int .i64 0) := KB.out.cell 10; have d11 : w1.cell? ⟨(w.heap.size + 1), 11, none⟩ = some (.slice none 0 0) := KB.out.cell 11; have f0 : w1.frozen? ⟨(w.heap.size + 1), 0, none⟩ = false := KB.out.fz 0; have f1 : w1.frozen? ⟨(w.heap.size + 1), 1, none⟩ = false := KB.out.fz 1; have f2 : w1.frozen? ⟨(w.heap.size + 1), 2, none⟩ = false := KB.out.fz 2; have f3 : w1.frozen? ⟨(w.heap.size + 1), 3, none⟩ = false := KB.out.fz 3; have f4 : w1.frozen? ⟨(w.heap.size + 1), 4, none⟩ = false := KB.out.fz 4; have f5 : w1.frozen? ⟨(w.heap.size + 1), 5, none⟩ = false := KB.out.fz 5; have f6 : w1.frozen? ⟨(w.heap.size + 1), 6, none⟩ = false := KB.out.fz 6; have f7 : w1.frozen? ⟨(w.heap.size + 1), 7, none⟩ = false := KB.out.fz 7; have f8 : w1.frozen? ⟨(w.heap.size + 1), 8, none⟩ = false := KB.out.fz 8; have f9 : w1.frozen? ⟨(w.heap.size + 1), 9, none⟩ = false := KB.out.fz 9; have f10 : w1.frozen? ⟨(w.heap.size + 1), 10, none⟩ = false := KB.out.fz 10; have f11 : w1.frozen? ⟨(w.heap.size + 1), 11, none⟩ = false := KB.out.fz 11; have lR := KB.out.lt)
  clear d0 f0 d1 f1 d2 f2 d3 f3 d4 f4 d5 f5 d6 f6 d7 f7 d8 f8 d9 f9 d10 f10 d11 f11
  show bodyPost _ _ _ Exit.ret _ (st12 w1 (w.heap.size + 1) (.int .i64 3) (.int .i64 0) (.int .i64 f.k) (.int .i64 f.p) (.int .i64 f.q) (.string f.s) (.int .i64 f.r) (.slice pl l.length cl) (.string ⟨#[]⟩) (.int .i64 0) (.int .i64 nx) (.slice pk kp.length ck))
  have hI : Blk 31 (w.heap.size + 1) #[.int .i64 3, .int .i64 0, .int .i64 f.k, .int .i64 f.p, .int .i64 f.q, .string f.s, .int .i64 f.r, .slice pl l.length cl, .string ⟨#[]⟩, .int .i64 0, .int .i64 nx, .slice pk kp.length ck] (st12 w1 (w.heap.size + 1) (.int .i64 3) (.int .i64 0) (.int .i64 f.k) (.int .i64 f.p) (.int .i64 f.q) (.string f.s) (.int .i64 f.r) (.slice pl l.length cl) (.string ⟨#[]⟩) (.int .i64 0) (.int .i64 nx) (.slice pk kp.length ck)) := st12_blk KB.out
  have hS : Ch [(w.heap.size + 1)] w1 (st12 w1 (w.heap.size + 1) (.int .i64 3) (.int .i64 0) (.int .i64 f.k) (.int .i64 f.p) (.int .i64 f.q) (.string f.s) (.int .i64 f.r) (.slice pl l.length cl) (.string ⟨#[]⟩) (.int .i64 0) (.int .i64 nx) (.slice pk kp.length ck)) := st12_ch (Ch.refl [(w.heap.size + 1)] w1) (.inl (by simp))
  generalize (st12 w1 (w.heap.size + 1) (.int .i64 3) (.int .i64 0) (.int .i64 f.k) (.int .i64 f.p) (.int .i64 f.q) (.string f.s) (.int .i64 f.r) (.slice pl l.length cl) (.string ⟨#[]⟩) (.int .i64 0) (.int .i64 nx) (.slice pk kp.length ck)) = W9 at *
  have d0 : W9.cell? ⟨(w.heap.size + 1), 0, none⟩ = some (.int .i64 3) := hI.cell 0
  have d1 : W9.cell? ⟨(w.heap.size + 1), 1, none⟩ = some (.int .i64 0) := hI.cell 1
  have d2 : W9.cell? ⟨(w.heap.size + 1), 2, none⟩ = some (.int .i64 f.k) := hI.cell 2
  have d3 : W9.cell? ⟨(w.heap.size + 1), 3, none⟩ = some (.int .i64 f.p) := hI.cell 3
  have d4 : W9.cell? ⟨(w.heap.size + 1), 4, none⟩ = some (.int .i64 f.q) := hI.cell 4
  have d5 : W9.cell? ⟨(w.heap.size + 1), 5, none⟩ = some (.string f.s) := hI.cell 5
  have d6 : W9.cell? ⟨(w.heap.size + 1), 6, none⟩ = some (.int .i64 f.r) := hI.cell 6
  have d7 : W9.cell? ⟨(w.heap.size + 1), 7, none⟩ = some (.slice pl l.length cl) := hI.cell 7
  have d8 : W9.cell? ⟨(w.heap.size + 1), 8, none⟩ = some (.string ⟨#[]⟩) := hI.cell 8
  have d9 : W9.cell? ⟨(w.heap.size + 1), 9, none⟩ = some (.int .i64 0) := hI.cell 9
  have d10 : W9.cell? ⟨(w.heap.size + 1), 10, none⟩ = some (.int .i64 nx) := hI.cell 10
  have d11 : W9.cell? ⟨(w.heap.size + 1), 11, none⟩ = some (.slice pk kp.length ck) := hI.cell 11
  refine bodyPost_ret (v := .agg #[.int .i64 3, .int .i64 0, .int .i64 f.k, .int .i64 f.p, .int .i64 f.q, .string f.s, .int .i64 f.r, .slice pl l.length cl, .string ⟨#[]⟩, .int .i64 0, .int .i64 nx, .slice pk kp.length ck]) (by simp [results, Try.results30, go_sem, d0, d1, d2, d3, d4, d5, d6, d7, d8, d9, d10, d11]) rfl ⟨_, rfl, ⟨_, _, rfl, (HR.out.mono (by omega)).ch hS (HR.out.off (by omega)), (HR2.out.mono (by omega)).ch hS (HR2.out.off (by omega))⟩, (HC0.out.trans HC.out).fresh (fun g hg => by simp at hg; omega) hS⟩
set_option maxHeartbeats 4000000 in
theorem rneed_3 (v f : V5) (va : Value) (l : List V5) (af : Int) (s : ByteArray) (nx : Int) (vk : Value) (kp : List V5) (w : World) (h : VA w va l) (hk : VA w vk kp) (n1 : l.length ≤ 1000000) (n2 : kp.length ≤ 1000000) :
    Calls Try.prog 30 #[.agg #[.int .i64 3, .int .i64 v.k, .int .i64 v.p, .int .i64 v.q, .string v.s, .int .i64 v.r, .int .i64 f.k, .int .i64 f.p, .int .i64 f.q, .string f.s, .int .i64 f.r, va, .int .i64 af, .string s], .int .i64 nx, vk] w fun e w' => ∃ v', e = .returned v' ∧ AO w.heap.size v' (errA s) w' ∧ Ch [] w w' := by
  obtain ⟨w0, hw0⟩ : ∃ w0, w0 = ((w.alloc (.cells #[.int .i64 3, .int .i64 v.k, .int .i64 v.p, .int .i64 v.q, .string v.s, .int .i64 v.r, .int .i64 f.k, .int .i64 f.p, .int .i64 f.q, .string f.s, .int .i64 f.r, va, .int .i64 af, .string s] 45)).alloc (.cells #[.int .i64 0, .int .i64 0, .int .i64 0, .int .i64 0, .int .i64 0, .string ⟨#[]⟩, .int .i64 0, .slice none 0 0, .string ⟨#[]⟩, .int .i64 0, .int .i64 0, .slice none 0 0] 31)) := ⟨_, rfl⟩
  have HC0 : Hid (Ch [] w w0) := Lib.hid (by rw [hw0]; exact ((Ch.refl [] w).alloc _).alloc _)
  have HB : Hid (Blk 31 (w.heap.size + 1) #[.int .i64 0, .int .i64 0, .int .i64 0, .int .i64 0, .int .i64 0, .string ⟨#[]⟩, .int .i64 0, .slice none 0 0, .string ⟨#[]⟩, .int .i64 0, .int .i64 0, .slice none 0 0] w0) := Lib.hid (by rw [hw0]; exact Blk.new _ _ _ _ (by simp))
  have HX : Hid (Blk 45 w.heap.size #[.int .i64 3, .int .i64 v.k, .int .i64 v.p, .int .i64 v.q, .string v.s, .int .i64 v.r, .int .i64 f.k, .int .i64 f.p, .int .i64 f.q, .string f.s, .int .i64 f.r, va, .int .i64 af, .string s] w0) := Lib.hid (by rw [hw0]; exact (Blk.new w _ _ _ rfl).ch ((Ch.refl [] _).alloc _) (not_nil _))
  have Q : Hid (Calls Try.prog 17 #[.string s] w0 fun e w' => ∃ vl, e = .returned (.agg #[.int .i64 2, .int .i64 0, .int .i64 0, .int .i64 0, .int .i64 0, .string ⟨#[]⟩, .int .i64 0, vl, .string ⟨#[]⟩, .int .i64 1, .int .i64 0, .slice none 0 0]) ∧ Rw w0.heap.size vl [v5s (cutS s)] w' ∧ Ch [] w0 w') := Lib.hid (rerror_any s w0)
  have HW := Lib.hid hw0
  clear hw0 h hk n1 n2
  go_enter Try.func30, Try.ntmps30
  go_upto_region 1 with fail
  rw [← HW.out]
  have u0 : w0.cell? ⟨w.heap.size, 0, none⟩ = some (.int .i64 3) := HX.out.cell 0
  have u1 : w0.cell? ⟨w.heap.size, 1, none⟩ = some (.int .i64 v.k) := HX.out.cell 1
  have u2 : w0.cell? ⟨w.heap.size, 2, none⟩ = some (.int .i64 v.p) := HX.out.cell 2
  have u3 : w0.cell? ⟨w.heap.size, 3, none⟩ = some (.int .i64 v.q) := HX.out.cell 3
  have u4 : w0.cell? ⟨w.heap.size, 4, none⟩ = some (.string v.s) := HX.out.cell 4
  have u5 : w0.cell? ⟨w.heap.size, 5, none⟩ = some (.int .i64 v.r) := HX.out.cell 5
  have u6 : w0.cell? ⟨w.heap.size, 6, none⟩ = some (.int .i64 f.k) := HX.out.cell 6
  have u7 : w0.cell? ⟨w.heap.size, 7, none⟩ = some (.int .i64 f.p) := HX.out.cell 7
  have u8 : w0.cell? ⟨w.heap.size, 8, none⟩ = some (.int .i64 f.q) := HX.out.cell 8
  have u9 : w0.cell? ⟨w.heap.size, 9, none⟩ = some (.string f.s) := HX.out.cell 9
  have u10 : w0.cell? ⟨w.heap.size, 10, none⟩ = some (.int .i64 f.r) := HX.out.cell 10
  have u11 : w0.cell? ⟨w.heap.size, 11, none⟩ = some (va) := HX.out.cell 11
  have u12 : w0.cell? ⟨w.heap.size, 12, none⟩ = some (.int .i64 af) := HX.out.cell 12
  have u13 : w0.cell? ⟨w.heap.size, 13, none⟩ = some (.string s) := HX.out.cell 13
  have lu := HX.out.lt
  have lR0 := HB.out.lt
  go_wp2_with (go_at_call 17; (with_reducible refine (Q.out).mono ?_); rintro e w1 ⟨vl, rfl, hr, hc⟩; obtain ⟨pl, cl, rfl⟩ := ownB_form hr; have HR := Lib.hid hr; have HC := Lib.hid hc; have KB := Lib.hid (HB.out.ch hc (not_nil _)); clear hr hc; have d0 : w1.cell? ⟨(w.heap.size + 1), 0, none⟩ = some (.int .i64 0) := KB.out.cell 0; have d1 : w1.cell? ⟨(w.heap.size + 1), 1, none⟩ = some (.int .i64 0) := KB.out.cell 1; have d2 : w1.cell? ⟨(w.heap.size + 1), 2, none⟩ = some (.int .i64 0) := KB.out.cell 2; have d3 : w1.cell? ⟨(w.heap.size + 1), 3, none⟩ = some (.int .i64 0) := KB.out.cell 3; have d4 : w1.cell? ⟨(w.heap.size + 1), 4, none⟩ = some (.int .i64 0) := KB.out.cell 4; have d5 : w1.cell? ⟨(w.heap.size + 1), 5, none⟩ = some (.string ⟨#[]⟩) := KB.out.cell 5; have d6 : w1.cell? ⟨(w.heap.size + 1), 6, none⟩ = some (.int .i64 0) := KB.out.cell 6; have d7 : w1.cell? ⟨(w.heap.size + 1), 7, none⟩ = some (.slice none 0 0) := KB.out.cell 7; have d8 : w1.cell? ⟨(w.heap.size + 1), 8, none⟩ = some (.string ⟨#[]⟩) := KB.out.cell 8; have d9 : w1.cell? ⟨(w.heap.size + 1), 9, none⟩ = some (.int .i64 0) := KB.out.cell 9; have d10 : w1.cell? ⟨(w.heap.size + 1), 10, none⟩ = some (.int .i64 0) := KB.out.cell 10; have d11 : w1.cell? ⟨(w.heap.size + 1), 11, none⟩ = some (.slice none 0 0) := KB.out.cell 11; have f0 : w1.frozen? ⟨(w.heap.size + 1), 0, none⟩ = false := KB.out.fz 0; have f1 : w1.frozen? ⟨(w.heap.size + 1), 1, none⟩ = false := KB.out.fz 1; have f2 : w1.frozen? ⟨(w.heap.size + 1), 2, none⟩ = false := KB.out.fz 2; have f3 : w1.frozen? ⟨(w.heap.size + 1), 3, none⟩ = false := KB.out.fz 3; have f4 : w1.frozen? ⟨(w.heap.size + 1), 4, none⟩ = false := KB.out.fz 4; have f5 : w1.frozen? ⟨(w.heap.size + 1), 5, none⟩ = false := KB.out.fz 5; have f6 : w1.frozen? ⟨(w.heap.size + 1), 6, none⟩ = false := KB.out.fz 6; have f7 : w1.frozen? ⟨(w.heap.size + 1), 7, none⟩ = false := KB.out.fz 7; have f8 : w1.frozen? ⟨(w.heap.size + 1), 8, none⟩ = false := KB.out.fz 8; have f9 : w1.frozen? ⟨(w.heap.size + 1), 9, none⟩ = false := KB.out.fz 9; have f10 : w1.frozen? ⟨(w.heap.size + 1), 10, none⟩ = false := KB.out.fz 10; have f11 : w1.frozen? ⟨(w.heap.size + 1), 11, none⟩ = false := KB.out.fz 11; have lR := KB.out.lt)
  clear d0 f0 d1 f1 d2 f2 d3 f3 d4 f4 d5 f5 d6 f6 d7 f7 d8 f8 d9 f9 d10 f10 d11 f11
  show bodyPost _ _ _ Exit.ret _ (st12 w1 (w.heap.size + 1) (.int .i64 2) (.int .i64 0) (.int .i64 0) (.int .i64 0) (.int .i64 0) (.string ⟨#[]⟩) (.int .i64 0) (.slice pl [v5s (cutS s)].length cl) (.string ⟨#[]⟩) (.int .i64 1) (.int .i64 0) (.slice none 0 0))
  have hI : Blk 31 (w.heap.size + 1) #[.int .i64 2, .int .i64 0, .int .i64 0, .int .i64 0, .int .i64 0, .string ⟨#[]⟩, .int .i64 0, .slice pl [v5s (cutS s)].length cl, .string ⟨#[]⟩, .int .i64 1, .int .i64 0, .slice none 0 0] (st12 w1 (w.heap.size + 1) (.int .i64 2) (.int .i64 0) (.int .i64 0) (.int .i64 0) (.int .i64 0) (.string ⟨#[]⟩) (.int .i64 0) (.slice pl [v5s (cutS s)].length cl) (.string ⟨#[]⟩) (.int .i64 1) (.int .i64 0) (.slice none 0 0)) := st12_blk KB.out
  have hS : Ch [(w.heap.size + 1)] w1 (st12 w1 (w.heap.size + 1) (.int .i64 2) (.int .i64 0) (.int .i64 0) (.int .i64 0) (.int .i64 0) (.string ⟨#[]⟩) (.int .i64 0) (.slice pl [v5s (cutS s)].length cl) (.string ⟨#[]⟩) (.int .i64 1) (.int .i64 0) (.slice none 0 0)) := st12_ch (Ch.refl [(w.heap.size + 1)] w1) (.inl (by simp))
  generalize (st12 w1 (w.heap.size + 1) (.int .i64 2) (.int .i64 0) (.int .i64 0) (.int .i64 0) (.int .i64 0) (.string ⟨#[]⟩) (.int .i64 0) (.slice pl [v5s (cutS s)].length cl) (.string ⟨#[]⟩) (.int .i64 1) (.int .i64 0) (.slice none 0 0)) = W9 at *
  have d0 : W9.cell? ⟨(w.heap.size + 1), 0, none⟩ = some (.int .i64 2) := hI.cell 0
  have d1 : W9.cell? ⟨(w.heap.size + 1), 1, none⟩ = some (.int .i64 0) := hI.cell 1
  have d2 : W9.cell? ⟨(w.heap.size + 1), 2, none⟩ = some (.int .i64 0) := hI.cell 2
  have d3 : W9.cell? ⟨(w.heap.size + 1), 3, none⟩ = some (.int .i64 0) := hI.cell 3
  have d4 : W9.cell? ⟨(w.heap.size + 1), 4, none⟩ = some (.int .i64 0) := hI.cell 4
  have d5 : W9.cell? ⟨(w.heap.size + 1), 5, none⟩ = some (.string ⟨#[]⟩) := hI.cell 5
  have d6 : W9.cell? ⟨(w.heap.size + 1), 6, none⟩ = some (.int .i64 0) := hI.cell 6
  have d7 : W9.cell? ⟨(w.heap.size + 1), 7, none⟩ = some (.slice pl [v5s (cutS s)].length cl) := hI.cell 7
  have d8 : W9.cell? ⟨(w.heap.size + 1), 8, none⟩ = some (.string ⟨#[]⟩) := hI.cell 8
  have d9 : W9.cell? ⟨(w.heap.size + 1), 9, none⟩ = some (.int .i64 1) := hI.cell 9
  have d10 : W9.cell? ⟨(w.heap.size + 1), 10, none⟩ = some (.int .i64 0) := hI.cell 10
  have d11 : W9.cell? ⟨(w.heap.size + 1), 11, none⟩ = some (.slice none 0 0) := hI.cell 11
  refine bodyPost_ret (v := .agg #[.int .i64 2, .int .i64 0, .int .i64 0, .int .i64 0, .int .i64 0, .string ⟨#[]⟩, .int .i64 0, .slice pl [v5s (cutS s)].length cl, .string ⟨#[]⟩, .int .i64 1, .int .i64 0, .slice none 0 0]) (by simp [results, Try.results30, go_sem, d0, d1, d2, d3, d4, d5, d6, d7, d8, d9, d10, d11]) rfl ⟨_, rfl, ⟨_, _, rfl, (HR.out.mono (by omega)).ch hS (HR.out.off (by omega)), Rw.nil _ _⟩, (HC0.out.trans HC.out).fresh (fun g hg => by simp at hg; omega) hS⟩
set_option maxHeartbeats 4000000 in
theorem rneed_0 (k : Int) (v f : V5) (va : Value) (l : List V5) (af : Int) (s : ByteArray) (nx : Int) (vk : Value) (kp : List V5) (w : World) (h : VA w va l) (hk : VA w vk kp) (n1 : l.length ≤ 1000000) (n2 : kp.length ≤ 1000000) (h1' : ¬ k = 1) (h2' : ¬ k = 2) (h3' : ¬ k = 3) :
    Calls Try.prog 30 #[.agg #[.int .i64 k, .int .i64 v.k, .int .i64 v.p, .int .i64 v.q, .string v.s, .int .i64 v.r, .int .i64 f.k, .int .i64 f.p, .int .i64 f.q, .string f.s, .int .i64 f.r, va, .int .i64 af, .string s], .int .i64 nx, vk] w fun e w' => ∃ v', e = .returned v' ∧ AO w.heap.size v' (retA []) w' ∧ Ch [] w w' := by
  obtain ⟨w0, hw0⟩ : ∃ w0, w0 = ((w.alloc (.cells #[.int .i64 k, .int .i64 v.k, .int .i64 v.p, .int .i64 v.q, .string v.s, .int .i64 v.r, .int .i64 f.k, .int .i64 f.p, .int .i64 f.q, .string f.s, .int .i64 f.r, va, .int .i64 af, .string s] 45)).alloc (.cells #[.int .i64 0, .int .i64 0, .int .i64 0, .int .i64 0, .int .i64 0, .string ⟨#[]⟩, .int .i64 0, .slice none 0 0, .string ⟨#[]⟩, .int .i64 0, .int .i64 0, .slice none 0 0] 31)) := ⟨_, rfl⟩
  have HC0 : Hid (Ch [] w w0) := Lib.hid (by rw [hw0]; exact ((Ch.refl [] w).alloc _).alloc _)
  have HB : Hid (Blk 31 (w.heap.size + 1) #[.int .i64 0, .int .i64 0, .int .i64 0, .int .i64 0, .int .i64 0, .string ⟨#[]⟩, .int .i64 0, .slice none 0 0, .string ⟨#[]⟩, .int .i64 0, .int .i64 0, .slice none 0 0] w0) := Lib.hid (by rw [hw0]; exact Blk.new _ _ _ _ (by simp))
  have HX : Hid (Blk 45 w.heap.size #[.int .i64 k, .int .i64 v.k, .int .i64 v.p, .int .i64 v.q, .string v.s, .int .i64 v.r, .int .i64 f.k, .int .i64 f.p, .int .i64 f.q, .string f.s, .int .i64 f.r, va, .int .i64 af, .string s] w0) := Lib.hid (by rw [hw0]; exact (Blk.new w _ _ _ rfl).ch ((Ch.refl [] _).alloc _) (not_nil _))
  have b1 : (k == 1) = false := by rw [beq_eq_false_iff_ne]; exact h1'
  have b2 : (k == 2) = false := by rw [beq_eq_false_iff_ne]; exact h2'
  have b3 : (k == 3) = false := by rw [beq_eq_false_iff_ne]; exact h3'
  have Q : Hid (Calls Try.prog 13 #[.slice none 0 0] w0 fun e w' => ∃ vl, e = .returned (.agg #[.int .i64 1, .int .i64 0, .int .i64 0, .int .i64 0, .int .i64 0, .string ⟨#[]⟩, .int .i64 0, vl, .string ⟨#[]⟩, .int .i64 0, .int .i64 0, .slice none 0 0]) ∧ Rw w0.heap.size vl [] w' ∧ Ch [] w0 w') := Lib.hid (rreturn_any _ [] w0 (VA.nil w0) (by simp))
  have HW := Lib.hid hw0
  clear hw0 h hk n1 n2
  go_enter Try.func30, Try.ntmps30
  go_upto_region 1 with fail
  rw [← HW.out]
  have u0 : w0.cell? ⟨w.heap.size, 0, none⟩ = some (.int .i64 k) := HX.out.cell 0
  have u1 : w0.cell? ⟨w.heap.size, 1, none⟩ = some (.int .i64 v.k) := HX.out.cell 1
  have u2 : w0.cell? ⟨w.heap.size, 2, none⟩ = some (.int .i64 v.p) := HX.out.cell 2
  have u3 : w0.cell? ⟨w.heap.size, 3, none⟩ = some (.int .i64 v.q) := HX.out.cell 3
  have u4 : w0.cell? ⟨w.heap.size, 4, none⟩ = some (.string v.s) := HX.out.cell 4
  have u5 : w0.cell? ⟨w.heap.size, 5, none⟩ = some (.int .i64 v.r) := HX.out.cell 5
  have u6 : w0.cell? ⟨w.heap.size, 6, none⟩ = some (.int .i64 f.k) := HX.out.cell 6
  have u7 : w0.cell? ⟨w.heap.size, 7, none⟩ = some (.int .i64 f.p) := HX.out.cell 7
  have u8 : w0.cell? ⟨w.heap.size, 8, none⟩ = some (.int .i64 f.q) := HX.out.cell 8
  have u9 : w0.cell? ⟨w.heap.size, 9, none⟩ = some (.string f.s) := HX.out.cell 9
  have u10 : w0.cell? ⟨w.heap.size, 10, none⟩ = some (.int .i64 f.r) := HX.out.cell 10
  have u11 : w0.cell? ⟨w.heap.size, 11, none⟩ = some (va) := HX.out.cell 11
  have u12 : w0.cell? ⟨w.heap.size, 12, none⟩ = some (.int .i64 af) := HX.out.cell 12
  have u13 : w0.cell? ⟨w.heap.size, 13, none⟩ = some (.string s) := HX.out.cell 13
  have lu := HX.out.lt
  have lR0 := HB.out.lt
  go_wp2_with (go_at_call 13; (with_reducible refine (Q.out).mono ?_); rintro e w1 ⟨vl, rfl, hr, hc⟩; obtain ⟨pl, cl, rfl⟩ := ownB_form hr; have HR := Lib.hid hr; have HC := Lib.hid hc; have KB := Lib.hid (HB.out.ch hc (not_nil _)); clear hr hc; have d0 : w1.cell? ⟨(w.heap.size + 1), 0, none⟩ = some (.int .i64 0) := KB.out.cell 0; have d1 : w1.cell? ⟨(w.heap.size + 1), 1, none⟩ = some (.int .i64 0) := KB.out.cell 1; have d2 : w1.cell? ⟨(w.heap.size + 1), 2, none⟩ = some (.int .i64 0) := KB.out.cell 2; have d3 : w1.cell? ⟨(w.heap.size + 1), 3, none⟩ = some (.int .i64 0) := KB.out.cell 3; have d4 : w1.cell? ⟨(w.heap.size + 1), 4, none⟩ = some (.int .i64 0) := KB.out.cell 4; have d5 : w1.cell? ⟨(w.heap.size + 1), 5, none⟩ = some (.string ⟨#[]⟩) := KB.out.cell 5; have d6 : w1.cell? ⟨(w.heap.size + 1), 6, none⟩ = some (.int .i64 0) := KB.out.cell 6; have d7 : w1.cell? ⟨(w.heap.size + 1), 7, none⟩ = some (.slice none 0 0) := KB.out.cell 7; have d8 : w1.cell? ⟨(w.heap.size + 1), 8, none⟩ = some (.string ⟨#[]⟩) := KB.out.cell 8; have d9 : w1.cell? ⟨(w.heap.size + 1), 9, none⟩ = some (.int .i64 0) := KB.out.cell 9; have d10 : w1.cell? ⟨(w.heap.size + 1), 10, none⟩ = some (.int .i64 0) := KB.out.cell 10; have d11 : w1.cell? ⟨(w.heap.size + 1), 11, none⟩ = some (.slice none 0 0) := KB.out.cell 11; have f0 : w1.frozen? ⟨(w.heap.size + 1), 0, none⟩ = false := KB.out.fz 0; have f1 : w1.frozen? ⟨(w.heap.size + 1), 1, none⟩ = false := KB.out.fz 1; have f2 : w1.frozen? ⟨(w.heap.size + 1), 2, none⟩ = false := KB.out.fz 2; have f3 : w1.frozen? ⟨(w.heap.size + 1), 3, none⟩ = false := KB.out.fz 3; have f4 : w1.frozen? ⟨(w.heap.size + 1), 4, none⟩ = false := KB.out.fz 4; have f5 : w1.frozen? ⟨(w.heap.size + 1), 5, none⟩ = false := KB.out.fz 5; have f6 : w1.frozen? ⟨(w.heap.size + 1), 6, none⟩ = false := KB.out.fz 6; have f7 : w1.frozen? ⟨(w.heap.size + 1), 7, none⟩ = false := KB.out.fz 7; have f8 : w1.frozen? ⟨(w.heap.size + 1), 8, none⟩ = false := KB.out.fz 8; have f9 : w1.frozen? ⟨(w.heap.size + 1), 9, none⟩ = false := KB.out.fz 9; have f10 : w1.frozen? ⟨(w.heap.size + 1), 10, none⟩ = false := KB.out.fz 10; have f11 : w1.frozen? ⟨(w.heap.size + 1), 11, none⟩ = false := KB.out.fz 11; have lR := KB.out.lt)
  clear d0 f0 d1 f1 d2 f2 d3 f3 d4 f4 d5 f5 d6 f6 d7 f7 d8 f8 d9 f9 d10 f10 d11 f11
  show bodyPost _ _ _ Exit.ret _ (st12 w1 (w.heap.size + 1) (.int .i64 1) (.int .i64 0) (.int .i64 0) (.int .i64 0) (.int .i64 0) (.string ⟨#[]⟩) (.int .i64 0) (.slice pl ([] : List V5).length cl) (.string ⟨#[]⟩) (.int .i64 0) (.int .i64 0) (.slice none 0 0))
  have hI : Blk 31 (w.heap.size + 1) #[.int .i64 1, .int .i64 0, .int .i64 0, .int .i64 0, .int .i64 0, .string ⟨#[]⟩, .int .i64 0, .slice pl ([] : List V5).length cl, .string ⟨#[]⟩, .int .i64 0, .int .i64 0, .slice none 0 0] (st12 w1 (w.heap.size + 1) (.int .i64 1) (.int .i64 0) (.int .i64 0) (.int .i64 0) (.int .i64 0) (.string ⟨#[]⟩) (.int .i64 0) (.slice pl ([] : List V5).length cl) (.string ⟨#[]⟩) (.int .i64 0) (.int .i64 0) (.slice none 0 0)) := st12_blk KB.out
  have hS : Ch [(w.heap.size + 1)] w1 (st12 w1 (w.heap.size + 1) (.int .i64 1) (.int .i64 0) (.int .i64 0) (.int .i64 0) (.int .i64 0) (.string ⟨#[]⟩) (.int .i64 0) (.slice pl ([] : List V5).length cl) (.string ⟨#[]⟩) (.int .i64 0) (.int .i64 0) (.slice none 0 0)) := st12_ch (Ch.refl [(w.heap.size + 1)] w1) (.inl (by simp))
  generalize (st12 w1 (w.heap.size + 1) (.int .i64 1) (.int .i64 0) (.int .i64 0) (.int .i64 0) (.int .i64 0) (.string ⟨#[]⟩) (.int .i64 0) (.slice pl ([] : List V5).length cl) (.string ⟨#[]⟩) (.int .i64 0) (.int .i64 0) (.slice none 0 0)) = W9 at *
  have d0 : W9.cell? ⟨(w.heap.size + 1), 0, none⟩ = some (.int .i64 1) := hI.cell 0
  have d1 : W9.cell? ⟨(w.heap.size + 1), 1, none⟩ = some (.int .i64 0) := hI.cell 1
  have d2 : W9.cell? ⟨(w.heap.size + 1), 2, none⟩ = some (.int .i64 0) := hI.cell 2
  have d3 : W9.cell? ⟨(w.heap.size + 1), 3, none⟩ = some (.int .i64 0) := hI.cell 3
  have d4 : W9.cell? ⟨(w.heap.size + 1), 4, none⟩ = some (.int .i64 0) := hI.cell 4
  have d5 : W9.cell? ⟨(w.heap.size + 1), 5, none⟩ = some (.string ⟨#[]⟩) := hI.cell 5
  have d6 : W9.cell? ⟨(w.heap.size + 1), 6, none⟩ = some (.int .i64 0) := hI.cell 6
  have d7 : W9.cell? ⟨(w.heap.size + 1), 7, none⟩ = some (.slice pl ([] : List V5).length cl) := hI.cell 7
  have d8 : W9.cell? ⟨(w.heap.size + 1), 8, none⟩ = some (.string ⟨#[]⟩) := hI.cell 8
  have d9 : W9.cell? ⟨(w.heap.size + 1), 9, none⟩ = some (.int .i64 0) := hI.cell 9
  have d10 : W9.cell? ⟨(w.heap.size + 1), 10, none⟩ = some (.int .i64 0) := hI.cell 10
  have d11 : W9.cell? ⟨(w.heap.size + 1), 11, none⟩ = some (.slice none 0 0) := hI.cell 11
  refine bodyPost_ret (v := .agg #[.int .i64 1, .int .i64 0, .int .i64 0, .int .i64 0, .int .i64 0, .string ⟨#[]⟩, .int .i64 0, .slice pl ([] : List V5).length cl, .string ⟨#[]⟩, .int .i64 0, .int .i64 0, .slice none 0 0]) (by simp [results, Try.results30, go_sem, d0, d1, d2, d3, d4, d5, d6, d7, d8, d9, d10, d11]) rfl ⟨_, rfl, ⟨_, _, rfl, (HR.out.mono (by omega)).ch hS (HR.out.off (by omega)), Rw.nil _ _⟩, (HC0.out.trans HC.out).fresh (fun g hg => by simp at hg; omega) hS⟩
theorem rneed_any (n : Nd) (va : Value) (nx : Int) (vk : Value) (kp : List V5) (w : World) (h : VA w va n.l) (hk : VA w vk kp) (n1 : n.l.length ≤ 1000000) (n2 : kp.length ≤ 1000000) :
    Calls Try.prog 30 #[.agg #[.int .i64 n.k, .int .i64 n.v.k, .int .i64 n.v.p, .int .i64 n.v.q, .string n.v.s, .int .i64 n.v.r, .int .i64 n.f.k, .int .i64 n.f.p, .int .i64 n.f.q, .string n.f.s, .int .i64 n.f.r, va, .int .i64 n.af, .string n.s], .int .i64 nx, vk] w fun e w' => ∃ v', e = .returned v' ∧ AO w.heap.size v' (needA n nx kp) w' ∧ Ch [] w w' := by
  obtain ⟨k, v, f, l, af, s⟩ := n
  unfold needA
  by_cases e1 : k = 1
  · subst e1
    exact rneed_1 v f va l af s nx vk kp w h hk n1 n2
  rw [if_neg e1]
  by_cases e2 : k = 2
  · subst e2
    exact rneed_2 v f va l af s nx vk kp w h hk n1 n2
  rw [if_neg e2]
  by_cases e3 : k = 3
  · subst e3
    exact rneed_3 v f va l af s nx vk kp w h hk n1 n2
  rw [if_neg e3]
  exact rneed_0 k v f va l af s nx vk kp w h hk n1 n2 e1 e2 e3
end Go.Proofs.Ytdgdpckjcpgoaaa
