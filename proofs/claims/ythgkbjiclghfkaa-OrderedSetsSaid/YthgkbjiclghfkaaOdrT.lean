/- Layer 12: the reference's Get. -/
import Derived.Test.YthgkbjiclghfkaaOdrS
namespace Go.Proofs.Ythgkbjiclghfkaa
open Go.RowKit Go.Joins M1
set_option linter.unusedVariables false
set_option maxHeartbeats 2000000 in
theorem rget_none (B b : Nat) (v : Value) (R : List Rs) (k : V5)  (w : World) (h : RM B b v R w) (hL : R.length ≤ 1000000) (QE : Hid (Calls Try.prog 35 #[.pointer (some ⟨b, 0, none⟩), .agg #[.int .i64 k.k, .int .i64 k.p, .int .i64 k.q, .string k.s, .int .i64 k.r]] ((w.alloc (.cells #[.int .i64 k.k, .int .i64 k.p, .int .i64 k.q, .string k.s, .int .i64 k.r] 31)).alloc (.cells #[.int .i64 0, .int .i64 0, .int .i64 0, .string ⟨#[]⟩, .int .i64 0] 31)) fun e w' => e = .returned (.int .i64 (-1)) ∧ Below ((w.alloc (.cells #[.int .i64 k.k, .int .i64 k.p, .int .i64 k.q, .string k.s, .int .i64 k.r] 31)).alloc (.cells #[.int .i64 0, .int .i64 0, .int .i64 0, .string ⟨#[]⟩, .int .i64 0] 31)).heap.size ((w.alloc (.cells #[.int .i64 k.k, .int .i64 k.p, .int .i64 k.q, .string k.s, .int .i64 k.r] 31)).alloc (.cells #[.int .i64 0, .int .i64 0, .int .i64 0, .string ⟨#[]⟩, .int .i64 0] 31)) w')) :
    Calls Try.prog 26 #[.pointer (some ⟨b, 0, none⟩), .agg #[.int .i64 k.k, .int .i64 k.p, .int .i64 k.q, .string k.s, .int .i64 k.r]] w fun e w' => e = .returned (.agg #[.int .i64 0, .int .i64 0, .int .i64 0, .string ⟨#[]⟩, .int .i64 0]) ∧ Below w.heap.size w w' := by
  obtain ⟨i0, hi0, jz0, jz1, jz2⟩ := info_parts info_rs
  obtain ⟨p, cap, rfl, hp⟩ := h.form
  have HB0 : Hid (Below w.heap.size w ((w.alloc (.cells #[.int .i64 k.k, .int .i64 k.p, .int .i64 k.q, .string k.s, .int .i64 k.r] 31)).alloc (.cells #[.int .i64 0, .int .i64 0, .int .i64 0, .string ⟨#[]⟩, .int .i64 0] 31))) := Lib.hid (((Below.refl _ _).alloc (Nat.le_refl _) _).alloc (by simp) _)
  have HO := Lib.hid (h.ch (((Ch.refl [] w).alloc (.cells #[.int .i64 k.k, .int .i64 k.p, .int .i64 k.q, .string k.s, .int .i64 k.r] 31)).alloc (.cells #[.int .i64 0, .int .i64 0, .int .i64 0, .string ⟨#[]⟩, .int .i64 0] 31)) (by simp))
  have HL := Lib.hid hL
  clear h hp hL
  go_enter Try.func26, Try.ntmps26
  go_wp2_with (go_at_call 35; (with_reducible refine (QE.out).mono ?_); rintro e w1 ⟨rfl, hb1⟩; have KB := Lib.hid (Blk.below (T := 31) (b := w.heap.size + 1) (cs := #[.int .i64 0, .int .i64 0, .int .i64 0, .string ⟨#[]⟩, .int .i64 0]) (Blk.new _ _ _ _ (by simp)) hb1); have HBW := Lib.hid (HB0.out.trans (hb1.mono HB0.out.size)); have HO1 := Lib.hid (HO.out.below hb1); have hz1 := hb1.size; (try simp at hz1); have kf0 := KB.out.fz 0; have kf1 := KB.out.fz 1; have kf2 := KB.out.fz 2; have kf3 := KB.out.fz 3; have kf4 := KB.out.fz 4; have d1_0 : w1.cell? ⟨w.heap.size + 1, 0, none⟩ = some (.int .i64 0) := (KB.out.cell 0); have d1_1 : w1.cell? ⟨w.heap.size + 1, 1, none⟩ = some (.int .i64 0) := (KB.out.cell 1); have d1_2 : w1.cell? ⟨w.heap.size + 1, 2, none⟩ = some (.int .i64 0) := (KB.out.cell 2); have d1_3 : w1.cell? ⟨w.heap.size + 1, 3, none⟩ = some (.string ⟨#[]⟩) := (KB.out.cell 3); have d1_4 : w1.cell? ⟨w.heap.size + 1, 4, none⟩ = some (.int .i64 0) := (KB.out.cell 4); have c0 : w1.cell? ⟨b, 0, none⟩ = some (.slice p R.length cap) := HO1.out.blk.cell 0; have hbl := HO1.out.blk.lt)
  show bodyPost _ _ _ Exit.ret _ (st5 w1 (w.heap.size + 1) (.int .i64 0) (.int .i64 0) (.int .i64 0) (.string ⟨#[]⟩) (.int .i64 0))
  have hI := st5_blk (a0 := .int .i64 0) (a1 := .int .i64 0) (a2 := .int .i64 0) (a3 := .string ⟨#[]⟩) (a4 := .int .i64 0) KB.out
  have hS := st5_bel (a0 := .int .i64 0) (a1 := .int .i64 0) (a2 := .int .i64 0) (a3 := .string ⟨#[]⟩) (a4 := .int .i64 0) (R := w.heap.size + 1) HBW.out (by omega)
  have d0 := hI.cell 0
  have d1 := hI.cell 1
  have d2 := hI.cell 2
  have d3 := hI.cell 3
  have d4 := hI.cell 4
  simp at d0 d1 d2 d3 d4
  generalize (st5 w1 (w.heap.size + 1) (.int .i64 0) (.int .i64 0) (.int .i64 0) (.string ⟨#[]⟩) (.int .i64 0)) = W9 at *
  refine bodyPost_ret (v := .agg #[.int .i64 0, .int .i64 0, .int .i64 0, .string ⟨#[]⟩, .int .i64 0]) (by simp [results, Try.results26, go_sem, d0, d1, d2, d3, d4]) rfl ⟨rfl, hS⟩
set_option maxHeartbeats 2000000 in
theorem rget_gone (B b : Nat) (v : Value) (R : List Rs) (k : V5) (i : Nat) (hi : i < R.length) (hgn : R[i].gone = true) (w : World) (h : RM B b v R w) (hL : R.length ≤ 1000000) (QE : Hid (Calls Try.prog 35 #[.pointer (some ⟨b, 0, none⟩), .agg #[.int .i64 k.k, .int .i64 k.p, .int .i64 k.q, .string k.s, .int .i64 k.r]] ((w.alloc (.cells #[.int .i64 k.k, .int .i64 k.p, .int .i64 k.q, .string k.s, .int .i64 k.r] 31)).alloc (.cells #[.int .i64 0, .int .i64 0, .int .i64 0, .string ⟨#[]⟩, .int .i64 0] 31)) fun e w' => e = .returned (.int .i64 ((i : Int))) ∧ Below ((w.alloc (.cells #[.int .i64 k.k, .int .i64 k.p, .int .i64 k.q, .string k.s, .int .i64 k.r] 31)).alloc (.cells #[.int .i64 0, .int .i64 0, .int .i64 0, .string ⟨#[]⟩, .int .i64 0] 31)).heap.size ((w.alloc (.cells #[.int .i64 k.k, .int .i64 k.p, .int .i64 k.q, .string k.s, .int .i64 k.r] 31)).alloc (.cells #[.int .i64 0, .int .i64 0, .int .i64 0, .string ⟨#[]⟩, .int .i64 0] 31)) w')) :
    Calls Try.prog 26 #[.pointer (some ⟨b, 0, none⟩), .agg #[.int .i64 k.k, .int .i64 k.p, .int .i64 k.q, .string k.s, .int .i64 k.r]] w fun e w' => e = .returned (.agg #[.int .i64 0, .int .i64 0, .int .i64 0, .string ⟨#[]⟩, .int .i64 0]) ∧ Below w.heap.size w w' := by
  obtain ⟨i0, hi0, jz0, jz1, jz2⟩ := info_parts info_rs
  obtain ⟨p, cap, rfl, hp⟩ := h.form
  obtain ⟨g, rfl⟩ := hp (by omega)
  have hi2 : (i : Int) < (R.length : Int) := by omega
  have hi4 : (0 : Int) ≤ (i : Int) := by omega
  have HB0 : Hid (Below w.heap.size w ((w.alloc (.cells #[.int .i64 k.k, .int .i64 k.p, .int .i64 k.q, .string k.s, .int .i64 k.r] 31)).alloc (.cells #[.int .i64 0, .int .i64 0, .int .i64 0, .string ⟨#[]⟩, .int .i64 0] 31))) := Lib.hid (((Below.refl _ _).alloc (Nat.le_refl _) _).alloc (by simp) _)
  have HO := Lib.hid (h.ch (((Ch.refl [] w).alloc (.cells #[.int .i64 k.k, .int .i64 k.p, .int .i64 k.q, .string k.s, .int .i64 k.r] 31)).alloc (.cells #[.int .i64 0, .int .i64 0, .int .i64 0, .string ⟨#[]⟩, .int .i64 0] 31)) (by simp))
  have HL := Lib.hid hL
  clear h hp hL
  go_enter Try.func26, Try.ntmps26
  go_wp2_with (go_at_call 35; (with_reducible refine (QE.out).mono ?_); rintro e w1 ⟨rfl, hb1⟩; have KB := Lib.hid (Blk.below (T := 31) (b := w.heap.size + 1) (cs := #[.int .i64 0, .int .i64 0, .int .i64 0, .string ⟨#[]⟩, .int .i64 0]) (Blk.new _ _ _ _ (by simp)) hb1); have HBW := Lib.hid (HB0.out.trans (hb1.mono HB0.out.size)); have HO1 := Lib.hid (HO.out.below hb1); have hz1 := hb1.size; (try simp at hz1); have kf0 := KB.out.fz 0; have kf1 := KB.out.fz 1; have kf2 := KB.out.fz 2; have kf3 := KB.out.fz 3; have kf4 := KB.out.fz 4; have d1_0 : w1.cell? ⟨w.heap.size + 1, 0, none⟩ = some (.int .i64 0) := (KB.out.cell 0); have d1_1 : w1.cell? ⟨w.heap.size + 1, 1, none⟩ = some (.int .i64 0) := (KB.out.cell 1); have d1_2 : w1.cell? ⟨w.heap.size + 1, 2, none⟩ = some (.int .i64 0) := (KB.out.cell 2); have d1_3 : w1.cell? ⟨w.heap.size + 1, 3, none⟩ = some (.string ⟨#[]⟩) := (KB.out.cell 3); have d1_4 : w1.cell? ⟨w.heap.size + 1, 4, none⟩ = some (.int .i64 0) := (KB.out.cell 4); have c0 : w1.cell? ⟨b, 0, none⟩ = some (.slice (some ⟨g, 0, none⟩) R.length cap) := HO1.out.blk.cell 0; have hbl := HO1.out.blk.lt; have hgl : g < w1.heap.size := (HO1.out.lt g (by simp [rmS, Go.Proofs.Ythgkbjiclghfkaa.ob, Value.ownBlock])).2; have s10 : w1.cell? ⟨g, i * 11 + 10, none⟩ = some (.bool true) := (HO1.out.cellAt i 10 hi (by omega)).trans (show some (Value.bool R[i].gone) = some (Value.bool true) from congrArg (fun x => some (Value.bool x)) hgn))
  show bodyPost _ _ _ Exit.ret _ (st5 w1 (w.heap.size + 1) (.int .i64 0) (.int .i64 0) (.int .i64 0) (.string ⟨#[]⟩) (.int .i64 0))
  have hI := st5_blk (a0 := .int .i64 0) (a1 := .int .i64 0) (a2 := .int .i64 0) (a3 := .string ⟨#[]⟩) (a4 := .int .i64 0) KB.out
  have hS := st5_bel (a0 := .int .i64 0) (a1 := .int .i64 0) (a2 := .int .i64 0) (a3 := .string ⟨#[]⟩) (a4 := .int .i64 0) (R := w.heap.size + 1) HBW.out (by omega)
  have d0 := hI.cell 0
  have d1 := hI.cell 1
  have d2 := hI.cell 2
  have d3 := hI.cell 3
  have d4 := hI.cell 4
  simp at d0 d1 d2 d3 d4
  generalize (st5 w1 (w.heap.size + 1) (.int .i64 0) (.int .i64 0) (.int .i64 0) (.string ⟨#[]⟩) (.int .i64 0)) = W9 at *
  refine bodyPost_ret (v := .agg #[.int .i64 0, .int .i64 0, .int .i64 0, .string ⟨#[]⟩, .int .i64 0]) (by simp [results, Try.results26, go_sem, d0, d1, d2, d3, d4]) rfl ⟨rfl, hS⟩
set_option maxHeartbeats 2000000 in
theorem rget_live (B b : Nat) (v : Value) (R : List Rs) (k : V5) (i : Nat) (hi : i < R.length) (hgn : R[i].gone = false) (w : World) (h : RM B b v R w) (hL : R.length ≤ 1000000) (QE : Hid (Calls Try.prog 35 #[.pointer (some ⟨b, 0, none⟩), .agg #[.int .i64 k.k, .int .i64 k.p, .int .i64 k.q, .string k.s, .int .i64 k.r]] ((w.alloc (.cells #[.int .i64 k.k, .int .i64 k.p, .int .i64 k.q, .string k.s, .int .i64 k.r] 31)).alloc (.cells #[.int .i64 0, .int .i64 0, .int .i64 0, .string ⟨#[]⟩, .int .i64 0] 31)) fun e w' => e = .returned (.int .i64 ((i : Int))) ∧ Below ((w.alloc (.cells #[.int .i64 k.k, .int .i64 k.p, .int .i64 k.q, .string k.s, .int .i64 k.r] 31)).alloc (.cells #[.int .i64 0, .int .i64 0, .int .i64 0, .string ⟨#[]⟩, .int .i64 0] 31)).heap.size ((w.alloc (.cells #[.int .i64 k.k, .int .i64 k.p, .int .i64 k.q, .string k.s, .int .i64 k.r] 31)).alloc (.cells #[.int .i64 0, .int .i64 0, .int .i64 0, .string ⟨#[]⟩, .int .i64 0] 31)) w')) :
    Calls Try.prog 26 #[.pointer (some ⟨b, 0, none⟩), .agg #[.int .i64 k.k, .int .i64 k.p, .int .i64 k.q, .string k.s, .int .i64 k.r]] w fun e w' => e = .returned (.agg #[.int .i64 R[i].val.k, .int .i64 R[i].val.p, .int .i64 R[i].val.q, .string R[i].val.s, .int .i64 R[i].val.r]) ∧ Below w.heap.size w w' := by
  obtain ⟨i0, hi0, jz0, jz1, jz2⟩ := info_parts info_rs
  obtain ⟨p, cap, rfl, hp⟩ := h.form
  obtain ⟨g, rfl⟩ := hp (by omega)
  have hi2 : (i : Int) < (R.length : Int) := by omega
  have hi4 : (0 : Int) ≤ (i : Int) := by omega
  have HB0 : Hid (Below w.heap.size w ((w.alloc (.cells #[.int .i64 k.k, .int .i64 k.p, .int .i64 k.q, .string k.s, .int .i64 k.r] 31)).alloc (.cells #[.int .i64 0, .int .i64 0, .int .i64 0, .string ⟨#[]⟩, .int .i64 0] 31))) := Lib.hid (((Below.refl _ _).alloc (Nat.le_refl _) _).alloc (by simp) _)
  have HO := Lib.hid (h.ch (((Ch.refl [] w).alloc (.cells #[.int .i64 k.k, .int .i64 k.p, .int .i64 k.q, .string k.s, .int .i64 k.r] 31)).alloc (.cells #[.int .i64 0, .int .i64 0, .int .i64 0, .string ⟨#[]⟩, .int .i64 0] 31)) (by simp))
  have HL := Lib.hid hL
  clear h hp hL
  go_enter Try.func26, Try.ntmps26
  go_wp2_with (go_at_call 35; (with_reducible refine (QE.out).mono ?_); rintro e w1 ⟨rfl, hb1⟩; have KB := Lib.hid (Blk.below (T := 31) (b := w.heap.size + 1) (cs := #[.int .i64 0, .int .i64 0, .int .i64 0, .string ⟨#[]⟩, .int .i64 0]) (Blk.new _ _ _ _ (by simp)) hb1); have HBW := Lib.hid (HB0.out.trans (hb1.mono HB0.out.size)); have HO1 := Lib.hid (HO.out.below hb1); have hz1 := hb1.size; (try simp at hz1); have kf0 := KB.out.fz 0; have kf1 := KB.out.fz 1; have kf2 := KB.out.fz 2; have kf3 := KB.out.fz 3; have kf4 := KB.out.fz 4; have d1_0 : w1.cell? ⟨w.heap.size + 1, 0, none⟩ = some (.int .i64 0) := (KB.out.cell 0); have d1_1 : w1.cell? ⟨w.heap.size + 1, 1, none⟩ = some (.int .i64 0) := (KB.out.cell 1); have d1_2 : w1.cell? ⟨w.heap.size + 1, 2, none⟩ = some (.int .i64 0) := (KB.out.cell 2); have d1_3 : w1.cell? ⟨w.heap.size + 1, 3, none⟩ = some (.string ⟨#[]⟩) := (KB.out.cell 3); have d1_4 : w1.cell? ⟨w.heap.size + 1, 4, none⟩ = some (.int .i64 0) := (KB.out.cell 4); have c0 : w1.cell? ⟨b, 0, none⟩ = some (.slice (some ⟨g, 0, none⟩) R.length cap) := HO1.out.blk.cell 0; have hbl := HO1.out.blk.lt; have hgl : g < w1.heap.size := (HO1.out.lt g (by simp [rmS, Go.Proofs.Ythgkbjiclghfkaa.ob, Value.ownBlock])).2; have s10 : w1.cell? ⟨g, i * 11 + 10, none⟩ = some (.bool false) := (HO1.out.cellAt i 10 hi (by omega)).trans (show some (Value.bool R[i].gone) = some (Value.bool false) from congrArg (fun x => some (Value.bool x)) hgn); have s5 : w1.cell? ⟨g, i * 11 + 5, none⟩ = some (.int .i64 R[i].val.k) := HO1.out.cellAt i 5 hi (by omega); have s6 : w1.cell? ⟨g, i * 11 + 6, none⟩ = some (.int .i64 R[i].val.p) := HO1.out.cellAt i 6 hi (by omega); have s7 : w1.cell? ⟨g, i * 11 + 7, none⟩ = some (.int .i64 R[i].val.q) := HO1.out.cellAt i 7 hi (by omega); have s8 : w1.cell? ⟨g, i * 11 + 8, none⟩ = some (.string R[i].val.s) := HO1.out.cellAt i 8 hi (by omega); have s9 : w1.cell? ⟨g, i * 11 + 9, none⟩ = some (.int .i64 R[i].val.r) := HO1.out.cellAt i 9 hi (by omega))
  show bodyPost _ _ _ Exit.ret _ (st5 w1 (w.heap.size + 1) (.int .i64 R[i].val.k) (.int .i64 R[i].val.p) (.int .i64 R[i].val.q) (.string R[i].val.s) (.int .i64 R[i].val.r))
  have hI := st5_blk (a0 := .int .i64 R[i].val.k) (a1 := .int .i64 R[i].val.p) (a2 := .int .i64 R[i].val.q) (a3 := .string R[i].val.s) (a4 := .int .i64 R[i].val.r) KB.out
  have hS := st5_bel (a0 := .int .i64 R[i].val.k) (a1 := .int .i64 R[i].val.p) (a2 := .int .i64 R[i].val.q) (a3 := .string R[i].val.s) (a4 := .int .i64 R[i].val.r) (R := w.heap.size + 1) HBW.out (by omega)
  have d0 := hI.cell 0
  have d1 := hI.cell 1
  have d2 := hI.cell 2
  have d3 := hI.cell 3
  have d4 := hI.cell 4
  simp at d0 d1 d2 d3 d4
  generalize (st5 w1 (w.heap.size + 1) (.int .i64 R[i].val.k) (.int .i64 R[i].val.p) (.int .i64 R[i].val.q) (.string R[i].val.s) (.int .i64 R[i].val.r)) = W9 at *
  refine bodyPost_ret (v := .agg #[.int .i64 R[i].val.k, .int .i64 R[i].val.p, .int .i64 R[i].val.q, .string R[i].val.s, .int .i64 R[i].val.r]) (by simp [results, Try.results26, go_sem, d0, d1, d2, d3, d4]) rfl ⟨rfl, hS⟩
theorem rget_any (B b : Nat) (v : Value) (R : List Rs) (k : V5) (w : World) (h : RM B b v R w) (hL : R.length ≤ 1000000) :
    Calls Try.prog 26 #[.pointer (some ⟨b, 0, none⟩), .agg #[.int .i64 k.k, .int .i64 k.p, .int .i64 k.q, .string k.s, .int .i64 k.r]] w fun e w' => e = .returned (.agg #[.int .i64 (getR R k).k, .int .i64 (getR R k).p, .int .i64 (getR R k).q, .string (getR R k).s, .int .i64 (getR R k).r]) ∧ Below w.heap.size w w' := by
  have QE := rfind_any B b v R k ((w.alloc (.cells #[.int .i64 k.k, .int .i64 k.p, .int .i64 k.q, .string k.s, .int .i64 k.r] 31)).alloc (.cells #[.int .i64 0, .int .i64 0, .int .i64 0, .string ⟨#[]⟩, .int .i64 0] 31)) (h.ch (((Ch.refl [] w).alloc (.cells #[.int .i64 k.k, .int .i64 k.p, .int .i64 k.q, .string k.s, .int .i64 k.r] 31)).alloc (.cells #[.int .i64 0, .int .i64 0, .int .i64 0, .string ⟨#[]⟩, .int .i64 0] 31)) (by simp)) hL
  cases hf : fnd R k with
  | none =>
    rw [hf] at QE
    rw [getR_none hf]
    exact rget_none B b v R k w h hL (Lib.hid QE)
  | some i =>
    obtain ⟨hi, _⟩ := fnd_lt hf
    rw [hf] at QE
    rw [getR_at hf hi]
    cases hg : R[i].gone with
    | true => exact rget_gone B b v R k i hi hg w h hL (Lib.hid QE)
    | false => exact rget_live B b v R k i hi hg w h hL (Lib.hid QE)
end Go.Proofs.Ythgkbjiclghfkaa
