/- Layer 12: the functions of ordered maps (2). -/
import Derived.Test.YtaaelhhiceildaaOdrC
import Derived.Deep.DeepCutAuto
import Derived.Deep.CutBlock
import Derived.BigQuiet
namespace Go.Proofs.Ytaaelhhiceildaa
open Go.RowKit M1
set_option linter.unusedVariables false
def getL (L : List Sl) (k : V5) : V5 := match lastI L k with
  | some i => match L[i]? with
    | some s => if liveB s then s.val else v5z
    | none => v5z
  | none => v5z
theorem getL_R {L : List Sl} (hI : Inv L) (k : V5) : getR (rabs L) k = getL L k := by
  unfold getR getL
  rw [fnd_abs hI]
  cases hl : lastI L k with
  | none => rfl
  | some i =>
    obtain ⟨hi, _, _⟩ := lastI_some hl
    simp only [valAt]
    rw [List.getElem?_eq_getElem (by rw [rabs_len]; exact hi), List.getElem?_eq_getElem hi, rabs_at L i hi]
    simp only [rab]
    by_cases h : liveB L[i] = true <;> simp [h]
theorem get_nil (k : V5) (w : World) :
    Calls Try.prog 33 #[.pointer none, .agg #[.int .i64 k.k, .int .i64 k.p, .int .i64 k.q, .string k.s, .int .i64 k.r]] w fun e w' => e = .returned (.agg #[.int .i64 0, .int .i64 0, .int .i64 0, .string ⟨#[]⟩, .int .i64 0]) ∧ Below w.heap.size w w' := by
  go_enter Try.func33, Try.ntmps33
  go_wp2
  refine bodyPost_ret (v := .agg #[.int .i64 0, .int .i64 0, .int .i64 0, .string ⟨#[]⟩, .int .i64 0]) (by simp [results, Try.results33, go_sem]) rfl ⟨rfl, ?_⟩
  repeat (first | exact Below.refl _ _ | refine below_drewN ?_ _ | refine Below.drew ?_ | refine Below.setCell ?_ (by first | omega | (simp; done) | (simp; omega)) _ | refine Below.alloc ?_ (by first | omega | (simp; done) | (simp; omega)) _ | refine vstep (by assumption) (by first | omega | (simp; done) | (simp; omega)) ?_)
set_option maxHeartbeats 1000000 in
theorem get_none (B b : Nat) (v m : Value) (L : List Sl) (k : V5) (i : Int) (w : World) (h : Om B b v m L w) (QE : Hid (Calls Try.prog 52 #[.pointer (some ⟨b, 0, none⟩), .agg #[.int .i64 k.k, .int .i64 k.p, .int .i64 k.q, .string k.s, .int .i64 k.r]] ((w.alloc (.cells #[.int .i64 k.k, .int .i64 k.p, .int .i64 k.q, .string k.s, .int .i64 k.r] 26)).alloc (.cells #[.int .i64 0, .int .i64 0, .int .i64 0, .string ⟨#[]⟩, .int .i64 0] 26)) fun e w' => e = .returned (.tuple #[.int .i64 i, .bool false]) ∧ Below ((w.alloc (.cells #[.int .i64 k.k, .int .i64 k.p, .int .i64 k.q, .string k.s, .int .i64 k.r] 26)).alloc (.cells #[.int .i64 0, .int .i64 0, .int .i64 0, .string ⟨#[]⟩, .int .i64 0] 26)).heap.size ((w.alloc (.cells #[.int .i64 k.k, .int .i64 k.p, .int .i64 k.q, .string k.s, .int .i64 k.r] 26)).alloc (.cells #[.int .i64 0, .int .i64 0, .int .i64 0, .string ⟨#[]⟩, .int .i64 0] 26)) w')) :
    Calls Try.prog 33 #[.pointer (some ⟨b, 0, none⟩), .agg #[.int .i64 k.k, .int .i64 k.p, .int .i64 k.q, .string k.s, .int .i64 k.r]] w fun e w' => e = .returned (.agg #[.int .i64 0, .int .i64 0, .int .i64 0, .string ⟨#[]⟩, .int .i64 0]) ∧ Below w.heap.size w w' := by
  have HB0 : Hid (Below w.heap.size w ((w.alloc (.cells #[.int .i64 k.k, .int .i64 k.p, .int .i64 k.q, .string k.s, .int .i64 k.r] 26)).alloc (.cells #[.int .i64 0, .int .i64 0, .int .i64 0, .string ⟨#[]⟩, .int .i64 0] 26))) := Lib.hid (((Below.refl _ _).alloc (Nat.le_refl _) _).alloc (by simp) _)
  have HO := Lib.hid (h.keep (((Ch.refl [] w).alloc (.cells #[.int .i64 k.k, .int .i64 k.p, .int .i64 k.q, .string k.s, .int .i64 k.r] 26)).alloc (.cells #[.int .i64 0, .int .i64 0, .int .i64 0, .string ⟨#[]⟩, .int .i64 0] 26)))
  clear h
  go_enter Try.func33, Try.ntmps33
  go_wp2_with (go_at_call 52; (with_reducible refine (QE.out).mono ?_); rintro e w1 ⟨rfl, hb1⟩; have KB := Lib.hid (Blk.below (T := 26) (b := w.heap.size + 1) (cs := #[.int .i64 0, .int .i64 0, .int .i64 0, .string ⟨#[]⟩, .int .i64 0]) (Blk.new _ _ _ _ (by simp)) hb1); have HBW := Lib.hid (HB0.out.trans (hb1.mono HB0.out.size)); have HO1 := Lib.hid (HO.out.below hb1); have hz1 := hb1.size; (try simp at hz1); have kf1 := KB.out.fz 0; have kf2 := KB.out.fz 1; have kf3 := KB.out.fz 2; have kf4 := KB.out.fz 3; have kf5 := KB.out.fz 4; have d1_0 : w1.cell? ⟨w.heap.size + 1, 0, none⟩ = some (.int .i64 0) := (KB.out.cell 0); have d1_1 : w1.cell? ⟨w.heap.size + 1, 1, none⟩ = some (.int .i64 0) := (KB.out.cell 1); have d1_2 : w1.cell? ⟨w.heap.size + 1, 2, none⟩ = some (.int .i64 0) := (KB.out.cell 2); have d1_3 : w1.cell? ⟨w.heap.size + 1, 3, none⟩ = some (.string ⟨#[]⟩) := (KB.out.cell 3); have d1_4 : w1.cell? ⟨w.heap.size + 1, 4, none⟩ = some (.int .i64 0) := (KB.out.cell 4); obtain ⟨c0, c1, c2, f0, f1, f2, hbl⟩ := HO1.out.cells; clear hb1)
  show bodyPost _ _ _ Exit.ret _ (st5 w1 (w.heap.size + 1) (.int .i64 0) (.int .i64 0) (.int .i64 0) (.string ⟨#[]⟩) (.int .i64 0))
  have hI := st5_blk (a0 := .int .i64 0) (a1 := .int .i64 0) (a2 := .int .i64 0) (a3 := .string ⟨#[]⟩) (a4 := .int .i64 0) KB.out
  have hS := st5_bel (a0 := .int .i64 0) (a1 := .int .i64 0) (a2 := .int .i64 0) (a3 := .string ⟨#[]⟩) (a4 := .int .i64 0) (R := w.heap.size + 1) HBW.out (by omega)
  have d0 := hI.cell 0
  have d1 := hI.cell 1
  have d2 := hI.cell 2
  have d3 := hI.cell 3
  have d4 := hI.cell 4
  simp at d0 d1 d2 d3 d4
  generalize (st5 w1 (w.heap.size + 1) (.int .i64 0) (.int .i64 0) (.int .i64 0) (.string ⟨#[]⟩) (.int .i64 0)) = W9 at *
  refine bodyPost_ret (v := .agg #[.int .i64 0, .int .i64 0, .int .i64 0, .string ⟨#[]⟩, .int .i64 0]) (by simp [results, Try.results33, go_sem, d0, d1, d2, d3, d4]) rfl ⟨rfl, hS⟩
set_option maxHeartbeats 1000000 in
theorem get_some (B b : Nat) (v m : Value) (L : List Sl) (k : V5) (i : Nat) (hi : i < L.length) (w : World) (h : Om B b v m L w) (hL : L.length ≤ 1000000) (QE : Hid (Calls Try.prog 52 #[.pointer (some ⟨b, 0, none⟩), .agg #[.int .i64 k.k, .int .i64 k.p, .int .i64 k.q, .string k.s, .int .i64 k.r]] ((w.alloc (.cells #[.int .i64 k.k, .int .i64 k.p, .int .i64 k.q, .string k.s, .int .i64 k.r] 26)).alloc (.cells #[.int .i64 0, .int .i64 0, .int .i64 0, .string ⟨#[]⟩, .int .i64 0] 26)) fun e w' => e = .returned (.tuple #[.int .i64 (i : Int), .bool true]) ∧ Below ((w.alloc (.cells #[.int .i64 k.k, .int .i64 k.p, .int .i64 k.q, .string k.s, .int .i64 k.r] 26)).alloc (.cells #[.int .i64 0, .int .i64 0, .int .i64 0, .string ⟨#[]⟩, .int .i64 0] 26)).heap.size ((w.alloc (.cells #[.int .i64 k.k, .int .i64 k.p, .int .i64 k.q, .string k.s, .int .i64 k.r] 26)).alloc (.cells #[.int .i64 0, .int .i64 0, .int .i64 0, .string ⟨#[]⟩, .int .i64 0] 26)) w')) :
    Calls Try.prog 33 #[.pointer (some ⟨b, 0, none⟩), .agg #[.int .i64 k.k, .int .i64 k.p, .int .i64 k.q, .string k.s, .int .i64 k.r]] w fun e w' => e = .returned (.agg #[.int .i64 L[i].val.k, .int .i64 L[i].val.p, .int .i64 L[i].val.q, .string L[i].val.s, .int .i64 L[i].val.r]) ∧ Below w.heap.size w w' := by
  obtain ⟨p, cap, rfl, hp⟩ := h.form
  obtain ⟨g, rfl⟩ := hp (by omega)
  have HB0 : Hid (Below w.heap.size w ((w.alloc (.cells #[.int .i64 k.k, .int .i64 k.p, .int .i64 k.q, .string k.s, .int .i64 k.r] 26)).alloc (.cells #[.int .i64 0, .int .i64 0, .int .i64 0, .string ⟨#[]⟩, .int .i64 0] 26))) := Lib.hid (((Below.refl _ _).alloc (Nat.le_refl _) _).alloc (by simp) _)
  have HO := Lib.hid (h.keep (((Ch.refl [] w).alloc (.cells #[.int .i64 k.k, .int .i64 k.p, .int .i64 k.q, .string k.s, .int .i64 k.r] 26)).alloc (.cells #[.int .i64 0, .int .i64 0, .int .i64 0, .string ⟨#[]⟩, .int .i64 0] 26)))
  have hi2 : (i : Int) < (L.length : Int) := by omega
  have HL := Lib.hid hL
  have hi3 : i ≤ 1000000 := by omega
  clear h hp hL
  go_enter Try.func33, Try.ntmps33
  go_wp2_with (go_at_call 52; (with_reducible refine (QE.out).mono ?_); rintro e w1 ⟨rfl, hb1⟩; have KB := Lib.hid (Blk.below (T := 26) (b := w.heap.size + 1) (cs := #[.int .i64 0, .int .i64 0, .int .i64 0, .string ⟨#[]⟩, .int .i64 0]) (Blk.new _ _ _ _ (by simp)) hb1); have HBW := Lib.hid (HB0.out.trans (hb1.mono HB0.out.size)); have HO1 := Lib.hid (HO.out.below hb1); have hz1 := hb1.size; (try simp at hz1); have kf1 := KB.out.fz 0; have kf2 := KB.out.fz 1; have kf3 := KB.out.fz 2; have kf4 := KB.out.fz 3; have kf5 := KB.out.fz 4; have d1_0 : w1.cell? ⟨w.heap.size + 1, 0, none⟩ = some (.int .i64 0) := (KB.out.cell 0); have d1_1 : w1.cell? ⟨w.heap.size + 1, 1, none⟩ = some (.int .i64 0) := (KB.out.cell 1); have d1_2 : w1.cell? ⟨w.heap.size + 1, 2, none⟩ = some (.int .i64 0) := (KB.out.cell 2); have d1_3 : w1.cell? ⟨w.heap.size + 1, 3, none⟩ = some (.string ⟨#[]⟩) := (KB.out.cell 3); have d1_4 : w1.cell? ⟨w.heap.size + 1, 4, none⟩ = some (.int .i64 0) := (KB.out.cell 4); obtain ⟨c0, c1, c2, f0, f1, f2, hbl⟩ := HO1.out.cells; obtain ⟨_, _, _, _, _, s5, s6, s7, s8, s9, _⟩ := HO1.out.slot i hi; clear hb1)
  show bodyPost _ _ _ Exit.ret _ (st5 w1 (w.heap.size + 1) (.int .i64 L[i].val.k) (.int .i64 L[i].val.p) (.int .i64 L[i].val.q) (.string L[i].val.s) (.int .i64 L[i].val.r))
  have hI := st5_blk (a0 := .int .i64 L[i].val.k) (a1 := .int .i64 L[i].val.p) (a2 := .int .i64 L[i].val.q) (a3 := .string L[i].val.s) (a4 := .int .i64 L[i].val.r) KB.out
  have hS := st5_bel (a0 := .int .i64 L[i].val.k) (a1 := .int .i64 L[i].val.p) (a2 := .int .i64 L[i].val.q) (a3 := .string L[i].val.s) (a4 := .int .i64 L[i].val.r) (R := w.heap.size + 1) HBW.out (by omega)
  have d0 := hI.cell 0
  have d1 := hI.cell 1
  have d2 := hI.cell 2
  have d3 := hI.cell 3
  have d4 := hI.cell 4
  simp at d0 d1 d2 d3 d4
  generalize (st5 w1 (w.heap.size + 1) (.int .i64 L[i].val.k) (.int .i64 L[i].val.p) (.int .i64 L[i].val.q) (.string L[i].val.s) (.int .i64 L[i].val.r)) = W9 at *
  refine bodyPost_ret (v := .agg #[.int .i64 L[i].val.k, .int .i64 L[i].val.p, .int .i64 L[i].val.q, .string L[i].val.s, .int .i64 L[i].val.r]) (by simp [results, Try.results33, go_sem, d0, d1, d2, d3, d4]) rfl ⟨rfl, hS⟩
theorem get_any (B b : Nat) (v m : Value) (L : List Sl) (k : V5) (w : World) (h : Om B b v m L w) (hL : L.length ≤ 1000000) :
    Calls Try.prog 33 #[.pointer (some ⟨b, 0, none⟩), .agg #[.int .i64 k.k, .int .i64 k.p, .int .i64 k.q, .string k.s, .int .i64 k.r]] w fun e w' => e = .returned (.agg #[.int .i64 (getL L k).k, .int .i64 (getL L k).p, .int .i64 (getL L k).q, .string (getL L k).s, .int .i64 (getL L k).r]) ∧ Below w.heap.size w w' := by
  have QE := entry_any B b v m L k ((w.alloc (.cells #[.int .i64 k.k, .int .i64 k.p, .int .i64 k.q, .string k.s, .int .i64 k.r] 26)).alloc (.cells #[.int .i64 0, .int .i64 0, .int .i64 0, .string ⟨#[]⟩, .int .i64 0] 26)) (h.keep (((Ch.refl [] w).alloc (.cells #[.int .i64 k.k, .int .i64 k.p, .int .i64 k.q, .string k.s, .int .i64 k.r] 26)).alloc (.cells #[.int .i64 0, .int .i64 0, .int .i64 0, .string ⟨#[]⟩, .int .i64 0] 26))) hL
  unfold EnSaid at QE
  unfold getL
  cases hl : lastI L k with
  | none =>
    rw [hl] at QE
    exact get_none B b v m L k 0 w h (Lib.hid QE)
  | some i =>
    obtain ⟨hi, _, _⟩ := lastI_some hl
    rw [hl] at QE
    simp only [List.getElem?_eq_getElem hi] at QE ⊢
    cases hlv : liveB L[i] with
    | true =>
      rw [hlv] at QE
      exact get_some B b v m L k i hi w h hL (Lib.hid QE)
    | false =>
      rw [hlv] at QE
      exact get_none B b v m L k i w h (Lib.hid QE)
end Go.Proofs.Ytaaelhhiceildaa
