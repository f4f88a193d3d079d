/- Contracts of layer 11: valid values, truth, numbers. -/
import Derived.Test.YtdgdpckjcpgoaaaValA
namespace Go.Proofs.Ytdgdpckjcpgoaaa
open Go.RowKit M1
set_option linter.unusedVariables false
theorem vld_int (n : Int) : vld n 1 = decide (-2147483647 ≤ n ∧ n ≤ 2147483647) := by
  unfold vld
  rw [Bool.eq_iff_iff]
  simp only [decide_eq_true_eq]
  constructor
  · rintro ⟨_, _, h1, h2, _⟩; exact ⟨h1, h2⟩
  · rintro ⟨h1, h2⟩; exact ⟨by omega, by omega, h1, h2, by simp [Int.gcd]⟩
theorem ofNum_ok (p q : Int) (w : World) (h : vld p q = true) :
    Calls Try.prog 47 #[.agg #[.int .i64 p, .int .i64 q]] w fun e w' => e = .returned (.agg #[.int .i64 2, .int .i64 p, .int .i64 q, .string ⟨#[]⟩, .int .i64 0]) ∧ Below w.heap.size w w' := by
  have Q : Hid (∀ w, Calls Try.prog 50 #[.agg #[.int .i64 p, .int .i64 q]] w fun e w' => e = .returned (.bool true) ∧ Below w.heap.size w w') := Lib.hid fun w => by rw [← h]; exact valid_any p q w
  clear h
  go_enter Try.func47, Try.ntmps47
  go_wp2_with (go_at_call 50; (with_reducible refine (Q.out _).mono ?_); rintro e w1 ⟨rfl, hb1⟩; obtain ⟨hc1, hf1⟩ := bcell hb1; have hz := hb1.size; (try simp at hz); (try (have z1_0 : w.heap.size < w1.heap.size := (by omega))); (try (have z1_1 : w.heap.size + 1 < w1.heap.size := (by omega))); clear hz; (try (have c1_0 : w1.cell? ⟨w.heap.size, 0, none⟩ = some (.int .i64 p) := by go_simp)); (try (have c1_1 : w1.cell? ⟨w.heap.size, 1, none⟩ = some (.int .i64 q) := by go_simp)); (try (have d1_0 : w1.cell? ⟨w.heap.size + 1, 0, none⟩ = some (.int .i64 0) := by go_simp)); (try (have d1_1 : w1.cell? ⟨w.heap.size + 1, 1, none⟩ = some (.int .i64 0) := by go_simp)); (try (have d1_2 : w1.cell? ⟨w.heap.size + 1, 2, none⟩ = some (.int .i64 0) := by go_simp)); (try (have d1_3 : w1.cell? ⟨w.heap.size + 1, 3, none⟩ = some (.string ⟨#[]⟩) := by go_simp)); (try (have d1_4 : w1.cell? ⟨w.heap.size + 1, 4, none⟩ = some (.int .i64 0) := by go_simp)); have KB := Lib.hid (Blk.below (T := 26) (b := w.heap.size + 1) (cs := #[.int .i64 0, .int .i64 0, .int .i64 0, .string ⟨#[]⟩, .int .i64 0]) (Blk.new _ _ _ _ (by simp)) hb1); have kf1 := KB.out.fz 0)
  show bodyPost _ _ _ Exit.ret _ (st5 w1 (w.heap.size + 1) (.int .i64 2) (.int .i64 p) (.int .i64 q) (.string ⟨#[]⟩) (.int .i64 0))
  have hI := st5_blk (a0 := .int .i64 2) (a1 := .int .i64 p) (a2 := .int .i64 q) (a3 := .string ⟨#[]⟩) (a4 := .int .i64 0) KB.out
  have hS : Below w.heap.size w (st5 w1 (w.heap.size + 1) (.int .i64 2) (.int .i64 p) (.int .i64 q) (.string ⟨#[]⟩) (.int .i64 0)) := by
    refine st5_bel ?_ (by omega)
    repeat (first | exact Below.refl _ _ | refine below_drewN ?_ _ | refine Below.drew ?_ | refine Below.setCell ?_ (by first | omega | (simp; done) | (simp; omega)) _ | refine Below.alloc ?_ (by first | omega | (simp; done) | (simp; omega)) _ | refine vstep (by assumption) (by first | omega | (simp; done) | (simp; omega)) ?_)
  have d0 := hI.cell 0
  have d1 := hI.cell 1
  have d2 := hI.cell 2
  have d3 := hI.cell 3
  have d4 := hI.cell 4
  simp at d0 d1 d2 d3 d4
  generalize (st5 w1 (w.heap.size + 1) (.int .i64 2) (.int .i64 p) (.int .i64 q) (.string ⟨#[]⟩) (.int .i64 0)) = W9 at *
  refine bodyPost_ret (v := .agg #[.int .i64 2, .int .i64 p, .int .i64 q, .string ⟨#[]⟩, .int .i64 0]) (by simp [results, Try.results47, go_sem, d0, d1, d2, d3, d4]) rfl ⟨rfl, hS⟩
theorem ofNum_no (p q : Int) (w : World) (h : vld p q = false) :
    Calls Try.prog 47 #[.agg #[.int .i64 p, .int .i64 q]] w fun e w' => e = .returned (.agg #[.int .i64 0, .int .i64 0, .int .i64 0, .string ⟨#[]⟩, .int .i64 0]) ∧ Below w.heap.size w w' := by
  have Q : Hid (∀ w, Calls Try.prog 50 #[.agg #[.int .i64 p, .int .i64 q]] w fun e w' => e = .returned (.bool false) ∧ Below w.heap.size w w') := Lib.hid fun w => by rw [← h]; exact valid_any p q w
  clear h
  go_enter Try.func47, Try.ntmps47
  go_wp2_with (go_at_call 50; (with_reducible refine (Q.out _).mono ?_); rintro e w1 ⟨rfl, hb1⟩; obtain ⟨hc1, hf1⟩ := bcell hb1; have hz := hb1.size; (try simp at hz); (try (have z1_0 : w.heap.size < w1.heap.size := (by omega))); (try (have z1_1 : w.heap.size + 1 < w1.heap.size := (by omega))); clear hz; (try (have c1_0 : w1.cell? ⟨w.heap.size, 0, none⟩ = some (.int .i64 p) := by go_simp)); (try (have c1_1 : w1.cell? ⟨w.heap.size, 1, none⟩ = some (.int .i64 q) := by go_simp)); (try (have d1_0 : w1.cell? ⟨w.heap.size + 1, 0, none⟩ = some (.int .i64 0) := by go_simp)); (try (have d1_1 : w1.cell? ⟨w.heap.size + 1, 1, none⟩ = some (.int .i64 0) := by go_simp)); (try (have d1_2 : w1.cell? ⟨w.heap.size + 1, 2, none⟩ = some (.int .i64 0) := by go_simp)); (try (have d1_3 : w1.cell? ⟨w.heap.size + 1, 3, none⟩ = some (.string ⟨#[]⟩) := by go_simp)); (try (have d1_4 : w1.cell? ⟨w.heap.size + 1, 4, none⟩ = some (.int .i64 0) := by go_simp)); have KB := Lib.hid (Blk.below (T := 26) (b := w.heap.size + 1) (cs := #[.int .i64 0, .int .i64 0, .int .i64 0, .string ⟨#[]⟩, .int .i64 0]) (Blk.new _ _ _ _ (by simp)) hb1); have kf1 := KB.out.fz 0)
  show bodyPost _ _ _ Exit.ret _ (st5 w1 (w.heap.size + 1) (.int .i64 0) (.int .i64 0) (.int .i64 0) (.string ⟨#[]⟩) (.int .i64 0))
  have hI := st5_blk (a0 := .int .i64 0) (a1 := .int .i64 0) (a2 := .int .i64 0) (a3 := .string ⟨#[]⟩) (a4 := .int .i64 0) KB.out
  have hS : Below w.heap.size w (st5 w1 (w.heap.size + 1) (.int .i64 0) (.int .i64 0) (.int .i64 0) (.string ⟨#[]⟩) (.int .i64 0)) := by
    refine st5_bel ?_ (by omega)
    repeat (first | exact Below.refl _ _ | refine below_drewN ?_ _ | refine Below.drew ?_ | refine Below.setCell ?_ (by first | omega | (simp; done) | (simp; omega)) _ | refine Below.alloc ?_ (by first | omega | (simp; done) | (simp; omega)) _ | refine vstep (by assumption) (by first | omega | (simp; done) | (simp; omega)) ?_)
  have d0 := hI.cell 0
  have d1 := hI.cell 1
  have d2 := hI.cell 2
  have d3 := hI.cell 3
  have d4 := hI.cell 4
  simp at d0 d1 d2 d3 d4
  generalize (st5 w1 (w.heap.size + 1) (.int .i64 0) (.int .i64 0) (.int .i64 0) (.string ⟨#[]⟩) (.int .i64 0)) = W9 at *
  refine bodyPost_ret (v := .agg #[.int .i64 0, .int .i64 0, .int .i64 0, .string ⟨#[]⟩, .int .i64 0]) (by simp [results, Try.results47, go_sem, d0, d1, d2, d3, d4]) rfl ⟨rfl, hS⟩
theorem same_any (k p q : Int) (s : ByteArray) (r : Int) (k' p' q' : Int) (s' : ByteArray) (r' : Int) (w : World) :
    Calls Try.prog 40 #[.agg #[.int .i64 k, .int .i64 p, .int .i64 q, .string s, .int .i64 r], .agg #[.int .i64 k', .int .i64 p', .int .i64 q', .string s', .int .i64 r']] w fun e w' => e = .returned (.bool (eqV k p q s r k' p' q' s' r')) ∧ Below w.heap.size w w' := by
  have E := fun W => eq_val k p q s r k' p' q' s' r' W
  generalize eqV k p q s r k' p' q' s' r' = b at *
  go_enter Try.func40, Try.ntmps40
  go_wp2
  go_ret
  refine ⟨rfl, ?_⟩
  repeat (first | exact Below.refl _ _ | refine below_drewN ?_ _ | refine Below.drew ?_ | refine Below.setCell ?_ (by first | omega | (simp; done) | (simp; omega)) _ | refine Below.alloc ?_ (by first | omega | (simp; done) | (simp; omega)) _ | refine vstep (by assumption) (by first | omega | (simp; done) | (simp; omega)) ?_)
def trueF (k r : Int) : Bool := !decide (k = 0) && (!decide (k = 1) || !decide (r = 0))
end Go.Proofs.Ytdgdpckjcpgoaaa
