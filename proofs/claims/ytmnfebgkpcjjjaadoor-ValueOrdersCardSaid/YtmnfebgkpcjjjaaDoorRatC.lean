/- Contracts of layer 1: sums, differences, products. -/
import Derived.Test.YtmnfebgkpcjjjaaDoorRatB
namespace Go.Proofs.YtmnfebgkpcjjjaaDoor
open Go.RowKit M1

theorem below_step {B B' : Nat} {a b c : World} (h : Below B' b c) (hB : B ≤ B') (k : Below B a b) : Below B a c := k.trans (h.mono hB)

set_option maxHeartbeats 1000000 in
theorem add_any (p q p' q' : Int) (w : World) :
    Calls Tryd.prog 36 #[.agg #[.int .i64 p, .int .i64 q], .agg #[.int .i64 p', .int .i64 q']] w fun e w' => e = .returned (.tuple #[.agg #[.int .i64 (addR p q p' q').P, .int .i64 (addR p q p' q').Q], .int .i64 (addR p q p' q').E]) ∧ Below w.heap.size w w' := by
  by_cases h1 : vld p q = true
  · by_cases h2 : vld p' q' = true
    · rw [addR_yes h1 h2]
      obtain ⟨a1, a2, a3, a4, _⟩ := vld_iff.1 h1
      obtain ⟨b1, b2, b3, b4, _⟩ := vld_iff.1 h2
      have m1 := mul_in (a := p) (b := q') (by omega) (by omega) (by omega) (by omega)
      have m2 := mul_in (a := p') (b := q) (by omega) (by omega) (by omega) (by omega)
      have m3 := mul_in (a := q) (b := q') (by omega) (by omega) (by omega) (by omega)
      have h5 : q * q' ≠ 0 := mul_ne (by omega) (by omega)
      obtain ⟨m11, m12⟩ := m1
      obtain ⟨m21, m22⟩ := m2
      obtain ⟨m31, m32⟩ := m3
      go_enter Tryd.func36, Tryd.ntmps36
      go_wp2_with (first | (go_at_call 46; refine (valid_any _ _ _).mono ?_; rintro e w1 ⟨rfl, hb⟩; obtain ⟨hc, hf⟩ := bcell hb; have hz := hb.size; (try simp at hz); have z0 : w.heap.size < w1.heap.size := (by omega); have z1 : w.heap.size + 1 < w1.heap.size := (by omega); have z2 : w.heap.size + 2 < w1.heap.size := (by omega); clear hz) | (go_at_call 50; refine (reduce_any _ _ _ h5 (by omega) (by omega) (by omega) (by omega)).mono ?_; rintro e w2 ⟨rfl, hb2⟩; obtain ⟨hc2, hf2⟩ := bcell hb2; have hz := hb2.size; (try simp at hz); have z0 : w.heap.size < w2.heap.size := (by omega); have z1 : w.heap.size + 1 < w2.heap.size := (by omega); have z2 : w.heap.size + 2 < w2.heap.size := (by omega); clear hz))
      refine bodyPost_ret (v := .tuple #[.agg #[.int .i64 (oP (rat (p * q' + p' * q) (q * q'))), .int .i64 (oQ (rat (p * q' + p' * q) (q * q')))], .int .i64 (oE (rat (p * q' + p' * q) (q * q')))]) (by simp [results, Tryd.results36, go_sem, *]) rfl ?_
      refine ⟨rfl, ?_⟩
      repeat (first | exact Below.refl _ _ | refine below_drewN ?_ _ | refine Below.setCell ?_ (by first | omega | (simp; done) | (simp; omega)) _ | refine Below.alloc ?_ (by first | omega | (simp; done) | (simp; omega)) _ | refine below_step (by assumption) (by first | omega | (simp; done) | (simp; omega)) ?_)
    · rw [addR_no (fun h => h2 h.2)]
      have h3 : vld p' q' = false := by simpa using h2
      clear h2
      go_enter Tryd.func36, Tryd.ntmps36
      go_wp2_with (first | (go_at_call 46; refine (valid_any _ _ _).mono ?_; rintro e w1 ⟨rfl, hb⟩; obtain ⟨hc, hf⟩ := bcell hb; have hz := hb.size; (try simp at hz); have z0 : w.heap.size < w1.heap.size := (by omega); have z1 : w.heap.size + 1 < w1.heap.size := (by omega); have z2 : w.heap.size + 2 < w1.heap.size := (by omega); clear hz) | (go_at_call 50; refine (reduce_any _ _ _ h5 (by omega) (by omega) (by omega) (by omega)).mono ?_; rintro e w2 ⟨rfl, hb2⟩; obtain ⟨hc2, hf2⟩ := bcell hb2; have hz := hb2.size; (try simp at hz); have z0 : w.heap.size < w2.heap.size := (by omega); have z1 : w.heap.size + 1 < w2.heap.size := (by omega); have z2 : w.heap.size + 2 < w2.heap.size := (by omega); clear hz))
      refine bodyPost_ret (v := .tuple #[.agg #[.int .i64 (0), .int .i64 (0)], .int .i64 (2)]) (by simp [results, Tryd.results36, go_sem, *]) rfl ?_
      refine ⟨rfl, ?_⟩
      repeat (first | exact Below.refl _ _ | refine below_drewN ?_ _ | refine Below.setCell ?_ (by first | omega | (simp; done) | (simp; omega)) _ | refine Below.alloc ?_ (by first | omega | (simp; done) | (simp; omega)) _ | refine below_step (by assumption) (by first | omega | (simp; done) | (simp; omega)) ?_)
  · rw [addR_no (fun h => h1 h.1)]
    have h3 : vld p q = false := by simpa using h1
    clear h1
    go_enter Tryd.func36, Tryd.ntmps36
    go_wp2_with (first | (go_at_call 46; refine (valid_any _ _ _).mono ?_; rintro e w1 ⟨rfl, hb⟩; obtain ⟨hc, hf⟩ := bcell hb; have hz := hb.size; (try simp at hz); have z0 : w.heap.size < w1.heap.size := (by omega); have z1 : w.heap.size + 1 < w1.heap.size := (by omega); have z2 : w.heap.size + 2 < w1.heap.size := (by omega); clear hz) | (go_at_call 50; refine (reduce_any _ _ _ h5 (by omega) (by omega) (by omega) (by omega)).mono ?_; rintro e w2 ⟨rfl, hb2⟩; obtain ⟨hc2, hf2⟩ := bcell hb2; have hz := hb2.size; (try simp at hz); have z0 : w.heap.size < w2.heap.size := (by omega); have z1 : w.heap.size + 1 < w2.heap.size := (by omega); have z2 : w.heap.size + 2 < w2.heap.size := (by omega); clear hz))
    refine bodyPost_ret (v := .tuple #[.agg #[.int .i64 (0), .int .i64 (0)], .int .i64 (2)]) (by simp [results, Tryd.results36, go_sem, *]) rfl ?_
    refine ⟨rfl, ?_⟩
    repeat (first | exact Below.refl _ _ | refine below_drewN ?_ _ | refine Below.setCell ?_ (by first | omega | (simp; done) | (simp; omega)) _ | refine Below.alloc ?_ (by first | omega | (simp; done) | (simp; omega)) _ | refine below_step (by assumption) (by first | omega | (simp; done) | (simp; omega)) ?_)

end Go.Proofs.YtmnfebgkpcjjjaaDoor
