/- Contracts of layer 1: the other functions. -/
import Derived.Test.YtmnfebgkpcjjjaaDoorRatC
import Derived.Test.YtmnfebgkpcjjjaaDoorRatD
namespace Go.Proofs.YtmnfebgkpcjjjaaDoor
open Go.RowKit M1

theorem order_any (m n : Int) (w : World) :
    Calls Tryd.prog 54 #[.int .i64 m, .int .i64 n] w fun e w' => e = .returned (.int .i64 (cmp m n)) ∧ w = w' := by
  by_cases h1 : m < n
  · have e := Lib.hid (show cmp m n = -1 by unfold cmp; rw [if_pos h1])
    go_enter Tryd.func54, Tryd.ntmps54
    go_wp2
    go_ret
    exact ⟨ret_int e.out.symm, rfl⟩
  · by_cases h2 : n < m
    · have e := Lib.hid (show cmp m n = 1 by unfold cmp; rw [if_neg h1, if_pos h2])
      go_enter Tryd.func54, Tryd.ntmps54
      go_wp2
      go_ret
      exact ⟨ret_int e.out.symm, rfl⟩
    · have e := Lib.hid (show cmp m n = 0 by unfold cmp; rw [if_neg h1, if_neg h2])
      go_enter Tryd.func54, Tryd.ntmps54
      go_wp2
      go_ret
      exact ⟨ret_int e.out.symm, rfl⟩

set_option maxHeartbeats 1000000 in
theorem make_any (p q : Int) (w : World) :
    Calls Tryd.prog 88 #[.int .i64 p, .int .i64 q] w fun e w' => e = .returned (.tuple #[.agg #[.int .i64 (makeR p q).P, .int .i64 (makeR p q).Q], .int .i64 (makeR p q).E]) ∧ Below w.heap.size w w' := by
  by_cases hq : q = 0
  · subst hq
    rw [show makeR p 0 = err 7 from if_pos rfl]
    go_enter Tryd.func88, Tryd.ntmps88
    go_wp2
    refine bodyPost_ret (v := .tuple #[.agg #[.int .i64 (0), .int .i64 (0)], .int .i64 (7)]) (by simp [results, Tryd.results88, go_sem, *]) rfl ?_
    refine ⟨rfl, ?_⟩
    repeat (first | exact Below.refl _ _ | refine below_drewN ?_ _ | refine Below.setCell ?_ (by first | omega | (simp; done) | (simp; omega)) _ | refine Below.alloc ?_ (by first | omega | (simp; done) | (simp; omega)) _ | refine below_step (by assumption) (by first | omega | (simp; done) | (simp; omega)) ?_)
  · have hq0 : (q == 0) = false := by simpa using hq
    by_cases h : -4611686018427387904 ≤ p ∧ p ≤ 4611686018427387904 ∧ -4611686018427387904 ≤ q ∧ q ≤ 4611686018427387904
    · rw [show makeR p q = out (rat p q) by unfold makeR; rw [if_neg hq, if_pos h]]
      obtain ⟨h1, h2, h3, h4⟩ := h
      go_enter Tryd.func88, Tryd.ntmps88
      go_wp2_with fail
      refine (within_yes _ _ _ h1 h2 (by omega) (by omega)).mono ?_
      rintro e w1 ⟨rfl, rfl⟩
      go_wp2_with fail
      refine (within_yes _ _ _ h3 h4 (by omega) (by omega)).mono ?_
      rintro e w1 ⟨rfl, rfl⟩
      go_wp2_with (go_at_call 50; refine (reduce_any _ _ _ hq (by omega) (by omega) (by omega) (by omega)).mono ?_; rintro e w1 ⟨rfl, hb1⟩; obtain ⟨hc1, hf1⟩ := bcell hb1; have hz := hb1.size; (try simp at hz); have z0 : w.heap.size < w1.heap.size := (by omega); clear hz)
      refine bodyPost_ret (v := .tuple #[.agg #[.int .i64 (oP (rat p q)), .int .i64 (oQ (rat p q))], .int .i64 (oE (rat p q))]) (by simp [results, Tryd.results88, go_sem, *]) rfl ?_
      refine ⟨rfl, ?_⟩
      repeat (first | exact Below.refl _ _ | refine below_drewN ?_ _ | refine Below.setCell ?_ (by first | omega | (simp; done) | (simp; omega)) _ | refine Below.alloc ?_ (by first | omega | (simp; done) | (simp; omega)) _ | refine below_step (by assumption) (by first | omega | (simp; done) | (simp; omega)) ?_)
    · rw [show makeR p q = err 6 by unfold makeR; rw [if_neg hq, if_neg h]]
      by_cases hp : -4611686018427387904 ≤ p ∧ p ≤ 4611686018427387904
      · have h3 : q < -4611686018427387904 ∨ 4611686018427387904 < q := by omega
        obtain ⟨h1, h2⟩ := hp
        clear h
        go_enter Tryd.func88, Tryd.ntmps88
        go_wp2_with fail
        refine (within_yes _ _ _ h1 h2 (by omega) (by omega)).mono ?_
        rintro e w1 ⟨rfl, rfl⟩
        go_wp2_with fail
        refine (within_no _ _ _ h3 (by omega) (by omega)).mono ?_
        rintro e w1 ⟨rfl, rfl⟩
        go_wp2
        refine bodyPost_ret (v := .tuple #[.agg #[.int .i64 (0), .int .i64 (0)], .int .i64 (6)]) (by simp [results, Tryd.results88, go_sem, *]) rfl ?_
        refine ⟨rfl, ?_⟩
        repeat (first | exact Below.refl _ _ | refine below_drewN ?_ _ | refine Below.setCell ?_ (by first | omega | (simp; done) | (simp; omega)) _ | refine Below.alloc ?_ (by first | omega | (simp; done) | (simp; omega)) _ | refine below_step (by assumption) (by first | omega | (simp; done) | (simp; omega)) ?_)
      · have h3 : p < -4611686018427387904 ∨ 4611686018427387904 < p := by omega
        clear h hp
        go_enter Tryd.func88, Tryd.ntmps88
        go_wp2_with fail
        refine (within_no _ _ _ h3 (by omega) (by omega)).mono ?_
        rintro e w1 ⟨rfl, rfl⟩
        go_wp2
        refine bodyPost_ret (v := .tuple #[.agg #[.int .i64 (0), .int .i64 (0)], .int .i64 (6)]) (by simp [results, Tryd.results88, go_sem, *]) rfl ?_
        refine ⟨rfl, ?_⟩
        repeat (first | exact Below.refl _ _ | refine below_drewN ?_ _ | refine Below.setCell ?_ (by first | omega | (simp; done) | (simp; omega)) _ | refine Below.alloc ?_ (by first | omega | (simp; done) | (simp; omega)) _ | refine below_step (by assumption) (by first | omega | (simp; done) | (simp; omega)) ?_)

set_option maxHeartbeats 400000 in
theorem neg_any (p q : Int) (w : World) :
    Calls Tryd.prog 62 #[.agg #[.int .i64 p, .int .i64 q]] w fun e w' => e = .returned (.tuple #[.agg #[.int .i64 (negR p q).P, .int .i64 (negR p q).Q], .int .i64 (negR p q).E]) ∧ Below w.heap.size w w' := by
  by_cases h1 : vld p q = true
  · rw [show negR p q = ⟨-p, q, 0⟩ from if_pos h1]
    obtain ⟨a1, a2, a3, a4, _⟩ := vld_iff.1 h1
    go_enter Tryd.func62, Tryd.ntmps62
    go_wp2_with (go_at_call 46; refine (valid_any _ _ _).mono ?_; rintro e w1 ⟨rfl, hb1⟩; obtain ⟨hc1, hf1⟩ := bcell hb1; have hz := hb1.size; (try simp at hz); have z0 : w.heap.size < w1.heap.size := (by omega); have z1 : w.heap.size + 1 < w1.heap.size := (by omega); clear hz)
    refine bodyPost_ret (v := .tuple #[.agg #[.int .i64 (-p), .int .i64 (q)], .int .i64 (0)]) (by simp [results, Tryd.results62, go_sem, *]) rfl ?_
    refine ⟨rfl, ?_⟩
    repeat (first | exact Below.refl _ _ | refine below_drewN ?_ _ | refine Below.setCell ?_ (by first | omega | (simp; done) | (simp; omega)) _ | refine Below.alloc ?_ (by first | omega | (simp; done) | (simp; omega)) _ | refine below_step (by assumption) (by first | omega | (simp; done) | (simp; omega)) ?_)
  · rw [show negR p q = err 2 from if_neg h1]
    have h3 : vld p q = false := by simpa using h1
    clear h1
    go_enter Tryd.func62, Tryd.ntmps62
    go_wp2_with (go_at_call 46; refine (valid_any _ _ _).mono ?_; rintro e w1 ⟨rfl, hb1⟩; obtain ⟨hc1, hf1⟩ := bcell hb1; have hz := hb1.size; (try simp at hz); have z0 : w.heap.size < w1.heap.size := (by omega); have z1 : w.heap.size + 1 < w1.heap.size := (by omega); clear hz)
    refine bodyPost_ret (v := .tuple #[.agg #[.int .i64 (0), .int .i64 (0)], .int .i64 (2)]) (by simp [results, Tryd.results62, go_sem, *]) rfl ?_
    refine ⟨rfl, ?_⟩
    repeat (first | exact Below.refl _ _ | refine below_drewN ?_ _ | refine Below.setCell ?_ (by first | omega | (simp; done) | (simp; omega)) _ | refine Below.alloc ?_ (by first | omega | (simp; done) | (simp; omega)) _ | refine below_step (by assumption) (by first | omega | (simp; done) | (simp; omega)) ?_)

theorem rorder_any (m n : Int) (w : World) :
    Calls Tryd.prog 55 #[.int .i64 m, .int .i64 n] w fun e w' => e = .returned (.int .i64 (cmp m n)) ∧ w = w' := by
  by_cases h1 : m < n
  · have e := Lib.hid (show cmp m n = -1 by unfold cmp; rw [if_pos h1])
    go_enter Tryd.func55, Tryd.ntmps55
    go_wp2
    go_ret
    exact ⟨ret_int e.out.symm, rfl⟩
  · by_cases h2 : n < m
    · have e := Lib.hid (show cmp m n = 1 by unfold cmp; rw [if_neg h1, if_pos h2])
      go_enter Tryd.func55, Tryd.ntmps55
      go_wp2
      go_ret
      exact ⟨ret_int e.out.symm, rfl⟩
    · have e := Lib.hid (show cmp m n = 0 by unfold cmp; rw [if_neg h1, if_neg h2])
      go_enter Tryd.func55, Tryd.ntmps55
      go_wp2
      go_ret
      exact ⟨ret_int e.out.symm, rfl⟩

end Go.Proofs.YtmnfebgkpcjjjaaDoor
