/- Contracts of layer 1: the other functions. -/
import Derived.Test.YtbdcmnhfmkefdaaGreatDoorRatC
import Derived.Test.YtbdcmnhfmkefdaaGreatDoorRatD
namespace Go.Proofs.YtbdcmnhfmkefdaaGreatDoor
open Go.RowKit M1

set_option maxHeartbeats 1000000 in
theorem make_any (p q : Int) (w : World) :
    Calls Tryz.prog 156 #[.int .i64 p, .int .i64 q] w fun e w' => e = .returned (.tuple #[.agg #[.int .i64 (makeR p q).P, .int .i64 (makeR p q).Q], .int .i64 (makeR p q).E]) ∧ Below w.heap.size w w' := by
  by_cases hq : q = 0
  · subst hq
    rw [show makeR p 0 = err 7 from if_pos rfl]
    go_enter Tryz.func156, Tryz.ntmps156
    go_wp2
    refine bodyPost_ret (v := .tuple #[.agg #[.int .i64 (0), .int .i64 (0)], .int .i64 (7)]) (by simp [results, Tryz.results156, go_sem, *]) rfl ?_
    refine ⟨rfl, ?_⟩
    repeat (first | exact Below.refl _ _ | refine below_drewN ?_ _ | refine Below.setCell ?_ (by first | omega | (simp; done) | (simp; omega)) _ | refine Below.alloc ?_ (by first | omega | (simp; done) | (simp; omega)) _ | refine below_step (by assumption) (by first | omega | (simp; done) | (simp; omega)) ?_)
  · have hq0 : (q == 0) = false := by simpa using hq
    by_cases h : -4611686018427387904 ≤ p ∧ p ≤ 4611686018427387904 ∧ -4611686018427387904 ≤ q ∧ q ≤ 4611686018427387904
    · rw [show makeR p q = out (rat p q) by unfold makeR; rw [if_neg hq, if_pos h]]
      obtain ⟨h1, h2, h3, h4⟩ := h
      go_enter Tryz.func156, Tryz.ntmps156
      go_wp2_with fail
      refine (within_yes _ _ _ h1 h2 (by omega) (by omega)).mono ?_
      rintro e w1 ⟨rfl, rfl⟩
      go_wp2_with fail
      refine (within_yes _ _ _ h3 h4 (by omega) (by omega)).mono ?_
      rintro e w1 ⟨rfl, rfl⟩
      go_wp2_with (go_at_call 167; refine (reduce_any _ _ _ hq (by omega) (by omega) (by omega) (by omega)).mono ?_; rintro e w1 ⟨rfl, hb1⟩; obtain ⟨hc1, hf1⟩ := bcell hb1; have hz := hb1.size; (try simp at hz); have z0 : w.heap.size < w1.heap.size := (by omega); clear hz)
      refine bodyPost_ret (v := .tuple #[.agg #[.int .i64 (oP (rat p q)), .int .i64 (oQ (rat p q))], .int .i64 (oE (rat p q))]) (by simp [results, Tryz.results156, go_sem, *]) rfl ?_
      refine ⟨rfl, ?_⟩
      repeat (first | exact Below.refl _ _ | refine below_drewN ?_ _ | refine Below.setCell ?_ (by first | omega | (simp; done) | (simp; omega)) _ | refine Below.alloc ?_ (by first | omega | (simp; done) | (simp; omega)) _ | refine below_step (by assumption) (by first | omega | (simp; done) | (simp; omega)) ?_)
    · rw [show makeR p q = err 6 by unfold makeR; rw [if_neg hq, if_neg h]]
      by_cases hp : -4611686018427387904 ≤ p ∧ p ≤ 4611686018427387904
      · have h3 : q < -4611686018427387904 ∨ 4611686018427387904 < q := by omega
        obtain ⟨h1, h2⟩ := hp
        clear h
        go_enter Tryz.func156, Tryz.ntmps156
        go_wp2_with fail
        refine (within_yes _ _ _ h1 h2 (by omega) (by omega)).mono ?_
        rintro e w1 ⟨rfl, rfl⟩
        go_wp2_with fail
        refine (within_no _ _ _ h3 (by omega) (by omega)).mono ?_
        rintro e w1 ⟨rfl, rfl⟩
        go_wp2
        refine bodyPost_ret (v := .tuple #[.agg #[.int .i64 (0), .int .i64 (0)], .int .i64 (6)]) (by simp [results, Tryz.results156, go_sem, *]) rfl ?_
        refine ⟨rfl, ?_⟩
        repeat (first | exact Below.refl _ _ | refine below_drewN ?_ _ | refine Below.setCell ?_ (by first | omega | (simp; done) | (simp; omega)) _ | refine Below.alloc ?_ (by first | omega | (simp; done) | (simp; omega)) _ | refine below_step (by assumption) (by first | omega | (simp; done) | (simp; omega)) ?_)
      · have h3 : p < -4611686018427387904 ∨ 4611686018427387904 < p := by omega
        clear h hp
        go_enter Tryz.func156, Tryz.ntmps156
        go_wp2_with fail
        refine (within_no _ _ _ h3 (by omega) (by omega)).mono ?_
        rintro e w1 ⟨rfl, rfl⟩
        go_wp2
        refine bodyPost_ret (v := .tuple #[.agg #[.int .i64 (0), .int .i64 (0)], .int .i64 (6)]) (by simp [results, Tryz.results156, go_sem, *]) rfl ?_
        refine ⟨rfl, ?_⟩
        repeat (first | exact Below.refl _ _ | refine below_drewN ?_ _ | refine Below.setCell ?_ (by first | omega | (simp; done) | (simp; omega)) _ | refine Below.alloc ?_ (by first | omega | (simp; done) | (simp; omega)) _ | refine below_step (by assumption) (by first | omega | (simp; done) | (simp; omega)) ?_)

set_option maxHeartbeats 400000 in
theorem neg_any (p q : Int) (w : World) :
    Calls Tryz.prog 128 #[.agg #[.int .i64 p, .int .i64 q]] w fun e w' => e = .returned (.tuple #[.agg #[.int .i64 (negR p q).P, .int .i64 (negR p q).Q], .int .i64 (negR p q).E]) ∧ Below w.heap.size w w' := by
  by_cases h1 : vld p q = true
  · rw [show negR p q = ⟨-p, q, 0⟩ from if_pos h1]
    obtain ⟨a1, a2, a3, a4, _⟩ := vld_iff.1 h1
    go_enter Tryz.func128, Tryz.ntmps128
    go_wp2_with (go_at_call 103; refine (valid_any _ _ _).mono ?_; rintro e w1 ⟨rfl, hb1⟩; obtain ⟨hc1, hf1⟩ := bcell hb1; have hz := hb1.size; (try simp at hz); have z0 : w.heap.size < w1.heap.size := (by omega); have z1 : w.heap.size + 1 < w1.heap.size := (by omega); clear hz)
    refine bodyPost_ret (v := .tuple #[.agg #[.int .i64 (-p), .int .i64 (q)], .int .i64 (0)]) (by simp [results, Tryz.results128, go_sem, *]) rfl ?_
    refine ⟨rfl, ?_⟩
    repeat (first | exact Below.refl _ _ | refine below_drewN ?_ _ | refine Below.setCell ?_ (by first | omega | (simp; done) | (simp; omega)) _ | refine Below.alloc ?_ (by first | omega | (simp; done) | (simp; omega)) _ | refine below_step (by assumption) (by first | omega | (simp; done) | (simp; omega)) ?_)
  · rw [show negR p q = err 2 from if_neg h1]
    have h3 : vld p q = false := by simpa using h1
    clear h1
    go_enter Tryz.func128, Tryz.ntmps128
    go_wp2_with (go_at_call 103; refine (valid_any _ _ _).mono ?_; rintro e w1 ⟨rfl, hb1⟩; obtain ⟨hc1, hf1⟩ := bcell hb1; have hz := hb1.size; (try simp at hz); have z0 : w.heap.size < w1.heap.size := (by omega); have z1 : w.heap.size + 1 < w1.heap.size := (by omega); clear hz)
    refine bodyPost_ret (v := .tuple #[.agg #[.int .i64 (0), .int .i64 (0)], .int .i64 (2)]) (by simp [results, Tryz.results128, go_sem, *]) rfl ?_
    refine ⟨rfl, ?_⟩
    repeat (first | exact Below.refl _ _ | refine below_drewN ?_ _ | refine Below.setCell ?_ (by first | omega | (simp; done) | (simp; omega)) _ | refine Below.alloc ?_ (by first | omega | (simp; done) | (simp; omega)) _ | refine below_step (by assumption) (by first | omega | (simp; done) | (simp; omega)) ?_)

set_option maxHeartbeats 1000000 in
theorem rmake_any (p q : Int) (w : World) :
    Calls Tryz.prog 118 #[.int .i64 p, .int .i64 q] w fun e w' => e = .returned (.tuple #[.agg #[.int .i64 (makeR p q).P, .int .i64 (makeR p q).Q], .int .i64 (makeR p q).E]) ∧ Below w.heap.size w w' := by
  by_cases hq : q = 0
  · subst hq
    rw [show makeR p 0 = err 7 from if_pos rfl]
    go_enter Tryz.func118, Tryz.ntmps118
    go_wp2
    refine bodyPost_ret (v := .tuple #[.agg #[.int .i64 (0), .int .i64 (0)], .int .i64 (7)]) (by simp [results, Tryz.results118, go_sem, *]) rfl ?_
    refine ⟨rfl, ?_⟩
    repeat (first | exact Below.refl _ _ | refine below_drewN ?_ _ | refine Below.setCell ?_ (by first | omega | (simp; done) | (simp; omega)) _ | refine Below.alloc ?_ (by first | omega | (simp; done) | (simp; omega)) _ | refine below_step (by assumption) (by first | omega | (simp; done) | (simp; omega)) ?_)
  · have hq0 : (q == 0) = false := by simpa using hq
    by_cases h : -4611686018427387904 ≤ p ∧ p ≤ 4611686018427387904 ∧ -4611686018427387904 ≤ q ∧ q ≤ 4611686018427387904
    · rw [show makeR p q = out (rat p q) by unfold makeR; rw [if_neg hq, if_pos h]]
      obtain ⟨h1, h2, h3, h4⟩ := h
      go_enter Tryz.func118, Tryz.ntmps118
      go_wp2_with (go_at_call 135; refine (rreduce_any _ _ _ hq (by omega) (by omega) (by omega) (by omega)).mono ?_; rintro e w1 ⟨rfl, hb1⟩; obtain ⟨hc1, hf1⟩ := bcell hb1; have hz := hb1.size; (try simp at hz); have z0 : w.heap.size < w1.heap.size := (by omega); clear hz)
      refine bodyPost_ret (v := .tuple #[.agg #[.int .i64 (oP (rat p q)), .int .i64 (oQ (rat p q))], .int .i64 (oE (rat p q))]) (by simp [results, Tryz.results118, go_sem, *]) rfl ?_
      refine ⟨rfl, ?_⟩
      repeat (first | exact Below.refl _ _ | refine below_drewN ?_ _ | refine Below.setCell ?_ (by first | omega | (simp; done) | (simp; omega)) _ | refine Below.alloc ?_ (by first | omega | (simp; done) | (simp; omega)) _ | refine below_step (by assumption) (by first | omega | (simp; done) | (simp; omega)) ?_)
    · rw [show makeR p q = err 6 by unfold makeR; rw [if_neg hq, if_neg h]]
      by_cases g1 : 4611686018427387904 < p
      · clear h
        go_enter Tryz.func118, Tryz.ntmps118
        go_wp2
        refine bodyPost_ret (v := .tuple #[.agg #[.int .i64 (0), .int .i64 (0)], .int .i64 (6)]) (by simp [results, Tryz.results118, go_sem, *]) rfl ?_
        refine ⟨rfl, ?_⟩
        repeat (first | exact Below.refl _ _ | refine below_drewN ?_ _ | refine Below.setCell ?_ (by first | omega | (simp; done) | (simp; omega)) _ | refine Below.alloc ?_ (by first | omega | (simp; done) | (simp; omega)) _ | refine below_step (by assumption) (by first | omega | (simp; done) | (simp; omega)) ?_)
      · by_cases g2 : p < -4611686018427387904
        · clear h
          go_enter Tryz.func118, Tryz.ntmps118
          go_wp2
          refine bodyPost_ret (v := .tuple #[.agg #[.int .i64 (0), .int .i64 (0)], .int .i64 (6)]) (by simp [results, Tryz.results118, go_sem, *]) rfl ?_
          refine ⟨rfl, ?_⟩
          repeat (first | exact Below.refl _ _ | refine below_drewN ?_ _ | refine Below.setCell ?_ (by first | omega | (simp; done) | (simp; omega)) _ | refine Below.alloc ?_ (by first | omega | (simp; done) | (simp; omega)) _ | refine below_step (by assumption) (by first | omega | (simp; done) | (simp; omega)) ?_)
        · by_cases g3 : 4611686018427387904 < q
          · clear h
            go_enter Tryz.func118, Tryz.ntmps118
            go_wp2
            refine bodyPost_ret (v := .tuple #[.agg #[.int .i64 (0), .int .i64 (0)], .int .i64 (6)]) (by simp [results, Tryz.results118, go_sem, *]) rfl ?_
            refine ⟨rfl, ?_⟩
            repeat (first | exact Below.refl _ _ | refine below_drewN ?_ _ | refine Below.setCell ?_ (by first | omega | (simp; done) | (simp; omega)) _ | refine Below.alloc ?_ (by first | omega | (simp; done) | (simp; omega)) _ | refine below_step (by assumption) (by first | omega | (simp; done) | (simp; omega)) ?_)
          · have g4 : q < -4611686018427387904 := by omega
            clear h
            go_enter Tryz.func118, Tryz.ntmps118
            go_wp2
            refine bodyPost_ret (v := .tuple #[.agg #[.int .i64 (0), .int .i64 (0)], .int .i64 (6)]) (by simp [results, Tryz.results118, go_sem, *]) rfl ?_
            refine ⟨rfl, ?_⟩
            repeat (first | exact Below.refl _ _ | refine below_drewN ?_ _ | refine Below.setCell ?_ (by first | omega | (simp; done) | (simp; omega)) _ | refine Below.alloc ?_ (by first | omega | (simp; done) | (simp; omega)) _ | refine below_step (by assumption) (by first | omega | (simp; done) | (simp; omega)) ?_)

end Go.Proofs.YtbdcmnhfmkefdaaGreatDoor
