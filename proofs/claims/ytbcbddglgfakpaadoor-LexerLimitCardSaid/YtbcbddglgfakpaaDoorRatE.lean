/- Contracts of layer 1: the other functions. -/
import Derived.Test.YtbcbddglgfakpaaDoorRatC
import Derived.Test.YtbcbddglgfakpaaDoorRatD
namespace Go.Proofs.YtbcbddglgfakpaaDoor
open Go.RowKit M1

set_option maxHeartbeats 1000000 in
theorem make_any (p q : Int) (w : World) :
    Calls Tryd.prog 73 #[.int .i64 p, .int .i64 q] w fun e w' => e = .returned (.tuple #[.agg #[.int .i64 (makeR p q).P, .int .i64 (makeR p q).Q], .int .i64 (makeR p q).E]) ∧ Below w.heap.size w w' := by
  by_cases hq : q = 0
  · subst hq
    rw [show makeR p 0 = err 7 from if_pos rfl]
    go_enter Tryd.func73, Tryd.ntmps73
    go_wp2
    refine bodyPost_ret (v := .tuple #[.agg #[.int .i64 (0), .int .i64 (0)], .int .i64 (7)]) (by simp [results, Tryd.results73, go_sem, *]) rfl ?_
    refine ⟨rfl, ?_⟩
    repeat (first | exact Below.refl _ _ | refine below_drewN ?_ _ | refine Below.setCell ?_ (by first | omega | (simp; done) | (simp; omega)) _ | refine Below.alloc ?_ (by first | omega | (simp; done) | (simp; omega)) _ | refine below_step (by assumption) (by first | omega | (simp; done) | (simp; omega)) ?_)
  · have hq0 : (q == 0) = false := by simpa using hq
    by_cases h : -4611686018427387904 ≤ p ∧ p ≤ 4611686018427387904 ∧ -4611686018427387904 ≤ q ∧ q ≤ 4611686018427387904
    · rw [show makeR p q = out (rat p q) by unfold makeR; rw [if_neg hq, if_pos h]]
      obtain ⟨h1, h2, h3, h4⟩ := h
      go_enter Tryd.func73, Tryd.ntmps73
      go_wp2_with fail
      refine (within_yes _ _ _ h1 h2 (by omega) (by omega)).mono ?_
      rintro e w1 ⟨rfl, rfl⟩
      go_wp2_with fail
      refine (within_yes _ _ _ h3 h4 (by omega) (by omega)).mono ?_
      rintro e w1 ⟨rfl, rfl⟩
      go_wp2_with (go_at_call 78; refine (reduce_any _ _ _ hq (by omega) (by omega) (by omega) (by omega)).mono ?_; rintro e w1 ⟨rfl, hb1⟩; obtain ⟨hc1, hf1⟩ := bcell hb1; have hz := hb1.size; (try simp at hz); have z0 : w.heap.size < w1.heap.size := (by omega); clear hz)
      refine bodyPost_ret (v := .tuple #[.agg #[.int .i64 (oP (rat p q)), .int .i64 (oQ (rat p q))], .int .i64 (oE (rat p q))]) (by simp [results, Tryd.results73, go_sem, *]) rfl ?_
      refine ⟨rfl, ?_⟩
      repeat (first | exact Below.refl _ _ | refine below_drewN ?_ _ | refine Below.setCell ?_ (by first | omega | (simp; done) | (simp; omega)) _ | refine Below.alloc ?_ (by first | omega | (simp; done) | (simp; omega)) _ | refine below_step (by assumption) (by first | omega | (simp; done) | (simp; omega)) ?_)
    · rw [show makeR p q = err 6 by unfold makeR; rw [if_neg hq, if_neg h]]
      by_cases hp : -4611686018427387904 ≤ p ∧ p ≤ 4611686018427387904
      · have h3 : q < -4611686018427387904 ∨ 4611686018427387904 < q := by omega
        obtain ⟨h1, h2⟩ := hp
        clear h
        go_enter Tryd.func73, Tryd.ntmps73
        go_wp2_with fail
        refine (within_yes _ _ _ h1 h2 (by omega) (by omega)).mono ?_
        rintro e w1 ⟨rfl, rfl⟩
        go_wp2_with fail
        refine (within_no _ _ _ h3 (by omega) (by omega)).mono ?_
        rintro e w1 ⟨rfl, rfl⟩
        go_wp2
        refine bodyPost_ret (v := .tuple #[.agg #[.int .i64 (0), .int .i64 (0)], .int .i64 (6)]) (by simp [results, Tryd.results73, go_sem, *]) rfl ?_
        refine ⟨rfl, ?_⟩
        repeat (first | exact Below.refl _ _ | refine below_drewN ?_ _ | refine Below.setCell ?_ (by first | omega | (simp; done) | (simp; omega)) _ | refine Below.alloc ?_ (by first | omega | (simp; done) | (simp; omega)) _ | refine below_step (by assumption) (by first | omega | (simp; done) | (simp; omega)) ?_)
      · have h3 : p < -4611686018427387904 ∨ 4611686018427387904 < p := by omega
        clear h hp
        go_enter Tryd.func73, Tryd.ntmps73
        go_wp2_with fail
        refine (within_no _ _ _ h3 (by omega) (by omega)).mono ?_
        rintro e w1 ⟨rfl, rfl⟩
        go_wp2
        refine bodyPost_ret (v := .tuple #[.agg #[.int .i64 (0), .int .i64 (0)], .int .i64 (6)]) (by simp [results, Tryd.results73, go_sem, *]) rfl ?_
        refine ⟨rfl, ?_⟩
        repeat (first | exact Below.refl _ _ | refine below_drewN ?_ _ | refine Below.setCell ?_ (by first | omega | (simp; done) | (simp; omega)) _ | refine Below.alloc ?_ (by first | omega | (simp; done) | (simp; omega)) _ | refine below_step (by assumption) (by first | omega | (simp; done) | (simp; omega)) ?_)

end Go.Proofs.YtbcbddglgfakpaaDoor
