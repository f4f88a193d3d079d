/- Contracts of layer 1: integers, order, remainders. -/
import Derived.Test.YtbdcmnhfmkefdaaGreatDoorRatE
import Derived.Deep.RegionWith
set_option linter.unusedSimpArgs false
namespace Go.Proofs.YtbdcmnhfmkefdaaGreatDoor
open Go.RowKit M1
theorem fmod_bd (x y : Int) (h : y ≠ 0) : (x.fmod y).natAbs ≤ y.natAbs := by
  by_cases h2 : 0 < y
  · have := fm_pos x y h2; omega
  · have := fm_neg x y (by omega); omega
theorem tmod_neg (x y : Int) (h : x ≤ 0) : x.tmod y ≤ 0 := by
  have := Int.tmod_nonneg (a := -x) y (by omega)
  rw [Int.neg_tmod] at this; omega
theorem tmod_bd (x y : Int) : (x.tmod y).natAbs ≤ x.natAbs := by rw [Int.natAbs_tmod]; exact Nat.mod_le _ _

set_option maxHeartbeats 400000 in
theorem whole_any (p q : Int) (w : World) :
    Calls Tryz.prog 108 #[.agg #[.int .i64 p, .int .i64 q]] w fun e w' => e = .returned (.tuple #[.int .i64 (whP p q), .bool (whB p q)]) ∧ Below w.heap.size w w' := by
  by_cases h1 : vld p q = true
  · by_cases h2 : q = 1
    · subst h2
      rw [show whP p 1 = p by unfold whP whB; simp [h1], show whB p 1 = true by unfold whB; simp [h1]]
      go_enter Tryz.func108, Tryz.ntmps108
      go_wp2_with (go_at_call 103; refine (valid_any _ _ _).mono ?_; rintro e w1 ⟨rfl, hb1⟩; obtain ⟨hc1, hf1⟩ := bcell hb1; have hz := hb1.size; (try simp at hz); have z0 : w.heap.size < w1.heap.size := (by omega); clear hz)
      go_ret2
      refine ⟨rfl, ?_⟩
      repeat (first | exact Below.refl _ _ | refine below_drewN ?_ _ | refine Below.setCell ?_ (by first | omega | (simp; done) | (simp; omega)) _ | refine Below.alloc ?_ (by first | omega | (simp; done) | (simp; omega)) _ | refine below_step (by assumption) (by first | omega | (simp; done) | (simp; omega)) ?_)
    · rw [show whP p q = 0 by unfold whP whB; simp [h2], show whB p q = false by unfold whB; simp [h2]]
      have h3 : (q == 1) = false := by simpa using h2
      have h4 : (q != 1) = true := by simpa using h2
      clear h2
      go_enter Tryz.func108, Tryz.ntmps108
      go_wp2_with (go_at_call 103; refine (valid_any _ _ _).mono ?_; rintro e w1 ⟨rfl, hb1⟩; obtain ⟨hc1, hf1⟩ := bcell hb1; have hz := hb1.size; (try simp at hz); have z0 : w.heap.size < w1.heap.size := (by omega); clear hz)
      go_ret2
      refine ⟨rfl, ?_⟩
      repeat (first | exact Below.refl _ _ | refine below_drewN ?_ _ | refine Below.setCell ?_ (by first | omega | (simp; done) | (simp; omega)) _ | refine Below.alloc ?_ (by first | omega | (simp; done) | (simp; omega)) _ | refine below_step (by assumption) (by first | omega | (simp; done) | (simp; omega)) ?_)
  · rw [show whP p q = 0 by unfold whP whB; simp [h1], show whB p q = false by unfold whB; simp [h1]]
    have h3 : vld p q = false := by simpa using h1
    clear h1
    go_enter Tryz.func108, Tryz.ntmps108
    go_wp2_with (go_at_call 103; refine (valid_any _ _ _).mono ?_; rintro e w1 ⟨rfl, hb1⟩; obtain ⟨hc1, hf1⟩ := bcell hb1; have hz := hb1.size; (try simp at hz); have z0 : w.heap.size < w1.heap.size := (by omega); clear hz)
    go_ret2
    refine ⟨rfl, ?_⟩
    repeat (first | exact Below.refl _ _ | refine below_drewN ?_ _ | refine Below.setCell ?_ (by first | omega | (simp; done) | (simp; omega)) _ | refine Below.alloc ?_ (by first | omega | (simp; done) | (simp; omega)) _ | refine below_step (by assumption) (by first | omega | (simp; done) | (simp; omega)) ?_)

end Go.Proofs.YtbdcmnhfmkefdaaGreatDoor
