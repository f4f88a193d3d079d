/- Contracts of layer 1: integers, order, remainders. -/
import Derived.Test.YtmnfebgkpcjjjaaDoorRatE
import Derived.Deep.RegionWith
set_option linter.unusedSimpArgs false
namespace Go.Proofs.YtmnfebgkpcjjjaaDoor
open Go.RowKit M1
theorem fmod_bd (x y : Int) (h : y ≠ 0) : (x.fmod y).natAbs ≤ y.natAbs := by
  by_cases h2 : 0 < y
  · have := fm_pos x y h2; omega
  · have := fm_neg x y (by omega); omega
theorem tmod_neg (x y : Int) (h : x ≤ 0) : x.tmod y ≤ 0 := by
  have := Int.tmod_nonneg (a := -x) y (by omega)
  rw [Int.neg_tmod] at this; omega
theorem tmod_bd (x y : Int) : (x.tmod y).natAbs ≤ x.natAbs := by rw [Int.natAbs_tmod]; exact Nat.mod_le _ _

set_option maxHeartbeats 400000 in
theorem cmp_any (p q p' q' : Int) (w : World) :
    Calls Tryd.prog 43 #[.agg #[.int .i64 p, .int .i64 q], .agg #[.int .i64 p', .int .i64 q']] w fun e w' => e = .returned (.int .i64 (ratCmp p q p' q')) ∧ Below w.heap.size w w' := by
  by_cases h1 : vld p q = true
  · by_cases h2 : vld p' q' = true
    · rw [show ratCmp p q p' q' = cmp (p * q') (p' * q) by unfold ratCmp; rw [if_pos ⟨h1, h2⟩]]
      obtain ⟨a1, a2, a3, a4, _⟩ := vld_iff.1 h1
      obtain ⟨b1, b2, b3, b4, _⟩ := vld_iff.1 h2
      have m1 := mul_in (a := p) (b := q') (by omega) (by omega) (by omega) (by omega)
      obtain ⟨m11, m12⟩ := m1
      have m2 := mul_in (a := p') (b := q) (by omega) (by omega) (by omega) (by omega)
      obtain ⟨m21, m22⟩ := m2
      go_enter Tryd.func43, Tryd.ntmps43
      go_wp2_with (first | (go_at_call 46; refine (valid_any _ _ _).mono ?_; rintro e w1 ⟨rfl, hb1⟩; obtain ⟨hc1, hf1⟩ := bcell hb1; have hz := hb1.size; (try simp at hz); have z0 : w.heap.size < w1.heap.size := (by omega); have z1 : w.heap.size + 1 < w1.heap.size := (by omega); clear hz) | (go_at_call 54; refine (order_any _ _ _).mono ?_; rintro e w1 ⟨rfl, rfl⟩))
      go_ret
      refine ⟨rfl, ?_⟩
      repeat (first | exact Below.refl _ _ | refine below_drewN ?_ _ | refine Below.setCell ?_ (by first | omega | (simp; done) | (simp; omega)) _ | refine Below.alloc ?_ (by first | omega | (simp; done) | (simp; omega)) _ | refine below_step (by assumption) (by first | omega | (simp; done) | (simp; omega)) ?_)
    · have hn : ¬ (vld p q = true ∧ vld p' q' = true) := fun h => h2 h.2
      have h3 : vld p' q' = false := by simpa using h2
      clear h2
      by_cases h4 : p = p'
      · rw [show ratCmp p q p' q' = cmp q q' by unfold ratCmp; rw [if_neg hn, if_pos h4]]
        clear hn
        subst h4
        go_enter Tryd.func43, Tryd.ntmps43
        go_wp2_with (first | (go_at_call 46; refine (valid_any _ _ _).mono ?_; rintro e w1 ⟨rfl, hb1⟩; obtain ⟨hc1, hf1⟩ := bcell hb1; have hz := hb1.size; (try simp at hz); have z0 : w.heap.size < w1.heap.size := (by omega); have z1 : w.heap.size + 1 < w1.heap.size := (by omega); clear hz) | (go_at_call 54; refine (order_any _ _ _).mono ?_; rintro e w1 ⟨rfl, rfl⟩))
        go_ret
        refine ⟨rfl, ?_⟩
        repeat (first | exact Below.refl _ _ | refine below_drewN ?_ _ | refine Below.setCell ?_ (by first | omega | (simp; done) | (simp; omega)) _ | refine Below.alloc ?_ (by first | omega | (simp; done) | (simp; omega)) _ | refine below_step (by assumption) (by first | omega | (simp; done) | (simp; omega)) ?_)
      · rw [show ratCmp p q p' q' = cmp p p' by unfold ratCmp; rw [if_neg hn, if_neg h4]]
        have h5 : (p != p') = true := by simpa using h4
        clear hn h4
        go_enter Tryd.func43, Tryd.ntmps43
        go_wp2_with (first | (go_at_call 46; refine (valid_any _ _ _).mono ?_; rintro e w1 ⟨rfl, hb1⟩; obtain ⟨hc1, hf1⟩ := bcell hb1; have hz := hb1.size; (try simp at hz); have z0 : w.heap.size < w1.heap.size := (by omega); have z1 : w.heap.size + 1 < w1.heap.size := (by omega); clear hz) | (go_at_call 54; refine (order_any _ _ _).mono ?_; rintro e w1 ⟨rfl, rfl⟩))
        go_ret
        refine ⟨rfl, ?_⟩
        repeat (first | exact Below.refl _ _ | refine below_drewN ?_ _ | refine Below.setCell ?_ (by first | omega | (simp; done) | (simp; omega)) _ | refine Below.alloc ?_ (by first | omega | (simp; done) | (simp; omega)) _ | refine below_step (by assumption) (by first | omega | (simp; done) | (simp; omega)) ?_)
  · have hn : ¬ (vld p q = true ∧ vld p' q' = true) := fun h => h1 h.1
    have h3 : vld p q = false := by simpa using h1
    clear h1
    by_cases h4 : p = p'
    · rw [show ratCmp p q p' q' = cmp q q' by unfold ratCmp; rw [if_neg hn, if_pos h4]]
      clear hn
      subst h4
      go_enter Tryd.func43, Tryd.ntmps43
      go_wp2_with (first | (go_at_call 46; refine (valid_any _ _ _).mono ?_; rintro e w1 ⟨rfl, hb1⟩; obtain ⟨hc1, hf1⟩ := bcell hb1; have hz := hb1.size; (try simp at hz); have z0 : w.heap.size < w1.heap.size := (by omega); have z1 : w.heap.size + 1 < w1.heap.size := (by omega); clear hz) | (go_at_call 54; refine (order_any _ _ _).mono ?_; rintro e w1 ⟨rfl, rfl⟩))
      go_ret
      refine ⟨rfl, ?_⟩
      repeat (first | exact Below.refl _ _ | refine below_drewN ?_ _ | refine Below.setCell ?_ (by first | omega | (simp; done) | (simp; omega)) _ | refine Below.alloc ?_ (by first | omega | (simp; done) | (simp; omega)) _ | refine below_step (by assumption) (by first | omega | (simp; done) | (simp; omega)) ?_)
    · rw [show ratCmp p q p' q' = cmp p p' by unfold ratCmp; rw [if_neg hn, if_neg h4]]
      have h5 : (p != p') = true := by simpa using h4
      clear hn h4
      go_enter Tryd.func43, Tryd.ntmps43
      go_wp2_with (first | (go_at_call 46; refine (valid_any _ _ _).mono ?_; rintro e w1 ⟨rfl, hb1⟩; obtain ⟨hc1, hf1⟩ := bcell hb1; have hz := hb1.size; (try simp at hz); have z0 : w.heap.size < w1.heap.size := (by omega); have z1 : w.heap.size + 1 < w1.heap.size := (by omega); clear hz) | (go_at_call 54; refine (order_any _ _ _).mono ?_; rintro e w1 ⟨rfl, rfl⟩))
      go_ret
      refine ⟨rfl, ?_⟩
      repeat (first | exact Below.refl _ _ | refine below_drewN ?_ _ | refine Below.setCell ?_ (by first | omega | (simp; done) | (simp; omega)) _ | refine Below.alloc ?_ (by first | omega | (simp; done) | (simp; omega)) _ | refine below_step (by assumption) (by first | omega | (simp; done) | (simp; omega)) ?_)

set_option maxHeartbeats 400000 in
theorem rcmp_any (p q p' q' : Int) (w : World) :
    Calls Tryd.prog 44 #[.agg #[.int .i64 p, .int .i64 q], .agg #[.int .i64 p', .int .i64 q']] w fun e w' => e = .returned (.int .i64 (ratCmp p q p' q')) ∧ Below w.heap.size w w' := by
  by_cases h1 : vld p q = true
  · by_cases h2 : vld p' q' = true
    · rw [show ratCmp p q p' q' = cmp (p * q') (p' * q) by unfold ratCmp; rw [if_pos ⟨h1, h2⟩]]
      obtain ⟨a1, a2, a3, a4, _⟩ := vld_iff.1 h1
      obtain ⟨b1, b2, b3, b4, _⟩ := vld_iff.1 h2
      have m1 := mul_in (a := p) (b := q') (by omega) (by omega) (by omega) (by omega)
      obtain ⟨m11, m12⟩ := m1
      have m2 := mul_in (a := p') (b := q) (by omega) (by omega) (by omega) (by omega)
      obtain ⟨m21, m22⟩ := m2
      go_enter Tryd.func44, Tryd.ntmps44
      go_wp2_with (first | (go_at_call 31; refine (rvalid_any _ _ _).mono ?_; rintro e w1 ⟨rfl, hb1⟩; obtain ⟨hc1, hf1⟩ := bcell hb1; have hz := hb1.size; (try simp at hz); have z0 : w.heap.size < w1.heap.size := (by omega); have z1 : w.heap.size + 1 < w1.heap.size := (by omega); clear hz) | (go_at_call 55; refine (rorder_any _ _ _).mono ?_; rintro e w1 ⟨rfl, rfl⟩))
      go_ret
      refine ⟨rfl, ?_⟩
      repeat (first | exact Below.refl _ _ | refine below_drewN ?_ _ | refine Below.setCell ?_ (by first | omega | (simp; done) | (simp; omega)) _ | refine Below.alloc ?_ (by first | omega | (simp; done) | (simp; omega)) _ | refine below_step (by assumption) (by first | omega | (simp; done) | (simp; omega)) ?_)
    · have hn : ¬ (vld p q = true ∧ vld p' q' = true) := fun h => h2 h.2
      have h3 : vld p' q' = false := by simpa using h2
      clear h2
      by_cases h4 : p = p'
      · rw [show ratCmp p q p' q' = cmp q q' by unfold ratCmp; rw [if_neg hn, if_pos h4]]
        clear hn
        subst h4
        go_enter Tryd.func44, Tryd.ntmps44
        go_wp2_with (first | (go_at_call 31; refine (rvalid_any _ _ _).mono ?_; rintro e w1 ⟨rfl, hb1⟩; obtain ⟨hc1, hf1⟩ := bcell hb1; have hz := hb1.size; (try simp at hz); have z0 : w.heap.size < w1.heap.size := (by omega); have z1 : w.heap.size + 1 < w1.heap.size := (by omega); clear hz) | (go_at_call 55; refine (rorder_any _ _ _).mono ?_; rintro e w1 ⟨rfl, rfl⟩))
        go_ret
        refine ⟨rfl, ?_⟩
        repeat (first | exact Below.refl _ _ | refine below_drewN ?_ _ | refine Below.setCell ?_ (by first | omega | (simp; done) | (simp; omega)) _ | refine Below.alloc ?_ (by first | omega | (simp; done) | (simp; omega)) _ | refine below_step (by assumption) (by first | omega | (simp; done) | (simp; omega)) ?_)
      · rw [show ratCmp p q p' q' = cmp p p' by unfold ratCmp; rw [if_neg hn, if_neg h4]]
        have h5 : (p != p') = true := by simpa using h4
        clear hn h4
        go_enter Tryd.func44, Tryd.ntmps44
        go_wp2_with (first | (go_at_call 31; refine (rvalid_any _ _ _).mono ?_; rintro e w1 ⟨rfl, hb1⟩; obtain ⟨hc1, hf1⟩ := bcell hb1; have hz := hb1.size; (try simp at hz); have z0 : w.heap.size < w1.heap.size := (by omega); have z1 : w.heap.size + 1 < w1.heap.size := (by omega); clear hz) | (go_at_call 55; refine (rorder_any _ _ _).mono ?_; rintro e w1 ⟨rfl, rfl⟩))
        go_ret
        refine ⟨rfl, ?_⟩
        repeat (first | exact Below.refl _ _ | refine below_drewN ?_ _ | refine Below.setCell ?_ (by first | omega | (simp; done) | (simp; omega)) _ | refine Below.alloc ?_ (by first | omega | (simp; done) | (simp; omega)) _ | refine below_step (by assumption) (by first | omega | (simp; done) | (simp; omega)) ?_)
  · have hn : ¬ (vld p q = true ∧ vld p' q' = true) := fun h => h1 h.1
    have h3 : vld p q = false := by simpa using h1
    clear h1
    by_cases h4 : p = p'
    · rw [show ratCmp p q p' q' = cmp q q' by unfold ratCmp; rw [if_neg hn, if_pos h4]]
      clear hn
      subst h4
      go_enter Tryd.func44, Tryd.ntmps44
      go_wp2_with (first | (go_at_call 31; refine (rvalid_any _ _ _).mono ?_; rintro e w1 ⟨rfl, hb1⟩; obtain ⟨hc1, hf1⟩ := bcell hb1; have hz := hb1.size; (try simp at hz); have z0 : w.heap.size < w1.heap.size := (by omega); have z1 : w.heap.size + 1 < w1.heap.size := (by omega); clear hz) | (go_at_call 55; refine (rorder_any _ _ _).mono ?_; rintro e w1 ⟨rfl, rfl⟩))
      go_ret
      refine ⟨rfl, ?_⟩
      repeat (first | exact Below.refl _ _ | refine below_drewN ?_ _ | refine Below.setCell ?_ (by first | omega | (simp; done) | (simp; omega)) _ | refine Below.alloc ?_ (by first | omega | (simp; done) | (simp; omega)) _ | refine below_step (by assumption) (by first | omega | (simp; done) | (simp; omega)) ?_)
    · rw [show ratCmp p q p' q' = cmp p p' by unfold ratCmp; rw [if_neg hn, if_neg h4]]
      have h5 : (p != p') = true := by simpa using h4
      clear hn h4
      go_enter Tryd.func44, Tryd.ntmps44
      go_wp2_with (first | (go_at_call 31; refine (rvalid_any _ _ _).mono ?_; rintro e w1 ⟨rfl, hb1⟩; obtain ⟨hc1, hf1⟩ := bcell hb1; have hz := hb1.size; (try simp at hz); have z0 : w.heap.size < w1.heap.size := (by omega); have z1 : w.heap.size + 1 < w1.heap.size := (by omega); clear hz) | (go_at_call 55; refine (rorder_any _ _ _).mono ?_; rintro e w1 ⟨rfl, rfl⟩))
      go_ret
      refine ⟨rfl, ?_⟩
      repeat (first | exact Below.refl _ _ | refine below_drewN ?_ _ | refine Below.setCell ?_ (by first | omega | (simp; done) | (simp; omega)) _ | refine Below.alloc ?_ (by first | omega | (simp; done) | (simp; omega)) _ | refine below_step (by assumption) (by first | omega | (simp; done) | (simp; omega)) ?_)

end Go.Proofs.YtmnfebgkpcjjjaaDoor
