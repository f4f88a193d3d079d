/- Contracts of layer 1: integers, order, remainders. -/
import Derived.Test.YtpoljkgfaceniaaRatE
import Derived.Deep.RegionWith
set_option linter.unusedSimpArgs false
namespace Go.Proofs.Ytpoljkgfaceniaa
open Go.RowKit M1
theorem fmod_bd (x y : Int) (h : y ≠ 0) : (x.fmod y).natAbs ≤ y.natAbs := by
  by_cases h2 : 0 < y
  · have := fm_pos x y h2; omega
  · have := fm_neg x y (by omega); omega
theorem tmod_neg (x y : Int) (h : x ≤ 0) : x.tmod y ≤ 0 := by
  have := Int.tmod_nonneg (a := -x) y (by omega)
  rw [Int.neg_tmod] at this; omega
theorem tmod_bd (x y : Int) : (x.tmod y).natAbs ≤ x.natAbs := by rw [Int.natAbs_tmod]; exact Nat.mod_le _ _

set_option maxHeartbeats 400000 in
theorem whole_any (p q : Int) (w : World) :
    Calls Try.prog 19 #[.agg #[.int .i64 p, .int .i64 q]] w fun e w' => e = .returned (.tuple #[.int .i64 (whP p q), .bool (whB p q)]) ∧ Below w.heap.size w w' := by
  by_cases h1 : vld p q = true
  · by_cases h2 : q = 1
    · subst h2
      rw [show whP p 1 = p by unfold whP whB; simp [h1], show whB p 1 = true by unfold whB; simp [h1]]
      go_enter Try.func19, Try.ntmps19
      go_wp2_with (go_at_call 23; refine (valid_any _ _ _).mono ?_; rintro e w1 ⟨rfl, hb1⟩; obtain ⟨hc1, hf1⟩ := bcell hb1; have hz := hb1.size; (try simp at hz); have z0 : w.heap.size < w1.heap.size := (by omega); clear hz)
      go_ret2
      refine ⟨rfl, ?_⟩
      repeat (first | exact Below.refl _ _ | refine below_drewN ?_ _ | refine Below.setCell ?_ (by first | omega | (simp; done) | (simp; omega)) _ | refine Below.alloc ?_ (by first | omega | (simp; done) | (simp; omega)) _ | refine below_step (by assumption) (by first | omega | (simp; done) | (simp; omega)) ?_)
    · rw [show whP p q = 0 by unfold whP whB; simp [h2], show whB p q = false by unfold whB; simp [h2]]
      have h3 : (q == 1) = false := by simpa using h2
      have h4 : (q != 1) = true := by simpa using h2
      clear h2
      go_enter Try.func19, Try.ntmps19
      go_wp2_with (go_at_call 23; refine (valid_any _ _ _).mono ?_; rintro e w1 ⟨rfl, hb1⟩; obtain ⟨hc1, hf1⟩ := bcell hb1; have hz := hb1.size; (try simp at hz); have z0 : w.heap.size < w1.heap.size := (by omega); clear hz)
      go_ret2
      refine ⟨rfl, ?_⟩
      repeat (first | exact Below.refl _ _ | refine below_drewN ?_ _ | refine Below.setCell ?_ (by first | omega | (simp; done) | (simp; omega)) _ | refine Below.alloc ?_ (by first | omega | (simp; done) | (simp; omega)) _ | refine below_step (by assumption) (by first | omega | (simp; done) | (simp; omega)) ?_)
  · rw [show whP p q = 0 by unfold whP whB; simp [h1], show whB p q = false by unfold whB; simp [h1]]
    have h3 : vld p q = false := by simpa using h1
    clear h1
    go_enter Try.func19, Try.ntmps19
    go_wp2_with (go_at_call 23; refine (valid_any _ _ _).mono ?_; rintro e w1 ⟨rfl, hb1⟩; obtain ⟨hc1, hf1⟩ := bcell hb1; have hz := hb1.size; (try simp at hz); have z0 : w.heap.size < w1.heap.size := (by omega); clear hz)
    go_ret2
    refine ⟨rfl, ?_⟩
    repeat (first | exact Below.refl _ _ | refine below_drewN ?_ _ | refine Below.setCell ?_ (by first | omega | (simp; done) | (simp; omega)) _ | refine Below.alloc ?_ (by first | omega | (simp; done) | (simp; omega)) _ | refine below_step (by assumption) (by first | omega | (simp; done) | (simp; omega)) ?_)

set_option maxHeartbeats 400000 in
theorem cmp_any (p q p' q' : Int) (w : World) :
    Calls Try.prog 43 #[.agg #[.int .i64 p, .int .i64 q], .agg #[.int .i64 p', .int .i64 q']] w fun e w' => e = .returned (.int .i64 (ratCmp p q p' q')) ∧ Below w.heap.size w w' := by
  by_cases h1 : vld p q = true
  · by_cases h2 : vld p' q' = true
    · rw [show ratCmp p q p' q' = cmp (p * q') (p' * q) by unfold ratCmp; rw [if_pos ⟨h1, h2⟩]]
      obtain ⟨a1, a2, a3, a4, _⟩ := vld_iff.1 h1
      obtain ⟨b1, b2, b3, b4, _⟩ := vld_iff.1 h2
      have m1 := mul_in (a := p) (b := q') (by omega) (by omega) (by omega) (by omega)
      obtain ⟨m11, m12⟩ := m1
      have m2 := mul_in (a := p') (b := q) (by omega) (by omega) (by omega) (by omega)
      obtain ⟨m21, m22⟩ := m2
      go_enter Try.func43, Try.ntmps43
      go_wp2_with (first | (go_at_call 23; refine (valid_any _ _ _).mono ?_; rintro e w1 ⟨rfl, hb1⟩; obtain ⟨hc1, hf1⟩ := bcell hb1; have hz := hb1.size; (try simp at hz); have z0 : w.heap.size < w1.heap.size := (by omega); have z1 : w.heap.size + 1 < w1.heap.size := (by omega); clear hz) | (go_at_call 61; refine (order_any _ _ _).mono ?_; rintro e w1 ⟨rfl, rfl⟩))
      go_ret
      refine ⟨rfl, ?_⟩
      repeat (first | exact Below.refl _ _ | refine below_drewN ?_ _ | refine Below.setCell ?_ (by first | omega | (simp; done) | (simp; omega)) _ | refine Below.alloc ?_ (by first | omega | (simp; done) | (simp; omega)) _ | refine below_step (by assumption) (by first | omega | (simp; done) | (simp; omega)) ?_)
    · have hn : ¬ (vld p q = true ∧ vld p' q' = true) := fun h => h2 h.2
      have h3 : vld p' q' = false := by simpa using h2
      clear h2
      by_cases h4 : p = p'
      · rw [show ratCmp p q p' q' = cmp q q' by unfold ratCmp; rw [if_neg hn, if_pos h4]]
        clear hn
        subst h4
        go_enter Try.func43, Try.ntmps43
        go_wp2_with (first | (go_at_call 23; refine (valid_any _ _ _).mono ?_; rintro e w1 ⟨rfl, hb1⟩; obtain ⟨hc1, hf1⟩ := bcell hb1; have hz := hb1.size; (try simp at hz); have z0 : w.heap.size < w1.heap.size := (by omega); have z1 : w.heap.size + 1 < w1.heap.size := (by omega); clear hz) | (go_at_call 61; refine (order_any _ _ _).mono ?_; rintro e w1 ⟨rfl, rfl⟩))
        go_ret
        refine ⟨rfl, ?_⟩
        repeat (first | exact Below.refl _ _ | refine below_drewN ?_ _ | refine Below.setCell ?_ (by first | omega | (simp; done) | (simp; omega)) _ | refine Below.alloc ?_ (by first | omega | (simp; done) | (simp; omega)) _ | refine below_step (by assumption) (by first | omega | (simp; done) | (simp; omega)) ?_)
      · rw [show ratCmp p q p' q' = cmp p p' by unfold ratCmp; rw [if_neg hn, if_neg h4]]
        have h5 : (p != p') = true := by simpa using h4
        clear hn h4
        go_enter Try.func43, Try.ntmps43
        go_wp2_with (first | (go_at_call 23; refine (valid_any _ _ _).mono ?_; rintro e w1 ⟨rfl, hb1⟩; obtain ⟨hc1, hf1⟩ := bcell hb1; have hz := hb1.size; (try simp at hz); have z0 : w.heap.size < w1.heap.size := (by omega); have z1 : w.heap.size + 1 < w1.heap.size := (by omega); clear hz) | (go_at_call 61; refine (order_any _ _ _).mono ?_; rintro e w1 ⟨rfl, rfl⟩))
        go_ret
        refine ⟨rfl, ?_⟩
        repeat (first | exact Below.refl _ _ | refine below_drewN ?_ _ | refine Below.setCell ?_ (by first | omega | (simp; done) | (simp; omega)) _ | refine Below.alloc ?_ (by first | omega | (simp; done) | (simp; omega)) _ | refine below_step (by assumption) (by first | omega | (simp; done) | (simp; omega)) ?_)
  · have hn : ¬ (vld p q = true ∧ vld p' q' = true) := fun h => h1 h.1
    have h3 : vld p q = false := by simpa using h1
    clear h1
    by_cases h4 : p = p'
    · rw [show ratCmp p q p' q' = cmp q q' by unfold ratCmp; rw [if_neg hn, if_pos h4]]
      clear hn
      subst h4
      go_enter Try.func43, Try.ntmps43
      go_wp2_with (first | (go_at_call 23; refine (valid_any _ _ _).mono ?_; rintro e w1 ⟨rfl, hb1⟩; obtain ⟨hc1, hf1⟩ := bcell hb1; have hz := hb1.size; (try simp at hz); have z0 : w.heap.size < w1.heap.size := (by omega); have z1 : w.heap.size + 1 < w1.heap.size := (by omega); clear hz) | (go_at_call 61; refine (order_any _ _ _).mono ?_; rintro e w1 ⟨rfl, rfl⟩))
      go_ret
      refine ⟨rfl, ?_⟩
      repeat (first | exact Below.refl _ _ | refine below_drewN ?_ _ | refine Below.setCell ?_ (by first | omega | (simp; done) | (simp; omega)) _ | refine Below.alloc ?_ (by first | omega | (simp; done) | (simp; omega)) _ | refine below_step (by assumption) (by first | omega | (simp; done) | (simp; omega)) ?_)
    · rw [show ratCmp p q p' q' = cmp p p' by unfold ratCmp; rw [if_neg hn, if_neg h4]]
      have h5 : (p != p') = true := by simpa using h4
      clear hn h4
      go_enter Try.func43, Try.ntmps43
      go_wp2_with (first | (go_at_call 23; refine (valid_any _ _ _).mono ?_; rintro e w1 ⟨rfl, hb1⟩; obtain ⟨hc1, hf1⟩ := bcell hb1; have hz := hb1.size; (try simp at hz); have z0 : w.heap.size < w1.heap.size := (by omega); have z1 : w.heap.size + 1 < w1.heap.size := (by omega); clear hz) | (go_at_call 61; refine (order_any _ _ _).mono ?_; rintro e w1 ⟨rfl, rfl⟩))
      go_ret
      refine ⟨rfl, ?_⟩
      repeat (first | exact Below.refl _ _ | refine below_drewN ?_ _ | refine Below.setCell ?_ (by first | omega | (simp; done) | (simp; omega)) _ | refine Below.alloc ?_ (by first | omega | (simp; done) | (simp; omega)) _ | refine below_step (by assumption) (by first | omega | (simp; done) | (simp; omega)) ?_)

set_option maxHeartbeats 1000000 in
theorem mod_any (p q p' q' : Int) (w : World) :
    Calls Try.prog 39 #[.agg #[.int .i64 p, .int .i64 q], .agg #[.int .i64 p', .int .i64 q']] w fun e w' => e = .returned (.tuple #[.agg #[.int .i64 (modR p q p' q').P, .int .i64 (modR p q p' q').Q], .int .i64 (modR p q p' q').E]) ∧ Below w.heap.size w w' := by
  by_cases h0 : dvE p q p' q' = 0
  · rw [show modR p q p' q' = out (rat ((p * q').fmod (p' * q)) (q * q')) from if_pos h0]
    obtain ⟨h1, h2, h3⟩ := dvE_zero h0
    obtain ⟨a1, a2, a3, a4, _⟩ := vld_iff.1 h1
    obtain ⟨b1, b2, b3, b4, _⟩ := vld_iff.1 h2
    have m1 := mul_in (a := p) (b := q') (by omega) (by omega) (by omega) (by omega)
    obtain ⟨m11, m12⟩ := m1
    have m2 := mul_in (a := p') (b := q) (by omega) (by omega) (by omega) (by omega)
    obtain ⟨m21, m22⟩ := m2
    have m3 := mul_in (a := q) (b := q') (by omega) (by omega) (by omega) (by omega)
    obtain ⟨m31, m32⟩ := m3
    have h5 : q * q' ≠ 0 := mul_ne (by omega) (by omega)
    have h6 : p' * q ≠ 0 := mul_ne h3 (by omega)
    have fb := fmod_bd (p * q') (p' * q) h6
    have fe := fm_eq (p * q') (p' * q)
    have f1 : -9223372036854775807 ≤ p' * q * fl (p * q') (p' * q) ∧ p' * q * fl (p * q') (p' * q) ≤ 9223372036854775807 := by omega
    have f2 : -9223372036854775807 ≤ p * q' - p' * q * fl (p * q') (p' * q) ∧ p * q' - p' * q * fl (p * q') (p' * q) ≤ 9223372036854775807 := by omega
    rw [fe]
    obtain ⟨f11, f12⟩ := f1
    obtain ⟨f21, f22⟩ := f2
    clear fe fb
    go_enter Try.func39, Try.ntmps39
    go_wp2_with (go_at_call 58; refine (div_err _ _ _ _ _).mono ?_; rintro e w1 ⟨rfl, hb1⟩; obtain ⟨hc1, hf1⟩ := bcell hb1; have hz := hb1.size; (try simp at hz); have z0 : w.heap.size < w1.heap.size := (by omega); have z1 : w.heap.size + 1 < w1.heap.size := (by omega); have z2 : w.heap.size + 2 < w1.heap.size := (by omega); clear hz)
    go_quiet (fail)
    go_wp2_with fail
    have s1 : IntKind.i64.wrap (p' * q * fl (p * q') (p' * q)) = p' * q * fl (p * q') (p' * q) := IntWalk.i64_in _ (by omega)
    have s2 : IntKind.i64.wrap (p * q' - p' * q * fl (p * q') (p' * q)) = p * q' - p' * q * fl (p * q') (p' * q) := IntWalk.i64_in _ (by omega)
    have s3 : IntKind.i64.wrap (q * q') = q * q' := IntWalk.i64_in _ (by omega)
    go_region_with (first | (go_at_call 56; refine (floor_any _ _ _ h6 (by omega) (by omega)).mono ?_; rintro e w1 ⟨rfl, rfl⟩) | (go_at_call 49; refine (reduce_any _ _ _ h5 (by omega) (by omega) (by omega) (by omega)).mono ?_; rintro e w2 ⟨rfl, hb2⟩; obtain ⟨hc2, hf2⟩ := bcellD hb2; have hz := hb2.size; (try simp at hz); have z0 : w.heap.size < w2.heap.size := (by omega); have z1 : w.heap.size + 1 < w2.heap.size := (by omega); have z2 : w.heap.size + 2 < w2.heap.size := (by omega); clear hz))
    all_goals (
      go_wp2
      refine bodyPost_ret (v := .tuple #[.agg #[.int .i64 (oP (rat (p * q' - p' * q * fl (p * q') (p' * q)) (q * q'))), .int .i64 (oQ (rat (p * q' - p' * q * fl (p * q') (p' * q)) (q * q')))], .int .i64 (oE (rat (p * q' - p' * q * fl (p * q') (p' * q)) (q * q')))]) (by simp [results, Try.results39, go_sem, *]) rfl ?_
      refine ⟨rfl, ?_⟩
      repeat (first | exact Below.refl _ _ | refine below_drewN ?_ _ | refine Below.setCell ?_ (by first | omega | (simp; done) | (simp; omega)) _ | refine Below.alloc ?_ (by first | omega | (simp; done) | (simp; omega)) _ | refine below_step (by assumption) (by first | omega | (simp; done) | (simp; omega)) ?_)
    )
  · rw [show modR p q p' q' = err (dvE p q p' q') from if_neg h0]
    have h4 : (dvE p q p' q' != 0) = true := by simpa using h0
    clear h0
    go_enter Try.func39, Try.ntmps39
    go_wp2_with (go_at_call 58; refine (div_err _ _ _ _ _).mono ?_; rintro e w1 ⟨rfl, hb1⟩; obtain ⟨hc1, hf1⟩ := bcell hb1; have hz := hb1.size; (try simp at hz); have z0 : w.heap.size < w1.heap.size := (by omega); have z1 : w.heap.size + 1 < w1.heap.size := (by omega); have z2 : w.heap.size + 2 < w1.heap.size := (by omega); clear hz)
    refine bodyPost_ret (v := .tuple #[.agg #[.int .i64 (0), .int .i64 (0)], .int .i64 (dvE p q p' q')]) (by simp [results, Try.results39, go_sem, *]) rfl ?_
    refine ⟨rfl, ?_⟩
    repeat (first | exact Below.refl _ _ | refine below_drewN ?_ _ | refine Below.setCell ?_ (by first | omega | (simp; done) | (simp; omega)) _ | refine Below.alloc ?_ (by first | omega | (simp; done) | (simp; omega)) _ | refine below_step (by assumption) (by first | omega | (simp; done) | (simp; omega)) ?_)

set_option maxHeartbeats 400000 in
theorem rwhole_any (p q : Int) (w : World) :
    Calls Try.prog 20 #[.agg #[.int .i64 p, .int .i64 q]] w fun e w' => e = .returned (.tuple #[.int .i64 (whP p q), .bool (whB p q)]) ∧ Below w.heap.size w w' := by
  by_cases h1 : vld p q = true
  · by_cases h2 : q = 1
    · subst h2
      rw [show whP p 1 = p by unfold whP whB; simp [h1], show whB p 1 = true by unfold whB; simp [h1]]
      go_enter Try.func20, Try.ntmps20
      go_wp2_with (go_at_call 24; refine (rvalid_any _ _ _).mono ?_; rintro e w1 ⟨rfl, hb1⟩; obtain ⟨hc1, hf1⟩ := bcell hb1; have hz := hb1.size; (try simp at hz); have z0 : w.heap.size < w1.heap.size := (by omega); clear hz)
      go_ret2
      refine ⟨rfl, ?_⟩
      repeat (first | exact Below.refl _ _ | refine below_drewN ?_ _ | refine Below.setCell ?_ (by first | omega | (simp; done) | (simp; omega)) _ | refine Below.alloc ?_ (by first | omega | (simp; done) | (simp; omega)) _ | refine below_step (by assumption) (by first | omega | (simp; done) | (simp; omega)) ?_)
    · rw [show whP p q = 0 by unfold whP whB; simp [h2], show whB p q = false by unfold whB; simp [h2]]
      have h3 : (q == 1) = false := by simpa using h2
      have h4 : (q != 1) = true := by simpa using h2
      clear h2
      go_enter Try.func20, Try.ntmps20
      go_wp2_with (go_at_call 24; refine (rvalid_any _ _ _).mono ?_; rintro e w1 ⟨rfl, hb1⟩; obtain ⟨hc1, hf1⟩ := bcell hb1; have hz := hb1.size; (try simp at hz); have z0 : w.heap.size < w1.heap.size := (by omega); clear hz)
      go_ret2
      refine ⟨rfl, ?_⟩
      repeat (first | exact Below.refl _ _ | refine below_drewN ?_ _ | refine Below.setCell ?_ (by first | omega | (simp; done) | (simp; omega)) _ | refine Below.alloc ?_ (by first | omega | (simp; done) | (simp; omega)) _ | refine below_step (by assumption) (by first | omega | (simp; done) | (simp; omega)) ?_)
  · rw [show whP p q = 0 by unfold whP whB; simp [h1], show whB p q = false by unfold whB; simp [h1]]
    have h3 : vld p q = false := by simpa using h1
    clear h1
    go_enter Try.func20, Try.ntmps20
    go_wp2_with (go_at_call 24; refine (rvalid_any _ _ _).mono ?_; rintro e w1 ⟨rfl, hb1⟩; obtain ⟨hc1, hf1⟩ := bcell hb1; have hz := hb1.size; (try simp at hz); have z0 : w.heap.size < w1.heap.size := (by omega); clear hz)
    go_ret2
    refine ⟨rfl, ?_⟩
    repeat (first | exact Below.refl _ _ | refine below_drewN ?_ _ | refine Below.setCell ?_ (by first | omega | (simp; done) | (simp; omega)) _ | refine Below.alloc ?_ (by first | omega | (simp; done) | (simp; omega)) _ | refine below_step (by assumption) (by first | omega | (simp; done) | (simp; omega)) ?_)

set_option maxHeartbeats 400000 in
theorem rcmp_any (p q p' q' : Int) (w : World) :
    Calls Try.prog 44 #[.agg #[.int .i64 p, .int .i64 q], .agg #[.int .i64 p', .int .i64 q']] w fun e w' => e = .returned (.int .i64 (ratCmp p q p' q')) ∧ Below w.heap.size w w' := by
  by_cases h1 : vld p q = true
  · by_cases h2 : vld p' q' = true
    · rw [show ratCmp p q p' q' = cmp (p * q') (p' * q) by unfold ratCmp; rw [if_pos ⟨h1, h2⟩]]
      obtain ⟨a1, a2, a3, a4, _⟩ := vld_iff.1 h1
      obtain ⟨b1, b2, b3, b4, _⟩ := vld_iff.1 h2
      have m1 := mul_in (a := p) (b := q') (by omega) (by omega) (by omega) (by omega)
      obtain ⟨m11, m12⟩ := m1
      have m2 := mul_in (a := p') (b := q) (by omega) (by omega) (by omega) (by omega)
      obtain ⟨m21, m22⟩ := m2
      go_enter Try.func44, Try.ntmps44
      go_wp2_with (first | (go_at_call 24; refine (rvalid_any _ _ _).mono ?_; rintro e w1 ⟨rfl, hb1⟩; obtain ⟨hc1, hf1⟩ := bcell hb1; have hz := hb1.size; (try simp at hz); have z0 : w.heap.size < w1.heap.size := (by omega); have z1 : w.heap.size + 1 < w1.heap.size := (by omega); clear hz) | (go_at_call 62; refine (rorder_any _ _ _).mono ?_; rintro e w1 ⟨rfl, rfl⟩))
      go_ret
      refine ⟨rfl, ?_⟩
      repeat (first | exact Below.refl _ _ | refine below_drewN ?_ _ | refine Below.setCell ?_ (by first | omega | (simp; done) | (simp; omega)) _ | refine Below.alloc ?_ (by first | omega | (simp; done) | (simp; omega)) _ | refine below_step (by assumption) (by first | omega | (simp; done) | (simp; omega)) ?_)
    · have hn : ¬ (vld p q = true ∧ vld p' q' = true) := fun h => h2 h.2
      have h3 : vld p' q' = false := by simpa using h2
      clear h2
      by_cases h4 : p = p'
      · rw [show ratCmp p q p' q' = cmp q q' by unfold ratCmp; rw [if_neg hn, if_pos h4]]
        clear hn
        subst h4
        go_enter Try.func44, Try.ntmps44
        go_wp2_with (first | (go_at_call 24; refine (rvalid_any _ _ _).mono ?_; rintro e w1 ⟨rfl, hb1⟩; obtain ⟨hc1, hf1⟩ := bcell hb1; have hz := hb1.size; (try simp at hz); have z0 : w.heap.size < w1.heap.size := (by omega); have z1 : w.heap.size + 1 < w1.heap.size := (by omega); clear hz) | (go_at_call 62; refine (rorder_any _ _ _).mono ?_; rintro e w1 ⟨rfl, rfl⟩))
        go_ret
        refine ⟨rfl, ?_⟩
        repeat (first | exact Below.refl _ _ | refine below_drewN ?_ _ | refine Below.setCell ?_ (by first | omega | (simp; done) | (simp; omega)) _ | refine Below.alloc ?_ (by first | omega | (simp; done) | (simp; omega)) _ | refine below_step (by assumption) (by first | omega | (simp; done) | (simp; omega)) ?_)
      · rw [show ratCmp p q p' q' = cmp p p' by unfold ratCmp; rw [if_neg hn, if_neg h4]]
        have h5 : (p != p') = true := by simpa using h4
        clear hn h4
        go_enter Try.func44, Try.ntmps44
        go_wp2_with (first | (go_at_call 24; refine (rvalid_any _ _ _).mono ?_; rintro e w1 ⟨rfl, hb1⟩; obtain ⟨hc1, hf1⟩ := bcell hb1; have hz := hb1.size; (try simp at hz); have z0 : w.heap.size < w1.heap.size := (by omega); have z1 : w.heap.size + 1 < w1.heap.size := (by omega); clear hz) | (go_at_call 62; refine (rorder_any _ _ _).mono ?_; rintro e w1 ⟨rfl, rfl⟩))
        go_ret
        refine ⟨rfl, ?_⟩
        repeat (first | exact Below.refl _ _ | refine below_drewN ?_ _ | refine Below.setCell ?_ (by first | omega | (simp; done) | (simp; omega)) _ | refine Below.alloc ?_ (by first | omega | (simp; done) | (simp; omega)) _ | refine below_step (by assumption) (by first | omega | (simp; done) | (simp; omega)) ?_)
  · have hn : ¬ (vld p q = true ∧ vld p' q' = true) := fun h => h1 h.1
    have h3 : vld p q = false := by simpa using h1
    clear h1
    by_cases h4 : p = p'
    · rw [show ratCmp p q p' q' = cmp q q' by unfold ratCmp; rw [if_neg hn, if_pos h4]]
      clear hn
      subst h4
      go_enter Try.func44, Try.ntmps44
      go_wp2_with (first | (go_at_call 24; refine (rvalid_any _ _ _).mono ?_; rintro e w1 ⟨rfl, hb1⟩; obtain ⟨hc1, hf1⟩ := bcell hb1; have hz := hb1.size; (try simp at hz); have z0 : w.heap.size < w1.heap.size := (by omega); have z1 : w.heap.size + 1 < w1.heap.size := (by omega); clear hz) | (go_at_call 62; refine (rorder_any _ _ _).mono ?_; rintro e w1 ⟨rfl, rfl⟩))
      go_ret
      refine ⟨rfl, ?_⟩
      repeat (first | exact Below.refl _ _ | refine below_drewN ?_ _ | refine Below.setCell ?_ (by first | omega | (simp; done) | (simp; omega)) _ | refine Below.alloc ?_ (by first | omega | (simp; done) | (simp; omega)) _ | refine below_step (by assumption) (by first | omega | (simp; done) | (simp; omega)) ?_)
    · rw [show ratCmp p q p' q' = cmp p p' by unfold ratCmp; rw [if_neg hn, if_neg h4]]
      have h5 : (p != p') = true := by simpa using h4
      clear hn h4
      go_enter Try.func44, Try.ntmps44
      go_wp2_with (first | (go_at_call 24; refine (rvalid_any _ _ _).mono ?_; rintro e w1 ⟨rfl, hb1⟩; obtain ⟨hc1, hf1⟩ := bcell hb1; have hz := hb1.size; (try simp at hz); have z0 : w.heap.size < w1.heap.size := (by omega); have z1 : w.heap.size + 1 < w1.heap.size := (by omega); clear hz) | (go_at_call 62; refine (rorder_any _ _ _).mono ?_; rintro e w1 ⟨rfl, rfl⟩))
      go_ret
      refine ⟨rfl, ?_⟩
      repeat (first | exact Below.refl _ _ | refine below_drewN ?_ _ | refine Below.setCell ?_ (by first | omega | (simp; done) | (simp; omega)) _ | refine Below.alloc ?_ (by first | omega | (simp; done) | (simp; omega)) _ | refine below_step (by assumption) (by first | omega | (simp; done) | (simp; omega)) ?_)

set_option maxHeartbeats 1000000 in
theorem rmod_any (p q p' q' : Int) (w : World) :
    Calls Try.prog 40 #[.agg #[.int .i64 p, .int .i64 q], .agg #[.int .i64 p', .int .i64 q']] w fun e w' => e = .returned (.tuple #[.agg #[.int .i64 (modR p q p' q').P, .int .i64 (modR p q p' q').Q], .int .i64 (modR p q p' q').E]) ∧ Below w.heap.size w w' := by
  by_cases h0 : dvE p q p' q' = 0
  · rw [show modR p q p' q' = out (rat ((p * q').fmod (p' * q)) (q * q')) from if_pos h0]
    obtain ⟨h1, h2, h3⟩ := dvE_zero h0
    obtain ⟨a1, a2, a3, a4, _⟩ := vld_iff.1 h1
    obtain ⟨b1, b2, b3, b4, _⟩ := vld_iff.1 h2
    have m1 := mul_in (a := p) (b := q') (by omega) (by omega) (by omega) (by omega)
    obtain ⟨m11, m12⟩ := m1
    have m2 := mul_in (a := p') (b := q) (by omega) (by omega) (by omega) (by omega)
    obtain ⟨m21, m22⟩ := m2
    have m3 := mul_in (a := q) (b := q') (by omega) (by omega) (by omega) (by omega)
    obtain ⟨m31, m32⟩ := m3
    have h5 : q * q' ≠ 0 := mul_ne (by omega) (by omega)
    have h6 : p' * q ≠ 0 := mul_ne h3 (by omega)
    have tb := tmod_bd (p * q') (p' * q)
    have tm := fm_tmod (p * q') (p' * q)
    have tp := fun h => Int.tmod_eq_emod_of_nonneg (a := p * q') (b := p' * q) h
    generalize hR : (p * q').fmod (p' * q) = R at *
    clear hR
    by_cases hx : 0 ≤ p * q'
    · rw [tp hx] at tm tb
      clear tp
      have t0 : 0 ≤ (p * q') % (p' * q) := Int.emod_nonneg _ h6
      have t1 : (p * q') % (p' * q) ≤ 4611686014132420609 := by omega
      have hs : ¬ ((p * q') % (p' * q) < 0) := by omega
      clear tb
      by_cases hz : (p * q') % (p' * q) = 0
      · have hy := True.intro
        have hz2 : ((p * q') % (p' * q) != 0) = false := by simpa using hz
        obtain rfl : R = (p * q') % (p' * q) := by rw [tm]; simp [hz, hy, hs] <;> omega
        clear tm
        go_enter Try.func40, Try.ntmps40
        go_wp2_with (first | (go_at_call 59; refine (rdiv_err _ _ _ _ _).mono ?_; rintro e w1 ⟨rfl, hb1⟩; obtain ⟨hc1, hf1⟩ := bcell hb1; have hz := hb1.size; (try simp at hz); have z0 : w.heap.size < w1.heap.size := (by omega); have z1 : w.heap.size + 1 < w1.heap.size := (by omega); have z2 : w.heap.size + 2 < w1.heap.size := (by omega); clear hz) | (go_at_call 50; refine (rreduce_any _ _ _ h5 (by omega) (by omega) (by omega) (by omega)).mono ?_; rintro e w2 ⟨rfl, hb2⟩; obtain ⟨hc2, hf2⟩ := bcell hb2; have hz := hb2.size; (try simp at hz); have z0 : w.heap.size < w2.heap.size := (by omega); have z1 : w.heap.size + 1 < w2.heap.size := (by omega); have z2 : w.heap.size + 2 < w2.heap.size := (by omega); clear hz))
        refine bodyPost_ret (v := .tuple #[.agg #[.int .i64 (oP (rat ((p * q') % (p' * q)) (q * q'))), .int .i64 (oQ (rat ((p * q') % (p' * q)) (q * q')))], .int .i64 (oE (rat ((p * q') % (p' * q)) (q * q')))]) (by simp [results, Try.results40, go_sem, *]) rfl ?_
        refine ⟨rfl, ?_⟩
        repeat (first | exact Below.refl _ _ | refine below_drewN ?_ _ | refine Below.setCell ?_ (by first | omega | (simp; done) | (simp; omega)) _ | refine Below.alloc ?_ (by first | omega | (simp; done) | (simp; omega)) _ | refine below_step (by assumption) (by first | omega | (simp; done) | (simp; omega)) ?_)
      · have hz2 : ((p * q') % (p' * q) != 0) = true := by simpa using hz
        by_cases hy : p' * q < 0
        · obtain rfl : R = (p * q') % (p' * q) + p' * q := by rw [tm]; simp [hz, hy, hs] <;> omega
          clear tm
          have d1 : decide ((p * q') % (p' * q) < 0) = false := by simp; omega
          have d2 : decide (p' * q < 0) = true := by simp; omega
          go_enter Try.func40, Try.ntmps40
          go_wp2_with (first | (go_at_call 59; refine (rdiv_err _ _ _ _ _).mono ?_; rintro e w1 ⟨rfl, hb1⟩; obtain ⟨hc1, hf1⟩ := bcell hb1; have hz := hb1.size; (try simp at hz); have z0 : w.heap.size < w1.heap.size := (by omega); have z1 : w.heap.size + 1 < w1.heap.size := (by omega); have z2 : w.heap.size + 2 < w1.heap.size := (by omega); clear hz) | (go_at_call 50; refine (rreduce_any _ _ _ h5 (by omega) (by omega) (by omega) (by omega)).mono ?_; rintro e w2 ⟨rfl, hb2⟩; obtain ⟨hc2, hf2⟩ := bcell hb2; have hz := hb2.size; (try simp at hz); have z0 : w.heap.size < w2.heap.size := (by omega); have z1 : w.heap.size + 1 < w2.heap.size := (by omega); have z2 : w.heap.size + 2 < w2.heap.size := (by omega); clear hz))
          refine bodyPost_ret (v := .tuple #[.agg #[.int .i64 (oP (rat ((p * q') % (p' * q) + p' * q) (q * q'))), .int .i64 (oQ (rat ((p * q') % (p' * q) + p' * q) (q * q')))], .int .i64 (oE (rat ((p * q') % (p' * q) + p' * q) (q * q')))]) (by simp [results, Try.results40, go_sem, *]) rfl ?_
          refine ⟨rfl, ?_⟩
          repeat (first | exact Below.refl _ _ | refine below_drewN ?_ _ | refine Below.setCell ?_ (by first | omega | (simp; done) | (simp; omega)) _ | refine Below.alloc ?_ (by first | omega | (simp; done) | (simp; omega)) _ | refine below_step (by assumption) (by first | omega | (simp; done) | (simp; omega)) ?_)
        · obtain rfl : R = (p * q') % (p' * q) := by rw [tm]; simp [hz, hy, hs] <;> omega
          clear tm
          have d1 : decide ((p * q') % (p' * q) < 0) = false := by simp; omega
          have d2 : decide (p' * q < 0) = false := by simp; omega
          go_enter Try.func40, Try.ntmps40
          go_wp2_with (first | (go_at_call 59; refine (rdiv_err _ _ _ _ _).mono ?_; rintro e w1 ⟨rfl, hb1⟩; obtain ⟨hc1, hf1⟩ := bcell hb1; have hz := hb1.size; (try simp at hz); have z0 : w.heap.size < w1.heap.size := (by omega); have z1 : w.heap.size + 1 < w1.heap.size := (by omega); have z2 : w.heap.size + 2 < w1.heap.size := (by omega); clear hz) | (go_at_call 50; refine (rreduce_any _ _ _ h5 (by omega) (by omega) (by omega) (by omega)).mono ?_; rintro e w2 ⟨rfl, hb2⟩; obtain ⟨hc2, hf2⟩ := bcell hb2; have hz := hb2.size; (try simp at hz); have z0 : w.heap.size < w2.heap.size := (by omega); have z1 : w.heap.size + 1 < w2.heap.size := (by omega); have z2 : w.heap.size + 2 < w2.heap.size := (by omega); clear hz))
          refine bodyPost_ret (v := .tuple #[.agg #[.int .i64 (oP (rat ((p * q') % (p' * q)) (q * q'))), .int .i64 (oQ (rat ((p * q') % (p' * q)) (q * q')))], .int .i64 (oE (rat ((p * q') % (p' * q)) (q * q')))]) (by simp [results, Try.results40, go_sem, *]) rfl ?_
          refine ⟨rfl, ?_⟩
          repeat (first | exact Below.refl _ _ | refine below_drewN ?_ _ | refine Below.setCell ?_ (by first | omega | (simp; done) | (simp; omega)) _ | refine Below.alloc ?_ (by first | omega | (simp; done) | (simp; omega)) _ | refine below_step (by assumption) (by first | omega | (simp; done) | (simp; omega)) ?_)
    · have t1 := tmod_neg (p * q') (p' * q) (by omega)
      clear tp
      have t2 : -4611686014132420609 ≤ (p * q').tmod (p' * q) := by omega
      clear tb
      by_cases hz : (p * q').tmod (p' * q) = 0
      · have hs := True.intro
        have hy := True.intro
        have hz2 : ((p * q').tmod (p' * q) != 0) = false := by simpa using hz
        obtain rfl : R = (p * q').tmod (p' * q) := by rw [tm]; simp [hz, hy, hs] <;> omega
        clear tm
        go_enter Try.func40, Try.ntmps40
        go_wp2_with (first | (go_at_call 59; refine (rdiv_err _ _ _ _ _).mono ?_; rintro e w1 ⟨rfl, hb1⟩; obtain ⟨hc1, hf1⟩ := bcell hb1; have hz := hb1.size; (try simp at hz); have z0 : w.heap.size < w1.heap.size := (by omega); have z1 : w.heap.size + 1 < w1.heap.size := (by omega); have z2 : w.heap.size + 2 < w1.heap.size := (by omega); clear hz) | (go_at_call 50; refine (rreduce_any _ _ _ h5 (by omega) (by omega) (by omega) (by omega)).mono ?_; rintro e w2 ⟨rfl, hb2⟩; obtain ⟨hc2, hf2⟩ := bcell hb2; have hz := hb2.size; (try simp at hz); have z0 : w.heap.size < w2.heap.size := (by omega); have z1 : w.heap.size + 1 < w2.heap.size := (by omega); have z2 : w.heap.size + 2 < w2.heap.size := (by omega); clear hz))
        refine bodyPost_ret (v := .tuple #[.agg #[.int .i64 (oP (rat ((p * q').tmod (p' * q)) (q * q'))), .int .i64 (oQ (rat ((p * q').tmod (p' * q)) (q * q')))], .int .i64 (oE (rat ((p * q').tmod (p' * q)) (q * q')))]) (by simp [results, Try.results40, go_sem, *]) rfl ?_
        refine ⟨rfl, ?_⟩
        repeat (first | exact Below.refl _ _ | refine below_drewN ?_ _ | refine Below.setCell ?_ (by first | omega | (simp; done) | (simp; omega)) _ | refine Below.alloc ?_ (by first | omega | (simp; done) | (simp; omega)) _ | refine below_step (by assumption) (by first | omega | (simp; done) | (simp; omega)) ?_)
      · have hz2 : ((p * q').tmod (p' * q) != 0) = true := by simpa using hz
        have hs : (p * q').tmod (p' * q) < 0 := by omega
        by_cases hy : p' * q < 0
        · obtain rfl : R = (p * q').tmod (p' * q) := by rw [tm]; simp [hz, hy, hs] <;> omega
          clear tm
          have d1 : decide ((p * q').tmod (p' * q) < 0) = true := by simp; omega
          have d2 : decide (p' * q < 0) = true := by simp; omega
          go_enter Try.func40, Try.ntmps40
          go_wp2_with (first | (go_at_call 59; refine (rdiv_err _ _ _ _ _).mono ?_; rintro e w1 ⟨rfl, hb1⟩; obtain ⟨hc1, hf1⟩ := bcell hb1; have hz := hb1.size; (try simp at hz); have z0 : w.heap.size < w1.heap.size := (by omega); have z1 : w.heap.size + 1 < w1.heap.size := (by omega); have z2 : w.heap.size + 2 < w1.heap.size := (by omega); clear hz) | (go_at_call 50; refine (rreduce_any _ _ _ h5 (by omega) (by omega) (by omega) (by omega)).mono ?_; rintro e w2 ⟨rfl, hb2⟩; obtain ⟨hc2, hf2⟩ := bcell hb2; have hz := hb2.size; (try simp at hz); have z0 : w.heap.size < w2.heap.size := (by omega); have z1 : w.heap.size + 1 < w2.heap.size := (by omega); have z2 : w.heap.size + 2 < w2.heap.size := (by omega); clear hz))
          refine bodyPost_ret (v := .tuple #[.agg #[.int .i64 (oP (rat ((p * q').tmod (p' * q)) (q * q'))), .int .i64 (oQ (rat ((p * q').tmod (p' * q)) (q * q')))], .int .i64 (oE (rat ((p * q').tmod (p' * q)) (q * q')))]) (by simp [results, Try.results40, go_sem, *]) rfl ?_
          refine ⟨rfl, ?_⟩
          repeat (first | exact Below.refl _ _ | refine below_drewN ?_ _ | refine Below.setCell ?_ (by first | omega | (simp; done) | (simp; omega)) _ | refine Below.alloc ?_ (by first | omega | (simp; done) | (simp; omega)) _ | refine below_step (by assumption) (by first | omega | (simp; done) | (simp; omega)) ?_)
        · obtain rfl : R = (p * q').tmod (p' * q) + p' * q := by rw [tm]; simp [hz, hy, hs] <;> omega
          clear tm
          have d1 : decide ((p * q').tmod (p' * q) < 0) = true := by simp; omega
          have d2 : decide (p' * q < 0) = false := by simp; omega
          go_enter Try.func40, Try.ntmps40
          go_wp2_with (first | (go_at_call 59; refine (rdiv_err _ _ _ _ _).mono ?_; rintro e w1 ⟨rfl, hb1⟩; obtain ⟨hc1, hf1⟩ := bcell hb1; have hz := hb1.size; (try simp at hz); have z0 : w.heap.size < w1.heap.size := (by omega); have z1 : w.heap.size + 1 < w1.heap.size := (by omega); have z2 : w.heap.size + 2 < w1.heap.size := (by omega); clear hz) | (go_at_call 50; refine (rreduce_any _ _ _ h5 (by omega) (by omega) (by omega) (by omega)).mono ?_; rintro e w2 ⟨rfl, hb2⟩; obtain ⟨hc2, hf2⟩ := bcell hb2; have hz := hb2.size; (try simp at hz); have z0 : w.heap.size < w2.heap.size := (by omega); have z1 : w.heap.size + 1 < w2.heap.size := (by omega); have z2 : w.heap.size + 2 < w2.heap.size := (by omega); clear hz))
          refine bodyPost_ret (v := .tuple #[.agg #[.int .i64 (oP (rat ((p * q').tmod (p' * q) + p' * q) (q * q'))), .int .i64 (oQ (rat ((p * q').tmod (p' * q) + p' * q) (q * q')))], .int .i64 (oE (rat ((p * q').tmod (p' * q) + p' * q) (q * q')))]) (by simp [results, Try.results40, go_sem, *]) rfl ?_
          refine ⟨rfl, ?_⟩
          repeat (first | exact Below.refl _ _ | refine below_drewN ?_ _ | refine Below.setCell ?_ (by first | omega | (simp; done) | (simp; omega)) _ | refine Below.alloc ?_ (by first | omega | (simp; done) | (simp; omega)) _ | refine below_step (by assumption) (by first | omega | (simp; done) | (simp; omega)) ?_)
  · rw [show modR p q p' q' = err (dvE p q p' q') from if_neg h0]
    have h4 : (dvE p q p' q' != 0) = true := by simpa using h0
    clear h0
    go_enter Try.func40, Try.ntmps40
    go_wp2_with (go_at_call 59; refine (rdiv_err _ _ _ _ _).mono ?_; rintro e w1 ⟨rfl, hb1⟩; obtain ⟨hc1, hf1⟩ := bcell hb1; have hz := hb1.size; (try simp at hz); have z0 : w.heap.size < w1.heap.size := (by omega); have z1 : w.heap.size + 1 < w1.heap.size := (by omega); have z2 : w.heap.size + 2 < w1.heap.size := (by omega); clear hz)
    refine bodyPost_ret (v := .tuple #[.agg #[.int .i64 (0), .int .i64 (0)], .int .i64 (dvE p q p' q')]) (by simp [results, Try.results40, go_sem, *]) rfl ?_
    refine ⟨rfl, ?_⟩
    repeat (first | exact Below.refl _ _ | refine below_drewN ?_ _ | refine Below.setCell ?_ (by first | omega | (simp; done) | (simp; omega)) _ | refine Below.alloc ?_ (by first | omega | (simp; done) | (simp; omega)) _ | refine below_step (by assumption) (by first | omega | (simp; done) | (simp; omega)) ?_)
end Go.Proofs.Ytpoljkgfaceniaa
