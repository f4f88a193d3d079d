/- Contracts of layer 1: the other functions. -/
import Derived.Test.YtpoljkgfaceniaaRatC
import Derived.Test.YtpoljkgfaceniaaRatD
namespace Go.Proofs.Ytpoljkgfaceniaa
open Go.RowKit M1

theorem order_any (m n : Int) (w : World) :
    Calls Try.prog 61 #[.int .i64 m, .int .i64 n] w fun e w' => e = .returned (.int .i64 (cmp m n)) ∧ w = w' := by
  by_cases h1 : m < n
  · have e := Lib.hid (show cmp m n = -1 by unfold cmp; rw [if_pos h1])
    go_enter Try.func61, Try.ntmps61
    go_wp2
    go_ret
    exact ⟨ret_int e.out.symm, rfl⟩
  · by_cases h2 : n < m
    · have e := Lib.hid (show cmp m n = 1 by unfold cmp; rw [if_neg h1, if_pos h2])
      go_enter Try.func61, Try.ntmps61
      go_wp2
      go_ret
      exact ⟨ret_int e.out.symm, rfl⟩
    · have e := Lib.hid (show cmp m n = 0 by unfold cmp; rw [if_neg h1, if_neg h2])
      go_enter Try.func61, Try.ntmps61
      go_wp2
      go_ret
      exact ⟨ret_int e.out.symm, rfl⟩

set_option maxHeartbeats 400000 in
theorem div_err (p q p' q' : Int) (w : World) :
    Calls Try.prog 58 #[.agg #[.int .i64 p, .int .i64 q], .agg #[.int .i64 p', .int .i64 q']] w fun e w' => e = .returned (.int .i64 (dvE p q p' q')) ∧ Below w.heap.size w w' := by
  by_cases h1 : vld p q = true
  · by_cases h2 : vld p' q' = true
    · by_cases h3 : p' = 0
      · have e := Lib.hid (show dvE p q p' q' = 7 from dvE_7 h1 h2 h3)
        subst h3
        go_enter Try.func58, Try.ntmps58
        go_wp2_with (go_at_call 23; refine (valid_any _ _ _).mono ?_; rintro e w1 ⟨rfl, hb1⟩; obtain ⟨hc1, hf1⟩ := bcell hb1; have hz := hb1.size; (try simp at hz); have z0 : w.heap.size < w1.heap.size := (by omega); have z1 : w.heap.size + 1 < w1.heap.size := (by omega); clear hz)
        go_ret
        refine ⟨ret_int e.out.symm, ?_⟩
        repeat (first | exact Below.refl _ _ | refine below_drewN ?_ _ | refine Below.setCell ?_ (by first | omega | (simp; done) | (simp; omega)) _ | refine Below.alloc ?_ (by first | omega | (simp; done) | (simp; omega)) _ | refine below_step (by assumption) (by first | omega | (simp; done) | (simp; omega)) ?_)
      · have e := Lib.hid (show dvE p q p' q' = 0 from dvE_0 h1 h2 h3)
        have h4 : (p' == 0) = false := by simpa using h3
        clear h3
        go_enter Try.func58, Try.ntmps58
        go_wp2_with (go_at_call 23; refine (valid_any _ _ _).mono ?_; rintro e w1 ⟨rfl, hb1⟩; obtain ⟨hc1, hf1⟩ := bcell hb1; have hz := hb1.size; (try simp at hz); have z0 : w.heap.size < w1.heap.size := (by omega); have z1 : w.heap.size + 1 < w1.heap.size := (by omega); clear hz)
        go_ret
        refine ⟨ret_int e.out.symm, ?_⟩
        repeat (first | exact Below.refl _ _ | refine below_drewN ?_ _ | refine Below.setCell ?_ (by first | omega | (simp; done) | (simp; omega)) _ | refine Below.alloc ?_ (by first | omega | (simp; done) | (simp; omega)) _ | refine below_step (by assumption) (by first | omega | (simp; done) | (simp; omega)) ?_)
    · have e := Lib.hid (show dvE p q p' q' = 2 from dvE_2 (fun h => h2 h.2))
      have h3 : vld p' q' = false := by simpa using h2
      clear h2
      go_enter Try.func58, Try.ntmps58
      go_wp2_with (go_at_call 23; refine (valid_any _ _ _).mono ?_; rintro e w1 ⟨rfl, hb1⟩; obtain ⟨hc1, hf1⟩ := bcell hb1; have hz := hb1.size; (try simp at hz); have z0 : w.heap.size < w1.heap.size := (by omega); have z1 : w.heap.size + 1 < w1.heap.size := (by omega); clear hz)
      go_ret
      refine ⟨ret_int e.out.symm, ?_⟩
      repeat (first | exact Below.refl _ _ | refine below_drewN ?_ _ | refine Below.setCell ?_ (by first | omega | (simp; done) | (simp; omega)) _ | refine Below.alloc ?_ (by first | omega | (simp; done) | (simp; omega)) _ | refine below_step (by assumption) (by first | omega | (simp; done) | (simp; omega)) ?_)
  · have e := Lib.hid (show dvE p q p' q' = 2 from dvE_2 (fun h => h1 h.1))
    have h3 : vld p q = false := by simpa using h1
    clear h1
    go_enter Try.func58, Try.ntmps58
    go_wp2_with (go_at_call 23; refine (valid_any _ _ _).mono ?_; rintro e w1 ⟨rfl, hb1⟩; obtain ⟨hc1, hf1⟩ := bcell hb1; have hz := hb1.size; (try simp at hz); have z0 : w.heap.size < w1.heap.size := (by omega); have z1 : w.heap.size + 1 < w1.heap.size := (by omega); clear hz)
    go_ret
    refine ⟨ret_int e.out.symm, ?_⟩
    repeat (first | exact Below.refl _ _ | refine below_drewN ?_ _ | refine Below.setCell ?_ (by first | omega | (simp; done) | (simp; omega)) _ | refine Below.alloc ?_ (by first | omega | (simp; done) | (simp; omega)) _ | refine below_step (by assumption) (by first | omega | (simp; done) | (simp; omega)) ?_)

set_option maxHeartbeats 400000 in
theorem int_any (n : Int) (w : World) :
    Calls Try.prog 16 #[.int .i64 n] w fun e w' => e = .returned (.tuple #[.agg #[.int .i64 (intR n).P, .int .i64 (intR n).Q], .int .i64 (intR n).E]) ∧ Below w.heap.size w w' := by
  by_cases h : -2147483647 ≤ n ∧ n ≤ 2147483647
  · rw [show intR n = ⟨n, 1, 0⟩ from if_pos h]
    obtain ⟨h1, h2⟩ := h
    go_enter Try.func16, Try.ntmps16
    go_wp2_with (go_at_call 48; refine (within_yes _ _ _ h1 h2 (by omega) (by omega)).mono ?_; rintro e w1 ⟨rfl, rfl⟩)
    refine bodyPost_ret (v := .tuple #[.agg #[.int .i64 (n), .int .i64 (1)], .int .i64 (0)]) (by simp [results, Try.results16, go_sem, *]) rfl ?_
    refine ⟨rfl, ?_⟩
    repeat (first | exact Below.refl _ _ | refine below_drewN ?_ _ | refine Below.setCell ?_ (by first | omega | (simp; done) | (simp; omega)) _ | refine Below.alloc ?_ (by first | omega | (simp; done) | (simp; omega)) _ | refine below_step (by assumption) (by first | omega | (simp; done) | (simp; omega)) ?_)
  · rw [show intR n = err 6 from if_neg h]
    have h3 : n < -2147483647 ∨ 2147483647 < n := by omega
    clear h
    go_enter Try.func16, Try.ntmps16
    go_wp2_with (go_at_call 48; refine (within_no _ _ _ h3 (by omega) (by omega)).mono ?_; rintro e w1 ⟨rfl, rfl⟩)
    refine bodyPost_ret (v := .tuple #[.agg #[.int .i64 (0), .int .i64 (0)], .int .i64 (6)]) (by simp [results, Try.results16, go_sem, *]) rfl ?_
    refine ⟨rfl, ?_⟩
    repeat (first | exact Below.refl _ _ | refine below_drewN ?_ _ | refine Below.setCell ?_ (by first | omega | (simp; done) | (simp; omega)) _ | refine Below.alloc ?_ (by first | omega | (simp; done) | (simp; omega)) _ | refine below_step (by assumption) (by first | omega | (simp; done) | (simp; omega)) ?_)

set_option maxHeartbeats 1000000 in
theorem make_any (p q : Int) (w : World) :
    Calls Try.prog 14 #[.int .i64 p, .int .i64 q] w fun e w' => e = .returned (.tuple #[.agg #[.int .i64 (makeR p q).P, .int .i64 (makeR p q).Q], .int .i64 (makeR p q).E]) ∧ Below w.heap.size w w' := by
  by_cases hq : q = 0
  · subst hq
    rw [show makeR p 0 = err 7 from if_pos rfl]
    go_enter Try.func14, Try.ntmps14
    go_wp2
    refine bodyPost_ret (v := .tuple #[.agg #[.int .i64 (0), .int .i64 (0)], .int .i64 (7)]) (by simp [results, Try.results14, go_sem, *]) rfl ?_
    refine ⟨rfl, ?_⟩
    repeat (first | exact Below.refl _ _ | refine below_drewN ?_ _ | refine Below.setCell ?_ (by first | omega | (simp; done) | (simp; omega)) _ | refine Below.alloc ?_ (by first | omega | (simp; done) | (simp; omega)) _ | refine below_step (by assumption) (by first | omega | (simp; done) | (simp; omega)) ?_)
  · have hq0 : (q == 0) = false := by simpa using hq
    by_cases h : -4611686018427387904 ≤ p ∧ p ≤ 4611686018427387904 ∧ -4611686018427387904 ≤ q ∧ q ≤ 4611686018427387904
    · rw [show makeR p q = out (rat p q) by unfold makeR; rw [if_neg hq, if_pos h]]
      obtain ⟨h1, h2, h3, h4⟩ := h
      go_enter Try.func14, Try.ntmps14
      go_wp2_with fail
      refine (within_yes _ _ _ h1 h2 (by omega) (by omega)).mono ?_
      rintro e w1 ⟨rfl, rfl⟩
      go_wp2_with fail
      refine (within_yes _ _ _ h3 h4 (by omega) (by omega)).mono ?_
      rintro e w1 ⟨rfl, rfl⟩
      go_wp2_with (go_at_call 49; refine (reduce_any _ _ _ hq (by omega) (by omega) (by omega) (by omega)).mono ?_; rintro e w1 ⟨rfl, hb1⟩; obtain ⟨hc1, hf1⟩ := bcell hb1; have hz := hb1.size; (try simp at hz); have z0 : w.heap.size < w1.heap.size := (by omega); clear hz)
      refine bodyPost_ret (v := .tuple #[.agg #[.int .i64 (oP (rat p q)), .int .i64 (oQ (rat p q))], .int .i64 (oE (rat p q))]) (by simp [results, Try.results14, go_sem, *]) rfl ?_
      refine ⟨rfl, ?_⟩
      repeat (first | exact Below.refl _ _ | refine below_drewN ?_ _ | refine Below.setCell ?_ (by first | omega | (simp; done) | (simp; omega)) _ | refine Below.alloc ?_ (by first | omega | (simp; done) | (simp; omega)) _ | refine below_step (by assumption) (by first | omega | (simp; done) | (simp; omega)) ?_)
    · rw [show makeR p q = err 6 by unfold makeR; rw [if_neg hq, if_neg h]]
      by_cases hp : -4611686018427387904 ≤ p ∧ p ≤ 4611686018427387904
      · have h3 : q < -4611686018427387904 ∨ 4611686018427387904 < q := by omega
        obtain ⟨h1, h2⟩ := hp
        clear h
        go_enter Try.func14, Try.ntmps14
        go_wp2_with fail
        refine (within_yes _ _ _ h1 h2 (by omega) (by omega)).mono ?_
        rintro e w1 ⟨rfl, rfl⟩
        go_wp2_with fail
        refine (within_no _ _ _ h3 (by omega) (by omega)).mono ?_
        rintro e w1 ⟨rfl, rfl⟩
        go_wp2
        refine bodyPost_ret (v := .tuple #[.agg #[.int .i64 (0), .int .i64 (0)], .int .i64 (6)]) (by simp [results, Try.results14, go_sem, *]) rfl ?_
        refine ⟨rfl, ?_⟩
        repeat (first | exact Below.refl _ _ | refine below_drewN ?_ _ | refine Below.setCell ?_ (by first | omega | (simp; done) | (simp; omega)) _ | refine Below.alloc ?_ (by first | omega | (simp; done) | (simp; omega)) _ | refine below_step (by assumption) (by first | omega | (simp; done) | (simp; omega)) ?_)
      · have h3 : p < -4611686018427387904 ∨ 4611686018427387904 < p := by omega
        clear h hp
        go_enter Try.func14, Try.ntmps14
        go_wp2_with fail
        refine (within_no _ _ _ h3 (by omega) (by omega)).mono ?_
        rintro e w1 ⟨rfl, rfl⟩
        go_wp2
        refine bodyPost_ret (v := .tuple #[.agg #[.int .i64 (0), .int .i64 (0)], .int .i64 (6)]) (by simp [results, Try.results14, go_sem, *]) rfl ?_
        refine ⟨rfl, ?_⟩
        repeat (first | exact Below.refl _ _ | refine below_drewN ?_ _ | refine Below.setCell ?_ (by first | omega | (simp; done) | (simp; omega)) _ | refine Below.alloc ?_ (by first | omega | (simp; done) | (simp; omega)) _ | refine below_step (by assumption) (by first | omega | (simp; done) | (simp; omega)) ?_)

set_option maxHeartbeats 400000 in
theorem neg_any (p q : Int) (w : World) :
    Calls Try.prog 21 #[.agg #[.int .i64 p, .int .i64 q]] w fun e w' => e = .returned (.tuple #[.agg #[.int .i64 (negR p q).P, .int .i64 (negR p q).Q], .int .i64 (negR p q).E]) ∧ Below w.heap.size w w' := by
  by_cases h1 : vld p q = true
  · rw [show negR p q = ⟨-p, q, 0⟩ from if_pos h1]
    obtain ⟨a1, a2, a3, a4, _⟩ := vld_iff.1 h1
    go_enter Try.func21, Try.ntmps21
    go_wp2_with (go_at_call 23; refine (valid_any _ _ _).mono ?_; rintro e w1 ⟨rfl, hb1⟩; obtain ⟨hc1, hf1⟩ := bcell hb1; have hz := hb1.size; (try simp at hz); have z0 : w.heap.size < w1.heap.size := (by omega); have z1 : w.heap.size + 1 < w1.heap.size := (by omega); clear hz)
    refine bodyPost_ret (v := .tuple #[.agg #[.int .i64 (-p), .int .i64 (q)], .int .i64 (0)]) (by simp [results, Try.results21, go_sem, *]) rfl ?_
    refine ⟨rfl, ?_⟩
    repeat (first | exact Below.refl _ _ | refine below_drewN ?_ _ | refine Below.setCell ?_ (by first | omega | (simp; done) | (simp; omega)) _ | refine Below.alloc ?_ (by first | omega | (simp; done) | (simp; omega)) _ | refine below_step (by assumption) (by first | omega | (simp; done) | (simp; omega)) ?_)
  · rw [show negR p q = err 2 from if_neg h1]
    have h3 : vld p q = false := by simpa using h1
    clear h1
    go_enter Try.func21, Try.ntmps21
    go_wp2_with (go_at_call 23; refine (valid_any _ _ _).mono ?_; rintro e w1 ⟨rfl, hb1⟩; obtain ⟨hc1, hf1⟩ := bcell hb1; have hz := hb1.size; (try simp at hz); have z0 : w.heap.size < w1.heap.size := (by omega); have z1 : w.heap.size + 1 < w1.heap.size := (by omega); clear hz)
    refine bodyPost_ret (v := .tuple #[.agg #[.int .i64 (0), .int .i64 (0)], .int .i64 (2)]) (by simp [results, Try.results21, go_sem, *]) rfl ?_
    refine ⟨rfl, ?_⟩
    repeat (first | exact Below.refl _ _ | refine below_drewN ?_ _ | refine Below.setCell ?_ (by first | omega | (simp; done) | (simp; omega)) _ | refine Below.alloc ?_ (by first | omega | (simp; done) | (simp; omega)) _ | refine below_step (by assumption) (by first | omega | (simp; done) | (simp; omega)) ?_)

set_option maxHeartbeats 400000 in
theorem floorR_any (p q : Int) (w : World) :
    Calls Try.prog 25 #[.agg #[.int .i64 p, .int .i64 q]] w fun e w' => e = .returned (.tuple #[.agg #[.int .i64 (floorR p q).P, .int .i64 (floorR p q).Q], .int .i64 (floorR p q).E]) ∧ Below w.heap.size w w' := by
  by_cases h1 : vld p q = true
  · rw [show floorR p q = intR (fl p q) from if_pos h1]
    obtain ⟨a1, a2, a3, a4, _⟩ := vld_iff.1 h1
    have bd := fl_bd (p) q 2147483647 (by omega) (by omega) (by omega)
    obtain ⟨bd1, bd2⟩ := bd
    go_enter Try.func25, Try.ntmps25
    go_wp2_with (first | (go_at_call 23; refine (valid_any _ _ _).mono ?_; rintro e w1 ⟨rfl, hb1⟩; obtain ⟨hc1, hf1⟩ := bcell hb1; have hz := hb1.size; (try simp at hz); have z0 : w.heap.size < w1.heap.size := (by omega); have z1 : w.heap.size + 1 < w1.heap.size := (by omega); clear hz) | (go_at_call 56; refine (floor_any _ _ _ (by omega) (by omega) (by omega)).mono ?_; rintro e w1 ⟨rfl, rfl⟩) | (go_at_call 16; refine (int_any _ _).mono ?_; rintro e w2 ⟨rfl, hb2⟩; obtain ⟨hc2, hf2⟩ := bcell hb2; have hz := hb2.size; (try simp at hz); have z0 : w.heap.size < w2.heap.size := (by omega); have z1 : w.heap.size + 1 < w2.heap.size := (by omega); clear hz))
    refine bodyPost_ret (v := .tuple #[.agg #[.int .i64 ((intR (fl p q)).P), .int .i64 ((intR (fl p q)).Q)], .int .i64 ((intR (fl p q)).E)]) (by simp [results, Try.results25, go_sem, *]) rfl ?_
    refine ⟨rfl, ?_⟩
    repeat (first | exact Below.refl _ _ | refine below_drewN ?_ _ | refine Below.setCell ?_ (by first | omega | (simp; done) | (simp; omega)) _ | refine Below.alloc ?_ (by first | omega | (simp; done) | (simp; omega)) _ | refine below_step (by assumption) (by first | omega | (simp; done) | (simp; omega)) ?_)
  · rw [show floorR p q = err 2 from if_neg h1]
    have h3 : vld p q = false := by simpa using h1
    clear h1
    go_enter Try.func25, Try.ntmps25
    go_wp2_with (go_at_call 23; refine (valid_any _ _ _).mono ?_; rintro e w1 ⟨rfl, hb1⟩; obtain ⟨hc1, hf1⟩ := bcell hb1; have hz := hb1.size; (try simp at hz); have z0 : w.heap.size < w1.heap.size := (by omega); have z1 : w.heap.size + 1 < w1.heap.size := (by omega); clear hz)
    refine bodyPost_ret (v := .tuple #[.agg #[.int .i64 (0), .int .i64 (0)], .int .i64 (2)]) (by simp [results, Try.results25, go_sem, *]) rfl ?_
    refine ⟨rfl, ?_⟩
    repeat (first | exact Below.refl _ _ | refine below_drewN ?_ _ | refine Below.setCell ?_ (by first | omega | (simp; done) | (simp; omega)) _ | refine Below.alloc ?_ (by first | omega | (simp; done) | (simp; omega)) _ | refine below_step (by assumption) (by first | omega | (simp; done) | (simp; omega)) ?_)

set_option maxHeartbeats 400000 in
theorem ceilR_any (p q : Int) (w : World) :
    Calls Try.prog 27 #[.agg #[.int .i64 p, .int .i64 q]] w fun e w' => e = .returned (.tuple #[.agg #[.int .i64 (ceilR p q).P, .int .i64 (ceilR p q).Q], .int .i64 (ceilR p q).E]) ∧ Below w.heap.size w w' := by
  by_cases h1 : vld p q = true
  · rw [show ceilR p q = intR (-(fl (-p) q)) from if_pos h1]
    obtain ⟨a1, a2, a3, a4, _⟩ := vld_iff.1 h1
    have bd := fl_bd (-p) q 2147483647 (by omega) (by omega) (by omega)
    obtain ⟨bd1, bd2⟩ := bd
    go_enter Try.func27, Try.ntmps27
    go_wp2_with (first | (go_at_call 23; refine (valid_any _ _ _).mono ?_; rintro e w1 ⟨rfl, hb1⟩; obtain ⟨hc1, hf1⟩ := bcell hb1; have hz := hb1.size; (try simp at hz); have z0 : w.heap.size < w1.heap.size := (by omega); have z1 : w.heap.size + 1 < w1.heap.size := (by omega); clear hz) | (go_at_call 56; refine (floor_any _ _ _ (by omega) (by omega) (by omega)).mono ?_; rintro e w1 ⟨rfl, rfl⟩) | (go_at_call 16; refine (int_any _ _).mono ?_; rintro e w2 ⟨rfl, hb2⟩; obtain ⟨hc2, hf2⟩ := bcell hb2; have hz := hb2.size; (try simp at hz); have z0 : w.heap.size < w2.heap.size := (by omega); have z1 : w.heap.size + 1 < w2.heap.size := (by omega); clear hz))
    refine bodyPost_ret (v := .tuple #[.agg #[.int .i64 ((intR (-(fl (-p) q))).P), .int .i64 ((intR (-(fl (-p) q))).Q)], .int .i64 ((intR (-(fl (-p) q))).E)]) (by simp [results, Try.results27, go_sem, *]) rfl ?_
    refine ⟨rfl, ?_⟩
    repeat (first | exact Below.refl _ _ | refine below_drewN ?_ _ | refine Below.setCell ?_ (by first | omega | (simp; done) | (simp; omega)) _ | refine Below.alloc ?_ (by first | omega | (simp; done) | (simp; omega)) _ | refine below_step (by assumption) (by first | omega | (simp; done) | (simp; omega)) ?_)
  · rw [show ceilR p q = err 2 from if_neg h1]
    have h3 : vld p q = false := by simpa using h1
    clear h1
    go_enter Try.func27, Try.ntmps27
    go_wp2_with (go_at_call 23; refine (valid_any _ _ _).mono ?_; rintro e w1 ⟨rfl, hb1⟩; obtain ⟨hc1, hf1⟩ := bcell hb1; have hz := hb1.size; (try simp at hz); have z0 : w.heap.size < w1.heap.size := (by omega); have z1 : w.heap.size + 1 < w1.heap.size := (by omega); clear hz)
    refine bodyPost_ret (v := .tuple #[.agg #[.int .i64 (0), .int .i64 (0)], .int .i64 (2)]) (by simp [results, Try.results27, go_sem, *]) rfl ?_
    refine ⟨rfl, ?_⟩
    repeat (first | exact Below.refl _ _ | refine below_drewN ?_ _ | refine Below.setCell ?_ (by first | omega | (simp; done) | (simp; omega)) _ | refine Below.alloc ?_ (by first | omega | (simp; done) | (simp; omega)) _ | refine below_step (by assumption) (by first | omega | (simp; done) | (simp; omega)) ?_)

set_option maxHeartbeats 1000000 in
theorem div_any (p q p' q' : Int) (w : World) :
    Calls Try.prog 35 #[.agg #[.int .i64 p, .int .i64 q], .agg #[.int .i64 p', .int .i64 q']] w fun e w' => e = .returned (.tuple #[.agg #[.int .i64 (divR p q p' q').P, .int .i64 (divR p q p' q').Q], .int .i64 (divR p q p' q').E]) ∧ Below w.heap.size w w' := by
  by_cases h0 : dvE p q p' q' = 0
  · rw [show divR p q p' q' = out (rat (p * q') (q * p')) from if_pos h0]
    obtain ⟨h1, h2, h3⟩ := dvE_zero h0
    obtain ⟨a1, a2, a3, a4, _⟩ := vld_iff.1 h1
    obtain ⟨b1, b2, b3, b4, _⟩ := vld_iff.1 h2
    have m1 := mul_in (a := p) (b := q') (by omega) (by omega) (by omega) (by omega)
    obtain ⟨m11, m12⟩ := m1
    have m4 := mul_in (a := q) (b := p') (by omega) (by omega) (by omega) (by omega)
    obtain ⟨m41, m42⟩ := m4
    have h5 : q * p' ≠ 0 := mul_ne (by omega) h3
    go_enter Try.func35, Try.ntmps35
    go_wp2_with (first | (go_at_call 58; refine (div_err _ _ _ _ _).mono ?_; rintro e w1 ⟨rfl, hb1⟩; obtain ⟨hc1, hf1⟩ := bcell hb1; have hz := hb1.size; (try simp at hz); have z0 : w.heap.size < w1.heap.size := (by omega); have z1 : w.heap.size + 1 < w1.heap.size := (by omega); have z2 : w.heap.size + 2 < w1.heap.size := (by omega); clear hz) | (go_at_call 49; refine (reduce_any _ _ _ h5 (by omega) (by omega) (by omega) (by omega)).mono ?_; rintro e w2 ⟨rfl, hb2⟩; obtain ⟨hc2, hf2⟩ := bcell hb2; have hz := hb2.size; (try simp at hz); have z0 : w.heap.size < w2.heap.size := (by omega); have z1 : w.heap.size + 1 < w2.heap.size := (by omega); have z2 : w.heap.size + 2 < w2.heap.size := (by omega); clear hz))
    refine bodyPost_ret (v := .tuple #[.agg #[.int .i64 (oP (rat (p * q') (q * p'))), .int .i64 (oQ (rat (p * q') (q * p')))], .int .i64 (oE (rat (p * q') (q * p')))]) (by simp [results, Try.results35, go_sem, *]) rfl ?_
    refine ⟨rfl, ?_⟩
    repeat (first | exact Below.refl _ _ | refine below_drewN ?_ _ | refine Below.setCell ?_ (by first | omega | (simp; done) | (simp; omega)) _ | refine Below.alloc ?_ (by first | omega | (simp; done) | (simp; omega)) _ | refine below_step (by assumption) (by first | omega | (simp; done) | (simp; omega)) ?_)
  · rw [show divR p q p' q' = err (dvE p q p' q') from if_neg h0]
    have h4 : (dvE p q p' q' != 0) = true := by simpa using h0
    clear h0
    go_enter Try.func35, Try.ntmps35
    go_wp2_with (go_at_call 58; refine (div_err _ _ _ _ _).mono ?_; rintro e w1 ⟨rfl, hb1⟩; obtain ⟨hc1, hf1⟩ := bcell hb1; have hz := hb1.size; (try simp at hz); have z0 : w.heap.size < w1.heap.size := (by omega); have z1 : w.heap.size + 1 < w1.heap.size := (by omega); have z2 : w.heap.size + 2 < w1.heap.size := (by omega); clear hz)
    refine bodyPost_ret (v := .tuple #[.agg #[.int .i64 (0), .int .i64 (0)], .int .i64 (dvE p q p' q')]) (by simp [results, Try.results35, go_sem, *]) rfl ?_
    refine ⟨rfl, ?_⟩
    repeat (first | exact Below.refl _ _ | refine below_drewN ?_ _ | refine Below.setCell ?_ (by first | omega | (simp; done) | (simp; omega)) _ | refine Below.alloc ?_ (by first | omega | (simp; done) | (simp; omega)) _ | refine below_step (by assumption) (by first | omega | (simp; done) | (simp; omega)) ?_)

set_option maxHeartbeats 1000000 in
theorem quot_any (p q p' q' : Int) (w : World) :
    Calls Try.prog 37 #[.agg #[.int .i64 p, .int .i64 q], .agg #[.int .i64 p', .int .i64 q']] w fun e w' => e = .returned (.tuple #[.agg #[.int .i64 (quotR p q p' q').P, .int .i64 (quotR p q p' q').Q], .int .i64 (quotR p q p' q').E]) ∧ Below w.heap.size w w' := by
  by_cases h0 : dvE p q p' q' = 0
  · rw [show quotR p q p' q' = intR (fl (p * q') (q * p')) from if_pos h0]
    obtain ⟨h1, h2, h3⟩ := dvE_zero h0
    obtain ⟨a1, a2, a3, a4, _⟩ := vld_iff.1 h1
    obtain ⟨b1, b2, b3, b4, _⟩ := vld_iff.1 h2
    have m1 := mul_in (a := p) (b := q') (by omega) (by omega) (by omega) (by omega)
    obtain ⟨m11, m12⟩ := m1
    have m4 := mul_in (a := q) (b := p') (by omega) (by omega) (by omega) (by omega)
    obtain ⟨m41, m42⟩ := m4
    have h5 : q * p' ≠ 0 := mul_ne (by omega) h3
    go_enter Try.func37, Try.ntmps37
    go_wp2_with (first | (go_at_call 58; refine (div_err _ _ _ _ _).mono ?_; rintro e w1 ⟨rfl, hb1⟩; obtain ⟨hc1, hf1⟩ := bcell hb1; have hz := hb1.size; (try simp at hz); have z0 : w.heap.size < w1.heap.size := (by omega); have z1 : w.heap.size + 1 < w1.heap.size := (by omega); have z2 : w.heap.size + 2 < w1.heap.size := (by omega); clear hz) | (go_at_call 56; refine (floor_any _ _ _ h5 (by omega) (by omega)).mono ?_; rintro e w1 ⟨rfl, rfl⟩) | (go_at_call 16; refine (int_any _ _).mono ?_; rintro e w2 ⟨rfl, hb2⟩; obtain ⟨hc2, hf2⟩ := bcell hb2; have hz := hb2.size; (try simp at hz); have z0 : w.heap.size < w2.heap.size := (by omega); have z1 : w.heap.size + 1 < w2.heap.size := (by omega); have z2 : w.heap.size + 2 < w2.heap.size := (by omega); clear hz))
    refine bodyPost_ret (v := .tuple #[.agg #[.int .i64 ((intR (fl (p * q') (q * p'))).P), .int .i64 ((intR (fl (p * q') (q * p'))).Q)], .int .i64 ((intR (fl (p * q') (q * p'))).E)]) (by simp [results, Try.results37, go_sem, *]) rfl ?_
    refine ⟨rfl, ?_⟩
    repeat (first | exact Below.refl _ _ | refine below_drewN ?_ _ | refine Below.setCell ?_ (by first | omega | (simp; done) | (simp; omega)) _ | refine Below.alloc ?_ (by first | omega | (simp; done) | (simp; omega)) _ | refine below_step (by assumption) (by first | omega | (simp; done) | (simp; omega)) ?_)
  · rw [show quotR p q p' q' = err (dvE p q p' q') from if_neg h0]
    have h4 : (dvE p q p' q' != 0) = true := by simpa using h0
    clear h0
    go_enter Try.func37, Try.ntmps37
    go_wp2_with (go_at_call 58; refine (div_err _ _ _ _ _).mono ?_; rintro e w1 ⟨rfl, hb1⟩; obtain ⟨hc1, hf1⟩ := bcell hb1; have hz := hb1.size; (try simp at hz); have z0 : w.heap.size < w1.heap.size := (by omega); have z1 : w.heap.size + 1 < w1.heap.size := (by omega); have z2 : w.heap.size + 2 < w1.heap.size := (by omega); clear hz)
    refine bodyPost_ret (v := .tuple #[.agg #[.int .i64 (0), .int .i64 (0)], .int .i64 (dvE p q p' q')]) (by simp [results, Try.results37, go_sem, *]) rfl ?_
    refine ⟨rfl, ?_⟩
    repeat (first | exact Below.refl _ _ | refine below_drewN ?_ _ | refine Below.setCell ?_ (by first | omega | (simp; done) | (simp; omega)) _ | refine Below.alloc ?_ (by first | omega | (simp; done) | (simp; omega)) _ | refine below_step (by assumption) (by first | omega | (simp; done) | (simp; omega)) ?_)

theorem rorder_any (m n : Int) (w : World) :
    Calls Try.prog 62 #[.int .i64 m, .int .i64 n] w fun e w' => e = .returned (.int .i64 (cmp m n)) ∧ w = w' := by
  by_cases h1 : m < n
  · have e := Lib.hid (show cmp m n = -1 by unfold cmp; rw [if_pos h1])
    go_enter Try.func62, Try.ntmps62
    go_wp2
    go_ret
    exact ⟨ret_int e.out.symm, rfl⟩
  · by_cases h2 : n < m
    · have e := Lib.hid (show cmp m n = 1 by unfold cmp; rw [if_neg h1, if_pos h2])
      go_enter Try.func62, Try.ntmps62
      go_wp2
      go_ret
      exact ⟨ret_int e.out.symm, rfl⟩
    · have e := Lib.hid (show cmp m n = 0 by unfold cmp; rw [if_neg h1, if_neg h2])
      go_enter Try.func62, Try.ntmps62
      go_wp2
      go_ret
      exact ⟨ret_int e.out.symm, rfl⟩

set_option maxHeartbeats 400000 in
theorem rdiv_err (p q p' q' : Int) (w : World) :
    Calls Try.prog 59 #[.agg #[.int .i64 p, .int .i64 q], .agg #[.int .i64 p', .int .i64 q']] w fun e w' => e = .returned (.int .i64 (dvE p q p' q')) ∧ Below w.heap.size w w' := by
  by_cases h1 : vld p q = true
  · by_cases h2 : vld p' q' = true
    · by_cases h3 : p' = 0
      · have e := Lib.hid (show dvE p q p' q' = 7 from dvE_7 h1 h2 h3)
        subst h3
        go_enter Try.func59, Try.ntmps59
        go_wp2_with (go_at_call 24; refine (rvalid_any _ _ _).mono ?_; rintro e w1 ⟨rfl, hb1⟩; obtain ⟨hc1, hf1⟩ := bcell hb1; have hz := hb1.size; (try simp at hz); have z0 : w.heap.size < w1.heap.size := (by omega); have z1 : w.heap.size + 1 < w1.heap.size := (by omega); clear hz)
        go_ret
        refine ⟨ret_int e.out.symm, ?_⟩
        repeat (first | exact Below.refl _ _ | refine below_drewN ?_ _ | refine Below.setCell ?_ (by first | omega | (simp; done) | (simp; omega)) _ | refine Below.alloc ?_ (by first | omega | (simp; done) | (simp; omega)) _ | refine below_step (by assumption) (by first | omega | (simp; done) | (simp; omega)) ?_)
      · have e := Lib.hid (show dvE p q p' q' = 0 from dvE_0 h1 h2 h3)
        have h4 : (p' == 0) = false := by simpa using h3
        clear h3
        go_enter Try.func59, Try.ntmps59
        go_wp2_with (go_at_call 24; refine (rvalid_any _ _ _).mono ?_; rintro e w1 ⟨rfl, hb1⟩; obtain ⟨hc1, hf1⟩ := bcell hb1; have hz := hb1.size; (try simp at hz); have z0 : w.heap.size < w1.heap.size := (by omega); have z1 : w.heap.size + 1 < w1.heap.size := (by omega); clear hz)
        go_ret
        refine ⟨ret_int e.out.symm, ?_⟩
        repeat (first | exact Below.refl _ _ | refine below_drewN ?_ _ | refine Below.setCell ?_ (by first | omega | (simp; done) | (simp; omega)) _ | refine Below.alloc ?_ (by first | omega | (simp; done) | (simp; omega)) _ | refine below_step (by assumption) (by first | omega | (simp; done) | (simp; omega)) ?_)
    · have e := Lib.hid (show dvE p q p' q' = 2 from dvE_2 (fun h => h2 h.2))
      have h3 : vld p' q' = false := by simpa using h2
      clear h2
      go_enter Try.func59, Try.ntmps59
      go_wp2_with (go_at_call 24; refine (rvalid_any _ _ _).mono ?_; rintro e w1 ⟨rfl, hb1⟩; obtain ⟨hc1, hf1⟩ := bcell hb1; have hz := hb1.size; (try simp at hz); have z0 : w.heap.size < w1.heap.size := (by omega); have z1 : w.heap.size + 1 < w1.heap.size := (by omega); clear hz)
      go_ret
      refine ⟨ret_int e.out.symm, ?_⟩
      repeat (first | exact Below.refl _ _ | refine below_drewN ?_ _ | refine Below.setCell ?_ (by first | omega | (simp; done) | (simp; omega)) _ | refine Below.alloc ?_ (by first | omega | (simp; done) | (simp; omega)) _ | refine below_step (by assumption) (by first | omega | (simp; done) | (simp; omega)) ?_)
  · have e := Lib.hid (show dvE p q p' q' = 2 from dvE_2 (fun h => h1 h.1))
    have h3 : vld p q = false := by simpa using h1
    clear h1
    go_enter Try.func59, Try.ntmps59
    go_wp2_with (go_at_call 24; refine (rvalid_any _ _ _).mono ?_; rintro e w1 ⟨rfl, hb1⟩; obtain ⟨hc1, hf1⟩ := bcell hb1; have hz := hb1.size; (try simp at hz); have z0 : w.heap.size < w1.heap.size := (by omega); have z1 : w.heap.size + 1 < w1.heap.size := (by omega); clear hz)
    go_ret
    refine ⟨ret_int e.out.symm, ?_⟩
    repeat (first | exact Below.refl _ _ | refine below_drewN ?_ _ | refine Below.setCell ?_ (by first | omega | (simp; done) | (simp; omega)) _ | refine Below.alloc ?_ (by first | omega | (simp; done) | (simp; omega)) _ | refine below_step (by assumption) (by first | omega | (simp; done) | (simp; omega)) ?_)

set_option maxHeartbeats 400000 in
theorem rint_any (n : Int) (w : World) :
    Calls Try.prog 17 #[.int .i64 n] w fun e w' => e = .returned (.tuple #[.agg #[.int .i64 (intR n).P, .int .i64 (intR n).Q], .int .i64 (intR n).E]) ∧ Below w.heap.size w w' := by
  by_cases h : -2147483647 ≤ n ∧ n ≤ 2147483647
  · rw [show intR n = ⟨n, 1, 0⟩ from if_pos h]
    obtain ⟨h1, h2⟩ := h
    go_enter Try.func17, Try.ntmps17
    go_wp2
    refine bodyPost_ret (v := .tuple #[.agg #[.int .i64 (n), .int .i64 (1)], .int .i64 (0)]) (by simp [results, Try.results17, go_sem, *]) rfl ?_
    refine ⟨rfl, ?_⟩
    repeat (first | exact Below.refl _ _ | refine below_drewN ?_ _ | refine Below.setCell ?_ (by first | omega | (simp; done) | (simp; omega)) _ | refine Below.alloc ?_ (by first | omega | (simp; done) | (simp; omega)) _ | refine below_step (by assumption) (by first | omega | (simp; done) | (simp; omega)) ?_)
  · rw [show intR n = err 6 from if_neg h]
    by_cases h3 : 2147483647 < n
    · clear h
      go_enter Try.func17, Try.ntmps17
      go_wp2
      refine bodyPost_ret (v := .tuple #[.agg #[.int .i64 (0), .int .i64 (0)], .int .i64 (6)]) (by simp [results, Try.results17, go_sem, *]) rfl ?_
      refine ⟨rfl, ?_⟩
      repeat (first | exact Below.refl _ _ | refine below_drewN ?_ _ | refine Below.setCell ?_ (by first | omega | (simp; done) | (simp; omega)) _ | refine Below.alloc ?_ (by first | omega | (simp; done) | (simp; omega)) _ | refine below_step (by assumption) (by first | omega | (simp; done) | (simp; omega)) ?_)
    · have h4 : n < -2147483647 := by omega
      clear h
      go_enter Try.func17, Try.ntmps17
      go_wp2
      refine bodyPost_ret (v := .tuple #[.agg #[.int .i64 (0), .int .i64 (0)], .int .i64 (6)]) (by simp [results, Try.results17, go_sem, *]) rfl ?_
      refine ⟨rfl, ?_⟩
      repeat (first | exact Below.refl _ _ | refine below_drewN ?_ _ | refine Below.setCell ?_ (by first | omega | (simp; done) | (simp; omega)) _ | refine Below.alloc ?_ (by first | omega | (simp; done) | (simp; omega)) _ | refine below_step (by assumption) (by first | omega | (simp; done) | (simp; omega)) ?_)

set_option maxHeartbeats 1000000 in
theorem rmake_any (p q : Int) (w : World) :
    Calls Try.prog 15 #[.int .i64 p, .int .i64 q] w fun e w' => e = .returned (.tuple #[.agg #[.int .i64 (makeR p q).P, .int .i64 (makeR p q).Q], .int .i64 (makeR p q).E]) ∧ Below w.heap.size w w' := by
  by_cases hq : q = 0
  · subst hq
    rw [show makeR p 0 = err 7 from if_pos rfl]
    go_enter Try.func15, Try.ntmps15
    go_wp2
    refine bodyPost_ret (v := .tuple #[.agg #[.int .i64 (0), .int .i64 (0)], .int .i64 (7)]) (by simp [results, Try.results15, go_sem, *]) rfl ?_
    refine ⟨rfl, ?_⟩
    repeat (first | exact Below.refl _ _ | refine below_drewN ?_ _ | refine Below.setCell ?_ (by first | omega | (simp; done) | (simp; omega)) _ | refine Below.alloc ?_ (by first | omega | (simp; done) | (simp; omega)) _ | refine below_step (by assumption) (by first | omega | (simp; done) | (simp; omega)) ?_)
  · have hq0 : (q == 0) = false := by simpa using hq
    by_cases h : -4611686018427387904 ≤ p ∧ p ≤ 4611686018427387904 ∧ -4611686018427387904 ≤ q ∧ q ≤ 4611686018427387904
    · rw [show makeR p q = out (rat p q) by unfold makeR; rw [if_neg hq, if_pos h]]
      obtain ⟨h1, h2, h3, h4⟩ := h
      go_enter Try.func15, Try.ntmps15
      go_wp2_with (go_at_call 50; refine (rreduce_any _ _ _ hq (by omega) (by omega) (by omega) (by omega)).mono ?_; rintro e w1 ⟨rfl, hb1⟩; obtain ⟨hc1, hf1⟩ := bcell hb1; have hz := hb1.size; (try simp at hz); have z0 : w.heap.size < w1.heap.size := (by omega); clear hz)
      refine bodyPost_ret (v := .tuple #[.agg #[.int .i64 (oP (rat p q)), .int .i64 (oQ (rat p q))], .int .i64 (oE (rat p q))]) (by simp [results, Try.results15, go_sem, *]) rfl ?_
      refine ⟨rfl, ?_⟩
      repeat (first | exact Below.refl _ _ | refine below_drewN ?_ _ | refine Below.setCell ?_ (by first | omega | (simp; done) | (simp; omega)) _ | refine Below.alloc ?_ (by first | omega | (simp; done) | (simp; omega)) _ | refine below_step (by assumption) (by first | omega | (simp; done) | (simp; omega)) ?_)
    · rw [show makeR p q = err 6 by unfold makeR; rw [if_neg hq, if_neg h]]
      by_cases g1 : 4611686018427387904 < p
      · clear h
        go_enter Try.func15, Try.ntmps15
        go_wp2
        refine bodyPost_ret (v := .tuple #[.agg #[.int .i64 (0), .int .i64 (0)], .int .i64 (6)]) (by simp [results, Try.results15, go_sem, *]) rfl ?_
        refine ⟨rfl, ?_⟩
        repeat (first | exact Below.refl _ _ | refine below_drewN ?_ _ | refine Below.setCell ?_ (by first | omega | (simp; done) | (simp; omega)) _ | refine Below.alloc ?_ (by first | omega | (simp; done) | (simp; omega)) _ | refine below_step (by assumption) (by first | omega | (simp; done) | (simp; omega)) ?_)
      · by_cases g2 : p < -4611686018427387904
        · clear h
          go_enter Try.func15, Try.ntmps15
          go_wp2
          refine bodyPost_ret (v := .tuple #[.agg #[.int .i64 (0), .int .i64 (0)], .int .i64 (6)]) (by simp [results, Try.results15, go_sem, *]) rfl ?_
          refine ⟨rfl, ?_⟩
          repeat (first | exact Below.refl _ _ | refine below_drewN ?_ _ | refine Below.setCell ?_ (by first | omega | (simp; done) | (simp; omega)) _ | refine Below.alloc ?_ (by first | omega | (simp; done) | (simp; omega)) _ | refine below_step (by assumption) (by first | omega | (simp; done) | (simp; omega)) ?_)
        · by_cases g3 : 4611686018427387904 < q
          · clear h
            go_enter Try.func15, Try.ntmps15
            go_wp2
            refine bodyPost_ret (v := .tuple #[.agg #[.int .i64 (0), .int .i64 (0)], .int .i64 (6)]) (by simp [results, Try.results15, go_sem, *]) rfl ?_
            refine ⟨rfl, ?_⟩
            repeat (first | exact Below.refl _ _ | refine below_drewN ?_ _ | refine Below.setCell ?_ (by first | omega | (simp; done) | (simp; omega)) _ | refine Below.alloc ?_ (by first | omega | (simp; done) | (simp; omega)) _ | refine below_step (by assumption) (by first | omega | (simp; done) | (simp; omega)) ?_)
          · have g4 : q < -4611686018427387904 := by omega
            clear h
            go_enter Try.func15, Try.ntmps15
            go_wp2
            refine bodyPost_ret (v := .tuple #[.agg #[.int .i64 (0), .int .i64 (0)], .int .i64 (6)]) (by simp [results, Try.results15, go_sem, *]) rfl ?_
            refine ⟨rfl, ?_⟩
            repeat (first | exact Below.refl _ _ | refine below_drewN ?_ _ | refine Below.setCell ?_ (by first | omega | (simp; done) | (simp; omega)) _ | refine Below.alloc ?_ (by first | omega | (simp; done) | (simp; omega)) _ | refine below_step (by assumption) (by first | omega | (simp; done) | (simp; omega)) ?_)

set_option maxHeartbeats 400000 in
theorem rneg_any (p q : Int) (w : World) :
    Calls Try.prog 22 #[.agg #[.int .i64 p, .int .i64 q]] w fun e w' => e = .returned (.tuple #[.agg #[.int .i64 (negR p q).P, .int .i64 (negR p q).Q], .int .i64 (negR p q).E]) ∧ Below w.heap.size w w' := by
  by_cases h1 : vld p q = true
  · rw [show negR p q = ⟨-p, q, 0⟩ from if_pos h1]
    obtain ⟨a1, a2, a3, a4, _⟩ := vld_iff.1 h1
    go_enter Try.func22, Try.ntmps22
    go_wp2_with (go_at_call 24; refine (rvalid_any _ _ _).mono ?_; rintro e w1 ⟨rfl, hb1⟩; obtain ⟨hc1, hf1⟩ := bcell hb1; have hz := hb1.size; (try simp at hz); have z0 : w.heap.size < w1.heap.size := (by omega); have z1 : w.heap.size + 1 < w1.heap.size := (by omega); clear hz)
    refine bodyPost_ret (v := .tuple #[.agg #[.int .i64 (-p), .int .i64 (q)], .int .i64 (0)]) (by simp [results, Try.results22, go_sem, *]) rfl ?_
    refine ⟨rfl, ?_⟩
    repeat (first | exact Below.refl _ _ | refine below_drewN ?_ _ | refine Below.setCell ?_ (by first | omega | (simp; done) | (simp; omega)) _ | refine Below.alloc ?_ (by first | omega | (simp; done) | (simp; omega)) _ | refine below_step (by assumption) (by first | omega | (simp; done) | (simp; omega)) ?_)
  · rw [show negR p q = err 2 from if_neg h1]
    have h3 : vld p q = false := by simpa using h1
    clear h1
    go_enter Try.func22, Try.ntmps22
    go_wp2_with (go_at_call 24; refine (rvalid_any _ _ _).mono ?_; rintro e w1 ⟨rfl, hb1⟩; obtain ⟨hc1, hf1⟩ := bcell hb1; have hz := hb1.size; (try simp at hz); have z0 : w.heap.size < w1.heap.size := (by omega); have z1 : w.heap.size + 1 < w1.heap.size := (by omega); clear hz)
    refine bodyPost_ret (v := .tuple #[.agg #[.int .i64 (0), .int .i64 (0)], .int .i64 (2)]) (by simp [results, Try.results22, go_sem, *]) rfl ?_
    refine ⟨rfl, ?_⟩
    repeat (first | exact Below.refl _ _ | refine below_drewN ?_ _ | refine Below.setCell ?_ (by first | omega | (simp; done) | (simp; omega)) _ | refine Below.alloc ?_ (by first | omega | (simp; done) | (simp; omega)) _ | refine below_step (by assumption) (by first | omega | (simp; done) | (simp; omega)) ?_)

set_option maxHeartbeats 400000 in
theorem rfloorR_any (p q : Int) (w : World) :
    Calls Try.prog 26 #[.agg #[.int .i64 p, .int .i64 q]] w fun e w' => e = .returned (.tuple #[.agg #[.int .i64 (floorR p q).P, .int .i64 (floorR p q).Q], .int .i64 (floorR p q).E]) ∧ Below w.heap.size w w' := by
  by_cases h1 : vld p q = true
  · rw [show floorR p q = intR (fl p q) from if_pos h1]
    obtain ⟨a1, a2, a3, a4, _⟩ := vld_iff.1 h1
    have bd := fl_bd (p) q 2147483647 (by omega) (by omega) (by omega)
    obtain ⟨bd1, bd2⟩ := bd
    go_enter Try.func26, Try.ntmps26
    go_wp2_with (first | (go_at_call 24; refine (rvalid_any _ _ _).mono ?_; rintro e w1 ⟨rfl, hb1⟩; obtain ⟨hc1, hf1⟩ := bcell hb1; have hz := hb1.size; (try simp at hz); have z0 : w.heap.size < w1.heap.size := (by omega); have z1 : w.heap.size + 1 < w1.heap.size := (by omega); clear hz) | (go_at_call 57; refine (rfloor_any _ _ _ (by omega) (by omega) (by omega)).mono ?_; rintro e w1 ⟨rfl, rfl⟩) | (go_at_call 17; refine (rint_any _ _).mono ?_; rintro e w2 ⟨rfl, hb2⟩; obtain ⟨hc2, hf2⟩ := bcell hb2; have hz := hb2.size; (try simp at hz); have z0 : w.heap.size < w2.heap.size := (by omega); have z1 : w.heap.size + 1 < w2.heap.size := (by omega); clear hz))
    refine bodyPost_ret (v := .tuple #[.agg #[.int .i64 ((intR (fl p q)).P), .int .i64 ((intR (fl p q)).Q)], .int .i64 ((intR (fl p q)).E)]) (by simp [results, Try.results26, go_sem, *]) rfl ?_
    refine ⟨rfl, ?_⟩
    repeat (first | exact Below.refl _ _ | refine below_drewN ?_ _ | refine Below.setCell ?_ (by first | omega | (simp; done) | (simp; omega)) _ | refine Below.alloc ?_ (by first | omega | (simp; done) | (simp; omega)) _ | refine below_step (by assumption) (by first | omega | (simp; done) | (simp; omega)) ?_)
  · rw [show floorR p q = err 2 from if_neg h1]
    have h3 : vld p q = false := by simpa using h1
    clear h1
    go_enter Try.func26, Try.ntmps26
    go_wp2_with (go_at_call 24; refine (rvalid_any _ _ _).mono ?_; rintro e w1 ⟨rfl, hb1⟩; obtain ⟨hc1, hf1⟩ := bcell hb1; have hz := hb1.size; (try simp at hz); have z0 : w.heap.size < w1.heap.size := (by omega); have z1 : w.heap.size + 1 < w1.heap.size := (by omega); clear hz)
    refine bodyPost_ret (v := .tuple #[.agg #[.int .i64 (0), .int .i64 (0)], .int .i64 (2)]) (by simp [results, Try.results26, go_sem, *]) rfl ?_
    refine ⟨rfl, ?_⟩
    repeat (first | exact Below.refl _ _ | refine below_drewN ?_ _ | refine Below.setCell ?_ (by first | omega | (simp; done) | (simp; omega)) _ | refine Below.alloc ?_ (by first | omega | (simp; done) | (simp; omega)) _ | refine below_step (by assumption) (by first | omega | (simp; done) | (simp; omega)) ?_)

set_option maxHeartbeats 400000 in
theorem rceilR_any (p q : Int) (w : World) :
    Calls Try.prog 28 #[.agg #[.int .i64 p, .int .i64 q]] w fun e w' => e = .returned (.tuple #[.agg #[.int .i64 (ceilR p q).P, .int .i64 (ceilR p q).Q], .int .i64 (ceilR p q).E]) ∧ Below w.heap.size w w' := by
  by_cases h1 : vld p q = true
  · rw [show ceilR p q = intR (-(fl (-p) q)) from if_pos h1]
    obtain ⟨a1, a2, a3, a4, _⟩ := vld_iff.1 h1
    have bd := fl_bd (-p) q 2147483647 (by omega) (by omega) (by omega)
    obtain ⟨bd1, bd2⟩ := bd
    go_enter Try.func28, Try.ntmps28
    go_wp2_with (first | (go_at_call 24; refine (rvalid_any _ _ _).mono ?_; rintro e w1 ⟨rfl, hb1⟩; obtain ⟨hc1, hf1⟩ := bcell hb1; have hz := hb1.size; (try simp at hz); have z0 : w.heap.size < w1.heap.size := (by omega); have z1 : w.heap.size + 1 < w1.heap.size := (by omega); clear hz) | (go_at_call 57; refine (rfloor_any _ _ _ (by omega) (by omega) (by omega)).mono ?_; rintro e w1 ⟨rfl, rfl⟩) | (go_at_call 17; refine (rint_any _ _).mono ?_; rintro e w2 ⟨rfl, hb2⟩; obtain ⟨hc2, hf2⟩ := bcell hb2; have hz := hb2.size; (try simp at hz); have z0 : w.heap.size < w2.heap.size := (by omega); have z1 : w.heap.size + 1 < w2.heap.size := (by omega); clear hz))
    refine bodyPost_ret (v := .tuple #[.agg #[.int .i64 ((intR (-(fl (-p) q))).P), .int .i64 ((intR (-(fl (-p) q))).Q)], .int .i64 ((intR (-(fl (-p) q))).E)]) (by simp [results, Try.results28, go_sem, *]) rfl ?_
    refine ⟨rfl, ?_⟩
    repeat (first | exact Below.refl _ _ | refine below_drewN ?_ _ | refine Below.setCell ?_ (by first | omega | (simp; done) | (simp; omega)) _ | refine Below.alloc ?_ (by first | omega | (simp; done) | (simp; omega)) _ | refine below_step (by assumption) (by first | omega | (simp; done) | (simp; omega)) ?_)
  · rw [show ceilR p q = err 2 from if_neg h1]
    have h3 : vld p q = false := by simpa using h1
    clear h1
    go_enter Try.func28, Try.ntmps28
    go_wp2_with (go_at_call 24; refine (rvalid_any _ _ _).mono ?_; rintro e w1 ⟨rfl, hb1⟩; obtain ⟨hc1, hf1⟩ := bcell hb1; have hz := hb1.size; (try simp at hz); have z0 : w.heap.size < w1.heap.size := (by omega); have z1 : w.heap.size + 1 < w1.heap.size := (by omega); clear hz)
    refine bodyPost_ret (v := .tuple #[.agg #[.int .i64 (0), .int .i64 (0)], .int .i64 (2)]) (by simp [results, Try.results28, go_sem, *]) rfl ?_
    refine ⟨rfl, ?_⟩
    repeat (first | exact Below.refl _ _ | refine below_drewN ?_ _ | refine Below.setCell ?_ (by first | omega | (simp; done) | (simp; omega)) _ | refine Below.alloc ?_ (by first | omega | (simp; done) | (simp; omega)) _ | refine below_step (by assumption) (by first | omega | (simp; done) | (simp; omega)) ?_)

set_option maxHeartbeats 1000000 in
theorem rdiv_any (p q p' q' : Int) (w : World) :
    Calls Try.prog 36 #[.agg #[.int .i64 p, .int .i64 q], .agg #[.int .i64 p', .int .i64 q']] w fun e w' => e = .returned (.tuple #[.agg #[.int .i64 (divR p q p' q').P, .int .i64 (divR p q p' q').Q], .int .i64 (divR p q p' q').E]) ∧ Below w.heap.size w w' := by
  by_cases h0 : dvE p q p' q' = 0
  · rw [show divR p q p' q' = out (rat (p * q') (q * p')) from if_pos h0]
    obtain ⟨h1, h2, h3⟩ := dvE_zero h0
    obtain ⟨a1, a2, a3, a4, _⟩ := vld_iff.1 h1
    obtain ⟨b1, b2, b3, b4, _⟩ := vld_iff.1 h2
    have m1 := mul_in (a := p) (b := q') (by omega) (by omega) (by omega) (by omega)
    obtain ⟨m11, m12⟩ := m1
    have m4 := mul_in (a := q) (b := p') (by omega) (by omega) (by omega) (by omega)
    obtain ⟨m41, m42⟩ := m4
    have h5 : q * p' ≠ 0 := mul_ne (by omega) h3
    go_enter Try.func36, Try.ntmps36
    go_wp2_with (first | (go_at_call 59; refine (rdiv_err _ _ _ _ _).mono ?_; rintro e w1 ⟨rfl, hb1⟩; obtain ⟨hc1, hf1⟩ := bcell hb1; have hz := hb1.size; (try simp at hz); have z0 : w.heap.size < w1.heap.size := (by omega); have z1 : w.heap.size + 1 < w1.heap.size := (by omega); have z2 : w.heap.size + 2 < w1.heap.size := (by omega); clear hz) | (go_at_call 50; refine (rreduce_any _ _ _ h5 (by omega) (by omega) (by omega) (by omega)).mono ?_; rintro e w2 ⟨rfl, hb2⟩; obtain ⟨hc2, hf2⟩ := bcell hb2; have hz := hb2.size; (try simp at hz); have z0 : w.heap.size < w2.heap.size := (by omega); have z1 : w.heap.size + 1 < w2.heap.size := (by omega); have z2 : w.heap.size + 2 < w2.heap.size := (by omega); clear hz))
    refine bodyPost_ret (v := .tuple #[.agg #[.int .i64 (oP (rat (p * q') (q * p'))), .int .i64 (oQ (rat (p * q') (q * p')))], .int .i64 (oE (rat (p * q') (q * p')))]) (by simp [results, Try.results36, go_sem, *]) rfl ?_
    refine ⟨rfl, ?_⟩
    repeat (first | exact Below.refl _ _ | refine below_drewN ?_ _ | refine Below.setCell ?_ (by first | omega | (simp; done) | (simp; omega)) _ | refine Below.alloc ?_ (by first | omega | (simp; done) | (simp; omega)) _ | refine below_step (by assumption) (by first | omega | (simp; done) | (simp; omega)) ?_)
  · rw [show divR p q p' q' = err (dvE p q p' q') from if_neg h0]
    have h4 : (dvE p q p' q' != 0) = true := by simpa using h0
    clear h0
    go_enter Try.func36, Try.ntmps36
    go_wp2_with (go_at_call 59; refine (rdiv_err _ _ _ _ _).mono ?_; rintro e w1 ⟨rfl, hb1⟩; obtain ⟨hc1, hf1⟩ := bcell hb1; have hz := hb1.size; (try simp at hz); have z0 : w.heap.size < w1.heap.size := (by omega); have z1 : w.heap.size + 1 < w1.heap.size := (by omega); have z2 : w.heap.size + 2 < w1.heap.size := (by omega); clear hz)
    refine bodyPost_ret (v := .tuple #[.agg #[.int .i64 (0), .int .i64 (0)], .int .i64 (dvE p q p' q')]) (by simp [results, Try.results36, go_sem, *]) rfl ?_
    refine ⟨rfl, ?_⟩
    repeat (first | exact Below.refl _ _ | refine below_drewN ?_ _ | refine Below.setCell ?_ (by first | omega | (simp; done) | (simp; omega)) _ | refine Below.alloc ?_ (by first | omega | (simp; done) | (simp; omega)) _ | refine below_step (by assumption) (by first | omega | (simp; done) | (simp; omega)) ?_)

set_option maxHeartbeats 1000000 in
theorem rquot_any (p q p' q' : Int) (w : World) :
    Calls Try.prog 38 #[.agg #[.int .i64 p, .int .i64 q], .agg #[.int .i64 p', .int .i64 q']] w fun e w' => e = .returned (.tuple #[.agg #[.int .i64 (quotR p q p' q').P, .int .i64 (quotR p q p' q').Q], .int .i64 (quotR p q p' q').E]) ∧ Below w.heap.size w w' := by
  by_cases h0 : dvE p q p' q' = 0
  · rw [show quotR p q p' q' = intR (fl (p * q') (q * p')) from if_pos h0]
    obtain ⟨h1, h2, h3⟩ := dvE_zero h0
    obtain ⟨a1, a2, a3, a4, _⟩ := vld_iff.1 h1
    obtain ⟨b1, b2, b3, b4, _⟩ := vld_iff.1 h2
    have m1 := mul_in (a := p) (b := q') (by omega) (by omega) (by omega) (by omega)
    obtain ⟨m11, m12⟩ := m1
    have m4 := mul_in (a := q) (b := p') (by omega) (by omega) (by omega) (by omega)
    obtain ⟨m41, m42⟩ := m4
    have h5 : q * p' ≠ 0 := mul_ne (by omega) h3
    go_enter Try.func38, Try.ntmps38
    go_wp2_with (first | (go_at_call 59; refine (rdiv_err _ _ _ _ _).mono ?_; rintro e w1 ⟨rfl, hb1⟩; obtain ⟨hc1, hf1⟩ := bcell hb1; have hz := hb1.size; (try simp at hz); have z0 : w.heap.size < w1.heap.size := (by omega); have z1 : w.heap.size + 1 < w1.heap.size := (by omega); have z2 : w.heap.size + 2 < w1.heap.size := (by omega); clear hz) | (go_at_call 57; refine (rfloor_any _ _ _ h5 (by omega) (by omega)).mono ?_; rintro e w1 ⟨rfl, rfl⟩) | (go_at_call 17; refine (rint_any _ _).mono ?_; rintro e w2 ⟨rfl, hb2⟩; obtain ⟨hc2, hf2⟩ := bcell hb2; have hz := hb2.size; (try simp at hz); have z0 : w.heap.size < w2.heap.size := (by omega); have z1 : w.heap.size + 1 < w2.heap.size := (by omega); have z2 : w.heap.size + 2 < w2.heap.size := (by omega); clear hz))
    refine bodyPost_ret (v := .tuple #[.agg #[.int .i64 ((intR (fl (p * q') (q * p'))).P), .int .i64 ((intR (fl (p * q') (q * p'))).Q)], .int .i64 ((intR (fl (p * q') (q * p'))).E)]) (by simp [results, Try.results38, go_sem, *]) rfl ?_
    refine ⟨rfl, ?_⟩
    repeat (first | exact Below.refl _ _ | refine below_drewN ?_ _ | refine Below.setCell ?_ (by first | omega | (simp; done) | (simp; omega)) _ | refine Below.alloc ?_ (by first | omega | (simp; done) | (simp; omega)) _ | refine below_step (by assumption) (by first | omega | (simp; done) | (simp; omega)) ?_)
  · rw [show quotR p q p' q' = err (dvE p q p' q') from if_neg h0]
    have h4 : (dvE p q p' q' != 0) = true := by simpa using h0
    clear h0
    go_enter Try.func38, Try.ntmps38
    go_wp2_with (go_at_call 59; refine (rdiv_err _ _ _ _ _).mono ?_; rintro e w1 ⟨rfl, hb1⟩; obtain ⟨hc1, hf1⟩ := bcell hb1; have hz := hb1.size; (try simp at hz); have z0 : w.heap.size < w1.heap.size := (by omega); have z1 : w.heap.size + 1 < w1.heap.size := (by omega); have z2 : w.heap.size + 2 < w1.heap.size := (by omega); clear hz)
    refine bodyPost_ret (v := .tuple #[.agg #[.int .i64 (0), .int .i64 (0)], .int .i64 (dvE p q p' q')]) (by simp [results, Try.results38, go_sem, *]) rfl ?_
    refine ⟨rfl, ?_⟩
    repeat (first | exact Below.refl _ _ | refine below_drewN ?_ _ | refine Below.setCell ?_ (by first | omega | (simp; done) | (simp; omega)) _ | refine Below.alloc ?_ (by first | omega | (simp; done) | (simp; omega)) _ | refine below_step (by assumption) (by first | omega | (simp; done) | (simp; omega)) ?_)
end Go.Proofs.Ytpoljkgfaceniaa
