/- Contracts of layer 2: the reference's Scan; texts of numbers. -/
import Derived.Test.YtbdcmnhfmkefdaaGreatDoorNumJ
namespace Go.Proofs.YtbdcmnhfmkefdaaGreatDoor
open Go.RowKit M1 M2
set_option linter.unusedVariables false
theorem scanR_rn (l : List UInt8) (a : Nat) (h : a ≤ l.length) : scanR l a = if (rnR (l.drop a)).E = 0 then ⟨(rnR (l.drop a)).P, (rnR (l.drop a)).Q, ((a + (meas (l.drop a)).fin : Nat) : Int), 0⟩ else ⟨0, 0, 0, (rnR (l.drop a)).E⟩ := by
  unfold scanR
  rw [if_neg (by omega), Int.toNat_natCast]
  by_cases h0 : (meas (l.drop a)).fin = 0
  · rw [if_pos h0]; unfold rnR; rw [if_pos h0]; rfl
  · rw [if_neg h0]
    have : rnR (l.drop a) = numR (meas (l.drop a)) := if_neg h0
    rw [this]
    push_cast
    rfl

set_option maxHeartbeats 400000 in
theorem rscan_neg (s : ByteArray) (a : Int) (w : World) (hs : s.size ≤ 4000000000) (h : a < 0) :
    Calls Tryz.prog 72 #[.string s, .int .i64 a] w fun e w' => e = .returned (.tuple #[.agg #[.int .i64 (scanR s.data.toList a).P, .int .i64 (scanR s.data.toList a).Q], .int .i64 (scanR s.data.toList a).N, .int .i64 (scanR s.data.toList a).E]) ∧ Below w.heap.size w w' := by
  rw [show scanR s.data.toList a = ⟨0, 0, 0, 6⟩ from if_pos (.inl h)]
  go_enter Tryz.func72, Tryz.ntmps72
  go_wp2
  refine bodyPost_ret (v := .tuple #[.agg #[.int .i64 0, .int .i64 0], .int .i64 0, .int .i64 6]) (by simp [results, Tryz.results72, go_sem, *]) rfl ?_
  refine ⟨rfl, ?_⟩
  repeat (first | exact Below.refl _ _ | refine below_drewN ?_ _ | refine Below.drew ?_ | refine Below.setCell ?_ (by first | omega | (simp; done) | (simp; omega)) _ | refine Below.alloc ?_ (by first | omega | (simp; done) | (simp; omega)) _ | refine below_step (by assumption) (by first | omega | (simp; done) | (simp; omega)) ?_)

set_option maxHeartbeats 400000 in
theorem rscan_far (s : ByteArray) (a : Int) (w : World) (hs : s.size ≤ 4000000000) (h0 : 0 ≤ a) (h : (s.size : Int) < a) :
    Calls Tryz.prog 72 #[.string s, .int .i64 a] w fun e w' => e = .returned (.tuple #[.agg #[.int .i64 (scanR s.data.toList a).P, .int .i64 (scanR s.data.toList a).Q], .int .i64 (scanR s.data.toList a).N, .int .i64 (scanR s.data.toList a).E]) ∧ Below w.heap.size w w' := by
  rw [show scanR s.data.toList a = ⟨0, 0, 0, 6⟩ from if_pos (.inr (by rw [list_size]; exact h))]
  go_enter Tryz.func72, Tryz.ntmps72
  go_wp2
  refine bodyPost_ret (v := .tuple #[.agg #[.int .i64 0, .int .i64 0], .int .i64 0, .int .i64 6]) (by simp [results, Tryz.results72, go_sem, *]) rfl ?_
  refine ⟨rfl, ?_⟩
  repeat (first | exact Below.refl _ _ | refine below_drewN ?_ _ | refine Below.drew ?_ | refine Below.setCell ?_ (by first | omega | (simp; done) | (simp; omega)) _ | refine Below.alloc ?_ (by first | omega | (simp; done) | (simp; omega)) _ | refine below_step (by assumption) (by first | omega | (simp; done) | (simp; omega)) ?_)

set_option maxHeartbeats 400000 in
theorem rscan_err (s : ByteArray) (a : Nat) (w : World) (hs : s.size ≤ 4000000000) (h : a ≤ s.size) (h0 : (rnR (s.data.toList.drop a)).E ≠ 0) :
    Calls Tryz.prog 72 #[.string s, .int .i64 a] w fun e w' => e = .returned (.tuple #[.agg #[.int .i64 (scanR s.data.toList a).P, .int .i64 (scanR s.data.toList a).Q], .int .i64 (scanR s.data.toList a).N, .int .i64 (scanR s.data.toList a).E]) ∧ Below w.heap.size w w' := by
  have hsc : scanR s.data.toList a = ⟨0, 0, 0, (rnR (s.data.toList.drop a)).E⟩ := by rw [scanR_rn _ _ (by rw [list_size]; exact h), if_neg h0]
  rw [hsc]
  have N1 : Hid (∀ w, Calls Tryz.prog 96 #[.string s, .int .i64 a] w fun e w' => e = .returned (.tuple #[.int .i64 ((a + (meas (s.data.toList.drop a)).fin : Nat) : Int), .agg #[.int .i64 (rnR (s.data.toList.drop a)).P, .int .i64 (rnR (s.data.toList.drop a)).Q], .int .i64 (rnR (s.data.toList.drop a)).E]) ∧ Below w.heap.size w w') := Lib.hid fun w => rnumeral_any s a w hs h
  clear hsc
  generalize a + (meas (s.data.toList.drop a)).fin = f at *
  generalize rnR (s.data.toList.drop a) = R at *
  have g : (R.E != 0) = true := by rw [bne_iff_ne]; exact h0
  clear h0
  go_enter Tryz.func72, Tryz.ntmps72
  go_wp2_with (first | (go_at_call 96; (with_reducible refine (N1.out _).mono ?_); rintro e w1 ⟨rfl, hb1⟩; obtain ⟨hc1, hf1⟩ := bcell hb1; have hz := hb1.size; (try simp at hz); (try (have z1_0 : w.heap.size < w1.heap.size := (by omega))); (try (have z1_1 : w.heap.size + 1 < w1.heap.size := (by omega))); clear hz; (try (have k1a : w1.cell? ⟨w.heap.size, 0, none⟩ = some (.int .i64 0) := by go_simp)); (try (have k1b : w1.cell? ⟨w.heap.size, 1, none⟩ = some (.int .i64 0) := by go_simp))))
  refine bodyPost_ret (v := .tuple #[.agg #[.int .i64 0, .int .i64 0], .int .i64 0, .int .i64 R.E]) (by simp [results, Tryz.results72, go_sem, *]) rfl ?_
  refine ⟨rfl, ?_⟩
  repeat (first | exact Below.refl _ _ | refine below_drewN ?_ _ | refine Below.drew ?_ | refine Below.setCell ?_ (by first | omega | (simp; done) | (simp; omega)) _ | refine Below.alloc ?_ (by first | omega | (simp; done) | (simp; omega)) _ | refine below_step (by assumption) (by first | omega | (simp; done) | (simp; omega)) ?_)

set_option maxHeartbeats 400000 in
theorem rscan_ok (s : ByteArray) (a : Nat) (w : World) (hs : s.size ≤ 4000000000) (h : a ≤ s.size) (h0 : (rnR (s.data.toList.drop a)).E = 0) :
    Calls Tryz.prog 72 #[.string s, .int .i64 a] w fun e w' => e = .returned (.tuple #[.agg #[.int .i64 (scanR s.data.toList a).P, .int .i64 (scanR s.data.toList a).Q], .int .i64 (scanR s.data.toList a).N, .int .i64 (scanR s.data.toList a).E]) ∧ Below w.heap.size w w' := by
  have hsc : scanR s.data.toList a = ⟨(rnR (s.data.toList.drop a)).P, (rnR (s.data.toList.drop a)).Q, ((a + (meas (s.data.toList.drop a)).fin : Nat) : Int), 0⟩ := by rw [scanR_rn _ _ (by rw [list_size]; exact h), if_pos h0]
  rw [hsc]
  have N1 : Hid (∀ w, Calls Tryz.prog 96 #[.string s, .int .i64 a] w fun e w' => e = .returned (.tuple #[.int .i64 ((a + (meas (s.data.toList.drop a)).fin : Nat) : Int), .agg #[.int .i64 (rnR (s.data.toList.drop a)).P, .int .i64 (rnR (s.data.toList.drop a)).Q], .int .i64 (rnR (s.data.toList.drop a)).E]) ∧ Below w.heap.size w w') := Lib.hid fun w => rnumeral_any s a w hs h
  clear hsc
  generalize a + (meas (s.data.toList.drop a)).fin = f at *
  generalize rnR (s.data.toList.drop a) = R at *
  have g : (R.E != 0) = false := by rw [bne_eq_false_iff_eq]; exact h0
  clear h0
  go_enter Tryz.func72, Tryz.ntmps72
  go_wp2_with (first | (go_at_call 96; (with_reducible refine (N1.out _).mono ?_); rintro e w1 ⟨rfl, hb1⟩; obtain ⟨hc1, hf1⟩ := bcell hb1; have hz := hb1.size; (try simp at hz); (try (have z1_0 : w.heap.size < w1.heap.size := (by omega))); (try (have z1_1 : w.heap.size + 1 < w1.heap.size := (by omega))); clear hz; (try (have k1a : w1.cell? ⟨w.heap.size, 0, none⟩ = some (.int .i64 0) := by go_simp)); (try (have k1b : w1.cell? ⟨w.heap.size, 1, none⟩ = some (.int .i64 0) := by go_simp))))
  refine bodyPost_ret (v := .tuple #[.agg #[.int .i64 R.P, .int .i64 R.Q], .int .i64 (f : Int), .int .i64 0]) (by simp [results, Tryz.results72, go_sem, *]) rfl ?_
  refine ⟨rfl, ?_⟩
  repeat (first | exact Below.refl _ _ | refine below_drewN ?_ _ | refine Below.drew ?_ | refine Below.setCell ?_ (by first | omega | (simp; done) | (simp; omega)) _ | refine Below.alloc ?_ (by first | omega | (simp; done) | (simp; omega)) _ | refine below_step (by assumption) (by first | omega | (simp; done) | (simp; omega)) ?_)

theorem rscan_any (s : ByteArray) (a : Int) (w : World) (hs : s.size ≤ 4000000000) :
    Calls Tryz.prog 72 #[.string s, .int .i64 a] w fun e w' => e = .returned (.tuple #[.agg #[.int .i64 (scanR s.data.toList a).P, .int .i64 (scanR s.data.toList a).Q], .int .i64 (scanR s.data.toList a).N, .int .i64 (scanR s.data.toList a).E]) ∧ Below w.heap.size w w' := by
  by_cases h : a < 0
  · exact rscan_neg s a w hs h
  · by_cases h2 : (s.size : Int) < a
    · exact rscan_far s a w hs (by omega) h2
    · obtain ⟨n, rfl⟩ := Int.eq_ofNat_of_zero_le (show 0 ≤ a by omega)
      by_cases h0 : (rnR (s.data.toList.drop n)).E = 0
      · exact rscan_ok s n w hs (by omega) h0
      · exact rscan_err s n w hs (by omega) h0
end Go.Proofs.YtbdcmnhfmkefdaaGreatDoor
