/- Contracts of layer 2: the reference's Parse and Scan. -/
import Derived.Test.YtbdcmnhfmkefdaaGreatDoorNumI
namespace Go.Proofs.YtbdcmnhfmkefdaaGreatDoor
open Go.RowKit M1 M2
set_option linter.unusedVariables false

theorem rsole_a (s : ByteArray) (w : World) (hs : s.size ≤ 4000000000) (hn : ∀ j : Nat, s.data.toList[j]? ≠ some 47) (h0 : (meas s.data.toList).fin = 0) :
    Calls Tryz.prog 114 #[.string s] w fun e w' => e = .returned (.tuple #[.agg #[.int .i64 (unsR s.data.toList).P, .int .i64 (unsR s.data.toList).Q], .int .i64 (unsR s.data.toList).E]) ∧ Below w.heap.size w w' := by
  have hcut : unsR s.data.toList = soleR s.data.toList := by unfold unsR; rw [cut_no hn]; rfl
  have hle := (meas_wf s.data.toList).2.2.2
  rw [list_size] at hle
  rw [hcut, show soleR s.data.toList = err 4 by unfold soleR; rw [if_pos (.inl h0)]]
  have S1 : Hid (∀ w, Calls Tryz.prog 133 #[.string s] w fun e w' => e = .returned (.int .i64 (-1)) ∧ w = w') := Lib.hid fun w => slash_no s w hs hn
  have N1 : Hid (∀ w, Calls Tryz.prog 96 #[.string s, .int .i64 0] w fun e w' => e = .returned (.tuple #[.int .i64 ((meas s.data.toList).fin : Int), .agg #[.int .i64 (rnR s.data.toList).P, .int .i64 (rnR s.data.toList).Q], .int .i64 (rnR s.data.toList).E]) ∧ Below w.heap.size w w') := Lib.hid fun w => (by have := rnumeral_any s 0 w hs (Nat.zero_le _); simp only [List.drop_zero, Nat.zero_add] at this; exact this)
  generalize (meas s.data.toList).fin = f at *
  subst h0
  generalize rnR s.data.toList = R at *
  clear hcut hn
  go_enter Tryz.func114, Tryz.ntmps114
  go_wp2_with (first | (go_at_call 133; (with_reducible refine (S1.out _).mono ?_); rintro e w' ⟨rfl, rfl⟩) | (go_at_call 96; (with_reducible refine (N1.out _).mono ?_); rintro e w1 ⟨rfl, hb1⟩; obtain ⟨hc1, hf1⟩ := bcell hb1; have hz := hb1.size; (try simp at hz); (try (have z1_0 : w.heap.size < w1.heap.size := (by omega))); (try (have z1_1 : w.heap.size + 1 < w1.heap.size := (by omega))); clear hz; (try (have k1a : w1.cell? ⟨w.heap.size, 0, none⟩ = some (.int .i64 0) := by go_simp)); (try (have k1b : w1.cell? ⟨w.heap.size, 1, none⟩ = some (.int .i64 0) := by go_simp))))
  refine bodyPost_ret (v := .tuple #[.agg #[.int .i64 0, .int .i64 0], .int .i64 4]) (by simp [results, Tryz.results114, go_sem, *]) rfl ?_
  refine ⟨rfl, ?_⟩
  repeat (first | exact Below.refl _ _ | refine below_drewN ?_ _ | refine Below.drew ?_ | refine Below.setCell ?_ (by first | omega | (simp; done) | (simp; omega)) _ | refine Below.alloc ?_ (by first | omega | (simp; done) | (simp; omega)) _ | refine below_step (by assumption) (by first | omega | (simp; done) | (simp; omega)) ?_)

theorem rsole_b (s : ByteArray) (w : World) (hs : s.size ≤ 4000000000) (hn : ∀ j : Nat, s.data.toList[j]? ≠ some 47) (h0 : (meas s.data.toList).fin ≠ 0) (h1 : (meas s.data.toList).fin ≠ s.size) :
    Calls Tryz.prog 114 #[.string s] w fun e w' => e = .returned (.tuple #[.agg #[.int .i64 (unsR s.data.toList).P, .int .i64 (unsR s.data.toList).Q], .int .i64 (unsR s.data.toList).E]) ∧ Below w.heap.size w w' := by
  have hcut : unsR s.data.toList = soleR s.data.toList := by unfold unsR; rw [cut_no hn]; rfl
  have hle := (meas_wf s.data.toList).2.2.2
  rw [list_size] at hle
  rw [hcut, show soleR s.data.toList = err 4 by unfold soleR; rw [if_pos (.inr (by rw [list_size]; exact h1))]]
  have S1 : Hid (∀ w, Calls Tryz.prog 133 #[.string s] w fun e w' => e = .returned (.int .i64 (-1)) ∧ w = w') := Lib.hid fun w => slash_no s w hs hn
  have N1 : Hid (∀ w, Calls Tryz.prog 96 #[.string s, .int .i64 0] w fun e w' => e = .returned (.tuple #[.int .i64 ((meas s.data.toList).fin : Int), .agg #[.int .i64 (rnR s.data.toList).P, .int .i64 (rnR s.data.toList).Q], .int .i64 (rnR s.data.toList).E]) ∧ Below w.heap.size w w') := Lib.hid fun w => (by have := rnumeral_any s 0 w hs (Nat.zero_le _); simp only [List.drop_zero, Nat.zero_add] at this; exact this)
  generalize (meas s.data.toList).fin = f at *
  have g0 : ((f : Int) == 0) = false := by rw [beq_eq_false_iff_ne]; omega
  have g1 : (f : Int) < s.size := by omega
  clear h0 h1
  generalize rnR s.data.toList = R at *
  clear hcut hn
  go_enter Tryz.func114, Tryz.ntmps114
  go_wp2_with (first | (go_at_call 133; (with_reducible refine (S1.out _).mono ?_); rintro e w' ⟨rfl, rfl⟩) | (go_at_call 96; (with_reducible refine (N1.out _).mono ?_); rintro e w1 ⟨rfl, hb1⟩; obtain ⟨hc1, hf1⟩ := bcell hb1; have hz := hb1.size; (try simp at hz); (try (have z1_0 : w.heap.size < w1.heap.size := (by omega))); (try (have z1_1 : w.heap.size + 1 < w1.heap.size := (by omega))); clear hz; (try (have k1a : w1.cell? ⟨w.heap.size, 0, none⟩ = some (.int .i64 0) := by go_simp)); (try (have k1b : w1.cell? ⟨w.heap.size, 1, none⟩ = some (.int .i64 0) := by go_simp))))
  refine bodyPost_ret (v := .tuple #[.agg #[.int .i64 0, .int .i64 0], .int .i64 4]) (by simp [results, Tryz.results114, go_sem, *]) rfl ?_
  refine ⟨rfl, ?_⟩
  repeat (first | exact Below.refl _ _ | refine below_drewN ?_ _ | refine Below.drew ?_ | refine Below.setCell ?_ (by first | omega | (simp; done) | (simp; omega)) _ | refine Below.alloc ?_ (by first | omega | (simp; done) | (simp; omega)) _ | refine below_step (by assumption) (by first | omega | (simp; done) | (simp; omega)) ?_)

theorem rsole_c (s : ByteArray) (w : World) (hs : s.size ≤ 4000000000) (hn : ∀ j : Nat, s.data.toList[j]? ≠ some 47) (h0 : (meas s.data.toList).fin ≠ 0) (h1 : (meas s.data.toList).fin = s.size) :
    Calls Tryz.prog 114 #[.string s] w fun e w' => e = .returned (.tuple #[.agg #[.int .i64 (unsR s.data.toList).P, .int .i64 (unsR s.data.toList).Q], .int .i64 (unsR s.data.toList).E]) ∧ Below w.heap.size w w' := by
  have hcut : unsR s.data.toList = soleR s.data.toList := by unfold unsR; rw [cut_no hn]; rfl
  have hle := (meas_wf s.data.toList).2.2.2
  rw [list_size] at hle
  have hrn : rnR s.data.toList = numR (meas s.data.toList) := if_neg h0
  rw [hcut, show soleR s.data.toList = rnR s.data.toList by unfold soleR; rw [if_neg (by rw [list_size]; omega), hrn]]
  clear hrn
  have S1 : Hid (∀ w, Calls Tryz.prog 133 #[.string s] w fun e w' => e = .returned (.int .i64 (-1)) ∧ w = w') := Lib.hid fun w => slash_no s w hs hn
  have N1 : Hid (∀ w, Calls Tryz.prog 96 #[.string s, .int .i64 0] w fun e w' => e = .returned (.tuple #[.int .i64 ((meas s.data.toList).fin : Int), .agg #[.int .i64 (rnR s.data.toList).P, .int .i64 (rnR s.data.toList).Q], .int .i64 (rnR s.data.toList).E]) ∧ Below w.heap.size w w') := Lib.hid fun w => (by have := rnumeral_any s 0 w hs (Nat.zero_le _); simp only [List.drop_zero, Nat.zero_add] at this; exact this)
  generalize (meas s.data.toList).fin = f at *
  have g0 : ((f : Int) == 0) = false := by rw [beq_eq_false_iff_ne]; omega
  have g1 : (s.size : Int) ≤ f := by omega
  clear h0 h1
  generalize rnR s.data.toList = R at *
  clear hcut hn
  go_enter Tryz.func114, Tryz.ntmps114
  go_wp2_with (first | (go_at_call 133; (with_reducible refine (S1.out _).mono ?_); rintro e w' ⟨rfl, rfl⟩) | (go_at_call 96; (with_reducible refine (N1.out _).mono ?_); rintro e w1 ⟨rfl, hb1⟩; obtain ⟨hc1, hf1⟩ := bcell hb1; have hz := hb1.size; (try simp at hz); (try (have z1_0 : w.heap.size < w1.heap.size := (by omega))); (try (have z1_1 : w.heap.size + 1 < w1.heap.size := (by omega))); clear hz; (try (have k1a : w1.cell? ⟨w.heap.size, 0, none⟩ = some (.int .i64 0) := by go_simp)); (try (have k1b : w1.cell? ⟨w.heap.size, 1, none⟩ = some (.int .i64 0) := by go_simp))))
  refine bodyPost_ret (v := .tuple #[.agg #[.int .i64 R.P, .int .i64 R.Q], .int .i64 R.E]) (by simp [results, Tryz.results114, go_sem, *]) rfl ?_
  refine ⟨rfl, ?_⟩
  repeat (first | exact Below.refl _ _ | refine below_drewN ?_ _ | refine Below.drew ?_ | refine Below.setCell ?_ (by first | omega | (simp; done) | (simp; omega)) _ | refine Below.alloc ?_ (by first | omega | (simp; done) | (simp; omega)) _ | refine below_step (by assumption) (by first | omega | (simp; done) | (simp; omega)) ?_)

theorem rfrac_e1 (s : ByteArray) (w : World) (hs : s.size ≤ 4000000000) (k : Nat) (hk : k < s.size) (h47 : s.data.toList[k]? = some 47) (hb : ∀ j : Nat, j < k → s.data.toList[j]? ≠ some 47) (kA1 : okd (s.data.toList.take k) = false) :
    Calls Tryz.prog 114 #[.string s] w fun e w' => e = .returned (.tuple #[.agg #[.int .i64 (unsR s.data.toList).P, .int .i64 (unsR s.data.toList).Q], .int .i64 (unsR s.data.toList).E]) ∧ Below w.heap.size w w' := by
  have hcut : unsR s.data.toList = fracR (s.data.toList.take k) (s.data.toList.drop (k + 1)) := by unfold unsR; rw [cut_yes (by rw [list_size]; exact hk) h47 hb, if_pos rfl]
  rw [hcut, show fracR (s.data.toList.take k) (s.data.toList.drop (k + 1)) = err 4 by unfold fracR; rw [if_neg (by simp [kA1])]]
  have lA1 : (s.extract 0 k).data.toList = (s.data.toList.take k) := by rw [ext_mk, mkB_list, List.drop_zero, Nat.sub_zero]
  have lA2 : (s.extract (k + 1) s.size).data.toList = (s.data.toList.drop (k + 1)) := by rw [ext_end, mkB_list]
  have S1 : Hid (∀ w, Calls Tryz.prog 133 #[.string s] w fun e w' => e = .returned (.int .i64 k) ∧ w = w') := Lib.hid fun w => slash_yes s k w hs hk h47 hb
  have A1 : Hid (∀ w, Calls Tryz.prog 134 #[.string (s.extract 0 k)] w fun e w' => e = .returned (.bool false) ∧ w = w') := Lib.hid fun w => (rdigits_any (s.extract 0 k) w (by simp; omega)).mono fun e w' ⟨h1, h2⟩ => ⟨by rw [h1, lA1, kA1], h2⟩
  clear hcut lA1 lA2 h47 hb kA1
  go_enter Tryz.func114, Tryz.ntmps114
  go_wp2_with (first | (go_at_call 133; (with_reducible refine (S1.out _).mono ?_); rintro e w' ⟨rfl, rfl⟩) | (go_at_call 134; (with_reducible refine (A1.out _).mono ?_); rintro e w' ⟨rfl, rfl⟩))
  refine bodyPost_ret (v := .tuple #[.agg #[.int .i64 0, .int .i64 0], .int .i64 4]) (by simp [results, Tryz.results114, go_sem, *]) rfl ?_
  refine ⟨rfl, ?_⟩
  repeat (first | exact Below.refl _ _ | refine below_drewN ?_ _ | refine Below.drew ?_ | refine Below.setCell ?_ (by first | omega | (simp; done) | (simp; omega)) _ | refine Below.alloc ?_ (by first | omega | (simp; done) | (simp; omega)) _ | refine below_step (by assumption) (by first | omega | (simp; done) | (simp; omega)) ?_)

theorem rfrac_e2 (s : ByteArray) (w : World) (hs : s.size ≤ 4000000000) (k : Nat) (hk : k < s.size) (h47 : s.data.toList[k]? = some 47) (hb : ∀ j : Nat, j < k → s.data.toList[j]? ≠ some 47) (kA1 : okd (s.data.toList.take k) = true) (kA2 : okd (s.data.toList.drop (k + 1)) = false) :
    Calls Tryz.prog 114 #[.string s] w fun e w' => e = .returned (.tuple #[.agg #[.int .i64 (unsR s.data.toList).P, .int .i64 (unsR s.data.toList).Q], .int .i64 (unsR s.data.toList).E]) ∧ Below w.heap.size w w' := by
  have hcut : unsR s.data.toList = fracR (s.data.toList.take k) (s.data.toList.drop (k + 1)) := by unfold unsR; rw [cut_yes (by rw [list_size]; exact hk) h47 hb, if_pos rfl]
  rw [hcut, show fracR (s.data.toList.take k) (s.data.toList.drop (k + 1)) = err 4 by unfold fracR; rw [if_neg (by simp [kA2])]]
  have lA1 : (s.extract 0 k).data.toList = (s.data.toList.take k) := by rw [ext_mk, mkB_list, List.drop_zero, Nat.sub_zero]
  have lA2 : (s.extract (k + 1) s.size).data.toList = (s.data.toList.drop (k + 1)) := by rw [ext_end, mkB_list]
  have S1 : Hid (∀ w, Calls Tryz.prog 133 #[.string s] w fun e w' => e = .returned (.int .i64 k) ∧ w = w') := Lib.hid fun w => slash_yes s k w hs hk h47 hb
  have A1 : Hid (∀ w, Calls Tryz.prog 134 #[.string (s.extract 0 k)] w fun e w' => e = .returned (.bool true) ∧ w = w') := Lib.hid fun w => (rdigits_any (s.extract 0 k) w (by simp; omega)).mono fun e w' ⟨h1, h2⟩ => ⟨by rw [h1, lA1, kA1], h2⟩
  have A2 : Hid (∀ w, Calls Tryz.prog 134 #[.string (s.extract (k + 1) s.size)] w fun e w' => e = .returned (.bool false) ∧ w = w') := Lib.hid fun w => (rdigits_any (s.extract (k + 1) s.size) w (by simp; omega)).mono fun e w' ⟨h1, h2⟩ => ⟨by rw [h1, lA2, kA2], h2⟩
  clear hcut lA1 lA2 h47 hb kA1 kA2
  go_enter Tryz.func114, Tryz.ntmps114
  go_wp2_with (first | (go_at_call 133; (with_reducible refine (S1.out _).mono ?_); rintro e w' ⟨rfl, rfl⟩) | (go_at_call 134; (with_reducible refine (A1.out _).mono ?_); rintro e w' ⟨rfl, rfl⟩) | (go_at_call 134; (with_reducible refine (A2.out _).mono ?_); rintro e w' ⟨rfl, rfl⟩))
  refine bodyPost_ret (v := .tuple #[.agg #[.int .i64 0, .int .i64 0], .int .i64 4]) (by simp [results, Tryz.results114, go_sem, *]) rfl ?_
  refine ⟨rfl, ?_⟩
  repeat (first | exact Below.refl _ _ | refine below_drewN ?_ _ | refine Below.drew ?_ | refine Below.setCell ?_ (by first | omega | (simp; done) | (simp; omega)) _ | refine Below.alloc ?_ (by first | omega | (simp; done) | (simp; omega)) _ | refine below_step (by assumption) (by first | omega | (simp; done) | (simp; omega)) ?_)

theorem rfrac_a (s : ByteArray) (w : World) (hs : s.size ≤ 4000000000) (k : Nat) (hk : k < s.size) (h47 : s.data.toList[k]? = some 47) (hb : ∀ j : Nat, j < k → s.data.toList[j]? ≠ some 47) (kA1 : okd (s.data.toList.take k) = true) (kA2 : okd (s.data.toList.drop (k + 1)) = true) (kJ1 : jn 10 0 (s.data.toList.take k) = none) (kJ2 : jn 10 0 (s.data.toList.drop (k + 1)) = none) :
    Calls Tryz.prog 114 #[.string s] w fun e w' => e = .returned (.tuple #[.agg #[.int .i64 (unsR s.data.toList).P, .int .i64 (unsR s.data.toList).Q], .int .i64 (unsR s.data.toList).E]) ∧ Below w.heap.size w w' := by
  have hcut : unsR s.data.toList = fracR (s.data.toList.take k) (s.data.toList.drop (k + 1)) := by unfold unsR; rw [cut_yes (by rw [list_size]; exact hk) h47 hb, if_pos rfl]
  rw [hcut, show fracR (s.data.toList.take k) (s.data.toList.drop (k + 1)) = err 6 by unfold fracR; rw [if_pos ⟨kA1, kA2⟩, kJ1, kJ2]; rfl]
  have lA1 : (s.extract 0 k).data.toList = (s.data.toList.take k) := by rw [ext_mk, mkB_list, List.drop_zero, Nat.sub_zero]
  have lA2 : (s.extract (k + 1) s.size).data.toList = (s.data.toList.drop (k + 1)) := by rw [ext_end, mkB_list]
  have S1 : Hid (∀ w, Calls Tryz.prog 133 #[.string s] w fun e w' => e = .returned (.int .i64 k) ∧ w = w') := Lib.hid fun w => slash_yes s k w hs hk h47 hb
  have A1 : Hid (∀ w, Calls Tryz.prog 134 #[.string (s.extract 0 k)] w fun e w' => e = .returned (.bool true) ∧ w = w') := Lib.hid fun w => (rdigits_any (s.extract 0 k) w (by simp; omega)).mono fun e w' ⟨h1, h2⟩ => ⟨by rw [h1, lA1, kA1], h2⟩
  have A2 : Hid (∀ w, Calls Tryz.prog 134 #[.string (s.extract (k + 1) s.size)] w fun e w' => e = .returned (.bool true) ∧ w = w') := Lib.hid fun w => (rdigits_any (s.extract (k + 1) s.size) w (by simp; omega)).mono fun e w' ⟨h1, h2⟩ => ⟨by rw [h1, lA2, kA2], h2⟩
  have J1 : Hid (∀ w, Calls Tryz.prog 117 #[.string (s.extract 0 k), .int .i64 10] w fun e w' => e = .returned (.tuple #[.int .i64 0, .bool false]) ∧ w = w') := Lib.hid fun w => rjoin_none (s.extract 0 k) 10 w (by simp; omega) (by omega) (by omega) (by rw [lA1]; exact (okd_iff.1 kA1).2) (by rw [lA1]; exact kJ1)
  have J2 : Hid (∀ w, Calls Tryz.prog 117 #[.string (s.extract (k + 1) s.size), .int .i64 10] w fun e w' => e = .returned (.tuple #[.int .i64 0, .bool false]) ∧ w = w') := Lib.hid fun w => rjoin_none (s.extract (k + 1) s.size) 10 w (by simp; omega) (by omega) (by omega) (by rw [lA2]; exact (okd_iff.1 kA2).2) (by rw [lA2]; exact kJ2)
  clear hcut lA1 lA2 h47 hb kA1 kA2 kJ1 kJ2
  go_enter Tryz.func114, Tryz.ntmps114
  go_wp2_with (first | (go_at_call 133; (with_reducible refine (S1.out _).mono ?_); rintro e w' ⟨rfl, rfl⟩) | (go_at_call 134; (with_reducible refine (A1.out _).mono ?_); rintro e w' ⟨rfl, rfl⟩) | (go_at_call 134; (with_reducible refine (A2.out _).mono ?_); rintro e w' ⟨rfl, rfl⟩) | (go_at_call 117; (with_reducible refine (J1.out _).mono ?_); rintro e w' ⟨rfl, rfl⟩) | (go_at_call 117; (with_reducible refine (J2.out _).mono ?_); rintro e w' ⟨rfl, rfl⟩))
  refine bodyPost_ret (v := .tuple #[.agg #[.int .i64 0, .int .i64 0], .int .i64 6]) (by simp [results, Tryz.results114, go_sem, *]) rfl ?_
  refine ⟨rfl, ?_⟩
  repeat (first | exact Below.refl _ _ | refine below_drewN ?_ _ | refine Below.drew ?_ | refine Below.setCell ?_ (by first | omega | (simp; done) | (simp; omega)) _ | refine Below.alloc ?_ (by first | omega | (simp; done) | (simp; omega)) _ | refine below_step (by assumption) (by first | omega | (simp; done) | (simp; omega)) ?_)

theorem rfrac_b (s : ByteArray) (w : World) (hs : s.size ≤ 4000000000) (k : Nat) (hk : k < s.size) (h47 : s.data.toList[k]? = some 47) (hb : ∀ j : Nat, j < k → s.data.toList[j]? ≠ some 47) (kA1 : okd (s.data.toList.take k) = true) (kA2 : okd (s.data.toList.drop (k + 1)) = true) (kJ1 : jn 10 0 (s.data.toList.take k) = none) (n : Int) (kJ2 : jn 10 0 (s.data.toList.drop (k + 1)) = some n) :
    Calls Tryz.prog 114 #[.string s] w fun e w' => e = .returned (.tuple #[.agg #[.int .i64 (unsR s.data.toList).P, .int .i64 (unsR s.data.toList).Q], .int .i64 (unsR s.data.toList).E]) ∧ Below w.heap.size w w' := by
  have hcut : unsR s.data.toList = fracR (s.data.toList.take k) (s.data.toList.drop (k + 1)) := by unfold unsR; rw [cut_yes (by rw [list_size]; exact hk) h47 hb, if_pos rfl]
  rw [hcut, show fracR (s.data.toList.take k) (s.data.toList.drop (k + 1)) = err 6 by unfold fracR; rw [if_pos ⟨kA1, kA2⟩, kJ1, kJ2]; rfl]
  have lA1 : (s.extract 0 k).data.toList = (s.data.toList.take k) := by rw [ext_mk, mkB_list, List.drop_zero, Nat.sub_zero]
  have lA2 : (s.extract (k + 1) s.size).data.toList = (s.data.toList.drop (k + 1)) := by rw [ext_end, mkB_list]
  have S1 : Hid (∀ w, Calls Tryz.prog 133 #[.string s] w fun e w' => e = .returned (.int .i64 k) ∧ w = w') := Lib.hid fun w => slash_yes s k w hs hk h47 hb
  have A1 : Hid (∀ w, Calls Tryz.prog 134 #[.string (s.extract 0 k)] w fun e w' => e = .returned (.bool true) ∧ w = w') := Lib.hid fun w => (rdigits_any (s.extract 0 k) w (by simp; omega)).mono fun e w' ⟨h1, h2⟩ => ⟨by rw [h1, lA1, kA1], h2⟩
  have A2 : Hid (∀ w, Calls Tryz.prog 134 #[.string (s.extract (k + 1) s.size)] w fun e w' => e = .returned (.bool true) ∧ w = w') := Lib.hid fun w => (rdigits_any (s.extract (k + 1) s.size) w (by simp; omega)).mono fun e w' ⟨h1, h2⟩ => ⟨by rw [h1, lA2, kA2], h2⟩
  have J1 : Hid (∀ w, Calls Tryz.prog 117 #[.string (s.extract 0 k), .int .i64 10] w fun e w' => e = .returned (.tuple #[.int .i64 0, .bool false]) ∧ w = w') := Lib.hid fun w => rjoin_none (s.extract 0 k) 10 w (by simp; omega) (by omega) (by omega) (by rw [lA1]; exact (okd_iff.1 kA1).2) (by rw [lA1]; exact kJ1)
  have J2 : Hid (∀ w, Calls Tryz.prog 117 #[.string (s.extract (k + 1) s.size), .int .i64 10] w fun e w' => e = .returned (.tuple #[.int .i64 n, .bool true]) ∧ w = w') := Lib.hid fun w => rjoin_some (s.extract (k + 1) s.size) 10 n w (by simp; omega) (by omega) (by omega) (by rw [lA2]; exact (okd_iff.1 kA2).2) (by rw [lA2]; exact kJ2)
  clear hcut lA1 lA2 h47 hb kA1 kA2 kJ1 kJ2
  go_enter Tryz.func114, Tryz.ntmps114
  go_wp2_with (first | (go_at_call 133; (with_reducible refine (S1.out _).mono ?_); rintro e w' ⟨rfl, rfl⟩) | (go_at_call 134; (with_reducible refine (A1.out _).mono ?_); rintro e w' ⟨rfl, rfl⟩) | (go_at_call 134; (with_reducible refine (A2.out _).mono ?_); rintro e w' ⟨rfl, rfl⟩) | (go_at_call 117; (with_reducible refine (J1.out _).mono ?_); rintro e w' ⟨rfl, rfl⟩) | (go_at_call 117; (with_reducible refine (J2.out _).mono ?_); rintro e w' ⟨rfl, rfl⟩))
  refine bodyPost_ret (v := .tuple #[.agg #[.int .i64 0, .int .i64 0], .int .i64 6]) (by simp [results, Tryz.results114, go_sem, *]) rfl ?_
  refine ⟨rfl, ?_⟩
  repeat (first | exact Below.refl _ _ | refine below_drewN ?_ _ | refine Below.drew ?_ | refine Below.setCell ?_ (by first | omega | (simp; done) | (simp; omega)) _ | refine Below.alloc ?_ (by first | omega | (simp; done) | (simp; omega)) _ | refine below_step (by assumption) (by first | omega | (simp; done) | (simp; omega)) ?_)

theorem rfrac_c (s : ByteArray) (w : World) (hs : s.size ≤ 4000000000) (k : Nat) (hk : k < s.size) (h47 : s.data.toList[k]? = some 47) (hb : ∀ j : Nat, j < k → s.data.toList[j]? ≠ some 47) (kA1 : okd (s.data.toList.take k) = true) (kA2 : okd (s.data.toList.drop (k + 1)) = true) (m : Int) (kJ1 : jn 10 0 (s.data.toList.take k) = some m) (kJ2 : jn 10 0 (s.data.toList.drop (k + 1)) = none) :
    Calls Tryz.prog 114 #[.string s] w fun e w' => e = .returned (.tuple #[.agg #[.int .i64 (unsR s.data.toList).P, .int .i64 (unsR s.data.toList).Q], .int .i64 (unsR s.data.toList).E]) ∧ Below w.heap.size w w' := by
  have hcut : unsR s.data.toList = fracR (s.data.toList.take k) (s.data.toList.drop (k + 1)) := by unfold unsR; rw [cut_yes (by rw [list_size]; exact hk) h47 hb, if_pos rfl]
  rw [hcut, show fracR (s.data.toList.take k) (s.data.toList.drop (k + 1)) = err 6 by unfold fracR; rw [if_pos ⟨kA1, kA2⟩, kJ1, kJ2]; rfl]
  have lA1 : (s.extract 0 k).data.toList = (s.data.toList.take k) := by rw [ext_mk, mkB_list, List.drop_zero, Nat.sub_zero]
  have lA2 : (s.extract (k + 1) s.size).data.toList = (s.data.toList.drop (k + 1)) := by rw [ext_end, mkB_list]
  have S1 : Hid (∀ w, Calls Tryz.prog 133 #[.string s] w fun e w' => e = .returned (.int .i64 k) ∧ w = w') := Lib.hid fun w => slash_yes s k w hs hk h47 hb
  have A1 : Hid (∀ w, Calls Tryz.prog 134 #[.string (s.extract 0 k)] w fun e w' => e = .returned (.bool true) ∧ w = w') := Lib.hid fun w => (rdigits_any (s.extract 0 k) w (by simp; omega)).mono fun e w' ⟨h1, h2⟩ => ⟨by rw [h1, lA1, kA1], h2⟩
  have A2 : Hid (∀ w, Calls Tryz.prog 134 #[.string (s.extract (k + 1) s.size)] w fun e w' => e = .returned (.bool true) ∧ w = w') := Lib.hid fun w => (rdigits_any (s.extract (k + 1) s.size) w (by simp; omega)).mono fun e w' ⟨h1, h2⟩ => ⟨by rw [h1, lA2, kA2], h2⟩
  have J1 : Hid (∀ w, Calls Tryz.prog 117 #[.string (s.extract 0 k), .int .i64 10] w fun e w' => e = .returned (.tuple #[.int .i64 m, .bool true]) ∧ w = w') := Lib.hid fun w => rjoin_some (s.extract 0 k) 10 m w (by simp; omega) (by omega) (by omega) (by rw [lA1]; exact (okd_iff.1 kA1).2) (by rw [lA1]; exact kJ1)
  have J2 : Hid (∀ w, Calls Tryz.prog 117 #[.string (s.extract (k + 1) s.size), .int .i64 10] w fun e w' => e = .returned (.tuple #[.int .i64 0, .bool false]) ∧ w = w') := Lib.hid fun w => rjoin_none (s.extract (k + 1) s.size) 10 w (by simp; omega) (by omega) (by omega) (by rw [lA2]; exact (okd_iff.1 kA2).2) (by rw [lA2]; exact kJ2)
  clear hcut lA1 lA2 h47 hb kA1 kA2 kJ1 kJ2
  go_enter Tryz.func114, Tryz.ntmps114
  go_wp2_with (first | (go_at_call 133; (with_reducible refine (S1.out _).mono ?_); rintro e w' ⟨rfl, rfl⟩) | (go_at_call 134; (with_reducible refine (A1.out _).mono ?_); rintro e w' ⟨rfl, rfl⟩) | (go_at_call 134; (with_reducible refine (A2.out _).mono ?_); rintro e w' ⟨rfl, rfl⟩) | (go_at_call 117; (with_reducible refine (J1.out _).mono ?_); rintro e w' ⟨rfl, rfl⟩) | (go_at_call 117; (with_reducible refine (J2.out _).mono ?_); rintro e w' ⟨rfl, rfl⟩))
  refine bodyPost_ret (v := .tuple #[.agg #[.int .i64 0, .int .i64 0], .int .i64 6]) (by simp [results, Tryz.results114, go_sem, *]) rfl ?_
  refine ⟨rfl, ?_⟩
  repeat (first | exact Below.refl _ _ | refine below_drewN ?_ _ | refine Below.drew ?_ | refine Below.setCell ?_ (by first | omega | (simp; done) | (simp; omega)) _ | refine Below.alloc ?_ (by first | omega | (simp; done) | (simp; omega)) _ | refine below_step (by assumption) (by first | omega | (simp; done) | (simp; omega)) ?_)

theorem rfrac_d (s : ByteArray) (w : World) (hs : s.size ≤ 4000000000) (k : Nat) (hk : k < s.size) (h47 : s.data.toList[k]? = some 47) (hb : ∀ j : Nat, j < k → s.data.toList[j]? ≠ some 47) (kA1 : okd (s.data.toList.take k) = true) (kA2 : okd (s.data.toList.drop (k + 1)) = true) (m : Int) (kJ1 : jn 10 0 (s.data.toList.take k) = some m) (kJ2 : jn 10 0 (s.data.toList.drop (k + 1)) = some 0) :
    Calls Tryz.prog 114 #[.string s] w fun e w' => e = .returned (.tuple #[.agg #[.int .i64 (unsR s.data.toList).P, .int .i64 (unsR s.data.toList).Q], .int .i64 (unsR s.data.toList).E]) ∧ Below w.heap.size w w' := by
  have hcut : unsR s.data.toList = fracR (s.data.toList.take k) (s.data.toList.drop (k + 1)) := by unfold unsR; rw [cut_yes (by rw [list_size]; exact hk) h47 hb, if_pos rfl]
  rw [hcut, show fracR (s.data.toList.take k) (s.data.toList.drop (k + 1)) = err 6 by unfold fracR; rw [if_pos ⟨kA1, kA2⟩, kJ1, kJ2]; rfl]
  have lA1 : (s.extract 0 k).data.toList = (s.data.toList.take k) := by rw [ext_mk, mkB_list, List.drop_zero, Nat.sub_zero]
  have lA2 : (s.extract (k + 1) s.size).data.toList = (s.data.toList.drop (k + 1)) := by rw [ext_end, mkB_list]
  have S1 : Hid (∀ w, Calls Tryz.prog 133 #[.string s] w fun e w' => e = .returned (.int .i64 k) ∧ w = w') := Lib.hid fun w => slash_yes s k w hs hk h47 hb
  have A1 : Hid (∀ w, Calls Tryz.prog 134 #[.string (s.extract 0 k)] w fun e w' => e = .returned (.bool true) ∧ w = w') := Lib.hid fun w => (rdigits_any (s.extract 0 k) w (by simp; omega)).mono fun e w' ⟨h1, h2⟩ => ⟨by rw [h1, lA1, kA1], h2⟩
  have A2 : Hid (∀ w, Calls Tryz.prog 134 #[.string (s.extract (k + 1) s.size)] w fun e w' => e = .returned (.bool true) ∧ w = w') := Lib.hid fun w => (rdigits_any (s.extract (k + 1) s.size) w (by simp; omega)).mono fun e w' ⟨h1, h2⟩ => ⟨by rw [h1, lA2, kA2], h2⟩
  have J1 : Hid (∀ w, Calls Tryz.prog 117 #[.string (s.extract 0 k), .int .i64 10] w fun e w' => e = .returned (.tuple #[.int .i64 m, .bool true]) ∧ w = w') := Lib.hid fun w => rjoin_some (s.extract 0 k) 10 m w (by simp; omega) (by omega) (by omega) (by rw [lA1]; exact (okd_iff.1 kA1).2) (by rw [lA1]; exact kJ1)
  have J2 : Hid (∀ w, Calls Tryz.prog 117 #[.string (s.extract (k + 1) s.size), .int .i64 10] w fun e w' => e = .returned (.tuple #[.int .i64 0, .bool true]) ∧ w = w') := Lib.hid fun w => rjoin_some (s.extract (k + 1) s.size) 10 0 w (by simp; omega) (by omega) (by omega) (by rw [lA2]; exact (okd_iff.1 kA2).2) (by rw [lA2]; exact kJ2)
  clear hcut lA1 lA2 h47 hb kA1 kA2 kJ1 kJ2
  go_enter Tryz.func114, Tryz.ntmps114
  go_wp2_with (first | (go_at_call 133; (with_reducible refine (S1.out _).mono ?_); rintro e w' ⟨rfl, rfl⟩) | (go_at_call 134; (with_reducible refine (A1.out _).mono ?_); rintro e w' ⟨rfl, rfl⟩) | (go_at_call 134; (with_reducible refine (A2.out _).mono ?_); rintro e w' ⟨rfl, rfl⟩) | (go_at_call 117; (with_reducible refine (J1.out _).mono ?_); rintro e w' ⟨rfl, rfl⟩) | (go_at_call 117; (with_reducible refine (J2.out _).mono ?_); rintro e w' ⟨rfl, rfl⟩))
  refine bodyPost_ret (v := .tuple #[.agg #[.int .i64 0, .int .i64 0], .int .i64 6]) (by simp [results, Tryz.results114, go_sem, *]) rfl ?_
  refine ⟨rfl, ?_⟩
  repeat (first | exact Below.refl _ _ | refine below_drewN ?_ _ | refine Below.drew ?_ | refine Below.setCell ?_ (by first | omega | (simp; done) | (simp; omega)) _ | refine Below.alloc ?_ (by first | omega | (simp; done) | (simp; omega)) _ | refine below_step (by assumption) (by first | omega | (simp; done) | (simp; omega)) ?_)

theorem rfrac_e (s : ByteArray) (w : World) (hs : s.size ≤ 4000000000) (k : Nat) (hk : k < s.size) (h47 : s.data.toList[k]? = some 47) (hb : ∀ j : Nat, j < k → s.data.toList[j]? ≠ some 47) (kA1 : okd (s.data.toList.take k) = true) (kA2 : okd (s.data.toList.drop (k + 1)) = true) (m : Int) (kJ1 : jn 10 0 (s.data.toList.take k) = some m) (n : Int) (kJ2 : jn 10 0 (s.data.toList.drop (k + 1)) = some n) (h0 : (n == 0) = false) :
    Calls Tryz.prog 114 #[.string s] w fun e w' => e = .returned (.tuple #[.agg #[.int .i64 (unsR s.data.toList).P, .int .i64 (unsR s.data.toList).Q], .int .i64 (unsR s.data.toList).E]) ∧ Below w.heap.size w w' := by
  have hcut : unsR s.data.toList = fracR (s.data.toList.take k) (s.data.toList.drop (k + 1)) := by unfold unsR; rw [cut_yes (by rw [list_size]; exact hk) h47 hb, if_pos rfl]
  rw [hcut, show fracR (s.data.toList.take k) (s.data.toList.drop (k + 1)) = makeR m n by unfold fracR; rw [if_pos ⟨kA1, kA2⟩, kJ1, kJ2]; simp only [fracV]; rw [if_neg (by simpa using h0)]]
  have lA1 : (s.extract 0 k).data.toList = (s.data.toList.take k) := by rw [ext_mk, mkB_list, List.drop_zero, Nat.sub_zero]
  have lA2 : (s.extract (k + 1) s.size).data.toList = (s.data.toList.drop (k + 1)) := by rw [ext_end, mkB_list]
  have S1 : Hid (∀ w, Calls Tryz.prog 133 #[.string s] w fun e w' => e = .returned (.int .i64 k) ∧ w = w') := Lib.hid fun w => slash_yes s k w hs hk h47 hb
  have A1 : Hid (∀ w, Calls Tryz.prog 134 #[.string (s.extract 0 k)] w fun e w' => e = .returned (.bool true) ∧ w = w') := Lib.hid fun w => (rdigits_any (s.extract 0 k) w (by simp; omega)).mono fun e w' ⟨h1, h2⟩ => ⟨by rw [h1, lA1, kA1], h2⟩
  have A2 : Hid (∀ w, Calls Tryz.prog 134 #[.string (s.extract (k + 1) s.size)] w fun e w' => e = .returned (.bool true) ∧ w = w') := Lib.hid fun w => (rdigits_any (s.extract (k + 1) s.size) w (by simp; omega)).mono fun e w' ⟨h1, h2⟩ => ⟨by rw [h1, lA2, kA2], h2⟩
  have J1 : Hid (∀ w, Calls Tryz.prog 117 #[.string (s.extract 0 k), .int .i64 10] w fun e w' => e = .returned (.tuple #[.int .i64 m, .bool true]) ∧ w = w') := Lib.hid fun w => rjoin_some (s.extract 0 k) 10 m w (by simp; omega) (by omega) (by omega) (by rw [lA1]; exact (okd_iff.1 kA1).2) (by rw [lA1]; exact kJ1)
  have J2 : Hid (∀ w, Calls Tryz.prog 117 #[.string (s.extract (k + 1) s.size), .int .i64 10] w fun e w' => e = .returned (.tuple #[.int .i64 n, .bool true]) ∧ w = w') := Lib.hid fun w => rjoin_some (s.extract (k + 1) s.size) 10 n w (by simp; omega) (by omega) (by omega) (by rw [lA2]; exact (okd_iff.1 kA2).2) (by rw [lA2]; exact kJ2)
  clear hcut lA1 lA2 h47 hb kA1 kA2 kJ1 kJ2
  go_enter Tryz.func114, Tryz.ntmps114
  go_wp2_with (first | (go_at_call 133; (with_reducible refine (S1.out _).mono ?_); rintro e w' ⟨rfl, rfl⟩) | (go_at_call 134; (with_reducible refine (A1.out _).mono ?_); rintro e w' ⟨rfl, rfl⟩) | (go_at_call 134; (with_reducible refine (A2.out _).mono ?_); rintro e w' ⟨rfl, rfl⟩) | (go_at_call 117; (with_reducible refine (J1.out _).mono ?_); rintro e w' ⟨rfl, rfl⟩) | (go_at_call 117; (with_reducible refine (J2.out _).mono ?_); rintro e w' ⟨rfl, rfl⟩) | (go_at_call 118; refine (rmake_any _ _ _).mono ?_; rintro e w1 ⟨rfl, hb1⟩; obtain ⟨hc1, hf1⟩ := bcell hb1; have hz := hb1.size; (try simp at hz); (try (have z1_0 : w.heap.size < w1.heap.size := (by omega))); (try (have z1_1 : w.heap.size + 1 < w1.heap.size := (by omega))); clear hz; (try (have k1a : w1.cell? ⟨w.heap.size, 0, none⟩ = some (.int .i64 0) := by go_simp)); (try (have k1b : w1.cell? ⟨w.heap.size, 1, none⟩ = some (.int .i64 0) := by go_simp))))
  refine bodyPost_ret (v := .tuple #[.agg #[.int .i64 (makeR m n).P, .int .i64 (makeR m n).Q], .int .i64 (makeR m n).E]) (by simp [results, Tryz.results114, go_sem, *]) rfl ?_
  refine ⟨rfl, ?_⟩
  repeat (first | exact Below.refl _ _ | refine below_drewN ?_ _ | refine Below.drew ?_ | refine Below.setCell ?_ (by first | omega | (simp; done) | (simp; omega)) _ | refine Below.alloc ?_ (by first | omega | (simp; done) | (simp; omega)) _ | refine below_step (by assumption) (by first | omega | (simp; done) | (simp; omega)) ?_)

theorem runs_any (s : ByteArray) (w : World) (hs : s.size ≤ 4000000000) :
    Calls Tryz.prog 114 #[.string s] w fun e w' => e = .returned (.tuple #[.agg #[.int .i64 (unsR s.data.toList).P, .int .i64 (unsR s.data.toList).Q], .int .i64 (unsR s.data.toList).E]) ∧ Below w.heap.size w w' := by
  rcases slash_first s.data.toList with hn | ⟨k, hk, h47, hb⟩
  · by_cases h0 : (meas s.data.toList).fin = 0
    · exact rsole_a s w hs hn h0
    · by_cases h1 : (meas s.data.toList).fin = s.size
      · exact rsole_c s w hs hn h0 h1
      · exact rsole_b s w hs hn h0 h1
  · rw [list_size] at hk
    cases kA1 : okd (s.data.toList.take k) with
    | false => exact rfrac_e1 s w hs k hk h47 hb kA1
    | true =>
      cases kA2 : okd (s.data.toList.drop (k + 1)) with
      | false => exact rfrac_e2 s w hs k hk h47 hb kA1 kA2
      | true =>
        cases kJ1 : jn 10 0 (s.data.toList.take k) with
        | none =>
          cases kJ2 : jn 10 0 (s.data.toList.drop (k + 1)) with
          | none => exact rfrac_a s w hs k hk h47 hb kA1 kA2 kJ1 kJ2
          | some n => exact rfrac_b s w hs k hk h47 hb kA1 kA2 kJ1 n kJ2
        | some m =>
          cases kJ2 : jn 10 0 (s.data.toList.drop (k + 1)) with
          | none => exact rfrac_c s w hs k hk h47 hb kA1 kA2 m kJ1 kJ2
          | some n =>
            by_cases h0 : n = 0
            · exact rfrac_d s w hs k hk h47 hb kA1 kA2 m kJ1 (by rw [kJ2, h0])
            · exact rfrac_e s w hs k hk h47 hb kA1 kA2 m kJ1 n kJ2 (by simpa using h0)

theorem rparse_e0 (s : ByteArray) (w : World) (hs : s.size ≤ 4000000000) (hk : trm s.data.toList = []) (h0 : (unsR (trm s.data.toList)).E = 0) :
    Calls Tryz.prog 89 #[.string s] w fun e w' => e = .returned (.tuple #[.agg #[.int .i64 (parseR s.data.toList).P, .int .i64 (parseR s.data.toList).Q], .int .i64 (parseR s.data.toList).E]) ∧ Below w.heap.size w w' := by
  have hle := trm_len s.data.toList
  rw [list_size] at hle
  have hgd := good_uns (trm s.data.toList)
  have hpre : Lib.hasPrefix (trm s.data.toList) [45] = false := by rw [hk]; rfl
  have hpr : parseR s.data.toList = (⟨(unsR (trm s.data.toList)).P, (unsR (trm s.data.toList)).Q, 0⟩ : R3) := by
    unfold parseR; rw [if_neg (by simp [hpre])]
    exact R3.eta _ _ _ _ rfl rfl h0
  rw [hpr]
  have T1 : Hid (∀ w, Calls Tryz.prog 113 #[.string s] w fun e w' => e = .returned (.string (mkB (trm s.data.toList))) ∧ w = w') := Lib.hid fun w => rtrim_any s w hs
  have hul : (mkB (trm s.data.toList)).size ≤ 4000000000 := by rw [mkB_size]; omega
  have hud : (mkB (trm s.data.toList)).data.toList = trm s.data.toList := by rw [mkB_list]
  have U1 : Hid (∀ w, Calls Tryz.prog 114 #[.string (mkB (trm s.data.toList))] w fun e w' => e = .returned (.tuple #[.agg #[.int .i64 (unsR (trm s.data.toList)).P, .int .i64 (unsR (trm s.data.toList)).Q], .int .i64 (unsR (trm s.data.toList)).E]) ∧ Below w.heap.size w w') :=
    Lib.hid fun w => (by have := runs_any (mkB (trm s.data.toList)) w hul; rw [hud] at this; exact this)
  have z1 : (mkB (trm s.data.toList)).toList = [] := by rw [Lib.toList_data, mkB_list, hk]
  clear hpr hpre hgd hle hul hud hk
  generalize unsR (trm s.data.toList) = R at *
  have g : (R.E != 0) = false := by rw [bne_eq_false_iff_eq]; exact h0
  clear h0
  generalize mkB (trm s.data.toList) = t at *
  go_enter Tryz.func89, Tryz.ntmps89
  go_wp2_with (first | (go_at_call 113; (with_reducible refine (T1.out _).mono ?_); rintro e w' ⟨rfl, rfl⟩) | (go_at_call 114; (with_reducible refine (U1.out _).mono ?_); rintro e w1 ⟨rfl, hb1⟩; obtain ⟨hc1, hf1⟩ := bcell hb1; have hz := hb1.size; (try simp at hz); (try (have z1_0 : w.heap.size < w1.heap.size := (by omega))); (try (have z1_1 : w.heap.size + 1 < w1.heap.size := (by omega))); clear hz; (try (have k1a : w1.cell? ⟨w.heap.size, 0, none⟩ = some (.int .i64 0) := by go_simp)); (try (have k1b : w1.cell? ⟨w.heap.size, 1, none⟩ = some (.int .i64 0) := by go_simp))))
  refine bodyPost_ret (v := .tuple #[.agg #[.int .i64 R.P, .int .i64 R.Q], .int .i64 0]) (by simp [results, Tryz.results89, go_sem, *]) rfl ?_
  refine ⟨rfl, ?_⟩
  repeat (first | exact Below.refl _ _ | refine below_drewN ?_ _ | refine Below.drew ?_ | refine Below.setCell ?_ (by first | omega | (simp; done) | (simp; omega)) _ | refine Below.alloc ?_ (by first | omega | (simp; done) | (simp; omega)) _ | refine below_step (by assumption) (by first | omega | (simp; done) | (simp; omega)) ?_)

theorem rparse_e1 (s : ByteArray) (w : World) (hs : s.size ≤ 4000000000) (hk : trm s.data.toList = []) (h0 : (unsR (trm s.data.toList)).E ≠ 0) :
    Calls Tryz.prog 89 #[.string s] w fun e w' => e = .returned (.tuple #[.agg #[.int .i64 (parseR s.data.toList).P, .int .i64 (parseR s.data.toList).Q], .int .i64 (parseR s.data.toList).E]) ∧ Below w.heap.size w w' := by
  have hle := trm_len s.data.toList
  rw [list_size] at hle
  have hgd := good_uns (trm s.data.toList)
  have hpre : Lib.hasPrefix (trm s.data.toList) [45] = false := by rw [hk]; rfl
  have hpr : parseR s.data.toList = (⟨0, 0, (unsR (trm s.data.toList)).E⟩ : R3) := by
    unfold parseR; rw [if_neg (by simp [hpre])]
    obtain ⟨g1, g2⟩ := good_P hgd h0
    exact R3.eta _ _ _ _ g1 g2 rfl
  rw [hpr]
  have T1 : Hid (∀ w, Calls Tryz.prog 113 #[.string s] w fun e w' => e = .returned (.string (mkB (trm s.data.toList))) ∧ w = w') := Lib.hid fun w => rtrim_any s w hs
  have hul : (mkB (trm s.data.toList)).size ≤ 4000000000 := by rw [mkB_size]; omega
  have hud : (mkB (trm s.data.toList)).data.toList = trm s.data.toList := by rw [mkB_list]
  have U1 : Hid (∀ w, Calls Tryz.prog 114 #[.string (mkB (trm s.data.toList))] w fun e w' => e = .returned (.tuple #[.agg #[.int .i64 (unsR (trm s.data.toList)).P, .int .i64 (unsR (trm s.data.toList)).Q], .int .i64 (unsR (trm s.data.toList)).E]) ∧ Below w.heap.size w w') :=
    Lib.hid fun w => (by have := runs_any (mkB (trm s.data.toList)) w hul; rw [hud] at this; exact this)
  have z1 : (mkB (trm s.data.toList)).toList = [] := by rw [Lib.toList_data, mkB_list, hk]
  clear hpr hpre hgd hle hul hud hk
  generalize unsR (trm s.data.toList) = R at *
  have g : (R.E != 0) = true := by rw [bne_iff_ne]; exact h0
  clear h0
  generalize mkB (trm s.data.toList) = t at *
  go_enter Tryz.func89, Tryz.ntmps89
  go_wp2_with (first | (go_at_call 113; (with_reducible refine (T1.out _).mono ?_); rintro e w' ⟨rfl, rfl⟩) | (go_at_call 114; (with_reducible refine (U1.out _).mono ?_); rintro e w1 ⟨rfl, hb1⟩; obtain ⟨hc1, hf1⟩ := bcell hb1; have hz := hb1.size; (try simp at hz); (try (have z1_0 : w.heap.size < w1.heap.size := (by omega))); (try (have z1_1 : w.heap.size + 1 < w1.heap.size := (by omega))); clear hz; (try (have k1a : w1.cell? ⟨w.heap.size, 0, none⟩ = some (.int .i64 0) := by go_simp)); (try (have k1b : w1.cell? ⟨w.heap.size, 1, none⟩ = some (.int .i64 0) := by go_simp))))
  refine bodyPost_ret (v := .tuple #[.agg #[.int .i64 0, .int .i64 0], .int .i64 R.E]) (by simp [results, Tryz.results89, go_sem, *]) rfl ?_
  refine ⟨rfl, ?_⟩
  repeat (first | exact Below.refl _ _ | refine below_drewN ?_ _ | refine Below.drew ?_ | refine Below.setCell ?_ (by first | omega | (simp; done) | (simp; omega)) _ | refine Below.alloc ?_ (by first | omega | (simp; done) | (simp; omega)) _ | refine below_step (by assumption) (by first | omega | (simp; done) | (simp; omega)) ?_)

theorem rparse_n0 (s : ByteArray) (w : World) (hs : s.size ≤ 4000000000) (c0 : UInt8) (hk : (trm s.data.toList)[0]? = some c0) (hc : c0 ≠ 45) (h0 : (unsR (trm s.data.toList)).E = 0) :
    Calls Tryz.prog 89 #[.string s] w fun e w' => e = .returned (.tuple #[.agg #[.int .i64 (parseR s.data.toList).P, .int .i64 (parseR s.data.toList).Q], .int .i64 (parseR s.data.toList).E]) ∧ Below w.heap.size w w' := by
  have hle := trm_len s.data.toList
  rw [list_size] at hle
  have hgd := good_uns (trm s.data.toList)
  have hpre : Lib.hasPrefix (trm s.data.toList) [45] = false := by
    have h := hk
    revert h
    cases trm s.data.toList with
    | nil => intro h; cases h
    | cons x t => intro h; simp at h; subst h; unfold Lib.hasPrefix; simp [List.isPrefixOf]; exact fun hh => hc hh.symm
  have hpr : parseR s.data.toList = (⟨(unsR (trm s.data.toList)).P, (unsR (trm s.data.toList)).Q, 0⟩ : R3) := by
    unfold parseR; rw [if_neg (by simp [hpre])]
    exact R3.eta _ _ _ _ rfl rfl h0
  rw [hpr]
  have T1 : Hid (∀ w, Calls Tryz.prog 113 #[.string s] w fun e w' => e = .returned (.string (mkB (trm s.data.toList))) ∧ w = w') := Lib.hid fun w => rtrim_any s w hs
  have hul : (mkB (trm s.data.toList)).size ≤ 4000000000 := by rw [mkB_size]; omega
  have hud : (mkB (trm s.data.toList)).data.toList = trm s.data.toList := by rw [mkB_list]
  have U1 : Hid (∀ w, Calls Tryz.prog 114 #[.string (mkB (trm s.data.toList))] w fun e w' => e = .returned (.tuple #[.agg #[.int .i64 (unsR (trm s.data.toList)).P, .int .i64 (unsR (trm s.data.toList)).Q], .int .i64 (unsR (trm s.data.toList)).E]) ∧ Below w.heap.size w w') :=
    Lib.hid fun w => (by have := runs_any (mkB (trm s.data.toList)) w hul; rw [hud] at this; exact this)
  have hts : 0 < (mkB (trm s.data.toList)).size := by
    rw [mkB_size]
    rcases Nat.eq_zero_or_pos (trm s.data.toList).length with h | h
    · rw [List.getElem?_eq_none (by omega)] at hk; cases hk
    · exact h
  have z1 : (!(mkB (trm s.data.toList)).toList.isEmpty) = true := by
    rw [Lib.toList_data, mkB_list]
    rw [mkB_size] at hts
    cases h : trm s.data.toList with
    | nil => rw [h] at hts; simp at hts
    | cons => rfl
  have z2 : (mkB (trm s.data.toList)).toList.isEmpty = false := by simpa using z1
  have b45 := byte_iff (mkB (trm s.data.toList)) 0 hts 45
  rw [mkB_list] at b45
  have z3 : (((mkB (trm s.data.toList))[0].toNat : Int) == 45) = false := by
    cases h : (((mkB (trm s.data.toList))[0].toNat : Int) == 45) with
    | true => have := b45.2 h; rw [hk] at this; exact absurd (Option.some.inj this) hc
    | false => rfl
  clear b45
  clear hpr hpre hgd hle hul hud hk hc
  generalize unsR (trm s.data.toList) = R at *
  have g : (R.E != 0) = false := by rw [bne_eq_false_iff_eq]; exact h0
  clear h0
  generalize mkB (trm s.data.toList) = t at *
  go_enter Tryz.func89, Tryz.ntmps89
  go_wp2_with (first | (go_at_call 113; (with_reducible refine (T1.out _).mono ?_); rintro e w' ⟨rfl, rfl⟩) | (go_at_call 114; (with_reducible refine (U1.out _).mono ?_); rintro e w1 ⟨rfl, hb1⟩; obtain ⟨hc1, hf1⟩ := bcell hb1; have hz := hb1.size; (try simp at hz); (try (have z1_0 : w.heap.size < w1.heap.size := (by omega))); (try (have z1_1 : w.heap.size + 1 < w1.heap.size := (by omega))); clear hz; (try (have k1a : w1.cell? ⟨w.heap.size, 0, none⟩ = some (.int .i64 0) := by go_simp)); (try (have k1b : w1.cell? ⟨w.heap.size, 1, none⟩ = some (.int .i64 0) := by go_simp))))
  refine bodyPost_ret (v := .tuple #[.agg #[.int .i64 R.P, .int .i64 R.Q], .int .i64 0]) (by simp [results, Tryz.results89, go_sem, *]) rfl ?_
  refine ⟨rfl, ?_⟩
  repeat (first | exact Below.refl _ _ | refine below_drewN ?_ _ | refine Below.drew ?_ | refine Below.setCell ?_ (by first | omega | (simp; done) | (simp; omega)) _ | refine Below.alloc ?_ (by first | omega | (simp; done) | (simp; omega)) _ | refine below_step (by assumption) (by first | omega | (simp; done) | (simp; omega)) ?_)

theorem rparse_n1 (s : ByteArray) (w : World) (hs : s.size ≤ 4000000000) (c0 : UInt8) (hk : (trm s.data.toList)[0]? = some c0) (hc : c0 ≠ 45) (h0 : (unsR (trm s.data.toList)).E ≠ 0) :
    Calls Tryz.prog 89 #[.string s] w fun e w' => e = .returned (.tuple #[.agg #[.int .i64 (parseR s.data.toList).P, .int .i64 (parseR s.data.toList).Q], .int .i64 (parseR s.data.toList).E]) ∧ Below w.heap.size w w' := by
  have hle := trm_len s.data.toList
  rw [list_size] at hle
  have hgd := good_uns (trm s.data.toList)
  have hpre : Lib.hasPrefix (trm s.data.toList) [45] = false := by
    have h := hk
    revert h
    cases trm s.data.toList with
    | nil => intro h; cases h
    | cons x t => intro h; simp at h; subst h; unfold Lib.hasPrefix; simp [List.isPrefixOf]; exact fun hh => hc hh.symm
  have hpr : parseR s.data.toList = (⟨0, 0, (unsR (trm s.data.toList)).E⟩ : R3) := by
    unfold parseR; rw [if_neg (by simp [hpre])]
    obtain ⟨g1, g2⟩ := good_P hgd h0
    exact R3.eta _ _ _ _ g1 g2 rfl
  rw [hpr]
  have T1 : Hid (∀ w, Calls Tryz.prog 113 #[.string s] w fun e w' => e = .returned (.string (mkB (trm s.data.toList))) ∧ w = w') := Lib.hid fun w => rtrim_any s w hs
  have hul : (mkB (trm s.data.toList)).size ≤ 4000000000 := by rw [mkB_size]; omega
  have hud : (mkB (trm s.data.toList)).data.toList = trm s.data.toList := by rw [mkB_list]
  have U1 : Hid (∀ w, Calls Tryz.prog 114 #[.string (mkB (trm s.data.toList))] w fun e w' => e = .returned (.tuple #[.agg #[.int .i64 (unsR (trm s.data.toList)).P, .int .i64 (unsR (trm s.data.toList)).Q], .int .i64 (unsR (trm s.data.toList)).E]) ∧ Below w.heap.size w w') :=
    Lib.hid fun w => (by have := runs_any (mkB (trm s.data.toList)) w hul; rw [hud] at this; exact this)
  have hts : 0 < (mkB (trm s.data.toList)).size := by
    rw [mkB_size]
    rcases Nat.eq_zero_or_pos (trm s.data.toList).length with h | h
    · rw [List.getElem?_eq_none (by omega)] at hk; cases hk
    · exact h
  have z1 : (!(mkB (trm s.data.toList)).toList.isEmpty) = true := by
    rw [Lib.toList_data, mkB_list]
    rw [mkB_size] at hts
    cases h : trm s.data.toList with
    | nil => rw [h] at hts; simp at hts
    | cons => rfl
  have z2 : (mkB (trm s.data.toList)).toList.isEmpty = false := by simpa using z1
  have b45 := byte_iff (mkB (trm s.data.toList)) 0 hts 45
  rw [mkB_list] at b45
  have z3 : (((mkB (trm s.data.toList))[0].toNat : Int) == 45) = false := by
    cases h : (((mkB (trm s.data.toList))[0].toNat : Int) == 45) with
    | true => have := b45.2 h; rw [hk] at this; exact absurd (Option.some.inj this) hc
    | false => rfl
  clear b45
  clear hpr hpre hgd hle hul hud hk hc
  generalize unsR (trm s.data.toList) = R at *
  have g : (R.E != 0) = true := by rw [bne_iff_ne]; exact h0
  clear h0
  generalize mkB (trm s.data.toList) = t at *
  go_enter Tryz.func89, Tryz.ntmps89
  go_wp2_with (first | (go_at_call 113; (with_reducible refine (T1.out _).mono ?_); rintro e w' ⟨rfl, rfl⟩) | (go_at_call 114; (with_reducible refine (U1.out _).mono ?_); rintro e w1 ⟨rfl, hb1⟩; obtain ⟨hc1, hf1⟩ := bcell hb1; have hz := hb1.size; (try simp at hz); (try (have z1_0 : w.heap.size < w1.heap.size := (by omega))); (try (have z1_1 : w.heap.size + 1 < w1.heap.size := (by omega))); clear hz; (try (have k1a : w1.cell? ⟨w.heap.size, 0, none⟩ = some (.int .i64 0) := by go_simp)); (try (have k1b : w1.cell? ⟨w.heap.size, 1, none⟩ = some (.int .i64 0) := by go_simp))))
  refine bodyPost_ret (v := .tuple #[.agg #[.int .i64 0, .int .i64 0], .int .i64 R.E]) (by simp [results, Tryz.results89, go_sem, *]) rfl ?_
  refine ⟨rfl, ?_⟩
  repeat (first | exact Below.refl _ _ | refine below_drewN ?_ _ | refine Below.drew ?_ | refine Below.setCell ?_ (by first | omega | (simp; done) | (simp; omega)) _ | refine Below.alloc ?_ (by first | omega | (simp; done) | (simp; omega)) _ | refine below_step (by assumption) (by first | omega | (simp; done) | (simp; omega)) ?_)

theorem rparse_m0 (s : ByteArray) (w : World) (hs : s.size ≤ 4000000000) (hk : (trm s.data.toList)[0]? = some 45) (h0 : (unsR ((trm s.data.toList).drop 1)).E = 0) :
    Calls Tryz.prog 89 #[.string s] w fun e w' => e = .returned (.tuple #[.agg #[.int .i64 (parseR s.data.toList).P, .int .i64 (parseR s.data.toList).Q], .int .i64 (parseR s.data.toList).E]) ∧ Below w.heap.size w w' := by
  have hle := trm_len s.data.toList
  rw [list_size] at hle
  have hgd := good_uns ((trm s.data.toList).drop 1)
  have hpre : Lib.hasPrefix (trm s.data.toList) [45] = true := by
    have h := hk
    revert h
    cases trm s.data.toList with
    | nil => intro h; cases h
    | cons x t => intro h; simp at h; subst h; simp [Lib.hasPrefix, List.isPrefixOf]
  have hpr : parseR s.data.toList = (⟨-(unsR ((trm s.data.toList).drop 1)).P, (unsR ((trm s.data.toList).drop 1)).Q, 0⟩ : R3) := by
    unfold parseR; rw [if_pos hpre]; unfold negM; rw [if_pos h0]
  rw [hpr]
  have T1 : Hid (∀ w, Calls Tryz.prog 113 #[.string s] w fun e w' => e = .returned (.string (mkB (trm s.data.toList))) ∧ w = w') := Lib.hid fun w => rtrim_any s w hs
  have hul : ((mkB (trm s.data.toList)).extract 1 (mkB (trm s.data.toList)).size).size ≤ 4000000000 := by simp [mkB_size]; omega
  have hud : ((mkB (trm s.data.toList)).extract 1 (mkB (trm s.data.toList)).size).data.toList = (trm s.data.toList).drop 1 := by rw [ext_end, mkB_list, mkB_list]
  have U1 : Hid (∀ w, Calls Tryz.prog 114 #[.string ((mkB (trm s.data.toList)).extract 1 (mkB (trm s.data.toList)).size)] w fun e w' => e = .returned (.tuple #[.agg #[.int .i64 (unsR ((trm s.data.toList).drop 1)).P, .int .i64 (unsR ((trm s.data.toList).drop 1)).Q], .int .i64 (unsR ((trm s.data.toList).drop 1)).E]) ∧ Below w.heap.size w w') :=
    Lib.hid fun w => (by have := runs_any ((mkB (trm s.data.toList)).extract 1 (mkB (trm s.data.toList)).size) w hul; rw [hud] at this; exact this)
  have hts : 0 < (mkB (trm s.data.toList)).size := by
    rw [mkB_size]
    rcases Nat.eq_zero_or_pos (trm s.data.toList).length with h | h
    · rw [List.getElem?_eq_none (by omega)] at hk; cases hk
    · exact h
  have z1 : (!(mkB (trm s.data.toList)).toList.isEmpty) = true := by
    rw [Lib.toList_data, mkB_list]
    rw [mkB_size] at hts
    cases h : trm s.data.toList with
    | nil => rw [h] at hts; simp at hts
    | cons => rfl
  have z2 : (mkB (trm s.data.toList)).toList.isEmpty = false := by simpa using z1
  have b45 := byte_iff (mkB (trm s.data.toList)) 0 hts 45
  rw [mkB_list] at b45
  have z3 : (((mkB (trm s.data.toList))[0].toNat : Int) == 45) = true := b45.1 hk
  clear b45
  obtain ⟨v1, v2, v3, v4, _⟩ := vld_iff.1 (good_vld hgd h0)
  clear hpr hpre hgd hle hul hud hk
  generalize unsR ((trm s.data.toList).drop 1) = R at *
  have g : (R.E != 0) = false := by rw [bne_eq_false_iff_eq]; exact h0
  clear h0
  generalize mkB (trm s.data.toList) = t at *
  go_enter Tryz.func89, Tryz.ntmps89
  go_wp2_with (first | (go_at_call 113; (with_reducible refine (T1.out _).mono ?_); rintro e w' ⟨rfl, rfl⟩) | (go_at_call 114; (with_reducible refine (U1.out _).mono ?_); rintro e w1 ⟨rfl, hb1⟩; obtain ⟨hc1, hf1⟩ := bcell hb1; have hz := hb1.size; (try simp at hz); (try (have z1_0 : w.heap.size < w1.heap.size := (by omega))); (try (have z1_1 : w.heap.size + 1 < w1.heap.size := (by omega))); clear hz; (try (have k1a : w1.cell? ⟨w.heap.size, 0, none⟩ = some (.int .i64 0) := by go_simp)); (try (have k1b : w1.cell? ⟨w.heap.size, 1, none⟩ = some (.int .i64 0) := by go_simp))))
  refine bodyPost_ret (v := .tuple #[.agg #[.int .i64 (-R.P), .int .i64 R.Q], .int .i64 0]) (by simp [results, Tryz.results89, go_sem, *]) rfl ?_
  refine ⟨rfl, ?_⟩
  repeat (first | exact Below.refl _ _ | refine below_drewN ?_ _ | refine Below.drew ?_ | refine Below.setCell ?_ (by first | omega | (simp; done) | (simp; omega)) _ | refine Below.alloc ?_ (by first | omega | (simp; done) | (simp; omega)) _ | refine below_step (by assumption) (by first | omega | (simp; done) | (simp; omega)) ?_)

theorem rparse_m1 (s : ByteArray) (w : World) (hs : s.size ≤ 4000000000) (hk : (trm s.data.toList)[0]? = some 45) (h0 : (unsR ((trm s.data.toList).drop 1)).E ≠ 0) :
    Calls Tryz.prog 89 #[.string s] w fun e w' => e = .returned (.tuple #[.agg #[.int .i64 (parseR s.data.toList).P, .int .i64 (parseR s.data.toList).Q], .int .i64 (parseR s.data.toList).E]) ∧ Below w.heap.size w w' := by
  have hle := trm_len s.data.toList
  rw [list_size] at hle
  have hgd := good_uns ((trm s.data.toList).drop 1)
  have hpre : Lib.hasPrefix (trm s.data.toList) [45] = true := by
    have h := hk
    revert h
    cases trm s.data.toList with
    | nil => intro h; cases h
    | cons x t => intro h; simp at h; subst h; simp [Lib.hasPrefix, List.isPrefixOf]
  have hpr : parseR s.data.toList = (⟨0, 0, (unsR ((trm s.data.toList).drop 1)).E⟩ : R3) := by
    unfold parseR; rw [if_pos hpre]; unfold negM; rw [if_neg h0]
    obtain ⟨g1, g2⟩ := good_P hgd h0
    exact R3.eta _ _ _ _ g1 g2 rfl
  rw [hpr]
  have T1 : Hid (∀ w, Calls Tryz.prog 113 #[.string s] w fun e w' => e = .returned (.string (mkB (trm s.data.toList))) ∧ w = w') := Lib.hid fun w => rtrim_any s w hs
  have hul : ((mkB (trm s.data.toList)).extract 1 (mkB (trm s.data.toList)).size).size ≤ 4000000000 := by simp [mkB_size]; omega
  have hud : ((mkB (trm s.data.toList)).extract 1 (mkB (trm s.data.toList)).size).data.toList = (trm s.data.toList).drop 1 := by rw [ext_end, mkB_list, mkB_list]
  have U1 : Hid (∀ w, Calls Tryz.prog 114 #[.string ((mkB (trm s.data.toList)).extract 1 (mkB (trm s.data.toList)).size)] w fun e w' => e = .returned (.tuple #[.agg #[.int .i64 (unsR ((trm s.data.toList).drop 1)).P, .int .i64 (unsR ((trm s.data.toList).drop 1)).Q], .int .i64 (unsR ((trm s.data.toList).drop 1)).E]) ∧ Below w.heap.size w w') :=
    Lib.hid fun w => (by have := runs_any ((mkB (trm s.data.toList)).extract 1 (mkB (trm s.data.toList)).size) w hul; rw [hud] at this; exact this)
  have hts : 0 < (mkB (trm s.data.toList)).size := by
    rw [mkB_size]
    rcases Nat.eq_zero_or_pos (trm s.data.toList).length with h | h
    · rw [List.getElem?_eq_none (by omega)] at hk; cases hk
    · exact h
  have z1 : (!(mkB (trm s.data.toList)).toList.isEmpty) = true := by
    rw [Lib.toList_data, mkB_list]
    rw [mkB_size] at hts
    cases h : trm s.data.toList with
    | nil => rw [h] at hts; simp at hts
    | cons => rfl
  have z2 : (mkB (trm s.data.toList)).toList.isEmpty = false := by simpa using z1
  have b45 := byte_iff (mkB (trm s.data.toList)) 0 hts 45
  rw [mkB_list] at b45
  have z3 : (((mkB (trm s.data.toList))[0].toNat : Int) == 45) = true := b45.1 hk
  clear b45
  clear hpr hpre hgd hle hul hud hk
  generalize unsR ((trm s.data.toList).drop 1) = R at *
  have g : (R.E != 0) = true := by rw [bne_iff_ne]; exact h0
  clear h0
  generalize mkB (trm s.data.toList) = t at *
  go_enter Tryz.func89, Tryz.ntmps89
  go_wp2_with (first | (go_at_call 113; (with_reducible refine (T1.out _).mono ?_); rintro e w' ⟨rfl, rfl⟩) | (go_at_call 114; (with_reducible refine (U1.out _).mono ?_); rintro e w1 ⟨rfl, hb1⟩; obtain ⟨hc1, hf1⟩ := bcell hb1; have hz := hb1.size; (try simp at hz); (try (have z1_0 : w.heap.size < w1.heap.size := (by omega))); (try (have z1_1 : w.heap.size + 1 < w1.heap.size := (by omega))); clear hz; (try (have k1a : w1.cell? ⟨w.heap.size, 0, none⟩ = some (.int .i64 0) := by go_simp)); (try (have k1b : w1.cell? ⟨w.heap.size, 1, none⟩ = some (.int .i64 0) := by go_simp))))
  refine bodyPost_ret (v := .tuple #[.agg #[.int .i64 0, .int .i64 0], .int .i64 R.E]) (by simp [results, Tryz.results89, go_sem, *]) rfl ?_
  refine ⟨rfl, ?_⟩
  repeat (first | exact Below.refl _ _ | refine below_drewN ?_ _ | refine Below.drew ?_ | refine Below.setCell ?_ (by first | omega | (simp; done) | (simp; omega)) _ | refine Below.alloc ?_ (by first | omega | (simp; done) | (simp; omega)) _ | refine below_step (by assumption) (by first | omega | (simp; done) | (simp; omega)) ?_)

theorem rparse_any (s : ByteArray) (w : World) (hs : s.size ≤ 4000000000) :
    Calls Tryz.prog 89 #[.string s] w fun e w' => e = .returned (.tuple #[.agg #[.int .i64 (parseR s.data.toList).P, .int .i64 (parseR s.data.toList).Q], .int .i64 (parseR s.data.toList).E]) ∧ Below w.heap.size w w' := by
  cases hl : (trm s.data.toList)[0]? with
  | none =>
    have hk : trm s.data.toList = [] := by
      cases h : trm s.data.toList with
      | nil => rfl
      | cons x t => rw [h] at hl; cases hl
    by_cases h0 : (unsR (trm s.data.toList)).E = 0
    · exact rparse_e0 s w hs hk h0
    · exact rparse_e1 s w hs hk h0
  | some c =>
    by_cases hc : c = 45
    · subst hc
      by_cases h0 : (unsR ((trm s.data.toList).drop 1)).E = 0
      · exact rparse_m0 s w hs hl h0
      · exact rparse_m1 s w hs hl h0
    · by_cases h0 : (unsR (trm s.data.toList)).E = 0
      · exact rparse_n0 s w hs c hl hc h0
      · exact rparse_n1 s w hs c hl hc h0
end Go.Proofs.YtbdcmnhfmkefdaaGreatDoor
