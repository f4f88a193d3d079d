/- Contracts of layer 2: Parse and Scan. -/
import Derived.Test.YtbcbddglgfakpaaDoorNumG
namespace Go.Proofs.YtbcbddglgfakpaaDoor
open Go.RowKit M1 M2
set_option linter.unusedVariables false

theorem trm_len (l : List UInt8) : (trm l).length ≤ l.length := by
  unfold trm Lib.trimS Lib.trimLeftS Lib.trimRightS
  refine Nat.le_trans (List.dropWhile_sublist _).length_le ?_
  rw [List.length_reverse]
  refine Nat.le_trans (List.dropWhile_sublist _).length_le ?_
  simp
theorem tpre_yes {l : List UInt8} (h : Lib.hasPrefix l [45] = true) : Lib.trimPrefix l [45] = l.drop 1 := by unfold Lib.trimPrefix; rw [if_pos h]; rfl
theorem tpre_no {l : List UInt8} (h : Lib.hasPrefix l [45] = false) : Lib.trimPrefix l [45] = l := by unfold Lib.trimPrefix; rw [if_neg (by simp [h])]

set_option maxHeartbeats 400000 in
theorem scan_neg (s : ByteArray) (a : Int) (w : World) (hs : s.size ≤ 4000000000) (h : a < 0) :
    Calls Tryd.prog 58 #[.string s, .int .i64 a] w fun e w' => e = .returned (.tuple #[.agg #[.int .i64 (scanR s.data.toList a).P, .int .i64 (scanR s.data.toList a).Q], .int .i64 (scanR s.data.toList a).N, .int .i64 (scanR s.data.toList a).E]) ∧ Below w.heap.size w w' := by
  rw [show scanR s.data.toList a = ⟨0, 0, 0, 6⟩ from if_pos (.inl h)]
  go_enter Tryd.func58, Tryd.ntmps58
  go_wp2
  refine bodyPost_ret (v := .tuple #[.agg #[.int .i64 0, .int .i64 0], .int .i64 0, .int .i64 6]) (by simp [results, Tryd.results58, go_sem, *]) rfl ?_
  refine ⟨rfl, ?_⟩
  repeat (first | exact Below.refl _ _ | refine below_drewN ?_ _ | refine Below.drew ?_ | refine Below.setCell ?_ (by first | omega | (simp; done) | (simp; omega)) _ | refine Below.alloc ?_ (by first | omega | (simp; done) | (simp; omega)) _ | refine below_step (by assumption) (by first | omega | (simp; done) | (simp; omega)) ?_)

set_option maxHeartbeats 400000 in
theorem scan_far (s : ByteArray) (a : Int) (w : World) (hs : s.size ≤ 4000000000) (h0 : 0 ≤ a) (h : (s.size : Int) < a) :
    Calls Tryd.prog 58 #[.string s, .int .i64 a] w fun e w' => e = .returned (.tuple #[.agg #[.int .i64 (scanR s.data.toList a).P, .int .i64 (scanR s.data.toList a).Q], .int .i64 (scanR s.data.toList a).N, .int .i64 (scanR s.data.toList a).E]) ∧ Below w.heap.size w w' := by
  rw [show scanR s.data.toList a = ⟨0, 0, 0, 6⟩ from if_pos (.inr (by rw [list_size]; exact h))]
  go_enter Tryd.func58, Tryd.ntmps58
  go_wp2
  refine bodyPost_ret (v := .tuple #[.agg #[.int .i64 0, .int .i64 0], .int .i64 0, .int .i64 6]) (by simp [results, Tryd.results58, go_sem, *]) rfl ?_
  refine ⟨rfl, ?_⟩
  repeat (first | exact Below.refl _ _ | refine below_drewN ?_ _ | refine Below.drew ?_ | refine Below.setCell ?_ (by first | omega | (simp; done) | (simp; omega)) _ | refine Below.alloc ?_ (by first | omega | (simp; done) | (simp; omega)) _ | refine below_step (by assumption) (by first | omega | (simp; done) | (simp; omega)) ?_)

set_option maxHeartbeats 400000 in
theorem scan_form (s : ByteArray) (a : Nat) (w : World) (hs : s.size ≤ 4000000000) (h : a ≤ s.size) (h0 : (meas (s.data.toList.drop a)).fin = 0) :
    Calls Tryd.prog 58 #[.string s, .int .i64 a] w fun e w' => e = .returned (.tuple #[.agg #[.int .i64 (scanR s.data.toList a).P, .int .i64 (scanR s.data.toList a).Q], .int .i64 (scanR s.data.toList a).N, .int .i64 (scanR s.data.toList a).E]) ∧ Below w.heap.size w w' := by
  have hdr : (s.extract a s.size).data.toList = s.data.toList.drop a := by rw [ext_end, mkB_list]
  obtain ⟨B, wh, bh, f, hm, hf, hn, M1, N1⟩ := measure_fact (s.extract a s.size) (by simp; omega)
  rw [hdr] at hm N1 hn
  have hmf : (meas (s.data.toList.drop a)).fin = f := by rw [hm]
  have hf2 : f ≤ s.size - a := by rw [← list_size, hdr, List.length_drop, list_size] at hf; exact hf
  have hsc : scanR s.data.toList a = ⟨0, 0, 0, 4⟩ := by
    unfold scanR
    rw [if_neg (by rw [list_size]; omega), Int.toNat_natCast, if_pos h0]
  rw [hsc]
  rw [hmf] at h0
  subst h0
  clear hm hn hmf hsc hdr
  go_enter Tryd.func58, Tryd.ntmps58
  go_wp2_with (first | (go_at_call 65; (with_reducible refine (M1.out _).mono ?_); rintro e w1 ⟨rfl, hb1⟩; obtain ⟨hc1, hf1⟩ := bcell hb1; have hz := hb1.size; (try simp at hz); (try (have z1_0 : w.heap.size < w1.heap.size := (by omega))); (try (have z1_1 : w.heap.size + 1 < w1.heap.size := (by omega))); (try (have z1_2 : w.heap.size + 2 < w1.heap.size := (by omega))); clear hz; (try (have k1a : w1.cell? ⟨w.heap.size, 0, none⟩ = some (.int .i64 0) := by go_simp)); (try (have k1b : w1.cell? ⟨w.heap.size, 1, none⟩ = some (.int .i64 0) := by go_simp))))
  refine bodyPost_ret (v := .tuple #[.agg #[.int .i64 0, .int .i64 0], .int .i64 0, .int .i64 4]) (by simp [results, Tryd.results58, go_sem, *]) rfl ?_
  refine ⟨rfl, ?_⟩
  repeat (first | exact Below.refl _ _ | refine below_drewN ?_ _ | refine Below.drew ?_ | refine Below.setCell ?_ (by first | omega | (simp; done) | (simp; omega)) _ | refine Below.alloc ?_ (by first | omega | (simp; done) | (simp; omega)) _ | refine below_step (by assumption) (by first | omega | (simp; done) | (simp; omega)) ?_)

set_option maxHeartbeats 400000 in
theorem scan_err (s : ByteArray) (a : Nat) (w : World) (hs : s.size ≤ 4000000000) (h : a ≤ s.size) (h0 : (meas (s.data.toList.drop a)).fin ≠ 0) (h1 : (numR (meas (s.data.toList.drop a))).E ≠ 0) :
    Calls Tryd.prog 58 #[.string s, .int .i64 a] w fun e w' => e = .returned (.tuple #[.agg #[.int .i64 (scanR s.data.toList a).P, .int .i64 (scanR s.data.toList a).Q], .int .i64 (scanR s.data.toList a).N, .int .i64 (scanR s.data.toList a).E]) ∧ Below w.heap.size w w' := by
  have hdr : (s.extract a s.size).data.toList = s.data.toList.drop a := by rw [ext_end, mkB_list]
  obtain ⟨B, wh, bh, f, hm, hf, hn, M1, N1⟩ := measure_fact (s.extract a s.size) (by simp; omega)
  rw [hdr] at hm N1 hn
  have hmf : (meas (s.data.toList.drop a)).fin = f := by rw [hm]
  have hf2 : f ≤ s.size - a := by rw [← list_size, hdr, List.length_drop, list_size] at hf; exact hf
  have hsc : scanR s.data.toList a = ⟨0, 0, 0, (numR (meas (s.data.toList.drop a))).E⟩ := by
    unfold scanR
    rw [if_neg (by rw [list_size]; omega), Int.toNat_natCast, if_neg h0, if_neg h1]
  rw [hsc]
  rw [hmf] at h0
  generalize numR (meas (s.data.toList.drop a)) = R at *
  have g0 : ((f : Int) == 0) = false := by rw [beq_eq_false_iff_ne]; omega
  have g : (R.E != 0) = true := by rw [bne_iff_ne]; exact h1
  clear hm hn hmf hsc hdr h0 h1
  go_enter Tryd.func58, Tryd.ntmps58
  go_wp2_with (first | (go_at_call 65; (with_reducible refine (M1.out _).mono ?_); rintro e w1 ⟨rfl, hb1⟩; obtain ⟨hc1, hf1⟩ := bcell hb1; have hz := hb1.size; (try simp at hz); (try (have z1_0 : w.heap.size < w1.heap.size := (by omega))); (try (have z1_1 : w.heap.size + 1 < w1.heap.size := (by omega))); (try (have z1_2 : w.heap.size + 2 < w1.heap.size := (by omega))); clear hz; (try (have k1a : w1.cell? ⟨w.heap.size, 0, none⟩ = some (.int .i64 0) := by go_simp)); (try (have k1b : w1.cell? ⟨w.heap.size, 1, none⟩ = some (.int .i64 0) := by go_simp))) | (go_at_call 66; (with_reducible refine (N1.out _).mono ?_); rintro e w2 ⟨rfl, hb2⟩; obtain ⟨hc2, hf2⟩ := bcell hb2; have hz := hb2.size; (try simp at hz); (try (have z2_0 : w.heap.size < w2.heap.size := (by omega))); (try (have z2_1 : w.heap.size + 1 < w2.heap.size := (by omega))); (try (have z2_2 : w.heap.size + 2 < w2.heap.size := (by omega))); (try (have y2_1 : w1.heap.size < w2.heap.size := (by omega))); clear hz; (try (have k2a : w2.cell? ⟨w.heap.size, 0, none⟩ = some (.int .i64 0) := by go_simp)); (try (have k2b : w2.cell? ⟨w.heap.size, 1, none⟩ = some (.int .i64 0) := by go_simp))))
  refine bodyPost_ret (v := .tuple #[.agg #[.int .i64 0, .int .i64 0], .int .i64 0, .int .i64 R.E]) (by simp [results, Tryd.results58, go_sem, *]) rfl ?_
  refine ⟨rfl, ?_⟩
  repeat (first | exact Below.refl _ _ | refine below_drewN ?_ _ | refine Below.drew ?_ | refine Below.setCell ?_ (by first | omega | (simp; done) | (simp; omega)) _ | refine Below.alloc ?_ (by first | omega | (simp; done) | (simp; omega)) _ | refine below_step (by assumption) (by first | omega | (simp; done) | (simp; omega)) ?_)

set_option maxHeartbeats 400000 in
theorem scan_ok (s : ByteArray) (a : Nat) (w : World) (hs : s.size ≤ 4000000000) (h : a ≤ s.size) (h0 : (meas (s.data.toList.drop a)).fin ≠ 0) (h1 : (numR (meas (s.data.toList.drop a))).E = 0) :
    Calls Tryd.prog 58 #[.string s, .int .i64 a] w fun e w' => e = .returned (.tuple #[.agg #[.int .i64 (scanR s.data.toList a).P, .int .i64 (scanR s.data.toList a).Q], .int .i64 (scanR s.data.toList a).N, .int .i64 (scanR s.data.toList a).E]) ∧ Below w.heap.size w w' := by
  have hdr : (s.extract a s.size).data.toList = s.data.toList.drop a := by rw [ext_end, mkB_list]
  obtain ⟨B, wh, bh, f, hm, hf, hn, M1, N1⟩ := measure_fact (s.extract a s.size) (by simp; omega)
  rw [hdr] at hm N1 hn
  have hmf : (meas (s.data.toList.drop a)).fin = f := by rw [hm]
  have hf2 : f ≤ s.size - a := by rw [← list_size, hdr, List.length_drop, list_size] at hf; exact hf
  have hsc : scanR s.data.toList a = ⟨(numR (meas (s.data.toList.drop a))).P, (numR (meas (s.data.toList.drop a))).Q, (a : Int) + f, 0⟩ := by
    unfold scanR
    rw [if_neg (by rw [list_size]; omega), Int.toNat_natCast, if_neg h0, if_pos h1, hmf]
  rw [hsc]
  rw [hmf] at h0
  generalize numR (meas (s.data.toList.drop a)) = R at *
  have g0 : ((f : Int) == 0) = false := by rw [beq_eq_false_iff_ne]; omega
  have g : (R.E != 0) = false := by rw [bne_eq_false_iff_eq]; exact h1
  clear hm hn hmf hsc hdr h0 h1
  go_enter Tryd.func58, Tryd.ntmps58
  go_wp2_with (first | (go_at_call 65; (with_reducible refine (M1.out _).mono ?_); rintro e w1 ⟨rfl, hb1⟩; obtain ⟨hc1, hf1⟩ := bcell hb1; have hz := hb1.size; (try simp at hz); (try (have z1_0 : w.heap.size < w1.heap.size := (by omega))); (try (have z1_1 : w.heap.size + 1 < w1.heap.size := (by omega))); (try (have z1_2 : w.heap.size + 2 < w1.heap.size := (by omega))); clear hz; (try (have k1a : w1.cell? ⟨w.heap.size, 0, none⟩ = some (.int .i64 0) := by go_simp)); (try (have k1b : w1.cell? ⟨w.heap.size, 1, none⟩ = some (.int .i64 0) := by go_simp))) | (go_at_call 66; (with_reducible refine (N1.out _).mono ?_); rintro e w2 ⟨rfl, hb2⟩; obtain ⟨hc2, hf2⟩ := bcell hb2; have hz := hb2.size; (try simp at hz); (try (have z2_0 : w.heap.size < w2.heap.size := (by omega))); (try (have z2_1 : w.heap.size + 1 < w2.heap.size := (by omega))); (try (have z2_2 : w.heap.size + 2 < w2.heap.size := (by omega))); (try (have y2_1 : w1.heap.size < w2.heap.size := (by omega))); clear hz; (try (have k2a : w2.cell? ⟨w.heap.size, 0, none⟩ = some (.int .i64 0) := by go_simp)); (try (have k2b : w2.cell? ⟨w.heap.size, 1, none⟩ = some (.int .i64 0) := by go_simp))))
  have q0 : (w2.alloc (.cells #[.int .i64 R.P, .int .i64 R.Q] 77)).cell? ⟨w.heap.size, 0, none⟩ = some (.int .i64 0) := by go_simp
  have q1 : (w2.alloc (.cells #[.int .i64 R.P, .int .i64 R.Q] 77)).cell? ⟨w.heap.size, 1, none⟩ = some (.int .i64 0) := by go_simp
  have q2 : (w2.alloc (.cells #[.int .i64 R.P, .int .i64 R.Q] 77)).cell? ⟨w2.heap.size, 0, none⟩ = some (.int .i64 R.P) := by go_simp
  have q3 : (w2.alloc (.cells #[.int .i64 R.P, .int .i64 R.Q] 77)).cell? ⟨w2.heap.size, 1, none⟩ = some (.int .i64 R.Q) := by go_simp
  have q4 : (w2.alloc (.cells #[.int .i64 R.P, .int .i64 R.Q] 77)).cell? ⟨w1.heap.size, 3, none⟩ = some (.int .i64 f) := by go_simp
  have qf0 : (w2.alloc (.cells #[.int .i64 R.P, .int .i64 R.Q] 77)).frozen? ⟨w.heap.size, 0, none⟩ = false := by go_simp
  have qf1 : (w2.alloc (.cells #[.int .i64 R.P, .int .i64 R.Q] 77)).frozen? ⟨w.heap.size, 1, none⟩ = false := by go_simp
  have kB : Below w.heap.size w (w2.alloc (.cells #[.int .i64 R.P, .int .i64 R.Q] 77)) := by
    repeat (first | exact Below.refl _ _ | refine below_drewN ?_ _ | refine Below.drew ?_ | refine Below.setCell ?_ (by first | omega | (simp; done) | (simp; omega)) _ | refine Below.alloc ?_ (by first | omega | (simp; done) | (simp; omega)) _ | refine below_step (by assumption) (by first | omega | (simp; done) | (simp; omega)) ?_)
  have kz : w.heap.size < (w2.alloc (.cells #[.int .i64 R.P, .int .i64 R.Q] 77)).heap.size := by simp; omega
  generalize (w2.alloc (.cells #[.int .i64 R.P, .int .i64 R.Q] 77)) = W at *
  go_region
  all_goals go_wp2
  refine bodyPost_ret (v := .tuple #[.agg #[.int .i64 R.P, .int .i64 R.Q], .int .i64 ((a : Int) + f), .int .i64 0]) (by simp [results, Tryd.results58, go_sem, *]) rfl ?_
  refine ⟨rfl, ?_⟩
  exact ((kB.setCell (by simp) _).setCell (by simp) _).drew

theorem scan_any (s : ByteArray) (a : Int) (w : World) (hs : s.size ≤ 4000000000) :
    Calls Tryd.prog 58 #[.string s, .int .i64 a] w fun e w' => e = .returned (.tuple #[.agg #[.int .i64 (scanR s.data.toList a).P, .int .i64 (scanR s.data.toList a).Q], .int .i64 (scanR s.data.toList a).N, .int .i64 (scanR s.data.toList a).E]) ∧ Below w.heap.size w w' := by
  by_cases h : a < 0
  · exact scan_neg s a w hs h
  · by_cases h2 : (s.size : Int) < a
    · exact scan_far s a w hs (by omega) h2
    · obtain ⟨n, rfl⟩ := Int.eq_ofNat_of_zero_le (show 0 ≤ a by omega)
      by_cases h0 : (meas (s.data.toList.drop n)).fin = 0
      · exact scan_form s n w hs (by omega) h0
      · by_cases h1 : (numR (meas (s.data.toList.drop n))).E = 0
        · exact scan_ok s n w hs (by omega) h0 h1
        · exact scan_err s n w hs (by omega) h0 h1
end Go.Proofs.YtbcbddglgfakpaaDoor
