/- Contracts of layer 2: Parse and Scan. -/
import Derived.Test.YtmnfebgkpcjjjaaDoorNumG
namespace Go.Proofs.YtmnfebgkpcjjjaaDoor
open Go.RowKit M1 M2
set_option linter.unusedVariables false

theorem trm_len (l : List UInt8) : (trm l).length ≤ l.length := by
  unfold trm Lib.trimS Lib.trimLeftS Lib.trimRightS
  refine Nat.le_trans (List.dropWhile_sublist _).length_le ?_
  rw [List.length_reverse]
  refine Nat.le_trans (List.dropWhile_sublist _).length_le ?_
  simp
theorem tpre_yes {l : List UInt8} (h : Lib.hasPrefix l [45] = true) : Lib.trimPrefix l [45] = l.drop 1 := by unfold Lib.trimPrefix; rw [if_pos h]; rfl
theorem tpre_no {l : List UInt8} (h : Lib.hasPrefix l [45] = false) : Lib.trimPrefix l [45] = l := by unfold Lib.trimPrefix; rw [if_neg (by simp [h])]

theorem parse_a (s : ByteArray) (w : World) (hs : s.size ≤ 4000000000) (he : Env w) (hb : Lib.hasPrefix (trm s.data.toList) [45] = false) (h0 : (unsR (trm s.data.toList)).E = 0) :
    Calls Tryd.prog 49 #[.string s] w fun e w' => e = .returned (.tuple #[.agg #[.int .i64 (parseR s.data.toList).P, .int .i64 (parseR s.data.toList).Q], .int .i64 (parseR s.data.toList).E]) ∧ Below w.heap.size w w' := by
  have hle := trm_len s.data.toList
  rw [list_size] at hle
  have hul : (trm s.data.toList).length ≤ 4000000000 := by omega
  have T1 : Hid (∀ w, Calls Tryd.prog 59 #[.string s, .string ⟨#[32, 9, 10, 13]⟩] w fun e w' => e = .returned (.string (mkB (trm s.data.toList))) ∧ Below w.heap.size w w') := Lib.hid fun w => trim_any s w hs
  have P1 : Hid (∀ w, Calls Tryd.prog 60 #[.string (mkB (trm s.data.toList)), .string ⟨#[45]⟩] w fun e w' => e = .returned (.tuple #[.string (mkB (trm s.data.toList)), .bool false]) ∧ w = w') :=
    Lib.hid fun w => (cutp_any (mkB (trm s.data.toList)) ⟨#[45]⟩ w).mono fun e w' ⟨h1, h2⟩ => ⟨by rw [h1, mkB_list]; show Ending.returned (.tuple #[.string (mkB (Lib.trimPrefix (trm s.data.toList) [45])), .bool (Lib.hasPrefix (trm s.data.toList) [45])]) = _; rw [tpre_no hb, hb], h2⟩
  have U1 : Hid (∀ w, Env w → Calls Tryd.prog 61 #[.string (mkB (trm s.data.toList))] w fun e w' => e = .returned (.tuple #[.agg #[.int .i64 (unsR (trm s.data.toList)).P, .int .i64 (unsR (trm s.data.toList)).Q], .int .i64 (unsR (trm s.data.toList)).E]) ∧ Below w.heap.size w w') :=
    Lib.hid fun w he => (by have := uns_any (mkB (trm s.data.toList)) w (by rw [mkB_size]; exact hul) he; rw [mkB_list] at this; exact this)
  rw [show parseR s.data.toList = unsR (trm s.data.toList) by unfold parseR; rw [if_neg (by simp [hb])]]
  clear hb hul hle
  generalize unsR (trm s.data.toList) = R at *
  generalize mkB (trm s.data.toList) = t at *
  
  have g : (R.E != 0) = false := by rw [bne_eq_false_iff_eq]; exact h0
  clear h0
  have HE := Lib.hid (he.alloc (.cells #[.int .i64 0, .int .i64 0] 23))
  go_enter Tryd.func49, Tryd.ntmps49
  go_wp2_with (first | (go_at_call 59; (with_reducible refine (T1.out _).mono ?_); rintro e w1 ⟨rfl, hb1⟩; have HE1 := Lib.hid (HE.out.on hb1); obtain ⟨hc1, hf1⟩ := bcell hb1; have hz := hb1.size; (try simp at hz); (try (have z1_0 : w.heap.size < w1.heap.size := (by omega))); (try (have z1_1 : w.heap.size + 1 < w1.heap.size := (by omega))); clear hz; (try (have k1a : w1.cell? ⟨w.heap.size, 0, none⟩ = some (.int .i64 0) := by go_simp)); (try (have k1b : w1.cell? ⟨w.heap.size, 1, none⟩ = some (.int .i64 0) := by go_simp))) | (go_at_call 60; (with_reducible refine (P1.out _).mono ?_); rintro e w' ⟨rfl, rfl⟩) | (go_at_call 61; (with_reducible refine (U1.out _ HE1.out).mono ?_); rintro e w2 ⟨rfl, hb2⟩; obtain ⟨hc2, hf2⟩ := bcell hb2; have hz := hb2.size; (try simp at hz); (try (have z2_0 : w.heap.size < w2.heap.size := (by omega))); (try (have z2_1 : w.heap.size + 1 < w2.heap.size := (by omega))); (try (have y2_1 : w1.heap.size < w2.heap.size := (by omega))); clear hz; (try (have k2a : w2.cell? ⟨w.heap.size, 0, none⟩ = some (.int .i64 0) := by go_simp)); (try (have k2b : w2.cell? ⟨w.heap.size, 1, none⟩ = some (.int .i64 0) := by go_simp))))
  refine bodyPost_ret (v := .tuple #[.agg #[.int .i64 R.P, .int .i64 R.Q], .int .i64 R.E]) (by simp [results, Tryd.results49, go_sem, *]) rfl ?_
  refine ⟨rfl, ?_⟩
  repeat (first | exact Below.refl _ _ | refine below_drewN ?_ _ | refine Below.drew ?_ | refine Below.setCell ?_ (by first | omega | (simp; done) | (simp; omega)) _ | refine Below.alloc ?_ (by first | omega | (simp; done) | (simp; omega)) _ | refine below_step (by assumption) (by first | omega | (simp; done) | (simp; omega)) ?_)

theorem parse_b (s : ByteArray) (w : World) (hs : s.size ≤ 4000000000) (he : Env w) (hb : Lib.hasPrefix (trm s.data.toList) [45] = false) (h0 : (unsR (trm s.data.toList)).E ≠ 0) :
    Calls Tryd.prog 49 #[.string s] w fun e w' => e = .returned (.tuple #[.agg #[.int .i64 (parseR s.data.toList).P, .int .i64 (parseR s.data.toList).Q], .int .i64 (parseR s.data.toList).E]) ∧ Below w.heap.size w w' := by
  have hle := trm_len s.data.toList
  rw [list_size] at hle
  have hul : (trm s.data.toList).length ≤ 4000000000 := by omega
  have T1 : Hid (∀ w, Calls Tryd.prog 59 #[.string s, .string ⟨#[32, 9, 10, 13]⟩] w fun e w' => e = .returned (.string (mkB (trm s.data.toList))) ∧ Below w.heap.size w w') := Lib.hid fun w => trim_any s w hs
  have P1 : Hid (∀ w, Calls Tryd.prog 60 #[.string (mkB (trm s.data.toList)), .string ⟨#[45]⟩] w fun e w' => e = .returned (.tuple #[.string (mkB (trm s.data.toList)), .bool false]) ∧ w = w') :=
    Lib.hid fun w => (cutp_any (mkB (trm s.data.toList)) ⟨#[45]⟩ w).mono fun e w' ⟨h1, h2⟩ => ⟨by rw [h1, mkB_list]; show Ending.returned (.tuple #[.string (mkB (Lib.trimPrefix (trm s.data.toList) [45])), .bool (Lib.hasPrefix (trm s.data.toList) [45])]) = _; rw [tpre_no hb, hb], h2⟩
  have U1 : Hid (∀ w, Env w → Calls Tryd.prog 61 #[.string (mkB (trm s.data.toList))] w fun e w' => e = .returned (.tuple #[.agg #[.int .i64 (unsR (trm s.data.toList)).P, .int .i64 (unsR (trm s.data.toList)).Q], .int .i64 (unsR (trm s.data.toList)).E]) ∧ Below w.heap.size w w') :=
    Lib.hid fun w he => (by have := uns_any (mkB (trm s.data.toList)) w (by rw [mkB_size]; exact hul) he; rw [mkB_list] at this; exact this)
  rw [show parseR s.data.toList = unsR (trm s.data.toList) by unfold parseR; rw [if_neg (by simp [hb])]]
  clear hb hul hle
  generalize unsR (trm s.data.toList) = R at *
  generalize mkB (trm s.data.toList) = t at *
  
  have g : (R.E != 0) = true := by rw [bne_iff_ne]; exact h0
  clear h0
  have HE := Lib.hid (he.alloc (.cells #[.int .i64 0, .int .i64 0] 23))
  go_enter Tryd.func49, Tryd.ntmps49
  go_wp2_with (first | (go_at_call 59; (with_reducible refine (T1.out _).mono ?_); rintro e w1 ⟨rfl, hb1⟩; have HE1 := Lib.hid (HE.out.on hb1); obtain ⟨hc1, hf1⟩ := bcell hb1; have hz := hb1.size; (try simp at hz); (try (have z1_0 : w.heap.size < w1.heap.size := (by omega))); (try (have z1_1 : w.heap.size + 1 < w1.heap.size := (by omega))); clear hz; (try (have k1a : w1.cell? ⟨w.heap.size, 0, none⟩ = some (.int .i64 0) := by go_simp)); (try (have k1b : w1.cell? ⟨w.heap.size, 1, none⟩ = some (.int .i64 0) := by go_simp))) | (go_at_call 60; (with_reducible refine (P1.out _).mono ?_); rintro e w' ⟨rfl, rfl⟩) | (go_at_call 61; (with_reducible refine (U1.out _ HE1.out).mono ?_); rintro e w2 ⟨rfl, hb2⟩; obtain ⟨hc2, hf2⟩ := bcell hb2; have hz := hb2.size; (try simp at hz); (try (have z2_0 : w.heap.size < w2.heap.size := (by omega))); (try (have z2_1 : w.heap.size + 1 < w2.heap.size := (by omega))); (try (have y2_1 : w1.heap.size < w2.heap.size := (by omega))); clear hz; (try (have k2a : w2.cell? ⟨w.heap.size, 0, none⟩ = some (.int .i64 0) := by go_simp)); (try (have k2b : w2.cell? ⟨w.heap.size, 1, none⟩ = some (.int .i64 0) := by go_simp))))
  refine bodyPost_ret (v := .tuple #[.agg #[.int .i64 R.P, .int .i64 R.Q], .int .i64 R.E]) (by simp [results, Tryd.results49, go_sem, *]) rfl ?_
  refine ⟨rfl, ?_⟩
  repeat (first | exact Below.refl _ _ | refine below_drewN ?_ _ | refine Below.drew ?_ | refine Below.setCell ?_ (by first | omega | (simp; done) | (simp; omega)) _ | refine Below.alloc ?_ (by first | omega | (simp; done) | (simp; omega)) _ | refine below_step (by assumption) (by first | omega | (simp; done) | (simp; omega)) ?_)

theorem parse_c (s : ByteArray) (w : World) (hs : s.size ≤ 4000000000) (he : Env w) (hb : Lib.hasPrefix (trm s.data.toList) [45] = true) (h0 : (unsR ((trm s.data.toList).drop 1)).E ≠ 0) :
    Calls Tryd.prog 49 #[.string s] w fun e w' => e = .returned (.tuple #[.agg #[.int .i64 (parseR s.data.toList).P, .int .i64 (parseR s.data.toList).Q], .int .i64 (parseR s.data.toList).E]) ∧ Below w.heap.size w w' := by
  have hle := trm_len s.data.toList
  rw [list_size] at hle
  have hul : ((trm s.data.toList).drop 1).length ≤ 4000000000 := by rw [List.length_drop]; omega
  have T1 : Hid (∀ w, Calls Tryd.prog 59 #[.string s, .string ⟨#[32, 9, 10, 13]⟩] w fun e w' => e = .returned (.string (mkB (trm s.data.toList))) ∧ Below w.heap.size w w') := Lib.hid fun w => trim_any s w hs
  have P1 : Hid (∀ w, Calls Tryd.prog 60 #[.string (mkB (trm s.data.toList)), .string ⟨#[45]⟩] w fun e w' => e = .returned (.tuple #[.string (mkB ((trm s.data.toList).drop 1)), .bool true]) ∧ w = w') :=
    Lib.hid fun w => (cutp_any (mkB (trm s.data.toList)) ⟨#[45]⟩ w).mono fun e w' ⟨h1, h2⟩ => ⟨by rw [h1, mkB_list]; show Ending.returned (.tuple #[.string (mkB (Lib.trimPrefix (trm s.data.toList) [45])), .bool (Lib.hasPrefix (trm s.data.toList) [45])]) = _; rw [tpre_yes hb, hb], h2⟩
  have U1 : Hid (∀ w, Env w → Calls Tryd.prog 61 #[.string (mkB ((trm s.data.toList).drop 1))] w fun e w' => e = .returned (.tuple #[.agg #[.int .i64 (unsR ((trm s.data.toList).drop 1)).P, .int .i64 (unsR ((trm s.data.toList).drop 1)).Q], .int .i64 (unsR ((trm s.data.toList).drop 1)).E]) ∧ Below w.heap.size w w') :=
    Lib.hid fun w he => (by have := uns_any (mkB ((trm s.data.toList).drop 1)) w (by rw [mkB_size]; exact hul) he; rw [mkB_list] at this; exact this)
  rw [show parseR s.data.toList = unsR ((trm s.data.toList).drop 1) by unfold parseR; rw [if_pos hb]; unfold negM; rw [if_neg h0]]
  clear hb hul hle
  generalize unsR ((trm s.data.toList).drop 1) = R at *
  generalize mkB (trm s.data.toList) = t at *
  generalize mkB ((trm s.data.toList).drop 1) = u at *
  have g : (R.E != 0) = true := by rw [bne_iff_ne]; exact h0
  clear h0
  have HE := Lib.hid (he.alloc (.cells #[.int .i64 0, .int .i64 0] 23))
  go_enter Tryd.func49, Tryd.ntmps49
  go_wp2_with (first | (go_at_call 59; (with_reducible refine (T1.out _).mono ?_); rintro e w1 ⟨rfl, hb1⟩; have HE1 := Lib.hid (HE.out.on hb1); obtain ⟨hc1, hf1⟩ := bcell hb1; have hz := hb1.size; (try simp at hz); (try (have z1_0 : w.heap.size < w1.heap.size := (by omega))); (try (have z1_1 : w.heap.size + 1 < w1.heap.size := (by omega))); clear hz; (try (have k1a : w1.cell? ⟨w.heap.size, 0, none⟩ = some (.int .i64 0) := by go_simp)); (try (have k1b : w1.cell? ⟨w.heap.size, 1, none⟩ = some (.int .i64 0) := by go_simp))) | (go_at_call 60; (with_reducible refine (P1.out _).mono ?_); rintro e w' ⟨rfl, rfl⟩) | (go_at_call 61; (with_reducible refine (U1.out _ HE1.out).mono ?_); rintro e w2 ⟨rfl, hb2⟩; obtain ⟨hc2, hf2⟩ := bcell hb2; have hz := hb2.size; (try simp at hz); (try (have z2_0 : w.heap.size < w2.heap.size := (by omega))); (try (have z2_1 : w.heap.size + 1 < w2.heap.size := (by omega))); (try (have y2_1 : w1.heap.size < w2.heap.size := (by omega))); clear hz; (try (have k2a : w2.cell? ⟨w.heap.size, 0, none⟩ = some (.int .i64 0) := by go_simp)); (try (have k2b : w2.cell? ⟨w.heap.size, 1, none⟩ = some (.int .i64 0) := by go_simp))))
  refine bodyPost_ret (v := .tuple #[.agg #[.int .i64 R.P, .int .i64 R.Q], .int .i64 R.E]) (by simp [results, Tryd.results49, go_sem, *]) rfl ?_
  refine ⟨rfl, ?_⟩
  repeat (first | exact Below.refl _ _ | refine below_drewN ?_ _ | refine Below.drew ?_ | refine Below.setCell ?_ (by first | omega | (simp; done) | (simp; omega)) _ | refine Below.alloc ?_ (by first | omega | (simp; done) | (simp; omega)) _ | refine below_step (by assumption) (by first | omega | (simp; done) | (simp; omega)) ?_)

theorem parse_d (s : ByteArray) (w : World) (hs : s.size ≤ 4000000000) (he : Env w) (hb : Lib.hasPrefix (trm s.data.toList) [45] = true) (h0 : (unsR ((trm s.data.toList).drop 1)).E = 0) :
    Calls Tryd.prog 49 #[.string s] w fun e w' => e = .returned (.tuple #[.agg #[.int .i64 (parseR s.data.toList).P, .int .i64 (parseR s.data.toList).Q], .int .i64 (parseR s.data.toList).E]) ∧ Below w.heap.size w w' := by
  have hle := trm_len s.data.toList
  rw [list_size] at hle
  have hul : ((trm s.data.toList).drop 1).length ≤ 4000000000 := by rw [List.length_drop]; omega
  have T1 : Hid (∀ w, Calls Tryd.prog 59 #[.string s, .string ⟨#[32, 9, 10, 13]⟩] w fun e w' => e = .returned (.string (mkB (trm s.data.toList))) ∧ Below w.heap.size w w') := Lib.hid fun w => trim_any s w hs
  have P1 : Hid (∀ w, Calls Tryd.prog 60 #[.string (mkB (trm s.data.toList)), .string ⟨#[45]⟩] w fun e w' => e = .returned (.tuple #[.string (mkB ((trm s.data.toList).drop 1)), .bool true]) ∧ w = w') :=
    Lib.hid fun w => (cutp_any (mkB (trm s.data.toList)) ⟨#[45]⟩ w).mono fun e w' ⟨h1, h2⟩ => ⟨by rw [h1, mkB_list]; show Ending.returned (.tuple #[.string (mkB (Lib.trimPrefix (trm s.data.toList) [45])), .bool (Lib.hasPrefix (trm s.data.toList) [45])]) = _; rw [tpre_yes hb, hb], h2⟩
  have U1 : Hid (∀ w, Env w → Calls Tryd.prog 61 #[.string (mkB ((trm s.data.toList).drop 1))] w fun e w' => e = .returned (.tuple #[.agg #[.int .i64 (unsR ((trm s.data.toList).drop 1)).P, .int .i64 (unsR ((trm s.data.toList).drop 1)).Q], .int .i64 (unsR ((trm s.data.toList).drop 1)).E]) ∧ Below w.heap.size w w') :=
    Lib.hid fun w he => (by have := uns_any (mkB ((trm s.data.toList).drop 1)) w (by rw [mkB_size]; exact hul) he; rw [mkB_list] at this; exact this)
  rw [show parseR s.data.toList = ⟨-(unsR ((trm s.data.toList).drop 1)).P, (unsR ((trm s.data.toList).drop 1)).Q, 0⟩ by unfold parseR; rw [if_pos hb]; unfold negM; rw [if_pos h0]]
  have hgd := good_uns ((trm s.data.toList).drop 1)
  have hv := good_vld hgd h0
  clear hb hul hle
  generalize unsR ((trm s.data.toList).drop 1) = R at *
  generalize mkB (trm s.data.toList) = t at *
  generalize mkB ((trm s.data.toList).drop 1) = u at *
  have NG : Hid (∀ w, Calls Tryd.prog 62 #[.agg #[.int .i64 R.P, .int .i64 R.Q]] w fun e w' => e = .returned (.tuple #[.agg #[.int .i64 (-R.P), .int .i64 R.Q], .int .i64 0]) ∧ Below w.heap.size w w') :=
    Lib.hid fun w => (neg_any R.P R.Q w).mono fun e w' ⟨h1, h2⟩ => ⟨by rw [h1, show negR R.P R.Q = ⟨-R.P, R.Q, 0⟩ from if_pos hv], h2⟩
  have g : (R.E != 0) = false := by rw [bne_eq_false_iff_eq]; exact h0
  clear h0 hv hgd
  have HE := Lib.hid (he.alloc (.cells #[.int .i64 0, .int .i64 0] 23))
  go_enter Tryd.func49, Tryd.ntmps49
  go_wp2_with (first | (go_at_call 59; (with_reducible refine (T1.out _).mono ?_); rintro e w1 ⟨rfl, hb1⟩; have HE1 := Lib.hid (HE.out.on hb1); obtain ⟨hc1, hf1⟩ := bcell hb1; have hz := hb1.size; (try simp at hz); (try (have z1_0 : w.heap.size < w1.heap.size := (by omega))); (try (have z1_1 : w.heap.size + 1 < w1.heap.size := (by omega))); clear hz; (try (have k1a : w1.cell? ⟨w.heap.size, 0, none⟩ = some (.int .i64 0) := by go_simp)); (try (have k1b : w1.cell? ⟨w.heap.size, 1, none⟩ = some (.int .i64 0) := by go_simp))) | (go_at_call 60; (with_reducible refine (P1.out _).mono ?_); rintro e w' ⟨rfl, rfl⟩) | (go_at_call 61; (with_reducible refine (U1.out _ HE1.out).mono ?_); rintro e w2 ⟨rfl, hb2⟩; obtain ⟨hc2, hf2⟩ := bcell hb2; have hz := hb2.size; (try simp at hz); (try (have z2_0 : w.heap.size < w2.heap.size := (by omega))); (try (have z2_1 : w.heap.size + 1 < w2.heap.size := (by omega))); (try (have y2_1 : w1.heap.size < w2.heap.size := (by omega))); clear hz; (try (have k2a : w2.cell? ⟨w.heap.size, 0, none⟩ = some (.int .i64 0) := by go_simp)); (try (have k2b : w2.cell? ⟨w.heap.size, 1, none⟩ = some (.int .i64 0) := by go_simp))) | (go_at_call 62; (with_reducible refine (NG.out _).mono ?_); rintro e w3 ⟨rfl, hb3⟩; obtain ⟨hc3, hf3⟩ := bcell hb3; have hz := hb3.size; (try simp at hz); (try (have z3_0 : w.heap.size < w3.heap.size := (by omega))); (try (have z3_1 : w.heap.size + 1 < w3.heap.size := (by omega))); (try (have y3_1 : w1.heap.size < w3.heap.size := (by omega))); (try (have y3_2 : w2.heap.size < w3.heap.size := (by omega))); clear hz; (try (have k3a : w3.cell? ⟨w.heap.size, 0, none⟩ = some (.int .i64 0) := by go_simp)); (try (have k3b : w3.cell? ⟨w.heap.size, 1, none⟩ = some (.int .i64 0) := by go_simp))))
  refine bodyPost_ret (v := .tuple #[.agg #[.int .i64 (-R.P), .int .i64 R.Q], .int .i64 0]) (by simp [results, Tryd.results49, go_sem, *]) rfl ?_
  refine ⟨rfl, ?_⟩
  repeat (first | exact Below.refl _ _ | refine below_drewN ?_ _ | refine Below.drew ?_ | refine Below.setCell ?_ (by first | omega | (simp; done) | (simp; omega)) _ | refine Below.alloc ?_ (by first | omega | (simp; done) | (simp; omega)) _ | refine below_step (by assumption) (by first | omega | (simp; done) | (simp; omega)) ?_)

theorem parse_any (s : ByteArray) (w : World) (hs : s.size ≤ 4000000000) (he : Env w) :
    Calls Tryd.prog 49 #[.string s] w fun e w' => e = .returned (.tuple #[.agg #[.int .i64 (parseR s.data.toList).P, .int .i64 (parseR s.data.toList).Q], .int .i64 (parseR s.data.toList).E]) ∧ Below w.heap.size w w' := by
  cases hb : Lib.hasPrefix (trm s.data.toList) [45] with
  | false =>
    by_cases h0 : (unsR (trm s.data.toList)).E = 0
    · exact parse_a s w hs he hb h0
    · exact parse_b s w hs he hb h0
  | true =>
    by_cases h0 : (unsR ((trm s.data.toList).drop 1)).E = 0
    · exact parse_d s w hs he hb h0
    · exact parse_c s w hs he hb h0

end Go.Proofs.YtmnfebgkpcjjjaaDoor
