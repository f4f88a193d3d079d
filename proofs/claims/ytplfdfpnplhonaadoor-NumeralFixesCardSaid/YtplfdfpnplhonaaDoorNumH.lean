/- Contracts of layer 2: Parse and Scan. -/
import Derived.Test.YtplfdfpnplhonaaDoorNumG
namespace Go.Proofs.YtplfdfpnplhonaaDoor
open Go.RowKit M1 M2
set_option linter.unusedVariables false

theorem trm_len (l : List UInt8) : (trm l).length ≤ l.length := by
  unfold trm Lib.trimS Lib.trimLeftS Lib.trimRightS
  refine Nat.le_trans (List.dropWhile_sublist _).length_le ?_
  rw [List.length_reverse]
  refine Nat.le_trans (List.dropWhile_sublist _).length_le ?_
  simp
theorem tpre_yes {l : List UInt8} (h : Lib.hasPrefix l [45] = true) : Lib.trimPrefix l [45] = l.drop 1 := by unfold Lib.trimPrefix; rw [if_pos h]; rfl
theorem tpre_no {l : List UInt8} (h : Lib.hasPrefix l [45] = false) : Lib.trimPrefix l [45] = l := by unfold Lib.trimPrefix; rw [if_neg (by simp [h])]

theorem parse_a (s : ByteArray) (w : World) (hs : s.size ≤ 4000000000) (he : Env w) (hb : Lib.hasPrefix (trm s.data.toList) [45] = false) (h0 : (unsR (trm s.data.toList)).E = 0) :
    Calls Tryd.prog 16 #[.string s] w fun e w' => e = .returned (.tuple #[.agg #[.int .i64 (parseR s.data.toList).P, .int .i64 (parseR s.data.toList).Q], .int .i64 (parseR s.data.toList).E]) ∧ Below w.heap.size w w' := by
  have hle := trm_len s.data.toList
  rw [list_size] at hle
  have hul : (trm s.data.toList).length ≤ 4000000000 := by omega
  have T1 : Hid (∀ w, Calls Tryd.prog 31 #[.string s, .string ⟨#[32, 9, 10, 13]⟩] w fun e w' => e = .returned (.string (mkB (trm s.data.toList))) ∧ Below w.heap.size w w') := Lib.hid fun w => trim_any s w hs
  have P1 : Hid (∀ w, Calls Tryd.prog 32 #[.string (mkB (trm s.data.toList)), .string ⟨#[45]⟩] w fun e w' => e = .returned (.tuple #[.string (mkB (trm s.data.toList)), .bool false]) ∧ w = w') :=
    Lib.hid fun w => (cutp_any (mkB (trm s.data.toList)) ⟨#[45]⟩ w).mono fun e w' ⟨h1, h2⟩ => ⟨by rw [h1, mkB_list]; show Ending.returned (.tuple #[.string (mkB (Lib.trimPrefix (trm s.data.toList) [45])), .bool (Lib.hasPrefix (trm s.data.toList) [45])]) = _; rw [tpre_no hb, hb], h2⟩
  have U1 : Hid (∀ w, Env w → Calls Tryd.prog 33 #[.string (mkB (trm s.data.toList))] w fun e w' => e = .returned (.tuple #[.agg #[.int .i64 (unsR (trm s.data.toList)).P, .int .i64 (unsR (trm s.data.toList)).Q], .int .i64 (unsR (trm s.data.toList)).E]) ∧ Below w.heap.size w w') :=
    Lib.hid fun w he => (by have := uns_any (mkB (trm s.data.toList)) w (by rw [mkB_size]; exact hul) he; rw [mkB_list] at this; exact this)
  rw [show parseR s.data.toList = unsR (trm s.data.toList) by unfold parseR; rw [if_neg (by simp [hb])]]
  clear hb hul hle
  generalize unsR (trm s.data.toList) = R at *
  generalize mkB (trm s.data.toList) = t at *
  
  have g : (R.E != 0) = false := by rw [bne_eq_false_iff_eq]; exact h0
  clear h0
  have HE := Lib.hid (he.alloc (.cells #[.int .i64 0, .int .i64 0] 23))
  go_enter Tryd.func16, Tryd.ntmps16
  go_wp2_with (first | (go_at_call 31; (with_reducible refine (T1.out _).mono ?_); rintro e w1 ⟨rfl, hb1⟩; have HE1 := Lib.hid (HE.out.on hb1); obtain ⟨hc1, hf1⟩ := bcell hb1; have hz := hb1.size; (try simp at hz); (try (have z1_0 : w.heap.size < w1.heap.size := (by omega))); (try (have z1_1 : w.heap.size + 1 < w1.heap.size := (by omega))); clear hz; (try (have k1a : w1.cell? ⟨w.heap.size, 0, none⟩ = some (.int .i64 0) := by go_simp)); (try (have k1b : w1.cell? ⟨w.heap.size, 1, none⟩ = some (.int .i64 0) := by go_simp))) | (go_at_call 32; (with_reducible refine (P1.out _).mono ?_); rintro e w' ⟨rfl, rfl⟩) | (go_at_call 33; (with_reducible refine (U1.out _ HE1.out).mono ?_); rintro e w2 ⟨rfl, hb2⟩; obtain ⟨hc2, hf2⟩ := bcell hb2; have hz := hb2.size; (try simp at hz); (try (have z2_0 : w.heap.size < w2.heap.size := (by omega))); (try (have z2_1 : w.heap.size + 1 < w2.heap.size := (by omega))); (try (have y2_1 : w1.heap.size < w2.heap.size := (by omega))); clear hz; (try (have k2a : w2.cell? ⟨w.heap.size, 0, none⟩ = some (.int .i64 0) := by go_simp)); (try (have k2b : w2.cell? ⟨w.heap.size, 1, none⟩ = some (.int .i64 0) := by go_simp))))
  refine bodyPost_ret (v := .tuple #[.agg #[.int .i64 R.P, .int .i64 R.Q], .int .i64 R.E]) (by simp [results, Tryd.results16, go_sem, *]) rfl ?_
  refine ⟨rfl, ?_⟩
  repeat (first | exact Below.refl _ _ | refine below_drewN ?_ _ | refine Below.drew ?_ | refine Below.setCell ?_ (by first | omega | (simp; done) | (simp; omega)) _ | refine Below.alloc ?_ (by first | omega | (simp; done) | (simp; omega)) _ | refine below_step (by assumption) (by first | omega | (simp; done) | (simp; omega)) ?_)

theorem parse_b (s : ByteArray) (w : World) (hs : s.size ≤ 4000000000) (he : Env w) (hb : Lib.hasPrefix (trm s.data.toList) [45] = false) (h0 : (unsR (trm s.data.toList)).E ≠ 0) :
    Calls Tryd.prog 16 #[.string s] w fun e w' => e = .returned (.tuple #[.agg #[.int .i64 (parseR s.data.toList).P, .int .i64 (parseR s.data.toList).Q], .int .i64 (parseR s.data.toList).E]) ∧ Below w.heap.size w w' := by
  have hle := trm_len s.data.toList
  rw [list_size] at hle
  have hul : (trm s.data.toList).length ≤ 4000000000 := by omega
  have T1 : Hid (∀ w, Calls Tryd.prog 31 #[.string s, .string ⟨#[32, 9, 10, 13]⟩] w fun e w' => e = .returned (.string (mkB (trm s.data.toList))) ∧ Below w.heap.size w w') := Lib.hid fun w => trim_any s w hs
  have P1 : Hid (∀ w, Calls Tryd.prog 32 #[.string (mkB (trm s.data.toList)), .string ⟨#[45]⟩] w fun e w' => e = .returned (.tuple #[.string (mkB (trm s.data.toList)), .bool false]) ∧ w = w') :=
    Lib.hid fun w => (cutp_any (mkB (trm s.data.toList)) ⟨#[45]⟩ w).mono fun e w' ⟨h1, h2⟩ => ⟨by rw [h1, mkB_list]; show Ending.returned (.tuple #[.string (mkB (Lib.trimPrefix (trm s.data.toList) [45])), .bool (Lib.hasPrefix (trm s.data.toList) [45])]) = _; rw [tpre_no hb, hb], h2⟩
  have U1 : Hid (∀ w, Env w → Calls Tryd.prog 33 #[.string (mkB (trm s.data.toList))] w fun e w' => e = .returned (.tuple #[.agg #[.int .i64 (unsR (trm s.data.toList)).P, .int .i64 (unsR (trm s.data.toList)).Q], .int .i64 (unsR (trm s.data.toList)).E]) ∧ Below w.heap.size w w') :=
    Lib.hid fun w he => (by have := uns_any (mkB (trm s.data.toList)) w (by rw [mkB_size]; exact hul) he; rw [mkB_list] at this; exact this)
  rw [show parseR s.data.toList = unsR (trm s.data.toList) by unfold parseR; rw [if_neg (by simp [hb])]]
  clear hb hul hle
  generalize unsR (trm s.data.toList) = R at *
  generalize mkB (trm s.data.toList) = t at *
  
  have g : (R.E != 0) = true := by rw [bne_iff_ne]; exact h0
  clear h0
  have HE := Lib.hid (he.alloc (.cells #[.int .i64 0, .int .i64 0] 23))
  go_enter Tryd.func16, Tryd.ntmps16
  go_wp2_with (first | (go_at_call 31; (with_reducible refine (T1.out _).mono ?_); rintro e w1 ⟨rfl, hb1⟩; have HE1 := Lib.hid (HE.out.on hb1); obtain ⟨hc1, hf1⟩ := bcell hb1; have hz := hb1.size; (try simp at hz); (try (have z1_0 : w.heap.size < w1.heap.size := (by omega))); (try (have z1_1 : w.heap.size + 1 < w1.heap.size := (by omega))); clear hz; (try (have k1a : w1.cell? ⟨w.heap.size, 0, none⟩ = some (.int .i64 0) := by go_simp)); (try (have k1b : w1.cell? ⟨w.heap.size, 1, none⟩ = some (.int .i64 0) := by go_simp))) | (go_at_call 32; (with_reducible refine (P1.out _).mono ?_); rintro e w' ⟨rfl, rfl⟩) | (go_at_call 33; (with_reducible refine (U1.out _ HE1.out).mono ?_); rintro e w2 ⟨rfl, hb2⟩; obtain ⟨hc2, hf2⟩ := bcell hb2; have hz := hb2.size; (try simp at hz); (try (have z2_0 : w.heap.size < w2.heap.size := (by omega))); (try (have z2_1 : w.heap.size + 1 < w2.heap.size := (by omega))); (try (have y2_1 : w1.heap.size < w2.heap.size := (by omega))); clear hz; (try (have k2a : w2.cell? ⟨w.heap.size, 0, none⟩ = some (.int .i64 0) := by go_simp)); (try (have k2b : w2.cell? ⟨w.heap.size, 1, none⟩ = some (.int .i64 0) := by go_simp))))
  refine bodyPost_ret (v := .tuple #[.agg #[.int .i64 R.P, .int .i64 R.Q], .int .i64 R.E]) (by simp [results, Tryd.results16, go_sem, *]) rfl ?_
  refine ⟨rfl, ?_⟩
  repeat (first | exact Below.refl _ _ | refine below_drewN ?_ _ | refine Below.drew ?_ | refine Below.setCell ?_ (by first | omega | (simp; done) | (simp; omega)) _ | refine Below.alloc ?_ (by first | omega | (simp; done) | (simp; omega)) _ | refine below_step (by assumption) (by first | omega | (simp; done) | (simp; omega)) ?_)

theorem parse_c (s : ByteArray) (w : World) (hs : s.size ≤ 4000000000) (he : Env w) (hb : Lib.hasPrefix (trm s.data.toList) [45] = true) (h0 : (unsR ((trm s.data.toList).drop 1)).E ≠ 0) :
    Calls Tryd.prog 16 #[.string s] w fun e w' => e = .returned (.tuple #[.agg #[.int .i64 (parseR s.data.toList).P, .int .i64 (parseR s.data.toList).Q], .int .i64 (parseR s.data.toList).E]) ∧ Below w.heap.size w w' := by
  have hle := trm_len s.data.toList
  rw [list_size] at hle
  have hul : ((trm s.data.toList).drop 1).length ≤ 4000000000 := by rw [List.length_drop]; omega
  have T1 : Hid (∀ w, Calls Tryd.prog 31 #[.string s, .string ⟨#[32, 9, 10, 13]⟩] w fun e w' => e = .returned (.string (mkB (trm s.data.toList))) ∧ Below w.heap.size w w') := Lib.hid fun w => trim_any s w hs
  have P1 : Hid (∀ w, Calls Tryd.prog 32 #[.string (mkB (trm s.data.toList)), .string ⟨#[45]⟩] w fun e w' => e = .returned (.tuple #[.string (mkB ((trm s.data.toList).drop 1)), .bool true]) ∧ w = w') :=
    Lib.hid fun w => (cutp_any (mkB (trm s.data.toList)) ⟨#[45]⟩ w).mono fun e w' ⟨h1, h2⟩ => ⟨by rw [h1, mkB_list]; show Ending.returned (.tuple #[.string (mkB (Lib.trimPrefix (trm s.data.toList) [45])), .bool (Lib.hasPrefix (trm s.data.toList) [45])]) = _; rw [tpre_yes hb, hb], h2⟩
  have U1 : Hid (∀ w, Env w → Calls Tryd.prog 33 #[.string (mkB ((trm s.data.toList).drop 1))] w fun e w' => e = .returned (.tuple #[.agg #[.int .i64 (unsR ((trm s.data.toList).drop 1)).P, .int .i64 (unsR ((trm s.data.toList).drop 1)).Q], .int .i64 (unsR ((trm s.data.toList).drop 1)).E]) ∧ Below w.heap.size w w') :=
    Lib.hid fun w he => (by have := uns_any (mkB ((trm s.data.toList).drop 1)) w (by rw [mkB_size]; exact hul) he; rw [mkB_list] at this; exact this)
  rw [show parseR s.data.toList = unsR ((trm s.data.toList).drop 1) by unfold parseR; rw [if_pos hb]; unfold negM; rw [if_neg h0]]
  clear hb hul hle
  generalize unsR ((trm s.data.toList).drop 1) = R at *
  generalize mkB (trm s.data.toList) = t at *
  generalize mkB ((trm s.data.toList).drop 1) = u at *
  have g : (R.E != 0) = true := by rw [bne_iff_ne]; exact h0
  clear h0
  have HE := Lib.hid (he.alloc (.cells #[.int .i64 0, .int .i64 0] 23))
  go_enter Tryd.func16, Tryd.ntmps16
  go_wp2_with (first | (go_at_call 31; (with_reducible refine (T1.out _).mono ?_); rintro e w1 ⟨rfl, hb1⟩; have HE1 := Lib.hid (HE.out.on hb1); obtain ⟨hc1, hf1⟩ := bcell hb1; have hz := hb1.size; (try simp at hz); (try (have z1_0 : w.heap.size < w1.heap.size := (by omega))); (try (have z1_1 : w.heap.size + 1 < w1.heap.size := (by omega))); clear hz; (try (have k1a : w1.cell? ⟨w.heap.size, 0, none⟩ = some (.int .i64 0) := by go_simp)); (try (have k1b : w1.cell? ⟨w.heap.size, 1, none⟩ = some (.int .i64 0) := by go_simp))) | (go_at_call 32; (with_reducible refine (P1.out _).mono ?_); rintro e w' ⟨rfl, rfl⟩) | (go_at_call 33; (with_reducible refine (U1.out _ HE1.out).mono ?_); rintro e w2 ⟨rfl, hb2⟩; obtain ⟨hc2, hf2⟩ := bcell hb2; have hz := hb2.size; (try simp at hz); (try (have z2_0 : w.heap.size < w2.heap.size := (by omega))); (try (have z2_1 : w.heap.size + 1 < w2.heap.size := (by omega))); (try (have y2_1 : w1.heap.size < w2.heap.size := (by omega))); clear hz; (try (have k2a : w2.cell? ⟨w.heap.size, 0, none⟩ = some (.int .i64 0) := by go_simp)); (try (have k2b : w2.cell? ⟨w.heap.size, 1, none⟩ = some (.int .i64 0) := by go_simp))))
  refine bodyPost_ret (v := .tuple #[.agg #[.int .i64 R.P, .int .i64 R.Q], .int .i64 R.E]) (by simp [results, Tryd.results16, go_sem, *]) rfl ?_
  refine ⟨rfl, ?_⟩
  repeat (first | exact Below.refl _ _ | refine below_drewN ?_ _ | refine Below.drew ?_ | refine Below.setCell ?_ (by first | omega | (simp; done) | (simp; omega)) _ | refine Below.alloc ?_ (by first | omega | (simp; done) | (simp; omega)) _ | refine below_step (by assumption) (by first | omega | (simp; done) | (simp; omega)) ?_)

theorem parse_d (s : ByteArray) (w : World) (hs : s.size ≤ 4000000000) (he : Env w) (hb : Lib.hasPrefix (trm s.data.toList) [45] = true) (h0 : (unsR ((trm s.data.toList).drop 1)).E = 0) :
    Calls Tryd.prog 16 #[.string s] w fun e w' => e = .returned (.tuple #[.agg #[.int .i64 (parseR s.data.toList).P, .int .i64 (parseR s.data.toList).Q], .int .i64 (parseR s.data.toList).E]) ∧ Below w.heap.size w w' := by
  have hle := trm_len s.data.toList
  rw [list_size] at hle
  have hul : ((trm s.data.toList).drop 1).length ≤ 4000000000 := by rw [List.length_drop]; omega
  have T1 : Hid (∀ w, Calls Tryd.prog 31 #[.string s, .string ⟨#[32, 9, 10, 13]⟩] w fun e w' => e = .returned (.string (mkB (trm s.data.toList))) ∧ Below w.heap.size w w') := Lib.hid fun w => trim_any s w hs
  have P1 : Hid (∀ w, Calls Tryd.prog 32 #[.string (mkB (trm s.data.toList)), .string ⟨#[45]⟩] w fun e w' => e = .returned (.tuple #[.string (mkB ((trm s.data.toList).drop 1)), .bool true]) ∧ w = w') :=
    Lib.hid fun w => (cutp_any (mkB (trm s.data.toList)) ⟨#[45]⟩ w).mono fun e w' ⟨h1, h2⟩ => ⟨by rw [h1, mkB_list]; show Ending.returned (.tuple #[.string (mkB (Lib.trimPrefix (trm s.data.toList) [45])), .bool (Lib.hasPrefix (trm s.data.toList) [45])]) = _; rw [tpre_yes hb, hb], h2⟩
  have U1 : Hid (∀ w, Env w → Calls Tryd.prog 33 #[.string (mkB ((trm s.data.toList).drop 1))] w fun e w' => e = .returned (.tuple #[.agg #[.int .i64 (unsR ((trm s.data.toList).drop 1)).P, .int .i64 (unsR ((trm s.data.toList).drop 1)).Q], .int .i64 (unsR ((trm s.data.toList).drop 1)).E]) ∧ Below w.heap.size w w') :=
    Lib.hid fun w he => (by have := uns_any (mkB ((trm s.data.toList).drop 1)) w (by rw [mkB_size]; exact hul) he; rw [mkB_list] at this; exact this)
  rw [show parseR s.data.toList = ⟨-(unsR ((trm s.data.toList).drop 1)).P, (unsR ((trm s.data.toList).drop 1)).Q, 0⟩ by unfold parseR; rw [if_pos hb]; unfold negM; rw [if_pos h0]]
  have hgd := good_uns ((trm s.data.toList).drop 1)
  have hv := good_vld hgd h0
  clear hb hul hle
  generalize unsR ((trm s.data.toList).drop 1) = R at *
  generalize mkB (trm s.data.toList) = t at *
  generalize mkB ((trm s.data.toList).drop 1) = u at *
  have NG : Hid (∀ w, Calls Tryd.prog 25 #[.agg #[.int .i64 R.P, .int .i64 R.Q]] w fun e w' => e = .returned (.tuple #[.agg #[.int .i64 (-R.P), .int .i64 R.Q], .int .i64 0]) ∧ Below w.heap.size w w') :=
    Lib.hid fun w => (neg_any R.P R.Q w).mono fun e w' ⟨h1, h2⟩ => ⟨by rw [h1, show negR R.P R.Q = ⟨-R.P, R.Q, 0⟩ from if_pos hv], h2⟩
  have g : (R.E != 0) = false := by rw [bne_eq_false_iff_eq]; exact h0
  clear h0 hv hgd
  have HE := Lib.hid (he.alloc (.cells #[.int .i64 0, .int .i64 0] 23))
  go_enter Tryd.func16, Tryd.ntmps16
  go_wp2_with (first | (go_at_call 31; (with_reducible refine (T1.out _).mono ?_); rintro e w1 ⟨rfl, hb1⟩; have HE1 := Lib.hid (HE.out.on hb1); obtain ⟨hc1, hf1⟩ := bcell hb1; have hz := hb1.size; (try simp at hz); (try (have z1_0 : w.heap.size < w1.heap.size := (by omega))); (try (have z1_1 : w.heap.size + 1 < w1.heap.size := (by omega))); clear hz; (try (have k1a : w1.cell? ⟨w.heap.size, 0, none⟩ = some (.int .i64 0) := by go_simp)); (try (have k1b : w1.cell? ⟨w.heap.size, 1, none⟩ = some (.int .i64 0) := by go_simp))) | (go_at_call 32; (with_reducible refine (P1.out _).mono ?_); rintro e w' ⟨rfl, rfl⟩) | (go_at_call 33; (with_reducible refine (U1.out _ HE1.out).mono ?_); rintro e w2 ⟨rfl, hb2⟩; obtain ⟨hc2, hf2⟩ := bcell hb2; have hz := hb2.size; (try simp at hz); (try (have z2_0 : w.heap.size < w2.heap.size := (by omega))); (try (have z2_1 : w.heap.size + 1 < w2.heap.size := (by omega))); (try (have y2_1 : w1.heap.size < w2.heap.size := (by omega))); clear hz; (try (have k2a : w2.cell? ⟨w.heap.size, 0, none⟩ = some (.int .i64 0) := by go_simp)); (try (have k2b : w2.cell? ⟨w.heap.size, 1, none⟩ = some (.int .i64 0) := by go_simp))) | (go_at_call 25; (with_reducible refine (NG.out _).mono ?_); rintro e w3 ⟨rfl, hb3⟩; obtain ⟨hc3, hf3⟩ := bcell hb3; have hz := hb3.size; (try simp at hz); (try (have z3_0 : w.heap.size < w3.heap.size := (by omega))); (try (have z3_1 : w.heap.size + 1 < w3.heap.size := (by omega))); (try (have y3_1 : w1.heap.size < w3.heap.size := (by omega))); (try (have y3_2 : w2.heap.size < w3.heap.size := (by omega))); clear hz; (try (have k3a : w3.cell? ⟨w.heap.size, 0, none⟩ = some (.int .i64 0) := by go_simp)); (try (have k3b : w3.cell? ⟨w.heap.size, 1, none⟩ = some (.int .i64 0) := by go_simp))))
  refine bodyPost_ret (v := .tuple #[.agg #[.int .i64 (-R.P), .int .i64 R.Q], .int .i64 0]) (by simp [results, Tryd.results16, go_sem, *]) rfl ?_
  refine ⟨rfl, ?_⟩
  repeat (first | exact Below.refl _ _ | refine below_drewN ?_ _ | refine Below.drew ?_ | refine Below.setCell ?_ (by first | omega | (simp; done) | (simp; omega)) _ | refine Below.alloc ?_ (by first | omega | (simp; done) | (simp; omega)) _ | refine below_step (by assumption) (by first | omega | (simp; done) | (simp; omega)) ?_)

theorem parse_any (s : ByteArray) (w : World) (hs : s.size ≤ 4000000000) (he : Env w) :
    Calls Tryd.prog 16 #[.string s] w fun e w' => e = .returned (.tuple #[.agg #[.int .i64 (parseR s.data.toList).P, .int .i64 (parseR s.data.toList).Q], .int .i64 (parseR s.data.toList).E]) ∧ Below w.heap.size w w' := by
  cases hb : Lib.hasPrefix (trm s.data.toList) [45] with
  | false =>
    by_cases h0 : (unsR (trm s.data.toList)).E = 0
    · exact parse_a s w hs he hb h0
    · exact parse_b s w hs he hb h0
  | true =>
    by_cases h0 : (unsR ((trm s.data.toList).drop 1)).E = 0
    · exact parse_d s w hs he hb h0
    · exact parse_c s w hs he hb h0

set_option maxHeartbeats 400000 in
theorem scan_neg (s : ByteArray) (a : Int) (w : World) (hs : s.size ≤ 4000000000) (h : a < 0) :
    Calls Tryd.prog 18 #[.string s, .int .i64 a] w fun e w' => e = .returned (.tuple #[.agg #[.int .i64 (scanR s.data.toList a).P, .int .i64 (scanR s.data.toList a).Q], .int .i64 (scanR s.data.toList a).N, .int .i64 (scanR s.data.toList a).E]) ∧ Below w.heap.size w w' := by
  rw [show scanR s.data.toList a = ⟨0, 0, 0, 6⟩ from if_pos (.inl h)]
  go_enter Tryd.func18, Tryd.ntmps18
  go_wp2
  refine bodyPost_ret (v := .tuple #[.agg #[.int .i64 0, .int .i64 0], .int .i64 0, .int .i64 6]) (by simp [results, Tryd.results18, go_sem, *]) rfl ?_
  refine ⟨rfl, ?_⟩
  repeat (first | exact Below.refl _ _ | refine below_drewN ?_ _ | refine Below.drew ?_ | refine Below.setCell ?_ (by first | omega | (simp; done) | (simp; omega)) _ | refine Below.alloc ?_ (by first | omega | (simp; done) | (simp; omega)) _ | refine below_step (by assumption) (by first | omega | (simp; done) | (simp; omega)) ?_)

set_option maxHeartbeats 400000 in
theorem scan_far (s : ByteArray) (a : Int) (w : World) (hs : s.size ≤ 4000000000) (h0 : 0 ≤ a) (h : (s.size : Int) < a) :
    Calls Tryd.prog 18 #[.string s, .int .i64 a] w fun e w' => e = .returned (.tuple #[.agg #[.int .i64 (scanR s.data.toList a).P, .int .i64 (scanR s.data.toList a).Q], .int .i64 (scanR s.data.toList a).N, .int .i64 (scanR s.data.toList a).E]) ∧ Below w.heap.size w w' := by
  rw [show scanR s.data.toList a = ⟨0, 0, 0, 6⟩ from if_pos (.inr (by rw [list_size]; exact h))]
  go_enter Tryd.func18, Tryd.ntmps18
  go_wp2
  refine bodyPost_ret (v := .tuple #[.agg #[.int .i64 0, .int .i64 0], .int .i64 0, .int .i64 6]) (by simp [results, Tryd.results18, go_sem, *]) rfl ?_
  refine ⟨rfl, ?_⟩
  repeat (first | exact Below.refl _ _ | refine below_drewN ?_ _ | refine Below.drew ?_ | refine Below.setCell ?_ (by first | omega | (simp; done) | (simp; omega)) _ | refine Below.alloc ?_ (by first | omega | (simp; done) | (simp; omega)) _ | refine below_step (by assumption) (by first | omega | (simp; done) | (simp; omega)) ?_)

set_option maxHeartbeats 400000 in
theorem scan_form (s : ByteArray) (a : Nat) (w : World) (hs : s.size ≤ 4000000000) (h : a ≤ s.size) (h0 : (meas (s.data.toList.drop a)).fin = 0) :
    Calls Tryd.prog 18 #[.string s, .int .i64 a] w fun e w' => e = .returned (.tuple #[.agg #[.int .i64 (scanR s.data.toList a).P, .int .i64 (scanR s.data.toList a).Q], .int .i64 (scanR s.data.toList a).N, .int .i64 (scanR s.data.toList a).E]) ∧ Below w.heap.size w w' := by
  have hdr : (s.extract a s.size).data.toList = s.data.toList.drop a := by rw [ext_end, mkB_list]
  obtain ⟨B, wh, bh, f, hm, hf, hn, M1, N1⟩ := measure_fact (s.extract a s.size) (by simp; omega)
  rw [hdr] at hm N1 hn
  have hmf : (meas (s.data.toList.drop a)).fin = f := by rw [hm]
  have hf2 : f ≤ s.size - a := by rw [← list_size, hdr, List.length_drop, list_size] at hf; exact hf
  have hsc : scanR s.data.toList a = ⟨0, 0, 0, 4⟩ := by
    unfold scanR
    rw [if_neg (by rw [list_size]; omega), Int.toNat_natCast, if_pos h0]
  rw [hsc]
  rw [hmf] at h0
  subst h0
  clear hm hn hmf hsc hdr
  go_enter Tryd.func18, Tryd.ntmps18
  go_wp2_with (first | (go_at_call 36; (with_reducible refine (M1.out _).mono ?_); rintro e w1 ⟨rfl, hb1⟩; obtain ⟨hc1, hf1⟩ := bcell hb1; have hz := hb1.size; (try simp at hz); (try (have z1_0 : w.heap.size < w1.heap.size := (by omega))); (try (have z1_1 : w.heap.size + 1 < w1.heap.size := (by omega))); (try (have z1_2 : w.heap.size + 2 < w1.heap.size := (by omega))); clear hz; (try (have k1a : w1.cell? ⟨w.heap.size, 0, none⟩ = some (.int .i64 0) := by go_simp)); (try (have k1b : w1.cell? ⟨w.heap.size, 1, none⟩ = some (.int .i64 0) := by go_simp))))
  refine bodyPost_ret (v := .tuple #[.agg #[.int .i64 0, .int .i64 0], .int .i64 0, .int .i64 4]) (by simp [results, Tryd.results18, go_sem, *]) rfl ?_
  refine ⟨rfl, ?_⟩
  repeat (first | exact Below.refl _ _ | refine below_drewN ?_ _ | refine Below.drew ?_ | refine Below.setCell ?_ (by first | omega | (simp; done) | (simp; omega)) _ | refine Below.alloc ?_ (by first | omega | (simp; done) | (simp; omega)) _ | refine below_step (by assumption) (by first | omega | (simp; done) | (simp; omega)) ?_)

set_option maxHeartbeats 400000 in
theorem scan_err (s : ByteArray) (a : Nat) (w : World) (hs : s.size ≤ 4000000000) (h : a ≤ s.size) (h0 : (meas (s.data.toList.drop a)).fin ≠ 0) (h1 : (numR (meas (s.data.toList.drop a))).E ≠ 0) :
    Calls Tryd.prog 18 #[.string s, .int .i64 a] w fun e w' => e = .returned (.tuple #[.agg #[.int .i64 (scanR s.data.toList a).P, .int .i64 (scanR s.data.toList a).Q], .int .i64 (scanR s.data.toList a).N, .int .i64 (scanR s.data.toList a).E]) ∧ Below w.heap.size w w' := by
  have hdr : (s.extract a s.size).data.toList = s.data.toList.drop a := by rw [ext_end, mkB_list]
  obtain ⟨B, wh, bh, f, hm, hf, hn, M1, N1⟩ := measure_fact (s.extract a s.size) (by simp; omega)
  rw [hdr] at hm N1 hn
  have hmf : (meas (s.data.toList.drop a)).fin = f := by rw [hm]
  have hf2 : f ≤ s.size - a := by rw [← list_size, hdr, List.length_drop, list_size] at hf; exact hf
  have hsc : scanR s.data.toList a = ⟨0, 0, 0, (numR (meas (s.data.toList.drop a))).E⟩ := by
    unfold scanR
    rw [if_neg (by rw [list_size]; omega), Int.toNat_natCast, if_neg h0, if_neg h1]
  rw [hsc]
  rw [hmf] at h0
  generalize numR (meas (s.data.toList.drop a)) = R at *
  have g0 : ((f : Int) == 0) = false := by rw [beq_eq_false_iff_ne]; omega
  have g : (R.E != 0) = true := by rw [bne_iff_ne]; exact h1
  clear hm hn hmf hsc hdr h0 h1
  go_enter Tryd.func18, Tryd.ntmps18
  go_wp2_with (first | (go_at_call 36; (with_reducible refine (M1.out _).mono ?_); rintro e w1 ⟨rfl, hb1⟩; obtain ⟨hc1, hf1⟩ := bcell hb1; have hz := hb1.size; (try simp at hz); (try (have z1_0 : w.heap.size < w1.heap.size := (by omega))); (try (have z1_1 : w.heap.size + 1 < w1.heap.size := (by omega))); (try (have z1_2 : w.heap.size + 2 < w1.heap.size := (by omega))); clear hz; (try (have k1a : w1.cell? ⟨w.heap.size, 0, none⟩ = some (.int .i64 0) := by go_simp)); (try (have k1b : w1.cell? ⟨w.heap.size, 1, none⟩ = some (.int .i64 0) := by go_simp))) | (go_at_call 37; (with_reducible refine (N1.out _).mono ?_); rintro e w2 ⟨rfl, hb2⟩; obtain ⟨hc2, hf2⟩ := bcell hb2; have hz := hb2.size; (try simp at hz); (try (have z2_0 : w.heap.size < w2.heap.size := (by omega))); (try (have z2_1 : w.heap.size + 1 < w2.heap.size := (by omega))); (try (have z2_2 : w.heap.size + 2 < w2.heap.size := (by omega))); (try (have y2_1 : w1.heap.size < w2.heap.size := (by omega))); clear hz; (try (have k2a : w2.cell? ⟨w.heap.size, 0, none⟩ = some (.int .i64 0) := by go_simp)); (try (have k2b : w2.cell? ⟨w.heap.size, 1, none⟩ = some (.int .i64 0) := by go_simp))))
  refine bodyPost_ret (v := .tuple #[.agg #[.int .i64 0, .int .i64 0], .int .i64 0, .int .i64 R.E]) (by simp [results, Tryd.results18, go_sem, *]) rfl ?_
  refine ⟨rfl, ?_⟩
  repeat (first | exact Below.refl _ _ | refine below_drewN ?_ _ | refine Below.drew ?_ | refine Below.setCell ?_ (by first | omega | (simp; done) | (simp; omega)) _ | refine Below.alloc ?_ (by first | omega | (simp; done) | (simp; omega)) _ | refine below_step (by assumption) (by first | omega | (simp; done) | (simp; omega)) ?_)

set_option maxHeartbeats 400000 in
theorem scan_ok (s : ByteArray) (a : Nat) (w : World) (hs : s.size ≤ 4000000000) (h : a ≤ s.size) (h0 : (meas (s.data.toList.drop a)).fin ≠ 0) (h1 : (numR (meas (s.data.toList.drop a))).E = 0) :
    Calls Tryd.prog 18 #[.string s, .int .i64 a] w fun e w' => e = .returned (.tuple #[.agg #[.int .i64 (scanR s.data.toList a).P, .int .i64 (scanR s.data.toList a).Q], .int .i64 (scanR s.data.toList a).N, .int .i64 (scanR s.data.toList a).E]) ∧ Below w.heap.size w w' := by
  have hdr : (s.extract a s.size).data.toList = s.data.toList.drop a := by rw [ext_end, mkB_list]
  obtain ⟨B, wh, bh, f, hm, hf, hn, M1, N1⟩ := measure_fact (s.extract a s.size) (by simp; omega)
  rw [hdr] at hm N1 hn
  have hmf : (meas (s.data.toList.drop a)).fin = f := by rw [hm]
  have hf2 : f ≤ s.size - a := by rw [← list_size, hdr, List.length_drop, list_size] at hf; exact hf
  have hsc : scanR s.data.toList a = ⟨(numR (meas (s.data.toList.drop a))).P, (numR (meas (s.data.toList.drop a))).Q, (a : Int) + f, 0⟩ := by
    unfold scanR
    rw [if_neg (by rw [list_size]; omega), Int.toNat_natCast, if_neg h0, if_pos h1, hmf]
  rw [hsc]
  rw [hmf] at h0
  generalize numR (meas (s.data.toList.drop a)) = R at *
  have g0 : ((f : Int) == 0) = false := by rw [beq_eq_false_iff_ne]; omega
  have g : (R.E != 0) = false := by rw [bne_eq_false_iff_eq]; exact h1
  clear hm hn hmf hsc hdr h0 h1
  go_enter Tryd.func18, Tryd.ntmps18
  go_wp2_with (first | (go_at_call 36; (with_reducible refine (M1.out _).mono ?_); rintro e w1 ⟨rfl, hb1⟩; obtain ⟨hc1, hf1⟩ := bcell hb1; have hz := hb1.size; (try simp at hz); (try (have z1_0 : w.heap.size < w1.heap.size := (by omega))); (try (have z1_1 : w.heap.size + 1 < w1.heap.size := (by omega))); (try (have z1_2 : w.heap.size + 2 < w1.heap.size := (by omega))); clear hz; (try (have k1a : w1.cell? ⟨w.heap.size, 0, none⟩ = some (.int .i64 0) := by go_simp)); (try (have k1b : w1.cell? ⟨w.heap.size, 1, none⟩ = some (.int .i64 0) := by go_simp))) | (go_at_call 37; (with_reducible refine (N1.out _).mono ?_); rintro e w2 ⟨rfl, hb2⟩; obtain ⟨hc2, hf2⟩ := bcell hb2; have hz := hb2.size; (try simp at hz); (try (have z2_0 : w.heap.size < w2.heap.size := (by omega))); (try (have z2_1 : w.heap.size + 1 < w2.heap.size := (by omega))); (try (have z2_2 : w.heap.size + 2 < w2.heap.size := (by omega))); (try (have y2_1 : w1.heap.size < w2.heap.size := (by omega))); clear hz; (try (have k2a : w2.cell? ⟨w.heap.size, 0, none⟩ = some (.int .i64 0) := by go_simp)); (try (have k2b : w2.cell? ⟨w.heap.size, 1, none⟩ = some (.int .i64 0) := by go_simp))))
  have q0 : (w2.alloc (.cells #[.int .i64 R.P, .int .i64 R.Q] 23)).cell? ⟨w.heap.size, 0, none⟩ = some (.int .i64 0) := by go_simp
  have q1 : (w2.alloc (.cells #[.int .i64 R.P, .int .i64 R.Q] 23)).cell? ⟨w.heap.size, 1, none⟩ = some (.int .i64 0) := by go_simp
  have q2 : (w2.alloc (.cells #[.int .i64 R.P, .int .i64 R.Q] 23)).cell? ⟨w2.heap.size, 0, none⟩ = some (.int .i64 R.P) := by go_simp
  have q3 : (w2.alloc (.cells #[.int .i64 R.P, .int .i64 R.Q] 23)).cell? ⟨w2.heap.size, 1, none⟩ = some (.int .i64 R.Q) := by go_simp
  have q4 : (w2.alloc (.cells #[.int .i64 R.P, .int .i64 R.Q] 23)).cell? ⟨w1.heap.size, 3, none⟩ = some (.int .i64 f) := by go_simp
  have qf0 : (w2.alloc (.cells #[.int .i64 R.P, .int .i64 R.Q] 23)).frozen? ⟨w.heap.size, 0, none⟩ = false := by go_simp
  have qf1 : (w2.alloc (.cells #[.int .i64 R.P, .int .i64 R.Q] 23)).frozen? ⟨w.heap.size, 1, none⟩ = false := by go_simp
  have kB : Below w.heap.size w (w2.alloc (.cells #[.int .i64 R.P, .int .i64 R.Q] 23)) := by
    repeat (first | exact Below.refl _ _ | refine below_drewN ?_ _ | refine Below.drew ?_ | refine Below.setCell ?_ (by first | omega | (simp; done) | (simp; omega)) _ | refine Below.alloc ?_ (by first | omega | (simp; done) | (simp; omega)) _ | refine below_step (by assumption) (by first | omega | (simp; done) | (simp; omega)) ?_)
  have kz : w.heap.size < (w2.alloc (.cells #[.int .i64 R.P, .int .i64 R.Q] 23)).heap.size := by simp; omega
  generalize (w2.alloc (.cells #[.int .i64 R.P, .int .i64 R.Q] 23)) = W at *
  go_region
  all_goals go_wp2
  refine bodyPost_ret (v := .tuple #[.agg #[.int .i64 R.P, .int .i64 R.Q], .int .i64 ((a : Int) + f), .int .i64 0]) (by simp [results, Tryd.results18, go_sem, *]) rfl ?_
  refine ⟨rfl, ?_⟩
  exact ((kB.setCell (by simp) _).setCell (by simp) _).drew

theorem scan_any (s : ByteArray) (a : Int) (w : World) (hs : s.size ≤ 4000000000) :
    Calls Tryd.prog 18 #[.string s, .int .i64 a] w fun e w' => e = .returned (.tuple #[.agg #[.int .i64 (scanR s.data.toList a).P, .int .i64 (scanR s.data.toList a).Q], .int .i64 (scanR s.data.toList a).N, .int .i64 (scanR s.data.toList a).E]) ∧ Below w.heap.size w w' := by
  by_cases h : a < 0
  · exact scan_neg s a w hs h
  · by_cases h2 : (s.size : Int) < a
    · exact scan_far s a w hs (by omega) h2
    · obtain ⟨n, rfl⟩ := Int.eq_ofNat_of_zero_le (show 0 ≤ a by omega)
      by_cases h0 : (meas (s.data.toList.drop n)).fin = 0
      · exact scan_form s n w hs (by omega) h0
      · by_cases h1 : (numR (meas (s.data.toList.drop n))).E = 0
        · exact scan_ok s n w hs (by omega) h0 h1
        · exact scan_err s n w hs (by omega) h0 h1
end Go.Proofs.YtplfdfpnplhonaaDoor
