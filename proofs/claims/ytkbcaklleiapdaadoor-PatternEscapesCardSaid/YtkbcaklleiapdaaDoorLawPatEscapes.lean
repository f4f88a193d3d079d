/- For every string, text and index, what Escape returns for the string is a pattern, and At finds it in the text exactly where the string stands there (strings of more than 2000 bytes and texts of more than 5000 are left out: for them the chapter's examples hold). No condition. -/
import Derived.Test.YtkbcaklleiapdaaDoorPatTc
namespace Go.Proofs.YtkbcaklleiapdaaDoor
open Go.RowKit Go.Joins M4
set_option linter.unusedVariables false
theorem rdigit (x : UInt8) (w : World) : Calls Tryd.prog 33 #[.int .u8 (x.toNat : Int)] w fun e w' => e = .returned (.bool (inR [(48, 57)] x)) ∧ w = w' := by
  have e := inR1 48 57 x
  have hx := x.toNat_lt
  have ha : (48 : UInt8).toNat = 48 := rfl
  have hb : (57 : UInt8).toNat = 57 := rfl
  rw [ha, hb] at e
  generalize inR [(48, 57)] x = q at *
  generalize x.toNat = y at *
  clear ha hb
  by_cases h1 : 48 ≤ y ∧ y ≤ 57
  · obtain rfl : q = true := by rw [e]; exact decide_eq_true h1
    obtain ⟨h1, h2⟩ := h1
    clear e
    have d1 : decide (48 ≤ y) = true := decide_eq_true h1
    have d2 : decide (y ≤ 57) = true := decide_eq_true h2
    have d3 : decide ((48 : Int) ≤ (y : Int)) = true := decide_eq_true (by omega)
    have d4 : decide ((y : Int) ≤ 57) = true := decide_eq_true (by omega)
    go_enter Tryd.func33, Tryd.ntmps33
    go_wp2
    go_ret
    exact ⟨rfl, rfl⟩
  · obtain rfl : q = false := by rw [e]; exact decide_eq_false h1
    clear e
    by_cases h2 : 48 ≤ y
    · have h3 : ¬ y ≤ 57 := fun h => h1 ⟨h2, h⟩
      have d1 : decide (48 ≤ y) = true := decide_eq_true h2
      have d2 : decide (y ≤ 57) = false := decide_eq_false h3
      have d3 : decide ((48 : Int) ≤ (y : Int)) = true := decide_eq_true (by omega)
      have d4 : decide ((y : Int) ≤ 57) = false := decide_eq_false (by omega)
      clear h1
      go_enter Tryd.func33, Tryd.ntmps33
      go_wp2
      go_ret
      exact ⟨rfl, rfl⟩
    · have d1 : decide (48 ≤ y) = false := decide_eq_false h2
      have d3 : decide ((48 : Int) ≤ (y : Int)) = false := decide_eq_false (by omega)
      clear h1
      go_enter Tryd.func33, Tryd.ntmps33
      go_wp2
      go_ret
      exact ⟨rfl, rfl⟩
theorem rlower (x : UInt8) (w : World) : Calls Tryd.prog 37 #[.int .u8 (x.toNat : Int)] w fun e w' => e = .returned (.bool (inR [(97, 122)] x)) ∧ w = w' := by
  have e := inR1 97 122 x
  have hx := x.toNat_lt
  have ha : (97 : UInt8).toNat = 97 := rfl
  have hb : (122 : UInt8).toNat = 122 := rfl
  rw [ha, hb] at e
  generalize inR [(97, 122)] x = q at *
  generalize x.toNat = y at *
  clear ha hb
  by_cases h1 : 97 ≤ y ∧ y ≤ 122
  · obtain rfl : q = true := by rw [e]; exact decide_eq_true h1
    obtain ⟨h1, h2⟩ := h1
    clear e
    have d1 : decide (97 ≤ y) = true := decide_eq_true h1
    have d2 : decide (y ≤ 122) = true := decide_eq_true h2
    have d3 : decide ((97 : Int) ≤ (y : Int)) = true := decide_eq_true (by omega)
    have d4 : decide ((y : Int) ≤ 122) = true := decide_eq_true (by omega)
    go_enter Tryd.func37, Tryd.ntmps37
    go_wp2
    go_ret
    exact ⟨rfl, rfl⟩
  · obtain rfl : q = false := by rw [e]; exact decide_eq_false h1
    clear e
    by_cases h2 : 97 ≤ y
    · have h3 : ¬ y ≤ 122 := fun h => h1 ⟨h2, h⟩
      have d1 : decide (97 ≤ y) = true := decide_eq_true h2
      have d2 : decide (y ≤ 122) = false := decide_eq_false h3
      have d3 : decide ((97 : Int) ≤ (y : Int)) = true := decide_eq_true (by omega)
      have d4 : decide ((y : Int) ≤ 122) = false := decide_eq_false (by omega)
      clear h1
      go_enter Tryd.func37, Tryd.ntmps37
      go_wp2
      go_ret
      exact ⟨rfl, rfl⟩
    · have d1 : decide (97 ≤ y) = false := decide_eq_false h2
      have d3 : decide ((97 : Int) ≤ (y : Int)) = false := decide_eq_false (by omega)
      clear h1
      go_enter Tryd.func37, Tryd.ntmps37
      go_wp2
      go_ret
      exact ⟨rfl, rfl⟩
theorem rupper (x : UInt8) (w : World) : Calls Tryd.prog 38 #[.int .u8 (x.toNat : Int)] w fun e w' => e = .returned (.bool (inR [(65, 90)] x)) ∧ w = w' := by
  have e := inR1 65 90 x
  have hx := x.toNat_lt
  have ha : (65 : UInt8).toNat = 65 := rfl
  have hb : (90 : UInt8).toNat = 90 := rfl
  rw [ha, hb] at e
  generalize inR [(65, 90)] x = q at *
  generalize x.toNat = y at *
  clear ha hb
  by_cases h1 : 65 ≤ y ∧ y ≤ 90
  · obtain rfl : q = true := by rw [e]; exact decide_eq_true h1
    obtain ⟨h1, h2⟩ := h1
    clear e
    have d1 : decide (65 ≤ y) = true := decide_eq_true h1
    have d2 : decide (y ≤ 90) = true := decide_eq_true h2
    have d3 : decide ((65 : Int) ≤ (y : Int)) = true := decide_eq_true (by omega)
    have d4 : decide ((y : Int) ≤ 90) = true := decide_eq_true (by omega)
    go_enter Tryd.func38, Tryd.ntmps38
    go_wp2
    go_ret
    exact ⟨rfl, rfl⟩
  · obtain rfl : q = false := by rw [e]; exact decide_eq_false h1
    clear e
    by_cases h2 : 65 ≤ y
    · have h3 : ¬ y ≤ 90 := fun h => h1 ⟨h2, h⟩
      have d1 : decide (65 ≤ y) = true := decide_eq_true h2
      have d2 : decide (y ≤ 90) = false := decide_eq_false h3
      have d3 : decide ((65 : Int) ≤ (y : Int)) = true := decide_eq_true (by omega)
      have d4 : decide ((y : Int) ≤ 90) = false := decide_eq_false (by omega)
      clear h1
      go_enter Tryd.func38, Tryd.ntmps38
      go_wp2
      go_ret
      exact ⟨rfl, rfl⟩
    · have d1 : decide (65 ≤ y) = false := decide_eq_false h2
      have d3 : decide ((65 : Int) ≤ (y : Int)) = false := decide_eq_false (by omega)
      clear h1
      go_enter Tryd.func38, Tryd.ntmps38
      go_wp2
      go_ret
      exact ⟨rfl, rfl⟩
theorem alnum_or (x : UInt8) : alnum x = (inR [(48, 57)] x || (inR [(97, 122)] x || inR [(65, 90)] x)) := by
  rw [Bool.eq_iff_iff, alnum_iff]
  simp [inR1]
  omega
theorem esc_next {l : List UInt8} {k : Nat} (hk : k < l.length) : escF (l.take (k + 1)) = escF (l.take k) ++ (if alnum l[k] = true then [] else [37]) ++ [l[k]] := by
  rw [esc_step hk]; split <;> simp
set_option maxHeartbeats 4000000 in
set_option maxRecDepth 100000 in
theorem rescape (s : ByteArray) (w : World) (hs : s.size ≤ 1000000) : Calls Tryd.prog 16 #[.string s] w fun e w' => e = .returned (.string (bs (escF s.data.toList))) ∧ Below w.heap.size w w' := by
  have hsl : s.data.toList.length = s.size := by simp
  have HSL := Lib.hid hsl
  go_enter Tryd.func16, Tryd.ntmps16
  go_wp2
  go_loopw [3, 4] (fun v3 v4 wr => ∃ (k : Nat) (r : ByteArray), k ≤ s.size ∧ Hid (r.data.toList = escF (s.data.toList.take k)) ∧ v3 = .string r ∧ v4 = .int .i64 (k : Int) ∧ Hid (Below w.heap.size w wr)) (fun _ v4 _ => s.size - (intOf v4).toNat)
  case atStart => exact ⟨0, ⟨#[]⟩, Nat.zero_le _, Lib.hid (by rw [List.take_zero]; rfl), rfl, rfl, Lib.hid (Below.refl _ _)⟩
  case round =>
    obtain ⟨k, r, hk, HR, rfl, rfl, HB⟩ := hrel
    rename World => W0
    have hk1 := i64w ((k : Int) + 1) (by omega)
    have hrz : r.size ≤ 2 * s.size := by
      have h1 := congrArg List.length HR.out
      have h2 := escF_len (s.data.toList.take k)
      rw [List.length_take, HSL.out] at h2
      simp at h1
      omega
    by_cases hlt : k < s.size
    · have hlt' : (k : Int) < (s.size : Int) := by omega
      have hst := esc_next (l := s.data.toList) (k := k) (by rw [hsl]; exact hlt)
      have hsk : s.data.toList[k]'(by rw [hsl]; exact hlt) = s[k] := rfl
      rw [hsk, alnum_or] at hst
      have QD := Lib.hid fun W => rdigit s[k] W
      have QL := Lib.hid fun W => rlower s[k] W
      have QU := Lib.hid fun W => rupper s[k] W
      have HX : Hid (List.take 1 (List.drop k s.data.toList) = [s[k]]) := Lib.hid (by
        rw [List.drop_eq_getElem_cons (by rw [hsl]; exact hlt)]
        simp; rfl)
      have hxz : (s.extract k (k + 1)).size ≤ 1 := by rw [ByteArray.size_extract]; omega
      have c1 : (0 : Int) ≤ (k : Int) := by omega
      have c2 : (k : Int) + 1 ≤ (s.size : Int) := by omega
      have c3 : (k : Int) ≤ (k : Int) + 1 := by omega
      have c4 : ((k : Int) + 1).toNat = k + 1 := by omega
      generalize inR [(48, 57)] s[k] = q1 at *
      generalize inR [(97, 122)] s[k] = q2 at *
      generalize inR [(65, 90)] s[k] = q3 at *
      have HST := Lib.hid hst
      clear hst hsk hsl
      cases q1 <;> cases q2 <;> cases q3
      all_goals (
        go_wp2_with (first | (go_at_call 33; (with_reducible refine (QD.out _).mono ?_); rintro e w1 ⟨rfl, rfl⟩) | (go_at_call 37; (with_reducible refine (QL.out _).mono ?_); rintro e w1 ⟨rfl, rfl⟩) | (go_at_call 38; (with_reducible refine (QU.out _).mono ?_); rintro e w1 ⟨rfl, rfl⟩))
        refine ⟨⟨k + 1, _, by omega, Lib.hid ?_, rfl, by go_num, HB⟩, by simp [intOf]; omega⟩
        rw [HST.out]
        simp [HR.out, ByteArray.data_append]
        exact HX.out)
    · have hlt' : ¬ (k : Int) < (s.size : Int) := by omega
      go_wp2
      go_ret
      obtain rfl : r = bs (escF s.data.toList) := by rw [← bs_of r, HR.out, List.take_of_length_le (by rw [hsl]; omega)]
      exact ⟨rfl, HB.out⟩
end Go.Proofs.YtkbcaklleiapdaaDoor
namespace Go.Proofs.YtkbcaklleiapdaaDoor.patternEscapesLaw
open Go.ChangeMaps (open_string shut_string)
open Go.ChangeShapes Go.WideShapes Go.ChangeAt Go.RowKit Go.Joins M4
set_option linter.unusedVariables false


set_option maxHeartbeats 16000000 in
set_option maxRecDepth 100000 in
theorem walk (s0 : ByteArray) (hm0 : s0.size ≤ maxLen) (s1 : ByteArray) (hm1 : s1.size ≤ maxLen) (n2 : Int) (wn2 : (Lit.int .i64 n2).wf = true) (w : World) (he : Tab w) :
    Calls Tryd.prog 5 #[.string s0, .string s1, .int .i64 n2] w fun e w' => e = .returned (.bool true) ∧ Below w.heap.size w w' := by
  have AW := Lib.hid fun W (hb : Below w.heap.size w W) => awake_any W (tab_below he hb)
  clear he
  by_cases hbig : 2000 < s0.size
  · have hbig' : 2000 < (s0.size : Int) := by omega
    go_enter Tryd.func5, Tryd.ntmps5
    go_wp2_with (go_at_call 10; (with_reducible refine (AW.out _ ?_).mono ?_); exact Below.refl _ _; rintro e w9 ⟨rfl, hb9⟩)
    go_ret
    exact ⟨rfl, hb9⟩
  have hbig' : ¬ 2000 < (s0.size : Int) := by omega
  by_cases hbig1 : 5000 < s1.size
  · have hbig1' : 5000 < (s1.size : Int) := by omega
    go_enter Tryd.func5, Tryd.ntmps5
    go_wp2_with (go_at_call 10; (with_reducible refine (AW.out _ ?_).mono ?_); exact Below.refl _ _; rintro e w9 ⟨rfl, hb9⟩)
    go_ret
    exact ⟨rfl, hb9⟩
  have hbig1' : ¬ 5000 < (s1.size : Int) := by omega
  have hsl : s0.data.toList.length = s0.size := by simp
  have htl : s1.data.toList.length = s1.size := by simp
  have hel := escF_len s0.data.toList
  have hre := read_esc s0.data.toList
  have hae := at_esc s1.data.toList s0.data.toList
  have hpd : (bs (escF s0.data.toList)).data.toList = escF s0.data.toList := bs_toList _
  have hps : (bs (escF s0.data.toList)).size ≤ 4000 := by rw [bs_size]; omega
  have QE := Lib.hid fun W => escape_any s0 W (by omega)
  have QF := Lib.hid fun W => rescape s0 W (by omega)
  rw [← hpd] at hre
  generalize bs (escF s0.data.toList) = p at *
  have QC : Hid (∀ W, Calls Tryd.prog 11 #[.string p] W fun e w' => e = .returned (.int .i64 0) ∧ Below W.heap.size W w') := Lib.hid fun W => by
    have h := check_any p W (by omega)
    rw [hre] at h; exact h
  by_cases hneg : n2 < 0
  · clear hae hre
    go_enter Tryd.func5, Tryd.ntmps5
    go_upto_region 4 with (go_at_call 15; (with_reducible refine (QE.out _).mono ?_); rintro e w1 ⟨rfl, hb1⟩)
    go_upto_region 6 with (first | (go_at_call 16; (with_reducible refine (QF.out _).mono ?_); rintro e w2 ⟨rfl, hb2⟩) | (go_at_call 11; (with_reducible refine (QC.out _).mono ?_); rintro e w3 ⟨rfl, hb3⟩))
    have HB3 := Lib.hid (hb1.trans ((hb2.mono hb1.size).trans (hb3.mono (Nat.le_trans hb1.size hb2.size))))
    clear hb1 hb2 hb3
    go_wp2_with (go_at_call 10; (with_reducible refine (AW.out _ ?_).mono ?_); exact HB3.out; rintro e w9 ⟨rfl, hb9⟩)
    go_ret
    exact ⟨rfl, HB3.out.trans (hb9.mono HB3.out.size)⟩
  by_cases hout : (s1.size : Int) < n2
  · clear hae hre
    go_enter Tryd.func5, Tryd.ntmps5
    go_upto_region 4 with (go_at_call 15; (with_reducible refine (QE.out _).mono ?_); rintro e w1 ⟨rfl, hb1⟩)
    go_upto_region 6 with (first | (go_at_call 16; (with_reducible refine (QF.out _).mono ?_); rintro e w2 ⟨rfl, hb2⟩) | (go_at_call 11; (with_reducible refine (QC.out _).mono ?_); rintro e w3 ⟨rfl, hb3⟩))
    have HB3 := Lib.hid (hb1.trans ((hb2.mono hb1.size).trans (hb3.mono (Nat.le_trans hb1.size hb2.size))))
    clear hb1 hb2 hb3
    go_wp2_with (go_at_call 10; (with_reducible refine (AW.out _ ?_).mono ?_); exact HB3.out; rintro e w9 ⟨rfl, hb9⟩)
    go_ret
    exact ⟨rfl, HB3.out.trans (hb9.mono HB3.out.size)⟩
  obtain ⟨i0, rfl⟩ := Int.eq_ofNat_of_zero_le (show 0 ≤ n2 by omega)
  have hi0 : i0 ≤ s1.size := by omega
  obtain ⟨ha1, ha2⟩ := hae i0 (by omega)
  have hA := fun W => at_fn s1 p i0 W (by omega) (by omega) _ hre hi0
  obtain ⟨j0, hj0⟩ : ∃ j0, i0 + s0.size = j0 := ⟨_, rfl⟩
  have q1 : (i0 : Int) + (s0.size : Int) = (j0 : Int) := by omega
  have q2 := i64w (j0 : Int) (by omega)
  have q3 : IntKind.i64.wrap ((i0 : Int) + (s0.size : Int)) = (j0 : Int) := by rw [q1, q2]
  have q4 := i64w ((s1.size : Int) - (i0 : Int)) (by omega)
  by_cases hfit : s0.size ≤ s1.size - i0
  · have hfit' : (s0.size : Int) ≤ (s1.size : Int) - (i0 : Int) := by omega
    have hfd : decide ((s0.size : Int) ≤ (s1.size : Int) - (i0 : Int)) = true := decide_eq_true hfit'
    have c1 : (i0 : Int) ≤ (j0 : Int) := by omega
    have c2 : (j0 : Int) ≤ (s1.size : Int) := by omega
    have c3 : (0 : Int) ≤ (i0 : Int) := by omega
    have hxl : (s1.extract i0 j0).data.toList = (s1.data.toList.drop i0).take s0.size := by rw [ext_bs, bs_toList]; unfold cutF; rw [show j0 - i0 = s0.size by omega]
    by_cases heq : s1.extract i0 j0 = s0
    · have hpre : s0.data.toList.isPrefixOf (s1.data.toList.drop i0) = true := by
        rw [List.isPrefixOf_iff_prefix, List.prefix_iff_eq_take, hsl, ← hxl, heq]
      rw [if_pos hpre] at ha2
      have QA : Hid (∀ W, Calls Tryd.prog 17 #[.string s1, .string p, .int .i64 (i0 : Int)] W (An i0 j0 0 [] true 0 W)) := Lib.hid fun W => by
        have h := hA W
        rw [first_one (show (atM s1.data.toList ⟨false, false, s0.data.toList.map lit, 0⟩ i0).2 ≤ 100000 from Nat.le_trans ha1 (by omega)), show (atM s1.data.toList ⟨false, false, s0.data.toList.map lit, 0⟩ i0).1 = _ from ha2, hsl, hj0] at h
        exact h.mono fun e w' h => an_yes h
      have heb : ((s1.extract i0 j0).toList == s0.toList) = true := by rw [heq]; exact beq_self_eq_true _
      clear hA ha1 ha2 hpre hxl hae hre hj0
      go_enter Tryd.func5, Tryd.ntmps5
      go_upto_region 4 with (go_at_call 15; (with_reducible refine (QE.out _).mono ?_); rintro e w1 ⟨rfl, hb1⟩)
      go_upto_region 6 with (first | (go_at_call 16; (with_reducible refine (QF.out _).mono ?_); rintro e w2 ⟨rfl, hb2⟩) | (go_at_call 11; (with_reducible refine (QC.out _).mono ?_); rintro e w3 ⟨rfl, hb3⟩))
      have HB3 := Lib.hid (hb1.trans ((hb2.mono hb1.size).trans (hb3.mono (Nat.le_trans hb1.size hb2.size))))
      clear hb1 hb2 hb3
      go_upto_region 9 with (go_at_call 17; (with_reducible refine (QA.out _).mono ?_); rintro e w4 ⟨⟨q, c, rfl, ho4⟩, hb4⟩)
      obtain ⟨V1, hV1⟩ : ∃ V1, w4.alloc (.cells #[.int .i64 (i0 : Int), .int .i64 (j0 : Int), .slice q 0 c] 29) = V1 := ⟨_, rfl⟩
      obtain ⟨X1, hX1⟩ : ∃ X1, w4.heap.size = X1 := ⟨_, rfl⟩
      have HMV1 : Hid (Mtb X1 #[.int .i64 (i0 : Int), .int .i64 (j0 : Int), .slice q 0 c] V1) := Lib.hid (by rw [← hV1, ← hX1]; exact mtb_new _ _ _ rfl)
      have HCV1 : Hid (Ch [] w4 V1) := Lib.hid (by rw [← hV1]; exact (Ch.refl _ _).alloc _)
      rw [hV1]
      simp only [hX1]
      clear hV1 hX1
      have HB4 := Lib.hid (HB3.out.trans ((hb4.trans (HCV1.out.below.mono hb4.size)).mono HB3.out.size))
      have HO4 := Lib.hid (HCV1.out.own ho4 (by simp))
      have H0 : Hid (Below V1.heap.size V1 V1) := Lib.hid (Below.refl _ _)
      have HMV1x := HMV1.out
      have a0 := HMV1x.cell 0
      have a1 := HMV1x.cell 1
      have a2 := HMV1x.cell 2
      simp at a0 a1 a2
      have HK : Hid (∀ W, Hid (Below V1.heap.size V1 W) → W.cell? ⟨X1, 0, none⟩ = some (.int .i64 (i0 : Int)) ∧ W.cell? ⟨X1, 1, none⟩ = some (.int .i64 (j0 : Int)) ∧ W.cell? ⟨X1, 2, none⟩ = some (.slice q 0 c) ∧ Hid (Below V1.heap.size V1 W)) := Lib.hid fun W hb => ⟨by rw [hb.out.cell HMV1x.lt]; exact a0, by rw [hb.out.cell HMV1x.lt]; exact a1, by rw [hb.out.cell HMV1x.lt]; exact a2, hb⟩
      have MA : Hid (∀ W, Hid (Below V1.heap.size V1 W) → Calls Tryd.prog 19 #[.int .i64 (i0 : Int), .int .i64 (j0 : Int), .slice none 0 0] W fun e w' => (∃ p c, e = .returned (.agg #[.int .i64 (i0 : Int), .int .i64 (j0 : Int), .slice p 0 c]) ∧ Hid (w'.ownsRow 0 43 2 (.slice p 0 c) 0 (capC []))) ∧ Hid (Below V1.heap.size V1 w')) := Lib.hid fun W hb => (match_any (i0 : Int) (j0 : Int) _ [] W (intR_nil W) (by decide)).mono fun e w' ⟨⟨p, c, h1, h2⟩, h3⟩ => ⟨⟨p, c, h1, Lib.hid h2⟩, Lib.hid (hb.out.trans (h3.mono hb.out.size))⟩
      have SA : Hid (∀ W p2 c2, Hid (Below V1.heap.size V1 W) → Hid (W.ownsRow 0 43 2 (.slice p2 0 c2) 0 (capC [])) → Calls Tryd.prog 18 #[.agg #[.int .i64 (i0 : Int), .int .i64 (j0 : Int), .slice q 0 c], .agg #[.int .i64 (i0 : Int), .int .i64 (j0 : Int), .slice p2 0 c2]] W fun e w' => e = .returned (.bool true) ∧ Hid (Below V1.heap.size V1 w')) := Lib.hid fun W p2 c2 hb ho => (same_yes (i0 : Int) (j0 : Int) q p2 0 c c2 [] W rfl (by decide) ((Ch.of_below (S := []) hb.out).own HO4.out (by simp)) ho.out).mono fun e w' ⟨h1, h2⟩ => ⟨h1, Lib.hid (hb.out.trans (h2.mono hb.out.size))⟩
      have AX : Hid (∀ W, Hid (Below V1.heap.size V1 W) → Calls Tryd.prog 10 #[] W fun e w' => e = .returned (.bool true) ∧ Hid (Below V1.heap.size V1 w')) := Lib.hid fun W hb => (AW.out W (HB4.out.trans (hb.out.mono HB4.out.size))).mono fun e w' ⟨h1, h2⟩ => ⟨h1, Lib.hid (hb.out.trans (h2.mono hb.out.size))⟩
      clear hb4 ho4 HMV1 HMV1x HCV1
      go_upto_region 12 with fail
      go_region_held3 (fun W => W.cell? ⟨X1, 0, none⟩ = some (.int .i64 (i0 : Int)) ∧ W.cell? ⟨X1, 1, none⟩ = some (.int .i64 (j0 : Int)) ∧ W.cell? ⟨X1, 2, none⟩ = some (.slice q 0 c) ∧ Hid (Below V1.heap.size V1 W)) (first | exact HK.out _ (hidD H0) | exact HK.out _ (by assumption)) ((first | (go_at_call 19; (with_reducible refine (MA.out _ (by first | assumption | exact hidD H0)).mono ?_); rintro e w9 ⟨⟨p9, c9, rfl, ho9⟩, hb9⟩) | (go_at_call 18; (with_reducible refine (SA.out _ _ _ (by assumption) (by assumption)).mono ?_); rintro e w9 ⟨rfl, hb9⟩) | (go_at_call 10; (with_reducible refine (AX.out _ (by assumption)).mono ?_); rintro e w9 ⟨rfl, hb9⟩)))
      all_goals (
        go_wp2
        go_ret
        refine ⟨rfl, HB4.out.trans (Below.mono (B := V1.heap.size) ?_ HB4.out.size)⟩
        exact Hid.out (by assumption))
    · have hpre : ¬ s0.data.toList.isPrefixOf (s1.data.toList.drop i0) = true := by
        rw [List.isPrefixOf_iff_prefix, List.prefix_iff_eq_take, hsl, ← hxl]
        exact fun e => heq (ByteArray.ext (Array.ext' e.symm))
      rw [if_neg hpre] at ha2
      have QA : Hid (∀ W, Calls Tryd.prog 17 #[.string s1, .string p, .int .i64 (i0 : Int)] W (An 0 0 0 [] false 0 W)) := Lib.hid fun W => by
        have h := hA W
        rw [first_one (show (atM s1.data.toList ⟨false, false, s0.data.toList.map lit, 0⟩ i0).2 ≤ 100000 from Nat.le_trans ha1 (by omega)), show (atM s1.data.toList ⟨false, false, s0.data.toList.map lit, 0⟩ i0).1 = _ from ha2] at h
        exact h.mono fun e w' h => an_no h
      have heb : ((s1.extract i0 j0).toList == s0.toList) = false := by
        rw [beq_eq_false_iff_ne]
        intro e
        rw [Lib.toList_data, Lib.toList_data] at e
        exact heq (ByteArray.ext (Array.ext' e))
      clear hA ha1 ha2 hpre hxl hae hre hj0 heq
      go_enter Tryd.func5, Tryd.ntmps5
      go_upto_region 4 with (go_at_call 15; (with_reducible refine (QE.out _).mono ?_); rintro e w1 ⟨rfl, hb1⟩)
      go_upto_region 6 with (first | (go_at_call 16; (with_reducible refine (QF.out _).mono ?_); rintro e w2 ⟨rfl, hb2⟩) | (go_at_call 11; (with_reducible refine (QC.out _).mono ?_); rintro e w3 ⟨rfl, hb3⟩))
      have HB3 := Lib.hid (hb1.trans ((hb2.mono hb1.size).trans (hb3.mono (Nat.le_trans hb1.size hb2.size))))
      clear hb1 hb2 hb3
      go_upto_region 9 with (go_at_call 17; (with_reducible refine (QA.out _).mono ?_); rintro e w4 ⟨⟨q, c, rfl, -⟩, hb4⟩)
      obtain ⟨V1, hV1⟩ : ∃ V1, w4.alloc (.cells #[.int .i64 0, .int .i64 0, .slice q 0 c] 29) = V1 := ⟨_, rfl⟩
      obtain ⟨X1, hX1⟩ : ∃ X1, w4.heap.size = X1 := ⟨_, rfl⟩
      have HMV1 : Hid (Mtb X1 #[.int .i64 0, .int .i64 0, .slice q 0 c] V1) := Lib.hid (by rw [← hV1, ← hX1]; exact mtb_new _ _ _ rfl)
      have HCV1 : Hid (Ch [] w4 V1) := Lib.hid (by rw [← hV1]; exact (Ch.refl _ _).alloc _)
      rw [hV1]
      simp only [hX1]
      clear hV1 hX1
      have HB4 := Lib.hid (HB3.out.trans ((hb4.trans (HCV1.out.below.mono hb4.size)).mono HB3.out.size))
      have H0 : Hid (Below V1.heap.size V1 V1) := Lib.hid (Below.refl _ _)
      have AX : Hid (∀ W, Hid (Below V1.heap.size V1 W) → Calls Tryd.prog 10 #[] W fun e w' => e = .returned (.bool true) ∧ Hid (Below V1.heap.size V1 w')) := Lib.hid fun W hb => (AW.out W (HB4.out.trans (hb.out.mono HB4.out.size))).mono fun e w' ⟨h1, h2⟩ => ⟨h1, Lib.hid (hb.out.trans (h2.mono hb.out.size))⟩
      clear hb4 HMV1 HCV1
      go_upto_region 12 with fail
      refine wp_region_noPanic ?_
      refine wp_region_held_drew (S := fun W => Hid (Below V1.heap.size V1 W)) (by kernel_rfl) (hidD H0) (fun hHeld => ?_)
      refine wpAnyH_take (i := 0) (oi := { dst := some 74, op := Op.move (Operand.tmp 9), type := 4, pos := "law.go:122", after := #[], guard := none }) (v := .bool false) rfl (by kernel_rfl) (by kernel_rfl) (by kernel_rfl) (fun _ _ _ h => h) (Or.inl ⟨by rfl, fun wq _ => by go_simp⟩) hHeld ?_
      (try simp only [Act.put, List.setIfInBounds_toArray, List.set_cons_zero, List.set_cons_succ])
      refine wpAnyH_take (i := 1) (oi := { dst := some 75, op := Op.unOp UnOp.not 4 (Operand.tmp 74), type := 4, pos := "law.go:122", after := #[{ on := 0, ground := Ground.data }], guard := none }) (v := .bool true) rfl (by kernel_rfl) (by kernel_rfl) (by kernel_rfl) (fun _ _ _ h => h) (Or.inl ⟨by rfl, fun wq _ => by go_simp⟩) hHeld ?_
      (try simp only [Act.put, List.setIfInBounds_toArray, List.set_cons_zero, List.set_cons_succ])
      refine wpAnyH_take (i := 2) (oi := { dst := some 76, op := Op.move (Operand.tmp 75), type := 4, pos := "law.go:122", after := #[{ on := 1, ground := Ground.data }], guard := none }) (v := .bool true) rfl (by kernel_rfl) (by kernel_rfl) (by kernel_rfl) (fun _ _ _ h => h) (Or.inl ⟨by rfl, fun wq _ => by go_simp⟩) hHeld ?_
      (try simp only [Act.put, List.setIfInBounds_toArray, List.set_cons_zero, List.set_cons_succ])
      refine wpAnyH_take (i := 3) (oi := { dst := some 77, op := Op.load 29 (Operand.tmp 8), type := 29, pos := "law.go:122", after := #[{ on := 2, ground := Ground.guard }], guard := some (2, false) }) (v := undef) rfl (by kernel_rfl) (by kernel_rfl) (by kernel_rfl) (fun _ _ _ h => h) (Or.inr ⟨by rfl, rfl⟩) hHeld ?_
      (try simp only [Act.put, List.setIfInBounds_toArray, List.set_cons_zero, List.set_cons_succ])
      refine wpAnyH_take (i := 4) (oi := { dst := some 78, op := Op.move (Operand.tmp 2), type := 3, pos := "law.go:122", after := #[{ on := 2, ground := Ground.guard }], guard := some (2, false) }) (v := undef) rfl (by kernel_rfl) (by kernel_rfl) (by kernel_rfl) (fun _ _ _ h => h) (Or.inr ⟨by rfl, rfl⟩) hHeld ?_
      (try simp only [Act.put, List.setIfInBounds_toArray, List.set_cons_zero, List.set_cons_succ])
      refine wpAnyH_take (i := 5) (oi := { dst := some 79, op := Op.move (Operand.tmp 2), type := 3, pos := "law.go:122", after := #[{ on := 2, ground := Ground.guard }], guard := some (2, false) }) (v := undef) rfl (by kernel_rfl) (by kernel_rfl) (by kernel_rfl) (fun _ _ _ h => h) (Or.inr ⟨by rfl, rfl⟩) hHeld ?_
      (try simp only [Act.put, List.setIfInBounds_toArray, List.set_cons_zero, List.set_cons_succ])
      refine wpAnyH_take (i := 6) (oi := { dst := some 80, op := Op.move (Operand.tmp 0), type := 9, pos := "law.go:122", after := #[{ on := 2, ground := Ground.guard }], guard := some (2, false) }) (v := undef) rfl (by kernel_rfl) (by kernel_rfl) (by kernel_rfl) (fun _ _ _ h => h) (Or.inr ⟨by rfl, rfl⟩) hHeld ?_
      (try simp only [Act.put, List.setIfInBounds_toArray, List.set_cons_zero, List.set_cons_succ])
      refine wpAnyH_take (i := 7) (oi := { dst := some 81, op := Op.call { callee := Callee.builtin Builtin.len, args := #[Operand.tmp 80], argTypes := #[9] }, type := 3, pos := "law.go:122", after := #[{ on := 6, ground := Ground.data }, { on := 2, ground := Ground.guard }], guard := some (2, false) }) (v := undef) rfl (by kernel_rfl) (by kernel_rfl) (by kernel_rfl) (fun _ _ _ h => h) (Or.inr ⟨by rfl, rfl⟩) hHeld ?_
      (try simp only [Act.put, List.setIfInBounds_toArray, List.set_cons_zero, List.set_cons_succ])
      refine wpAnyH_take (i := 8) (oi := { dst := some 82, op := Op.binOp BinOp.add 3 (Operand.tmp 79) (Operand.tmp 81) 3, type := 3, pos := "law.go:122", after := #[{ on := 5, ground := Ground.data }, { on := 7, ground := Ground.data }, { on := 2, ground := Ground.guard }], guard := some (2, false) }) (v := undef) rfl (by kernel_rfl) (by kernel_rfl) (by kernel_rfl) (fun _ _ _ h => h) (Or.inr ⟨by rfl, rfl⟩) hHeld ?_
      (try simp only [Act.put, List.setIfInBounds_toArray, List.set_cons_zero, List.set_cons_succ])
      refine wpAnyH_take (i := 9) (oi := { dst := some 83, op := Op.call { callee := Callee.value (Operand.func 19), args := #[Operand.tmp 78, Operand.tmp 82, Operand.const (Value.slice none 0 0)], argTypes := #[3, 3, 80] }, type := 29, pos := "law.go:122", after := #[{ on := 4, ground := Ground.data }, { on := 8, ground := Ground.data }, { on := 2, ground := Ground.chain }, { on := 2, ground := Ground.guard }], guard := some (2, false) }) (v := undef) rfl (by kernel_rfl) (by kernel_rfl) (by kernel_rfl) (fun _ _ _ h => h) (Or.inr ⟨by rfl, rfl⟩) hHeld ?_
      (try simp only [Act.put, List.setIfInBounds_toArray, List.set_cons_zero, List.set_cons_succ])
      refine wpAnyH_take (i := 10) (oi := { dst := some 84, op := Op.call { callee := Callee.value (Operand.func 18), args := #[Operand.tmp 77, Operand.tmp 83], argTypes := #[29, 29] }, type := 4, pos := "law.go:122", after := #[{ on := 3, ground := Ground.data }, { on := 9, ground := Ground.data }, { on := 9, ground := Ground.chain }, { on := 2, ground := Ground.guard }], guard := some (2, false) }) (v := undef) rfl (by kernel_rfl) (by kernel_rfl) (by kernel_rfl) (fun _ _ _ h => h) (Or.inr ⟨by rfl, rfl⟩) hHeld ?_
      (try simp only [Act.put, List.setIfInBounds_toArray, List.set_cons_zero, List.set_cons_succ])
      refine wpAnyH_take (i := 11) (oi := { dst := some 85, op := Op.pick (Operand.tmp 76) (Operand.const (Value.bool true)) (Operand.tmp 84), type := 4, pos := "law.go:122", after := #[{ on := 2, ground := Ground.data }, { on := 10, ground := Ground.data }], guard := none }) (v := .bool true) rfl (by kernel_rfl) (by kernel_rfl) (by kernel_rfl) (fun _ _ _ h => h) (Or.inl ⟨by rfl, fun wq _ => by go_simp⟩) hHeld ?_
      (try simp only [Act.put, List.setIfInBounds_toArray, List.set_cons_zero, List.set_cons_succ])
      refine wpAnyH_take (i := 12) (oi := { dst := some 86, op := Op.move (Operand.tmp 85), type := 4, pos := "law.go:122", after := #[{ on := 11, ground := Ground.data }, { on := 10, ground := Ground.chain }], guard := none }) (v := .bool true) rfl (by kernel_rfl) (by kernel_rfl) (by kernel_rfl) (fun _ _ _ h => h) (Or.inl ⟨by rfl, fun wq _ => by go_simp⟩) hHeld ?_
      (try simp only [Act.put, List.setIfInBounds_toArray, List.set_cons_zero, List.set_cons_succ])
      refine wpAnyH_ready (rs := [13]) (by kernel_rfl) (by simp) ?_
      refine AllReadyH.cons (o := { dst := some 87, op := Op.call { callee := Callee.value (Operand.func 10), args := #[], argTypes := #[] }, type := 4, pos := "law.go:122", after := #[{ on := 12, ground := Ground.chain }, { on := 12, ground := Ground.guard }], guard := some (12, true) }) rfl (fun K hK => ?_) AllReadyH.nil
      go_simp
      refine (AX.out _ hHeld).mono ?_
      rintro e w9 ⟨rfl, hb9⟩
      refine hK.out _ _ hb9 (fun hHeld2 => ?_)
      clear hK K hHeld
      have hHeld := hHeld2
      clear hHeld2
      (try simp only [Act.put, List.setIfInBounds_toArray, List.set_cons_zero, List.set_cons_succ])
      refine wpAnyH_take (i := 14) (oi := { dst := some 88, op := Op.pick (Operand.tmp 86) (Operand.tmp 87) (Operand.const (Value.bool false)), type := 4, pos := "law.go:122", after := #[{ on := 12, ground := Ground.data }, { on := 13, ground := Ground.data }], guard := none }) (v := .bool true) rfl (by kernel_rfl) (by kernel_rfl) (by kernel_rfl) (fun _ _ _ h => h) (Or.inl ⟨by rfl, fun wq _ => by go_simp⟩) hHeld ?_
      (try simp only [Act.put, List.setIfInBounds_toArray, List.set_cons_zero, List.set_cons_succ])
      refine wpAnyH_take (i := 15) (oi := { dst := some 6, op := Op.assign (Operand.tmp 88), type := 4, pos := "law.go:122", after := #[{ on := 14, ground := Ground.data }, { on := 13, ground := Ground.chain }, { on := 0, ground := Ground.phase }, { on := 1, ground := Ground.phase }, { on := 2, ground := Ground.phase }, { on := 3, ground := Ground.phase }, { on := 4, ground := Ground.phase }, { on := 5, ground := Ground.phase }, { on := 6, ground := Ground.phase }, { on := 7, ground := Ground.phase }, { on := 8, ground := Ground.phase }, { on := 9, ground := Ground.phase }, { on := 10, ground := Ground.phase }, { on := 11, ground := Ground.phase }, { on := 12, ground := Ground.phase }, { on := 13, ground := Ground.phase }, { on := 14, ground := Ground.phase }], guard := none }) (v := .bool true) rfl (by kernel_rfl) (by kernel_rfl) (by kernel_rfl) (fun _ _ _ h => h) (Or.inl ⟨by rfl, fun wq _ => by go_simp⟩) hHeld ?_
      (try simp only [Act.put, List.setIfInBounds_toArray, List.set_cons_zero, List.set_cons_succ])
      refine wpAnyH_done (by kernel_rfl) ?_ _
      refine NoPanic.normal ?_
      all_goals (
        go_wp2
        go_ret
        refine ⟨rfl, HB4.out.trans (Below.mono (B := V1.heap.size) ?_ HB4.out.size)⟩
        exact Hid.out (by assumption))
  · have hfit' : ¬ (s0.size : Int) ≤ (s1.size : Int) - (i0 : Int) := by omega
    have hfd : decide ((s0.size : Int) ≤ (s1.size : Int) - (i0 : Int)) = false := decide_eq_false hfit'
    have hpre : ¬ s0.data.toList.isPrefixOf (s1.data.toList.drop i0) = true := by
      rw [List.isPrefixOf_iff_prefix]
      intro h
      have := h.length_le
      rw [List.length_drop] at this; omega
    rw [if_neg hpre] at ha2
    have QA : Hid (∀ W, Calls Tryd.prog 17 #[.string s1, .string p, .int .i64 (i0 : Int)] W (An 0 0 0 [] false 0 W)) := Lib.hid fun W => by
      have h := hA W
      rw [first_one (show (atM s1.data.toList ⟨false, false, s0.data.toList.map lit, 0⟩ i0).2 ≤ 100000 from Nat.le_trans ha1 (by omega)), show (atM s1.data.toList ⟨false, false, s0.data.toList.map lit, 0⟩ i0).1 = _ from ha2] at h
      exact h.mono fun e w' h => an_no h
    clear hA ha1 ha2 hpre hae hre hj0
    go_enter Tryd.func5, Tryd.ntmps5
    go_upto_region 4 with (go_at_call 15; (with_reducible refine (QE.out _).mono ?_); rintro e w1 ⟨rfl, hb1⟩)
    go_upto_region 6 with (first | (go_at_call 16; (with_reducible refine (QF.out _).mono ?_); rintro e w2 ⟨rfl, hb2⟩) | (go_at_call 11; (with_reducible refine (QC.out _).mono ?_); rintro e w3 ⟨rfl, hb3⟩))
    have HB3 := Lib.hid (hb1.trans ((hb2.mono hb1.size).trans (hb3.mono (Nat.le_trans hb1.size hb2.size))))
    clear hb1 hb2 hb3
    go_upto_region 9 with (go_at_call 17; (with_reducible refine (QA.out _).mono ?_); rintro e w4 ⟨⟨q, c, rfl, -⟩, hb4⟩)
    obtain ⟨V1, hV1⟩ : ∃ V1, w4.alloc (.cells #[.int .i64 0, .int .i64 0, .slice q 0 c] 29) = V1 := ⟨_, rfl⟩
    obtain ⟨X1, hX1⟩ : ∃ X1, w4.heap.size = X1 := ⟨_, rfl⟩
    have HMV1 : Hid (Mtb X1 #[.int .i64 0, .int .i64 0, .slice q 0 c] V1) := Lib.hid (by rw [← hV1, ← hX1]; exact mtb_new _ _ _ rfl)
    have HCV1 : Hid (Ch [] w4 V1) := Lib.hid (by rw [← hV1]; exact (Ch.refl _ _).alloc _)
    rw [hV1]
    simp only [hX1]
    clear hV1 hX1
    have HB4 := Lib.hid (HB3.out.trans ((hb4.trans (HCV1.out.below.mono hb4.size)).mono HB3.out.size))
    have H0 : Hid (Below V1.heap.size V1 V1) := Lib.hid (Below.refl _ _)
    have AX : Hid (∀ W, Hid (Below V1.heap.size V1 W) → Calls Tryd.prog 10 #[] W fun e w' => e = .returned (.bool true) ∧ Hid (Below V1.heap.size V1 w')) := Lib.hid fun W hb => (AW.out W (HB4.out.trans (hb.out.mono HB4.out.size))).mono fun e w' ⟨h1, h2⟩ => ⟨h1, Lib.hid (hb.out.trans (h2.mono hb.out.size))⟩
    clear hb4 HMV1 HCV1
    go_upto_region 12 with fail
    refine wp_region_noPanic ?_
    refine wp_region_held_drew (S := fun W => Hid (Below V1.heap.size V1 W)) (by kernel_rfl) (hidD H0) (fun hHeld => ?_)
    refine wpAnyH_take (i := 0) (oi := { dst := some 74, op := Op.move (Operand.tmp 9), type := 4, pos := "law.go:122", after := #[], guard := none }) (v := .bool false) rfl (by kernel_rfl) (by kernel_rfl) (by kernel_rfl) (fun _ _ _ h => h) (Or.inl ⟨by rfl, fun wq _ => by go_simp⟩) hHeld ?_
    (try simp only [Act.put, List.setIfInBounds_toArray, List.set_cons_zero, List.set_cons_succ])
    refine wpAnyH_take (i := 1) (oi := { dst := some 75, op := Op.unOp UnOp.not 4 (Operand.tmp 74), type := 4, pos := "law.go:122", after := #[{ on := 0, ground := Ground.data }], guard := none }) (v := .bool true) rfl (by kernel_rfl) (by kernel_rfl) (by kernel_rfl) (fun _ _ _ h => h) (Or.inl ⟨by rfl, fun wq _ => by go_simp⟩) hHeld ?_
    (try simp only [Act.put, List.setIfInBounds_toArray, List.set_cons_zero, List.set_cons_succ])
    refine wpAnyH_take (i := 2) (oi := { dst := some 76, op := Op.move (Operand.tmp 75), type := 4, pos := "law.go:122", after := #[{ on := 1, ground := Ground.data }], guard := none }) (v := .bool true) rfl (by kernel_rfl) (by kernel_rfl) (by kernel_rfl) (fun _ _ _ h => h) (Or.inl ⟨by rfl, fun wq _ => by go_simp⟩) hHeld ?_
    (try simp only [Act.put, List.setIfInBounds_toArray, List.set_cons_zero, List.set_cons_succ])
    refine wpAnyH_take (i := 3) (oi := { dst := some 77, op := Op.load 29 (Operand.tmp 8), type := 29, pos := "law.go:122", after := #[{ on := 2, ground := Ground.guard }], guard := some (2, false) }) (v := undef) rfl (by kernel_rfl) (by kernel_rfl) (by kernel_rfl) (fun _ _ _ h => h) (Or.inr ⟨by rfl, rfl⟩) hHeld ?_
    (try simp only [Act.put, List.setIfInBounds_toArray, List.set_cons_zero, List.set_cons_succ])
    refine wpAnyH_take (i := 4) (oi := { dst := some 78, op := Op.move (Operand.tmp 2), type := 3, pos := "law.go:122", after := #[{ on := 2, ground := Ground.guard }], guard := some (2, false) }) (v := undef) rfl (by kernel_rfl) (by kernel_rfl) (by kernel_rfl) (fun _ _ _ h => h) (Or.inr ⟨by rfl, rfl⟩) hHeld ?_
    (try simp only [Act.put, List.setIfInBounds_toArray, List.set_cons_zero, List.set_cons_succ])
    refine wpAnyH_take (i := 5) (oi := { dst := some 79, op := Op.move (Operand.tmp 2), type := 3, pos := "law.go:122", after := #[{ on := 2, ground := Ground.guard }], guard := some (2, false) }) (v := undef) rfl (by kernel_rfl) (by kernel_rfl) (by kernel_rfl) (fun _ _ _ h => h) (Or.inr ⟨by rfl, rfl⟩) hHeld ?_
    (try simp only [Act.put, List.setIfInBounds_toArray, List.set_cons_zero, List.set_cons_succ])
    refine wpAnyH_take (i := 6) (oi := { dst := some 80, op := Op.move (Operand.tmp 0), type := 9, pos := "law.go:122", after := #[{ on := 2, ground := Ground.guard }], guard := some (2, false) }) (v := undef) rfl (by kernel_rfl) (by kernel_rfl) (by kernel_rfl) (fun _ _ _ h => h) (Or.inr ⟨by rfl, rfl⟩) hHeld ?_
    (try simp only [Act.put, List.setIfInBounds_toArray, List.set_cons_zero, List.set_cons_succ])
    refine wpAnyH_take (i := 7) (oi := { dst := some 81, op := Op.call { callee := Callee.builtin Builtin.len, args := #[Operand.tmp 80], argTypes := #[9] }, type := 3, pos := "law.go:122", after := #[{ on := 6, ground := Ground.data }, { on := 2, ground := Ground.guard }], guard := some (2, false) }) (v := undef) rfl (by kernel_rfl) (by kernel_rfl) (by kernel_rfl) (fun _ _ _ h => h) (Or.inr ⟨by rfl, rfl⟩) hHeld ?_
    (try simp only [Act.put, List.setIfInBounds_toArray, List.set_cons_zero, List.set_cons_succ])
    refine wpAnyH_take (i := 8) (oi := { dst := some 82, op := Op.binOp BinOp.add 3 (Operand.tmp 79) (Operand.tmp 81) 3, type := 3, pos := "law.go:122", after := #[{ on := 5, ground := Ground.data }, { on := 7, ground := Ground.data }, { on := 2, ground := Ground.guard }], guard := some (2, false) }) (v := undef) rfl (by kernel_rfl) (by kernel_rfl) (by kernel_rfl) (fun _ _ _ h => h) (Or.inr ⟨by rfl, rfl⟩) hHeld ?_
    (try simp only [Act.put, List.setIfInBounds_toArray, List.set_cons_zero, List.set_cons_succ])
    refine wpAnyH_take (i := 9) (oi := { dst := some 83, op := Op.call { callee := Callee.value (Operand.func 19), args := #[Operand.tmp 78, Operand.tmp 82, Operand.const (Value.slice none 0 0)], argTypes := #[3, 3, 80] }, type := 29, pos := "law.go:122", after := #[{ on := 4, ground := Ground.data }, { on := 8, ground := Ground.data }, { on := 2, ground := Ground.chain }, { on := 2, ground := Ground.guard }], guard := some (2, false) }) (v := undef) rfl (by kernel_rfl) (by kernel_rfl) (by kernel_rfl) (fun _ _ _ h => h) (Or.inr ⟨by rfl, rfl⟩) hHeld ?_
    (try simp only [Act.put, List.setIfInBounds_toArray, List.set_cons_zero, List.set_cons_succ])
    refine wpAnyH_take (i := 10) (oi := { dst := some 84, op := Op.call { callee := Callee.value (Operand.func 18), args := #[Operand.tmp 77, Operand.tmp 83], argTypes := #[29, 29] }, type := 4, pos := "law.go:122", after := #[{ on := 3, ground := Ground.data }, { on := 9, ground := Ground.data }, { on := 9, ground := Ground.chain }, { on := 2, ground := Ground.guard }], guard := some (2, false) }) (v := undef) rfl (by kernel_rfl) (by kernel_rfl) (by kernel_rfl) (fun _ _ _ h => h) (Or.inr ⟨by rfl, rfl⟩) hHeld ?_
    (try simp only [Act.put, List.setIfInBounds_toArray, List.set_cons_zero, List.set_cons_succ])
    refine wpAnyH_take (i := 11) (oi := { dst := some 85, op := Op.pick (Operand.tmp 76) (Operand.const (Value.bool true)) (Operand.tmp 84), type := 4, pos := "law.go:122", after := #[{ on := 2, ground := Ground.data }, { on := 10, ground := Ground.data }], guard := none }) (v := .bool true) rfl (by kernel_rfl) (by kernel_rfl) (by kernel_rfl) (fun _ _ _ h => h) (Or.inl ⟨by rfl, fun wq _ => by go_simp⟩) hHeld ?_
    (try simp only [Act.put, List.setIfInBounds_toArray, List.set_cons_zero, List.set_cons_succ])
    refine wpAnyH_take (i := 12) (oi := { dst := some 86, op := Op.move (Operand.tmp 85), type := 4, pos := "law.go:122", after := #[{ on := 11, ground := Ground.data }, { on := 10, ground := Ground.chain }], guard := none }) (v := .bool true) rfl (by kernel_rfl) (by kernel_rfl) (by kernel_rfl) (fun _ _ _ h => h) (Or.inl ⟨by rfl, fun wq _ => by go_simp⟩) hHeld ?_
    (try simp only [Act.put, List.setIfInBounds_toArray, List.set_cons_zero, List.set_cons_succ])
    refine wpAnyH_ready (rs := [13]) (by kernel_rfl) (by simp) ?_
    refine AllReadyH.cons (o := { dst := some 87, op := Op.call { callee := Callee.value (Operand.func 10), args := #[], argTypes := #[] }, type := 4, pos := "law.go:122", after := #[{ on := 12, ground := Ground.chain }, { on := 12, ground := Ground.guard }], guard := some (12, true) }) rfl (fun K hK => ?_) AllReadyH.nil
    go_simp
    refine (AX.out _ hHeld).mono ?_
    rintro e w9 ⟨rfl, hb9⟩
    refine hK.out _ _ hb9 (fun hHeld2 => ?_)
    clear hK K hHeld
    have hHeld := hHeld2
    clear hHeld2
    (try simp only [Act.put, List.setIfInBounds_toArray, List.set_cons_zero, List.set_cons_succ])
    refine wpAnyH_take (i := 14) (oi := { dst := some 88, op := Op.pick (Operand.tmp 86) (Operand.tmp 87) (Operand.const (Value.bool false)), type := 4, pos := "law.go:122", after := #[{ on := 12, ground := Ground.data }, { on := 13, ground := Ground.data }], guard := none }) (v := .bool true) rfl (by kernel_rfl) (by kernel_rfl) (by kernel_rfl) (fun _ _ _ h => h) (Or.inl ⟨by rfl, fun wq _ => by go_simp⟩) hHeld ?_
    (try simp only [Act.put, List.setIfInBounds_toArray, List.set_cons_zero, List.set_cons_succ])
    refine wpAnyH_take (i := 15) (oi := { dst := some 6, op := Op.assign (Operand.tmp 88), type := 4, pos := "law.go:122", after := #[{ on := 14, ground := Ground.data }, { on := 13, ground := Ground.chain }, { on := 0, ground := Ground.phase }, { on := 1, ground := Ground.phase }, { on := 2, ground := Ground.phase }, { on := 3, ground := Ground.phase }, { on := 4, ground := Ground.phase }, { on := 5, ground := Ground.phase }, { on := 6, ground := Ground.phase }, { on := 7, ground := Ground.phase }, { on := 8, ground := Ground.phase }, { on := 9, ground := Ground.phase }, { on := 10, ground := Ground.phase }, { on := 11, ground := Ground.phase }, { on := 12, ground := Ground.phase }, { on := 13, ground := Ground.phase }, { on := 14, ground := Ground.phase }], guard := none }) (v := .bool true) rfl (by kernel_rfl) (by kernel_rfl) (by kernel_rfl) (fun _ _ _ h => h) (Or.inl ⟨by rfl, fun wq _ => by go_simp⟩) hHeld ?_
    (try simp only [Act.put, List.setIfInBounds_toArray, List.set_cons_zero, List.set_cons_succ])
    refine wpAnyH_done (by kernel_rfl) ?_ _
    refine NoPanic.normal ?_
    all_goals (
      go_wp2
      go_ret
      refine ⟨rfl, HB4.out.trans (Below.mono (B := V1.heap.size) ?_ HB4.out.size)⟩
      exact Hid.out (by assumption))

theorem reads (os : Os) {H : Type} (enc : TypeId × Value → H) : ∃ places, DataW.whole enc Tryd.prog ((World.laidAll Tryd.prog os L5).forCall (fun _ _ => 0) ⟨#[], #[.string ⟨#[49]⟩, .string ⟨#[49]⟩, .int .i64 1], []⟩).memory Tryd.f5.params.toList Rows.patternEscapesSpec.vars false #[Value.string ⟨#[49]⟩, .string ⟨#[49]⟩, .int .i64 1].toList 8 = some ([.lit (.string [49]), .lit (.string [49]), .lit (.int .i64 1)], [], places) :=
  ⟨[], by kernel_rfl⟩
set_option maxRecDepth 100000 in
theorem lifted (os : Os) (started : os.Started) (H : Type) (enc : TypeId × Value → H) (F : Stop.Interp) :
    ReturnsInHanded {} Tryd.checked os 5 .any ((OpenSpec.ofChange Rows.patternEscapesSpec).preRow enc Tryd.prog Tryd.f5 Rows.patternEscapesRow.domain false L5) (((OpenSpec.ofChange Rows.patternEscapesSpec).at F).post enc Tryd.prog Tryd.f5 false true false false) := by
  obtain ⟨places, hx⟩ := reads os enc
  refine returnsInHanded_of_row (C := Tryd.checked) (s := OpenSpec.ofChange Rows.patternEscapesSpec) own started (by kernel_rfl) Tryd.func5
    ⟨World.laidAll Tryd.prog os L5, fun _ _ => 0, ⟨#[], #[.string ⟨#[49]⟩, .string ⟨#[49]⟩, .int .i64 1], []⟩, World.laidAll_os _ _ _, wit_shaped os _, rfl, (Input.okWide_of_okWideB (by kernel_rfl)).2,
      OpenSpec.preRow_of_cond 8 hx (by kernel_rfl) (fun k hk => by cases hk) (by kernel_rfl) (laid_met os _), by
        simp only [Assume.holds]
        exact ⟨by simp, by simp, fun _ => Modest.zero, by simp, by simp⟩⟩ ?_
  intro W base args ds gs before hval0 hW _ _ _ hL hsh _
  have hE := env hL
  have hval : ∀ (j : Nat) t v, Tryd.f5.params[j]? = some t → args[j]? = some v → Value.okWide Tryd.prog W .any base t v := hval0
  have hW' := hW
  obtain ⟨p, q, hA0, hV, rfl, hfz, hnd⟩ := hW
  have hA : DataW.TrodAll enc Tryd.prog W 0 (fun _ => true) true Tryd.f5.params.toList args.toList ds p := hA0
  rw [Tryd.params5] at hA hval
  obtain ⟨v0, vs0, d0, ds0, p_0, q_0, hargs, rfl, rfl, h0, r0⟩ := trodAll_cons hA
  obtain ⟨v1, vs1, d1, ds1, p_1, q_1, rfl, rfl, rfl, h1, r1⟩ := trodAll_cons r0
  obtain ⟨v2, vs2, d2, ds2, p_2, q_2, rfl, rfl, rfl, h2, r2⟩ := trodAll_cons r1
  obtain ⟨rfl, rfl, rfl⟩ := trodAll_nil r2
  obtain rfl : args = #[v0, v1, v2] := by cases args; simp_all
  obtain ⟨rfl, rfl⟩ := trodVars_none hV
  obtain ⟨s0, rfl, rfl, rfl, hm0⟩ := open_string Tryd.underlying9 (hval 0 9 v0 rfl rfl) h0
  obtain ⟨s1, rfl, rfl, rfl, hm1⟩ := open_string Tryd.underlying9 (hval 1 9 v1 rfl rfl) h1
  obtain ⟨n2, rfl, rfl, rfl, wn2⟩ := open_int Tryd.underlying3 (hval 2 3 v2 rfl rfl) h2
  clear hA0 hval0
  simp only [List.append_nil] at hW'
  refine (walk s0 hm0 s1 hm1 n2 wn2 W hE).mono fun e W' ⟨he, bel⟩ => ?_
  subst he
  exact ⟨_, rfl, _, _, _, [], [], [], hW', trodAll_mk1 (shut_bool Tryd.underlying4 _), (trodAll_cons_mk (shut_string Tryd.underlying9 hm0) (trodAll_cons_mk (shut_string Tryd.underlying9 hm1) (trodAll_cons_mk (shut_int Tryd.underlying3 wn2) trodAll_mk0))), rfl, bel.frame _, fun h => by cases h⟩

theorem said : Rows.PatternEscapesSaid :=
  OpenClaim.holds_of_cond 5 Tryd.f5 rfl rfl rfl rfl rfl rfl rfl ⟨rfl, rfl, rfl, rfl, rfl⟩ rfl rfl rfl rfl rfl (by kernel_rfl) Tryd.func5 (by kernel_rfl)
    (of_decide_eq_true (by kernel_rfl)) (by unfold Func.isWrapper; first | (rw [if_pos (by decide +kernel)]; kernel_rfl) | (rw [if_neg (by decide +kernel)]; exact ⟨rfl, rfl⟩))
    (fun os started H enc _ F => by rw [OpenClaim.pre_eq_preRow]; exact lifted os started H enc F)
theorem plain (f : FuncId) (fn : Func) (hf : Tryd.pinned.checked.prog.funcNamed "scripting/scriptinglaw04.PatternEscapes" = some f) (hfn : Tryd.pinned.checked.prog.funcs[f]? = some fn) :
    false = Tryd.pinned.checked.prog.looks [] ∧ ∀ (j : Nat) t, fn.params[j]? = some t → Tryd.pinned.checked.prog.wantsStandIn t = false := by
  obtain rfl : f = 5 := Option.some.inj ((show Tryd.prog.funcNamed "scripting/scriptinglaw04.PatternEscapes" = some 5 by kernel_rfl).symm.trans hf) |>.symm
  obtain rfl : fn = Tryd.f5 := (Option.some.inj (Tryd.func5.symm.trans hfn)).symm
  refine ⟨by kernel_rfl, fun j t ht => ?_⟩
  rw [Tryd.params5] at ht
  have hm : t ∈ [9, 9, 3] := by simpa using Array.mem_of_getElem? ht
  have hall : ([9, 9, 3].all fun u => !Tryd.prog.wantsStandIn u) = true := by kernel_rfl
  exact (show Tryd.prog.wantsStandIn t = false by simpa using List.all_eq_true.1 hall t hm)

/-- The given statement. -/
theorem proved : Rows.PatternEscapesCardSaid :=
  Claim7.holds_tied_plain_at .later [] _ _ _ _ said (fun _ h => by cases h) (by kernel_rfl) (fun _ h => by cases h) patternEscapes_row_tie rfl ⟨rfl, rfl⟩ (by kernel_rfl) rfl plain (by kernel_rfl)
#print axioms proved
end Go.Proofs.YtkbcaklleiapdaaDoor.patternEscapesLaw
