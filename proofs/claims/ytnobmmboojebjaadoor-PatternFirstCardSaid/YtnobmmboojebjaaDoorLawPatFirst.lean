/- PatternFirst. No condition. -/
import Derived.Test.YtnobmmboojebjaaDoorPatTc
namespace Go.Proofs.YtnobmmboojebjaaDoor.patternFirstLaw
open Go.ChangeMaps (open_string shut_string)
open Go.ChangeShapes Go.WideShapes Go.ChangeAt Go.RowKit Go.Joins M4
set_option linter.unusedVariables false


set_option maxHeartbeats 16000000 in
set_option maxRecDepth 100000 in
theorem walk (s0 : ByteArray) (hm0 : s0.size ≤ maxLen) (s1 : ByteArray) (hm1 : s1.size ≤ maxLen) (n2 : Int) (wn2 : (Lit.int .i64 n2).wf = true) (w : World) (he : Tab w) :
    Calls Tryd.prog 6 #[.string s0, .string s1, .int .i64 n2] w fun e w' => e = .returned (.bool true) ∧ Below w.heap.size w w' := by
  have AW := Lib.hid fun W (hb : Below w.heap.size w W) => awake_any W (tab_below he hb)
  clear he
  by_cases hbig : 300 < s0.size
  · have hbig' : 300 < (s0.size : Int) := by omega
    go_enter Tryd.func6, Tryd.ntmps6
    go_wp2_with (go_at_call 10; (with_reducible refine (AW.out _ ?_).mono ?_); exact Below.refl _ _; rintro e w9 ⟨rfl, hb9⟩)
    go_ret
    exact ⟨rfl, hb9⟩
  have hbig' : ¬ 300 < (s0.size : Int) := by omega
  by_cases hbig1 : 100 < s1.size
  · have hbig1' : 100 < (s1.size : Int) := by omega
    go_enter Tryd.func6, Tryd.ntmps6
    go_wp2_with (go_at_call 10; (with_reducible refine (AW.out _ ?_).mono ?_); exact Below.refl _ _; rintro e w9 ⟨rfl, hb9⟩)
    go_ret
    exact ⟨rfl, hb9⟩
  have hbig1' : ¬ 100 < (s1.size : Int) := by omega
  by_cases hneg : n2 < 0
  · go_enter Tryd.func6, Tryd.ntmps6
    go_wp2_with (go_at_call 10; (with_reducible refine (AW.out _ ?_).mono ?_); exact Below.refl _ _; rintro e w9 ⟨rfl, hb9⟩)
    go_ret
    exact ⟨rfl, hb9⟩
  by_cases hout : (s0.size : Int) < n2
  · go_enter Tryd.func6, Tryd.ntmps6
    go_wp2_with (go_at_call 10; (with_reducible refine (AW.out _ ?_).mono ?_); exact Below.refl _ _; rintro e w9 ⟨rfl, hb9⟩)
    go_ret
    exact ⟨rfl, hb9⟩
  obtain ⟨i0, rfl⟩ := Int.eq_ofNat_of_zero_le (show 0 ≤ n2 by omega)
  have hi0 : i0 ≤ s0.size := by omega
  have hsl : s0.data.toList.length = s0.size := by simp
  cases hr : readF s1.data.toList with
  | error c =>
    have hc : 0 < c := by rcases read_err hr with h | h <;> omega
    have QF := Lib.hid fun W => (find_err s0 s1 (i0 : Int) W (by omega) c hc hr).mono fun e w' h => an_err h
    have QC : Hid (∀ W, Calls Tryd.prog 11 #[.string s1] W fun e w' => e = .returned (.int .i64 (c : Int)) ∧ Below W.heap.size W w') := Lib.hid fun W => by
      have h := check_any s1 W (by omega)
      rw [hr] at h; exact h
    have y1 : ((c : Int) != 0) = true := by rw [bne_iff_ne]; omega
    clear hr
    go_enter Tryd.func6, Tryd.ntmps6
    go_upto_region 4 with (go_at_call 20; (with_reducible refine (QF.out _).mono ?_); rintro e w1 ⟨⟨q, c, rfl, ho⟩, hb1⟩)
    have HB1 : Hid (∀ o, Below w.heap.size w (w1.alloc o)) := Lib.hid fun o => hb1.alloc hb1.size o
    clear hb1 ho
    go_wp2_with (first | (go_at_call 11; (with_reducible refine (QC.out _).mono ?_); rintro e w2 ⟨rfl, hb2⟩; have HB2 := Lib.hid ((HB1.out _).trans (hb2.mono (HB1.out _).size)); clear hb2) | (go_at_call 10; (with_reducible refine (AW.out _ ?_).mono ?_); exact HB2.out; rintro e w9 ⟨rfl, hb9⟩))
    go_ret
    exact ⟨rfl, HB2.out.trans (hb9.mono HB2.out.size)⟩
  | ok g =>
    have hg := gok_read hr
    have hst := read_start hr
    have hF := fun W => find_fn s0 s1 i0 W (by omega) (by omega) g hr hi0
    cases hs : g.start with
    | true =>
      rw [hs] at hF hst
      simp only [if_true] at hF
      have h94 : s1.data.toList[0]? = some 94 := by simpa using hst.symm
      have hp0 : 0 < s1.size := by
        rcases Nat.eq_zero_or_pos s1.size with h | h
        · rw [zero_none s1 h] at h94; cases h94
        · exact h
      rw [zero_get s1 hp0] at h94
      have hb0 : s1[0] = 94 := Option.some.inj h94
      have hpe : s1.toList.isEmpty = false := not_empty s1 hp0
      have hb1 : ((s1[0].toNat : Int) == 94) = true := by rw [hb0]; rfl
      have hA := fun W => at_fn s0 s1 i0 W (by omega) (by omega) g hr hi0
      generalize hR : firstM s0.data.toList g 1 i0 100000 = R at *
      cases R with
      | none =>
        have QF := Lib.hid fun W => (hF W).mono fun e w' h => an_none h
        have QC : Hid (∀ W, Calls Tryd.prog 11 #[.string s1] W fun e w' => e = .returned (.int .i64 0) ∧ Below W.heap.size W w') := Lib.hid fun W => by
          have h := check_any s1 W (by omega)
          rw [hr] at h; exact h
        clear hF hA hR hr h94 hst
        go_enter Tryd.func6, Tryd.ntmps6
        go_upto_region 4 with (go_at_call 20; (with_reducible refine (QF.out _).mono ?_); rintro e w1 ⟨⟨q, c, rfl, ho⟩, hb1⟩)
        have HB1 : Hid (∀ o, Below w.heap.size w (w1.alloc o)) := Lib.hid fun o => hb1.alloc hb1.size o
        clear hb1 ho
        go_wp2_with (first | (go_at_call 11; (with_reducible refine (QC.out _).mono ?_); rintro e w2 ⟨rfl, hb2⟩; have HB2 := Lib.hid ((HB1.out _).trans (hb2.mono (HB1.out _).size)); clear hb2) | (go_at_call 10; (with_reducible refine (AW.out _ ?_).mono ?_); exact HB2.out; rintro e w9 ⟨rfl, hb9⟩))
        go_ret
        exact ⟨rfl, HB2.out.trans (hb9.mono HB2.out.size)⟩
      | some o =>
        obtain ⟨fr, tt, n, m, ok, hm, h16, hF2, hA2⟩ : ∃ (fr tt n : Nat) (m : Caps) (ok : Bool), m.length = n ∧ n ≤ 16 ∧ (∀ W, Calls Tryd.prog 20 #[.string s0, .string s1, .int .i64 (i0 : Int)] W (An fr tt n m ok 0 W)) ∧ ∀ W, Calls Tryd.prog 17 #[.string s0, .string s1, .int .i64 (i0 : Int)] W (An fr tt n m ok 0 W) := by
          cases o with
          | none => exact ⟨0, 0, 0, [], false, rfl, by decide, fun W => (hF W).mono fun e w' h => an_no h, fun W => (hA W).mono fun e w' h => an_no h⟩
          | some m =>
            have hk := (firstM_ok hg 1 i0 100000 m (by omega) hR).1
            exact ⟨m.fr, m.to, g.caps, m.caps, true, hk.len, hg.2.2, fun W => (hF W).mono fun e w' h => an_yes h, fun W => (hA W).mono fun e w' h => an_yes h⟩
        have QF := Lib.hid hF2
        have QA := Lib.hid hA2
        have HM := Lib.hid hm
        have H16 := Lib.hid h16
        clear hF hA hF2 hA2 hm h16 hR hr h94 hst hs hb0
        go_enter Tryd.func6, Tryd.ntmps6
        go_upto_region 4 with (go_at_call 20; (with_reducible refine (QF.out _).mono ?_); rintro e w1 ⟨⟨q, c, rfl, ho1⟩, hb1⟩)
        obtain ⟨V1, hV1⟩ : ∃ V1, w1.alloc (.cells #[.int .i64 (fr : Int), .int .i64 (tt : Int), .slice q n c] 29) = V1 := ⟨_, rfl⟩
        obtain ⟨X1, hX1⟩ : ∃ X1, w1.heap.size = X1 := ⟨_, rfl⟩
        have HMV1 : Hid (Mtb X1 #[.int .i64 (fr : Int), .int .i64 (tt : Int), .slice q n c] V1) := Lib.hid (by rw [← hV1, ← hX1]; exact mtb_new _ _ _ rfl)
        have HCV1 : Hid (Ch [] w1 V1) := Lib.hid (by rw [← hV1]; exact (Ch.refl _ _).alloc _)
        rw [hV1]
        simp only [hX1]
        clear hV1 hX1
        have HO1 := Lib.hid ho1
        have HB1 := Lib.hid (hb1.trans (HCV1.out.below.mono hb1.size))
        clear ho1 hb1
        go_upto_region 8 with (go_at_call 17; (with_reducible refine (QA.out _).mono ?_); rintro e w2 ⟨⟨q2, c2, rfl, ho2⟩, hb2⟩)
        obtain ⟨V2, hV2⟩ : ∃ V2, w2.alloc (.cells #[.int .i64 (fr : Int), .int .i64 (tt : Int), .slice q2 n c2] 29) = V2 := ⟨_, rfl⟩
        obtain ⟨X2, hX2⟩ : ∃ X2, w2.heap.size = X2 := ⟨_, rfl⟩
        have HMV2 : Hid (Mtb X2 #[.int .i64 (fr : Int), .int .i64 (tt : Int), .slice q2 n c2] V2) := Lib.hid (by rw [← hV2, ← hX2]; exact mtb_new _ _ _ rfl)
        have HCV2 : Hid (Ch [] w2 V2) := Lib.hid (by rw [← hV2]; exact (Ch.refl _ _).alloc _)
        rw [hV2]
        simp only [hX2]
        clear hV2 hX2
        have hC12 : Ch [] V1 V2 := (Ch.of_below hb2).trans HCV2.out
        have HB2 := Lib.hid (HB1.out.trans (hC12.below.mono HB1.out.size))
        have HMV1x := HMV1.out.ch hC12 (by simp)
        have HMV2x := HMV2.out
        have a0 := HMV1x.cell 0
        have a1 := HMV1x.cell 1
        have a2 := HMV1x.cell 2
        simp at a0 a1 a2
        have b0 := HMV2x.cell 0
        have b1 := HMV2x.cell 1
        have b2 := HMV2x.cell 2
        simp at b0 b1 b2
        have QS := Lib.hid (same_an (fr := fr) (tt := tt) HM.out H16.out HO1.out ho2 (HCV1.out.trans hC12) HCV2.out)
        clear ho2 hb2 hC12 HMV1x HMV2x HMV1 HMV2 HCV1 HCV2 HO1
        go_wp2_with (first | (go_at_call 18; (with_reducible refine (QS.out).mono ?_); rintro e w3 ⟨rfl, hb3⟩; have HB3 := Lib.hid (HB2.out.trans (hb3.mono HB2.out.size)); clear hb3) | (go_at_call 10; (with_reducible refine (AW.out _ ?_).mono ?_); exact HB3.out; rintro e w9 ⟨rfl, hb9⟩))
        go_ret
        exact ⟨rfl, HB3.out.trans (hb9.mono HB3.out.size)⟩
    | false =>
      rw [hs] at hF hst
      simp only [Bool.false_eq_true, if_false] at hF
      have h94 : ¬ s1.data.toList[0]? = some 94 := by simpa using hst.symm
      generalize hR : firstM s0.data.toList g (s0.size + 1 - i0) i0 100000 = R at *
      cases R with
      | none =>
        have QF := Lib.hid fun W => (hF W).mono fun e w' h => an_none h
        have QC : Hid (∀ W, Calls Tryd.prog 11 #[.string s1] W fun e w' => e = .returned (.int .i64 0) ∧ Below W.heap.size W w') := Lib.hid fun W => by
          have h := check_any s1 W (by omega)
          rw [hr] at h; exact h
        clear hF hR hr h94 hst
        go_enter Tryd.func6, Tryd.ntmps6
        go_upto_region 4 with (go_at_call 20; (with_reducible refine (QF.out _).mono ?_); rintro e w1 ⟨⟨q, c, rfl, ho⟩, hb1⟩)
        have HB1 : Hid (∀ o, Below w.heap.size w (w1.alloc o)) := Lib.hid fun o => hb1.alloc hb1.size o
        clear hb1 ho
        go_wp2_with (first | (go_at_call 11; (with_reducible refine (QC.out _).mono ?_); rintro e w2 ⟨rfl, hb2⟩; have HB2 := Lib.hid ((HB1.out _).trans (hb2.mono (HB1.out _).size)); clear hb2) | (go_at_call 10; (with_reducible refine (AW.out _ ?_).mono ?_); exact HB2.out; rintro e w9 ⟨rfl, hb9⟩))
        go_ret
        exact ⟨rfl, HB2.out.trans (hb9.mono HB2.out.size)⟩
      | some o =>
        have hhead : (s1.size = 0 ∧ s1.toList.isEmpty = true) ∨ (∃ h : 0 < s1.size, s1.toList.isEmpty = false ∧ ((s1[0].toNat : Int) == 94) = false) := by
          rcases Nat.eq_zero_or_pos s1.size with h | h
          · left; exact ⟨h, by rw [Lib.toList_data, List.isEmpty_iff]; exact List.eq_nil_of_length_eq_zero (by simpa using h)⟩
          · right
            refine ⟨h, not_empty s1 h, ?_⟩
            rw [zero_get s1 h] at h94
            rw [beq_eq_false_iff_ne]
            intro e
            exact h94 (by rw [UInt8.toNat_inj.1 (by have : s1[0].toNat = 94 := by exact_mod_cast e
                                                    rw [this]; rfl : s1[0].toNat = (94 : UInt8).toNat)])
        cases o with
        | none =>
          have QF := Lib.hid fun W => (hF W).mono fun e w' h => an_no h
          have hno := first_no _ _ _ hR
          have QA : Hid (∀ i, i0 ≤ i → i ≤ s0.size → ∀ W, Calls Tryd.prog 17 #[.string s0, .string s1, .int .i64 (i : Int)] W (An 0 0 0 [] false 0 W)) := Lib.hid fun i h1 h2 W => ata_no s0 s1 i W (by omega) (by omega) g hr h2 (hno i h1 (by omega))
          clear hF hR hr h94 hst hno
          rcases hhead with ⟨hp0, hpe⟩ | ⟨hp0, hpe, hb0⟩
          all_goals (
            go_enter Tryd.func6, Tryd.ntmps6
            go_upto_region 4 with (go_at_call 20; (with_reducible refine (QF.out _).mono ?_); rintro e w1 ⟨⟨q, c, rfl, ho1⟩, hb1⟩)
            obtain ⟨V1, hV1⟩ : ∃ V1, w1.alloc (.cells #[.int .i64 0, .int .i64 0, .slice q 0 c] 29) = V1 := ⟨_, rfl⟩
            obtain ⟨X1, hX1⟩ : ∃ X1, w1.heap.size = X1 := ⟨_, rfl⟩
            have HMV1 : Hid (Mtb X1 #[.int .i64 0, .int .i64 0, .slice q 0 c] V1) := Lib.hid (by rw [← hV1, ← hX1]; exact mtb_new _ _ _ rfl)
            have HCV1 : Hid (Ch [] w1 V1) := Lib.hid (by rw [← hV1]; exact (Ch.refl _ _).alloc _)
            rw [hV1]
            simp only [hX1]
            clear hV1 hX1
            have HO1 := Lib.hid ho1
            have HB1 := Lib.hid (hb1.trans (HCV1.out.below.mono hb1.size))
            clear ho1 hb1
            go_upto_region 9 with fail
            go_wp2
            go_loopw [13] (fun v13 wr => ∃ i : Nat, i0 ≤ i ∧ i ≤ s0.size + 1 ∧ v13 = .int .i64 (i : Int) ∧ Hid (Below w.heap.size w wr)) (fun v13 _ => s0.size + 1 - (intOf v13).toNat)
            case atStart => exact ⟨i0, Nat.le_refl _, by omega, rfl, HB1⟩
            case round =>
              obtain ⟨i, hi0, hi1, rfl, HB⟩ := hrel
              rename World => W0
              have hk1 := i64w ((i : Int) + 1) (by omega)
              by_cases hlt : i ≤ s0.size
              · have hlt' : (i : Int) ≤ (s0.size : Int) := by omega
                have QAi := Lib.hid fun W => QA.out i hi0 hlt W
                go_upto_region 13 with (go_at_call 17; (with_reducible refine (QAi.out _).mono ?_); rintro e w2 ⟨⟨q2, c2, rfl, -⟩, hb2⟩)
                have HB2 : Hid (∀ o, Below w.heap.size w (w2.alloc o)) := Lib.hid fun o => (HB.out.trans (hb2.mono HB.out.size)).alloc (Nat.le_trans HB.out.size hb2.size) o
                clear hb2
                go_wp2
                go_roundw
                case rel => exact ⟨i + 1, by omega, by omega, by go_num, Lib.hid (HB2.out _)⟩
                case measure => simp [intOf]; omega
              · have hlt' : ¬ (i : Int) ≤ (s0.size : Int) := by omega
                go_wp2_with (go_at_call 10; (with_reducible refine (AW.out _ ?_).mono ?_); exact HB.out; rintro e w9 ⟨rfl, hb9⟩)
                go_ret
                exact ⟨rfl, HB.out.trans (hb9.mono HB.out.size)⟩
)
        | some m =>
          have QF := Lib.hid fun W => (hF W).mono fun e w' h => an_yes h
          have hk := firstM_ok hg _ i0 100000 m (by omega) hR
          have hat := first_at _ _ _ _ hR
          obtain ⟨fr, tt, cs⟩ := m
          simp only [] at QF hk hat
          have hif : i0 ≤ fr := hk.2.1
          have hfs : fr ≤ s0.size := by have h1 := hk.1.le; have h2 := hk.1.hi; simp only [] at h1 h2; omega
          have QA : Hid (∀ i, i0 ≤ i → i < fr → ∀ W, Calls Tryd.prog 17 #[.string s0, .string s1, .int .i64 (i : Int)] W (An 0 0 0 [] false 0 W)) := Lib.hid fun i h1 h2 W => ata_no s0 s1 i W (by omega) (by omega) g hr (by omega) (hat.1 i h1 h2)
          have QY : Hid (∀ W, Calls Tryd.prog 17 #[.string s0, .string s1, .int .i64 (fr : Int)] W (An fr tt g.caps cs true 0 W)) := Lib.hid fun W => ata_yes s0 s1 fr W (by omega) (by omega) g hr hfs tt cs hat.2
          have HM := Lib.hid hk.1.len
          have H16 := Lib.hid hg.2.2
          simp only [] at HM
          clear hF hR hr h94 hst hk hat
          generalize g.caps = n at *
          rcases hhead with ⟨hp0, hpe⟩ | ⟨hp0, hpe, hb0⟩
          all_goals (
            go_enter Tryd.func6, Tryd.ntmps6
            go_upto_region 4 with (go_at_call 20; (with_reducible refine (QF.out _).mono ?_); rintro e w1 ⟨⟨q, c, rfl, ho1⟩, hb1⟩)
            obtain ⟨V1, hV1⟩ : ∃ V1, w1.alloc (.cells #[.int .i64 (fr : Int), .int .i64 (tt : Int), .slice q n c] 29) = V1 := ⟨_, rfl⟩
            obtain ⟨X1, hX1⟩ : ∃ X1, w1.heap.size = X1 := ⟨_, rfl⟩
            have HMV1 : Hid (Mtb X1 #[.int .i64 (fr : Int), .int .i64 (tt : Int), .slice q n c] V1) := Lib.hid (by rw [← hV1, ← hX1]; exact mtb_new _ _ _ rfl)
            have HCV1 : Hid (Ch [] w1 V1) := Lib.hid (by rw [← hV1]; exact (Ch.refl _ _).alloc _)
            rw [hV1]
            simp only [hX1]
            clear hV1 hX1
            have HO1 := Lib.hid ho1
            have HB1 := Lib.hid (hb1.trans (HCV1.out.below.mono hb1.size))
            clear ho1 hb1
            go_upto_region 9 with fail
            go_wp2
            go_loopw [13] (fun v13 wr => ∃ i : Nat, i0 ≤ i ∧ i ≤ fr ∧ v13 = .int .i64 (i : Int) ∧ Hid (Ch [] V1 wr)) (fun v13 _ => s0.size + 1 - (intOf v13).toNat)
            case atStart => exact ⟨i0, Nat.le_refl _, hif, rfl, Lib.hid (Ch.refl _ _)⟩
            case round =>
              obtain ⟨i, hi0, hi1, rfl, HC⟩ := hrel
              rename World => W0
              have hk1 := i64w ((i : Int) + 1) (by omega)
              have hlt' : (i : Int) ≤ (s0.size : Int) := by omega
              by_cases hlt : i < fr
              · have QAi := Lib.hid fun W => QA.out i hi0 hlt W
                go_upto_region 13 with (go_at_call 17; (with_reducible refine (QAi.out _).mono ?_); rintro e w2 ⟨⟨q2, c2, rfl, -⟩, hb2⟩)
                have HC2 : Hid (∀ o, Ch [] V1 (w2.alloc o)) := Lib.hid fun o => (HC.out.trans (Ch.of_below hb2)).alloc o
                clear hb2
                go_wp2
                go_roundw
                case rel => exact ⟨i + 1, by omega, by omega, by go_num, Lib.hid (HC2.out _)⟩
                case measure => simp [intOf]; omega
              · obtain rfl : i = fr := by omega
                go_upto_region 13 with (go_at_call 17; (with_reducible refine (QY.out _).mono ?_); rintro e w2 ⟨⟨q2, c2, rfl, ho2⟩, hb2⟩)
                obtain ⟨V2, hV2⟩ : ∃ V2, w2.alloc (.cells #[.int .i64 (i : Int), .int .i64 (tt : Int), .slice q2 n c2] 29) = V2 := ⟨_, rfl⟩
                obtain ⟨X2, hX2⟩ : ∃ X2, w2.heap.size = X2 := ⟨_, rfl⟩
                have HMV2 : Hid (Mtb X2 #[.int .i64 (i : Int), .int .i64 (tt : Int), .slice q2 n c2] V2) := Lib.hid (by rw [← hV2, ← hX2]; exact mtb_new _ _ _ rfl)
                have HCV2 : Hid (Ch [] w2 V2) := Lib.hid (by rw [← hV2]; exact (Ch.refl _ _).alloc _)
                rw [hV2]
                simp only [hX2]
                clear hV2 hX2
                have hC12 : Ch [] V1 V2 := HC.out.trans ((Ch.of_below hb2).trans HCV2.out)
                have HB2 := Lib.hid (HB1.out.trans (hC12.below.mono HB1.out.size))
                have HMV1x := HMV1.out.ch hC12 (by simp)
                have HMV2x := HMV2.out
                have a0 := HMV1x.cell 0
                have a1 := HMV1x.cell 1
                have a2 := HMV1x.cell 2
                simp at a0 a1 a2
                have b0 := HMV2x.cell 0
                have b1 := HMV2x.cell 1
                have b2 := HMV2x.cell 2
                simp at b0 b1 b2
                have QS := Lib.hid (same_an (fr := i) (tt := tt) HM.out H16.out HO1.out ho2 (HCV1.out.trans hC12) HCV2.out)
                clear ho2 hb2 hC12 HMV1x HMV2x HMV1 HMV2 HCV1 HCV2 HO1 HC
                go_wp2_with (first | (go_at_call 18; (with_reducible refine (QS.out).mono ?_); rintro e w3 ⟨rfl, hb3⟩; have HB3 := Lib.hid (HB2.out.trans (hb3.mono HB2.out.size)); clear hb3) | (go_at_call 10; (with_reducible refine (AW.out _ ?_).mono ?_); exact HB3.out; rintro e w9 ⟨rfl, hb9⟩))
                go_ret
                exact ⟨rfl, HB3.out.trans (hb9.mono HB3.out.size)⟩
)

theorem reads (os : Os) {H : Type} (enc : TypeId × Value → H) : ∃ places, DataW.whole enc Tryd.prog ((World.laidAll Tryd.prog os L5).forCall (fun _ _ => 0) ⟨#[], #[.string ⟨#[49]⟩, .string ⟨#[49]⟩, .int .i64 1], []⟩).memory Tryd.f6.params.toList Rows.patternFirstSpec.vars false #[Value.string ⟨#[49]⟩, .string ⟨#[49]⟩, .int .i64 1].toList 8 = some ([.lit (.string [49]), .lit (.string [49]), .lit (.int .i64 1)], [], places) :=
  ⟨[], by kernel_rfl⟩
set_option maxRecDepth 100000 in
theorem lifted (os : Os) (started : os.Started) (H : Type) (enc : TypeId × Value → H) (F : Stop.Interp) :
    ReturnsInHanded {} Tryd.checked os 6 .any ((OpenSpec.ofChange Rows.patternFirstSpec).preRow enc Tryd.prog Tryd.f6 Rows.patternFirstRow.domain false L5) (((OpenSpec.ofChange Rows.patternFirstSpec).at F).post enc Tryd.prog Tryd.f6 false true false false) := by
  obtain ⟨places, hx⟩ := reads os enc
  refine returnsInHanded_of_row (C := Tryd.checked) (s := OpenSpec.ofChange Rows.patternFirstSpec) own started (by kernel_rfl) Tryd.func6
    ⟨World.laidAll Tryd.prog os L5, fun _ _ => 0, ⟨#[], #[.string ⟨#[49]⟩, .string ⟨#[49]⟩, .int .i64 1], []⟩, World.laidAll_os _ _ _, wit_shaped os _, rfl, (Input.okWide_of_okWideB (by kernel_rfl)).2,
      OpenSpec.preRow_of_cond 8 hx (by kernel_rfl) (fun k hk => by cases hk) (by kernel_rfl) (laid_met os _), by
        simp only [Assume.holds]
        exact ⟨by simp, by simp, fun _ => Modest.zero, by simp, by simp⟩⟩ ?_
  intro W base args ds gs before hval0 hW _ _ _ hL hsh _
  have hE := env hL
  have hval : ∀ (j : Nat) t v, Tryd.f6.params[j]? = some t → args[j]? = some v → Value.okWide Tryd.prog W .any base t v := hval0
  have hW' := hW
  obtain ⟨p, q, hA0, hV, rfl, hfz, hnd⟩ := hW
  have hA : DataW.TrodAll enc Tryd.prog W 0 (fun _ => true) true Tryd.f6.params.toList args.toList ds p := hA0
  rw [Tryd.params6] at hA hval
  obtain ⟨v0, vs0, d0, ds0, p_0, q_0, hargs, rfl, rfl, h0, r0⟩ := trodAll_cons hA
  obtain ⟨v1, vs1, d1, ds1, p_1, q_1, rfl, rfl, rfl, h1, r1⟩ := trodAll_cons r0
  obtain ⟨v2, vs2, d2, ds2, p_2, q_2, rfl, rfl, rfl, h2, r2⟩ := trodAll_cons r1
  obtain ⟨rfl, rfl, rfl⟩ := trodAll_nil r2
  obtain rfl : args = #[v0, v1, v2] := by cases args; simp_all
  obtain ⟨rfl, rfl⟩ := trodVars_none hV
  obtain ⟨s0, rfl, rfl, rfl, hm0⟩ := open_string Tryd.underlying9 (hval 0 9 v0 rfl rfl) h0
  obtain ⟨s1, rfl, rfl, rfl, hm1⟩ := open_string Tryd.underlying9 (hval 1 9 v1 rfl rfl) h1
  obtain ⟨n2, rfl, rfl, rfl, wn2⟩ := open_int Tryd.underlying3 (hval 2 3 v2 rfl rfl) h2
  clear hA0 hval0
  simp only [List.append_nil] at hW'
  refine (walk s0 hm0 s1 hm1 n2 wn2 W hE).mono fun e W' ⟨he, bel⟩ => ?_
  subst he
  exact ⟨_, rfl, _, _, _, [], [], [], hW', trodAll_mk1 (shut_bool Tryd.underlying4 _), (trodAll_cons_mk (shut_string Tryd.underlying9 hm0) (trodAll_cons_mk (shut_string Tryd.underlying9 hm1) (trodAll_cons_mk (shut_int Tryd.underlying3 wn2) trodAll_mk0))), rfl, bel.frame _, fun h => by cases h⟩

theorem said : Rows.PatternFirstSaid :=
  OpenClaim.holds_of_cond 6 Tryd.f6 rfl rfl rfl rfl rfl rfl rfl ⟨rfl, rfl, rfl, rfl, rfl⟩ rfl rfl rfl rfl rfl (by kernel_rfl) Tryd.func6 (by kernel_rfl)
    (of_decide_eq_true (by kernel_rfl)) (by unfold Func.isWrapper; first | (rw [if_pos (by decide +kernel)]; kernel_rfl) | (rw [if_neg (by decide +kernel)]; exact ⟨rfl, rfl⟩))
    (fun os started H enc _ F => by rw [OpenClaim.pre_eq_preRow]; exact lifted os started H enc F)
theorem plain (f : FuncId) (fn : Func) (hf : Tryd.pinned.checked.prog.funcNamed "scripting/scriptinglaw04.PatternFirst" = some f) (hfn : Tryd.pinned.checked.prog.funcs[f]? = some fn) :
    false = Tryd.pinned.checked.prog.looks [] ∧ ∀ (j : Nat) t, fn.params[j]? = some t → Tryd.pinned.checked.prog.wantsStandIn t = false := by
  obtain rfl : f = 6 := Option.some.inj ((show Tryd.prog.funcNamed "scripting/scriptinglaw04.PatternFirst" = some 6 by kernel_rfl).symm.trans hf) |>.symm
  obtain rfl : fn = Tryd.f6 := (Option.some.inj (Tryd.func6.symm.trans hfn)).symm
  refine ⟨by kernel_rfl, fun j t ht => ?_⟩
  rw [Tryd.params6] at ht
  have hm : t ∈ [9, 9, 3] := by simpa using Array.mem_of_getElem? ht
  have hall : ([9, 9, 3].all fun u => !Tryd.prog.wantsStandIn u) = true := by kernel_rfl
  exact (show Tryd.prog.wantsStandIn t = false by simpa using List.all_eq_true.1 hall t hm)

/-- The given statement. -/
theorem proved : Rows.PatternFirstCardSaid :=
  Claim7.holds_tied_plain_at .later [] _ _ _ _ said (fun _ h => by cases h) (by kernel_rfl) (fun _ h => by cases h) patternFirst_row_tie rfl ⟨rfl, rfl⟩ (by kernel_rfl) rfl plain (by kernel_rfl)
#print axioms proved
end Go.Proofs.YtnobmmboojebjaaDoor.patternFirstLaw
