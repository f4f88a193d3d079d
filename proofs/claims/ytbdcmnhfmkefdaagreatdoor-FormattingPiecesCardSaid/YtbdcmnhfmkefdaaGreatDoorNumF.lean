/- Contracts of layer 2: the reference's numerals. -/
import Derived.Test.YtbdcmnhfmkefdaaGreatDoorNumE
import Derived.Deep.DeepCutAuto
namespace Go.Proofs.YtbdcmnhfmkefdaaGreatDoor
open Go.RowKit M1 M2
set_option linter.unusedVariables false

theorem byte_iff (s : ByteArray) (n : Nat) (h : n < s.size) (c : UInt8) : s.data.toList[n]? = some c ↔ ((s[n].toNat : Int) == (c.toNat : Int)) = true := by
  rw [List.getElem?_eq_getElem (by simpa using h), beq_iff_eq]
  show some s[n] = some c ↔ _
  rw [Option.some.injEq, ← UInt8.toNat_inj]
  omega
theorem cnt_pos (s : ByteArray) (b : Int) (n : Nat) : 0 < cnt b (s.data.toList.drop n) ↔ ∃ h : n < s.size, isd b s[n] = true := by
  by_cases h : n < s.size
  · rw [at_drop s n h]
    cases hi : isd b s[n] with
    | true => rw [cnt_yes hi]; simp [h, hi]
    | false => rw [cnt_no hi]; simp [hi]
  · rw [drop_end s n (by omega)]; simp [cnt, h]
theorem hexp_at (s : ByteArray) (a : Nat) : hexp (s.data.toList.drop a) = true ↔ s.data.toList[a]? = some 48 ∧ (s.data.toList[a + 1]? = some 120 ∨ s.data.toList[a + 1]? = some 88) ∧ ∃ h : a + 2 < s.size, isd 16 s[a + 2] = true := by
  unfold hexp; rw [decide_eq_true_iff, List.drop_drop, cnt_pos, List.getElem?_drop, List.getElem?_drop, Nat.add_zero]
theorem rdg_no {n b : Int} (h : dg n < 0 ∨ b ≤ dg n) (hb : b ≤ 16) : decide (rdg n < b) = false := by
  rw [decide_eq_false_iff_not]; unfold rdg; split <;> omega
theorem power_at (k : Int) (m : Nat) (w : World) (h : k = m) (hm : m ≤ 9) :
    Calls Tryz.prog 119 #[.int .i64 k] w fun e w' => e = .returned (.int .i64 ((10 : Int) ^ m)) ∧ w = w' := by
  subst h; exact power_any m w (by omega)
theorem frac_at (s : ByteArray) (a n : Nat) (hn : cnt 10 (s.data.toList.drop a) = n) : frac (s.data.toList.drop a) = true ↔ 0 < n ∧ s.data.toList[a + n]? = some 46 ∧ ∃ h : a + n + 1 < s.size, isd 10 s[a + n + 1] = true := by
  unfold frac; rw [decide_eq_true_iff, hn, List.drop_drop, show a + (n + 1) = a + n + 1 by omega, cnt_pos, List.getElem?_drop]
def rnR (l : List UInt8) : R3 := if (meas l).fin = 0 then err 4 else numR (meas l)

set_option maxHeartbeats 4000000 in
set_option maxRecDepth 100000 in
theorem rnumeral_any (s : ByteArray) (a : Nat) (w : World) (hs : s.size ≤ 4000000000) (ha : a ≤ s.size) :
    Calls Tryz.prog 96 #[.string s, .int .i64 a] w fun e w' => e = .returned (.tuple #[.int .i64 ((a + (meas (s.data.toList.drop a)).fin : Nat) : Int), .agg #[.int .i64 (rnR (s.data.toList.drop a)).P, .int .i64 (rnR (s.data.toList.drop a)).Q], .int .i64 (rnR (s.data.toList.drop a)).E]) ∧ Below w.heap.size w w' := by
  go_enter Tryz.func96, Tryz.ntmps96
  go_upto_region 1 with fail
  go_cut [52] (fun t wx => t = .bool (hexp (s.data.toList.drop a)) ∧ wx = w.alloc (.cells #[.int .i64 0, .int .i64 0] 44))
  case first =>
    have hx := hexp_at s a
    by_cases h1 : a + 2 < s.size
    · have hcb := byte_bd s[a + 2]
      have b0 := byte_iff s a (by omega) 48
      have b1 := byte_iff s (a + 1) (by omega) 120
      have b2 := byte_iff s (a + 1) (by omega) 88
      rw [b0, b1, b2] at hx
      have hx' : hexp (s.data.toList.drop a) = true ↔ ((s[a].toNat : Int) == 48) = true ∧ (((s[a + 1].toNat : Int) == 120) = true ∨ ((s[a + 1].toNat : Int) == 88) = true) ∧ isd 16 s[a + 2] = true := by
        rw [hx]; constructor
        · rintro ⟨g1, g2, _, g3⟩; exact ⟨g1, g2, g3⟩
        · rintro ⟨g1, g2, g3⟩; exact ⟨g1, g2, h1, g3⟩
      have h1' : (a : Int) + 2 < s.size := by omega
      have HB := Lib.hid hx'
      clear b0 b1 b2 hx hx'
      cases c0 : ((s[a].toNat : Int) == 48) with
      | false =>
        have HX : Hid (hexp (s.data.toList.drop a) = false) := Lib.hid (Bool.eq_false_iff.2 fun h => by have := (HB.out.1 h).1; rw [c0] at this; cases this)
        go_wp2_with (go_at_call 115; refine (rdigit_any _ hcb.1 hcb.2 _).mono ?_; rintro e w' ⟨rfl, rfl⟩)
        go_meet
        exact ⟨congrArg Value.bool HX.out.symm, rfl⟩
      | true =>
        cases c1 : ((s[a + 1].toNat : Int) == 120) with
        | true =>
          cases hd : isd 16 s[a + 2] with
          | true =>
            have HX : Hid (hexp (s.data.toList.drop a) = true) := Lib.hid (HB.out.2 ⟨c0, .inl c1, hd⟩)
            obtain ⟨g1, g2⟩ := isd_yes.1 hd
            unfold dgB at g1 g2
            have g3 : rdg (s[a + 2].toNat : Int) < 16 := by rw [rdg_pos g1]; exact g2
            clear hd
            go_wp2_with (go_at_call 115; refine (rdigit_any _ hcb.1 hcb.2 _).mono ?_; rintro e w' ⟨rfl, rfl⟩)
            go_meet
            exact ⟨congrArg Value.bool HX.out.symm, rfl⟩
          | false =>
            have HX : Hid (hexp (s.data.toList.drop a) = false) := Lib.hid (Bool.eq_false_iff.2 fun h => by have := (HB.out.1 h).2.2; rw [hd] at this; cases this)
            have g := isd_no.1 hd
            unfold dgB at g
            have g3 := rdg_no g (by omega)
            clear hd
            go_wp2_with (go_at_call 115; refine (rdigit_any _ hcb.1 hcb.2 _).mono ?_; rintro e w' ⟨rfl, rfl⟩)
            go_meet
            exact ⟨congrArg Value.bool HX.out.symm, rfl⟩
        | false =>
          cases c2 : ((s[a + 1].toNat : Int) == 88) with
          | true =>
            cases hd : isd 16 s[a + 2] with
            | true =>
              have HX : Hid (hexp (s.data.toList.drop a) = true) := Lib.hid (HB.out.2 ⟨c0, .inr c2, hd⟩)
              obtain ⟨g1, g2⟩ := isd_yes.1 hd
              unfold dgB at g1 g2
              have g3 : rdg (s[a + 2].toNat : Int) < 16 := by rw [rdg_pos g1]; exact g2
              clear hd
              go_wp2_with (go_at_call 115; refine (rdigit_any _ hcb.1 hcb.2 _).mono ?_; rintro e w' ⟨rfl, rfl⟩)
              go_meet
              exact ⟨congrArg Value.bool HX.out.symm, rfl⟩
            | false =>
              have HX : Hid (hexp (s.data.toList.drop a) = false) := Lib.hid (Bool.eq_false_iff.2 fun h => by have := (HB.out.1 h).2.2; rw [hd] at this; cases this)
              have g := isd_no.1 hd
              unfold dgB at g
              have g3 := rdg_no g (by omega)
              clear hd
              go_wp2_with (go_at_call 115; refine (rdigit_any _ hcb.1 hcb.2 _).mono ?_; rintro e w' ⟨rfl, rfl⟩)
              go_meet
              exact ⟨congrArg Value.bool HX.out.symm, rfl⟩
          | false =>
            have HX : Hid (hexp (s.data.toList.drop a) = false) := Lib.hid (Bool.eq_false_iff.2 fun h => by
              rcases (HB.out.1 h).2.1 with this | this
              · rw [c1] at this; cases this
              · rw [c2] at this; cases this)
            go_wp2_with (go_at_call 115; refine (rdigit_any _ hcb.1 hcb.2 _).mono ?_; rintro e w' ⟨rfl, rfl⟩)
            go_meet
            exact ⟨congrArg Value.bool HX.out.symm, rfl⟩
    · have HX : Hid (hexp (s.data.toList.drop a) = false) := Lib.hid (Bool.eq_false_iff.2 fun h => by obtain ⟨_, _, h2, _⟩ := hx.1 h; omega)
      have hcb := byte_bd 0
      have h1' : (s.size : Int) ≤ a + 2 := by omega
      clear hx
      go_wp2_with (go_at_call 115; refine (rdigit_any _ hcb.1 hcb.2 _).mono ?_; rintro e w' ⟨rfl, rfl⟩)
      go_meet
      exact ⟨congrArg Value.bool HX.out.symm, rfl⟩
  case rest =>
    obtain ⟨rfl, rfl⟩ := hcut
    cases hx : hexp (s.data.toList.drop a) with
    | true =>
      obtain ⟨_, _, h2, _⟩ := (hexp_at s a).1 hx
      have hpos : 0 < cnt 16 ((s.data.toList.drop a).drop 2) := ((hexp_iff _).1 hx).2
      have hm : meas (s.data.toList.drop a) = _ := if_pos hx
      rw [List.drop_drop] at hm hpos
      have hcl := cnt_le 16 (s.data.toList.drop (a + 2))
      rw [List.length_drop, list_size] at hcl
      have hrun := run_any s (a + 2) 16 w hs (by omega) (by omega) (by omega)
      generalize hn : cnt 16 (s.data.toList.drop (a + 2)) = n at *
      have hal : alld 16 ((s.data.toList.drop (a + 2)).take n) := by rw [← hn]; exact cnt_take 16 _
      have R1 : Hid (∀ w, Calls Tryz.prog 116 #[.string s, .int .i64 ((a : Int) + 2), .int .i64 16] w fun e w' => e = .returned (.int .i64 ((a : Int) + 2 + n)) ∧ w = w') := Lib.hid fun w => by
        have := run_any s (a + 2) 16 w hs (by omega) (by omega) (by omega)
        rw [hn] at this
        rw [show ((a : Int) + 2) = ((a + 2 : Nat) : Int) by omega, show (((a + 2 : Nat) : Int) + n) = ((a + 2 + n : Nat) : Int) by omega]; exact this
      have hsz : (s.extract (a + 2) (a + 2 + n)).size ≤ 4000000000 := by simp; omega
      have hli : (s.extract (a + 2) (a + 2 + n)).data.toList = (s.data.toList.drop (a + 2)).take n := by rw [ext_mk, mkB_list, show a + 2 + n - (a + 2) = n by omega]
      cases hj : jn 16 0 ((s.data.toList.drop (a + 2)).take n) with
      | none =>
        have N1 : Hid (∀ w, Calls Tryz.prog 117 #[.string (s.extract (a + 2) (a + 2 + n)), .int .i64 16] w fun e w' => e = .returned (.tuple #[.int .i64 0, .bool false]) ∧ w = w') := Lib.hid fun w => rjoin_none _ 16 w hsz (by omega) (by omega) (by rw [hli]; exact hal) (by rw [hli]; exact hj)
        have HR : Hid (Ending.returned (.tuple #[.int .i64 ((a : Int) + 2 + n), .agg #[.int .i64 0, .int .i64 0], .int .i64 6]) = .returned (.tuple #[.int .i64 ((a + (meas (s.data.toList.drop a)).fin : Nat) : Int), .agg #[.int .i64 (rnR (s.data.toList.drop a)).P, .int .i64 (rnR (s.data.toList.drop a)).Q], .int .i64 (rnR (s.data.toList.drop a)).E])) := by
          apply Lib.hid
          have hr : rnR (s.data.toList.drop a) = err 6 := by
            unfold rnR; rw [hm, if_neg (by simp)]; unfold numR; rw [if_neg (by simp)]; simp only [List.append_nil, hj]
          rw [hr, hm]
          simp only [err]
          rw [show ((a + (2 + n) : Nat) : Int) = (a : Int) + 2 + n by omega]
        clear hx hm hrun hn hal hsz hli hj
        go_wp2_with (first | (go_at_call 116; (with_reducible refine (R1.out _).mono ?_); rintro e w' ⟨rfl, rfl⟩) | (go_at_call 117; (with_reducible refine (N1.out _).mono ?_); rintro e w' ⟨rfl, rfl⟩))
        refine bodyPost_ret (v := .tuple #[.int .i64 ((a : Int) + 2 + n), .agg #[.int .i64 0, .int .i64 0], .int .i64 6]) (by simp [results, Tryz.results96, go_sem, *]) rfl ?_
        refine ⟨HR.out, ?_⟩
        repeat (first | exact Below.refl _ _ | refine below_drewN ?_ _ | refine Below.drew ?_ | refine Below.setCell ?_ (by first | omega | (simp; done) | (simp; omega)) _ | refine Below.alloc ?_ (by first | omega | (simp; done) | (simp; omega)) _ | refine below_step (by assumption) (by first | omega | (simp; done) | (simp; omega)) ?_)
      | some p =>
        have N1 : Hid (∀ w, Calls Tryz.prog 117 #[.string (s.extract (a + 2) (a + 2 + n)), .int .i64 16] w fun e w' => e = .returned (.tuple #[.int .i64 p, .bool true]) ∧ w = w') := Lib.hid fun w => rjoin_some _ 16 p w hsz (by omega) (by omega) (by rw [hli]; exact hal) (by rw [hli]; exact hj)
        have HR : Hid (Ending.returned (.tuple #[.int .i64 ((a : Int) + 2 + n), .agg #[.int .i64 (makeR p 1).P, .int .i64 (makeR p 1).Q], .int .i64 (makeR p 1).E]) = .returned (.tuple #[.int .i64 ((a + (meas (s.data.toList.drop a)).fin : Nat) : Int), .agg #[.int .i64 (rnR (s.data.toList.drop a)).P, .int .i64 (rnR (s.data.toList.drop a)).Q], .int .i64 (rnR (s.data.toList.drop a)).E])) := by
          apply Lib.hid
          have hr : rnR (s.data.toList.drop a) = makeR p 1 := by
            unfold rnR; rw [hm, if_neg (by simp)]; unfold numR; rw [if_neg (by simp)]; simp only [List.append_nil, hj, List.length_nil, Int.pow_zero]
          rw [hr, hm]
          simp only
          rw [show ((a + (2 + n) : Nat) : Int) = (a : Int) + 2 + n by omega]
        clear hx hm hrun hn hal hsz hli hj
        go_wp2_with (first | (go_at_call 116; (with_reducible refine (R1.out _).mono ?_); rintro e w' ⟨rfl, rfl⟩) | (go_at_call 117; (with_reducible refine (N1.out _).mono ?_); rintro e w' ⟨rfl, rfl⟩) | (go_at_call 118; refine (rmake_any _ _ _).mono ?_; rintro e w1 ⟨rfl, hb1⟩; obtain ⟨hc1, hf1⟩ := bcell hb1; have hz := hb1.size; (try simp at hz); (try (have z1_0 : w.heap.size < w1.heap.size := (by omega))); (try (have z1_1 : w.heap.size + 1 < w1.heap.size := (by omega))); clear hz))
        have q0 : (w1.alloc (.cells #[.int .i64 (makeR p 1).P, .int .i64 (makeR p 1).Q] 44)).cell? ⟨w.heap.size, 0, none⟩ = some (.int .i64 0) := by go_simp
        have q1 : (w1.alloc (.cells #[.int .i64 (makeR p 1).P, .int .i64 (makeR p 1).Q] 44)).cell? ⟨w.heap.size, 1, none⟩ = some (.int .i64 0) := by go_simp
        have q2 : (w1.alloc (.cells #[.int .i64 (makeR p 1).P, .int .i64 (makeR p 1).Q] 44)).cell? ⟨w1.heap.size, 0, none⟩ = some (.int .i64 (makeR p 1).P) := by go_simp
        have q3 : (w1.alloc (.cells #[.int .i64 (makeR p 1).P, .int .i64 (makeR p 1).Q] 44)).cell? ⟨w1.heap.size, 1, none⟩ = some (.int .i64 (makeR p 1).Q) := by go_simp
        have qf0 : (w1.alloc (.cells #[.int .i64 (makeR p 1).P, .int .i64 (makeR p 1).Q] 44)).frozen? ⟨w.heap.size, 0, none⟩ = false := by go_simp
        have qf1 : (w1.alloc (.cells #[.int .i64 (makeR p 1).P, .int .i64 (makeR p 1).Q] 44)).frozen? ⟨w.heap.size, 1, none⟩ = false := by go_simp
        have kB : Below w.heap.size w (w1.alloc (.cells #[.int .i64 (makeR p 1).P, .int .i64 (makeR p 1).Q] 44)) := by
          repeat (first | exact Below.refl _ _ | refine below_drewN ?_ _ | refine Below.drew ?_ | refine Below.setCell ?_ (by first | omega | (simp; done) | (simp; omega)) _ | refine Below.alloc ?_ (by first | omega | (simp; done) | (simp; omega)) _ | refine below_step (by assumption) (by first | omega | (simp; done) | (simp; omega)) ?_)
        have kz : w.heap.size < (w1.alloc (.cells #[.int .i64 (makeR p 1).P, .int .i64 (makeR p 1).Q] 44)).heap.size := by simp; omega
        generalize (w1.alloc (.cells #[.int .i64 (makeR p 1).P, .int .i64 (makeR p 1).Q] 44)) = W at *
        go_region
        all_goals go_wp2
        refine bodyPost_ret (v := .tuple #[.int .i64 ((a : Int) + 2 + n), .agg #[.int .i64 (makeR p 1).P, .int .i64 (makeR p 1).Q], .int .i64 (makeR p 1).E]) (by simp [results, Tryz.results96, go_sem, *]) rfl ?_
        refine ⟨HR.out, ?_⟩
        exact ((kB.setCell (by simp) _).setCell (by simp) _).drew
    | false =>
      obtain ⟨n, hn⟩ : ∃ n, cnt 10 (s.data.toList.drop a) = n := ⟨_, rfl⟩
      have hcl := cnt_le 10 (s.data.toList.drop a)
      rw [List.length_drop, list_size, hn] at hcl
      have hfa := frac_at s a n hn
      have hal : alld 10 ((s.data.toList.drop a).take n) := by rw [← hn]; exact cnt_take 10 _
      have hsz : (s.extract a (a + n)).size ≤ 4000000000 := by simp; omega
      have hli : (s.extract a (a + n)).data.toList = (s.data.toList.drop a).take n := by rw [ext_mk, mkB_list, show a + n - a = n by omega]
      have R1 : Hid (∀ w, Calls Tryz.prog 116 #[.string s, .int .i64 (a : Int), .int .i64 10] w fun e w' => e = .returned (.int .i64 ((a : Int) + n)) ∧ w = w') := Lib.hid fun w => by
        have := run_any s a 10 w hs (by omega) (by omega) (by omega)
        rw [hn] at this
        rw [show ((a : Int) + n) = ((a + n : Nat) : Int) by omega]; exact this
      by_cases h0 : n = 0
      · subst h0
        have hfr : frac (s.data.toList.drop a) = false := Bool.eq_false_iff.2 fun h => by have := (hfa.1 h).1; omega
        have hm : meas (s.data.toList.drop a) = ⟨10, (s.data.toList.drop a).take 0, [], 0⟩ := by unfold meas; rw [if_neg (by simp [hx]), if_neg (by simp [hfr]), hn]
        have R1 : Hid (∀ w, Calls Tryz.prog 116 #[.string s, .int .i64 (a : Int), .int .i64 10] w fun e w' => e = .returned (.int .i64 (a : Int)) ∧ w = w') := Lib.hid fun w => by have := R1.out w; rw [show ((a : Int) + ((0 : Nat) : Int)) = a by omega] at this; exact this
        have HR : Hid (Ending.returned (.tuple #[.int .i64 ((a : Int)), .agg #[.int .i64 0, .int .i64 0], .int .i64 4]) = .returned (.tuple #[.int .i64 ((a + (meas (s.data.toList.drop a)).fin : Nat) : Int), .agg #[.int .i64 (rnR (s.data.toList.drop a)).P, .int .i64 (rnR (s.data.toList.drop a)).Q], .int .i64 (rnR (s.data.toList.drop a)).E])) := by
          apply Lib.hid
          have hr : rnR (s.data.toList.drop a) = err 4 := by unfold rnR; rw [hm]; rfl
          rw [hr, hm]
          simp only [err, Nat.add_zero]
        clear hx hm hn hal hsz hli hfr hfa
        go_wp2_with (go_at_call 116; (with_reducible refine (R1.out _).mono ?_); rintro e w' ⟨rfl, rfl⟩)
        refine bodyPost_ret (v := .tuple #[.int .i64 (a : Int), .agg #[.int .i64 0, .int .i64 0], .int .i64 4]) (by simp [results, Tryz.results96, go_sem, *]) rfl ?_
        refine ⟨HR.out, ?_⟩
        repeat (first | exact Below.refl _ _ | refine below_drewN ?_ _ | refine Below.drew ?_ | refine Below.setCell ?_ (by first | omega | (simp; done) | (simp; omega)) _ | refine Below.alloc ?_ (by first | omega | (simp; done) | (simp; omega)) _ | refine below_step (by assumption) (by first | omega | (simp; done) | (simp; omega)) ?_)
      · have hne : (((a : Int) + n) == (a : Int)) = false := by rw [beq_eq_false_iff_ne]; omega
        by_cases h1 : a + n + 1 < s.size
        · have hcb := byte_bd s[a + n + 1]
          have b0 := byte_iff s (a + n) (by omega) 46
          have h1' : (a : Int) + n + 1 < s.size := by omega
          cases c0 : ((s[a + n].toNat : Int) == 46) with
          | false =>
            have hfr : frac (s.data.toList.drop a) = false := Bool.eq_false_iff.2 fun h => by have := b0.1 (hfa.1 h).2.1; rw [show (((46 : UInt8).toNat : Nat) : Int) = 46 from rfl, c0] at this; cases this
            clear b0 hfa
            have hm : meas (s.data.toList.drop a) = ⟨10, (s.data.toList.drop a).take n, [], n⟩ := by unfold meas; rw [if_neg (by simp [hx]), if_neg (by simp [hfr]), hn]
            cases hj : jn 10 0 ((s.data.toList.drop a).take n) with
            | none =>
              have N1 : Hid (∀ w, Calls Tryz.prog 117 #[.string (s.extract a (a + n)), .int .i64 10] w fun e w' => e = .returned (.tuple #[.int .i64 0, .bool false]) ∧ w = w') := Lib.hid fun w => rjoin_none _ 10 w hsz (by omega) (by omega) (by rw [hli]; exact hal) (by rw [hli]; exact hj)
              have HR : Hid (Ending.returned (.tuple #[.int .i64 ((a : Int) + n), .agg #[.int .i64 0, .int .i64 0], .int .i64 6]) = .returned (.tuple #[.int .i64 ((a + (meas (s.data.toList.drop a)).fin : Nat) : Int), .agg #[.int .i64 (rnR (s.data.toList.drop a)).P, .int .i64 (rnR (s.data.toList.drop a)).Q], .int .i64 (rnR (s.data.toList.drop a)).E])) := by
                apply Lib.hid
                have hr : rnR (s.data.toList.drop a) = err 6 := by
                  unfold rnR; rw [hm, if_neg (by simp; omega)]; unfold numR; rw [if_neg (by simp)]; simp only [List.append_nil, hj]
                rw [hr, hm]
                simp only [err]
                rw [show ((a + n : Nat) : Int) = (a : Int) + n by omega]
              clear hx hm hn hal hsz hli hj hfr
              go_wp2_with (first | (go_at_call 116; (with_reducible refine (R1.out _).mono ?_); rintro e w' ⟨rfl, rfl⟩) | (go_at_call 117; (with_reducible refine (N1.out _).mono ?_); rintro e w' ⟨rfl, rfl⟩) | (go_at_call 115; refine (rdigit_any _ hcb.1 hcb.2 _).mono ?_; rintro e w' ⟨rfl, rfl⟩))
              refine bodyPost_ret (v := .tuple #[.int .i64 ((a : Int) + n), .agg #[.int .i64 0, .int .i64 0], .int .i64 6]) (by simp [results, Tryz.results96, go_sem, *]) rfl ?_
              refine ⟨HR.out, ?_⟩
              repeat (first | exact Below.refl _ _ | refine below_drewN ?_ _ | refine Below.drew ?_ | refine Below.setCell ?_ (by first | omega | (simp; done) | (simp; omega)) _ | refine Below.alloc ?_ (by first | omega | (simp; done) | (simp; omega)) _ | refine below_step (by assumption) (by first | omega | (simp; done) | (simp; omega)) ?_)
            | some p =>
              have N1 : Hid (∀ w, Calls Tryz.prog 117 #[.string (s.extract a (a + n)), .int .i64 10] w fun e w' => e = .returned (.tuple #[.int .i64 p, .bool true]) ∧ w = w') := Lib.hid fun w => rjoin_some _ 10 p w hsz (by omega) (by omega) (by rw [hli]; exact hal) (by rw [hli]; exact hj)
              have HR : Hid (Ending.returned (.tuple #[.int .i64 ((a : Int) + n), .agg #[.int .i64 (makeR p (10 ^ 0)).P, .int .i64 (makeR p (10 ^ 0)).Q], .int .i64 (makeR p (10 ^ 0)).E]) = .returned (.tuple #[.int .i64 ((a + (meas (s.data.toList.drop a)).fin : Nat) : Int), .agg #[.int .i64 (rnR (s.data.toList.drop a)).P, .int .i64 (rnR (s.data.toList.drop a)).Q], .int .i64 (rnR (s.data.toList.drop a)).E])) := by
                apply Lib.hid
                have hr : rnR (s.data.toList.drop a) = makeR p (10 ^ 0) := by
                  unfold rnR; rw [hm, if_neg (by simp; omega)]; unfold numR; rw [if_neg (by simp)]; simp only [List.append_nil, hj, List.length_nil]
                rw [hr, hm]
                simp only
                rw [show ((a + n : Nat) : Int) = (a : Int) + n by omega]
              simp only [Int.pow_zero] at HR
              obtain ⟨pl, hpl0⟩ : ∃ pl : Nat, pl = 0 := ⟨0, rfl⟩
              have PW : Hid (∀ w, Calls Tryz.prog 119 #[.int .i64 0] w fun e w' => e = .returned (.int .i64 1) ∧ w = w') := Lib.hid fun w => power_at 0 0 w rfl (by omega)
              clear hpl0
              clear hx hm hn hal hsz hli hj hfr
              go_wp2_with (first | (go_at_call 116; (with_reducible refine (R1.out _).mono ?_); rintro e w' ⟨rfl, rfl⟩) | (go_at_call 117; (with_reducible refine (N1.out _).mono ?_); rintro e w' ⟨rfl, rfl⟩) | (go_at_call 115; refine (rdigit_any _ hcb.1 hcb.2 _).mono ?_; rintro e w' ⟨rfl, rfl⟩) | (go_at_call 119; (with_reducible refine (PW.out _).mono ?_); rintro e w' ⟨rfl, rfl⟩) | (go_at_call 118; refine (rmake_any _ _ _).mono ?_; rintro e w1 ⟨rfl, hb1⟩; obtain ⟨hc1, hf1⟩ := bcell hb1; have hz := hb1.size; (try simp at hz); (try (have z1_0 : w.heap.size < w1.heap.size := (by omega))); (try (have z1_1 : w.heap.size + 1 < w1.heap.size := (by omega))); clear hz))
              have q0 : (w1.alloc (.cells #[.int .i64 (makeR p 1).P, .int .i64 (makeR p 1).Q] 44)).cell? ⟨w.heap.size, 0, none⟩ = some (.int .i64 0) := by go_simp
              have q1 : (w1.alloc (.cells #[.int .i64 (makeR p 1).P, .int .i64 (makeR p 1).Q] 44)).cell? ⟨w.heap.size, 1, none⟩ = some (.int .i64 0) := by go_simp
              have q2 : (w1.alloc (.cells #[.int .i64 (makeR p 1).P, .int .i64 (makeR p 1).Q] 44)).cell? ⟨w1.heap.size, 0, none⟩ = some (.int .i64 (makeR p 1).P) := by go_simp
              have q3 : (w1.alloc (.cells #[.int .i64 (makeR p 1).P, .int .i64 (makeR p 1).Q] 44)).cell? ⟨w1.heap.size, 1, none⟩ = some (.int .i64 (makeR p 1).Q) := by go_simp
              have qf0 : (w1.alloc (.cells #[.int .i64 (makeR p 1).P, .int .i64 (makeR p 1).Q] 44)).frozen? ⟨w.heap.size, 0, none⟩ = false := by go_simp
              have qf1 : (w1.alloc (.cells #[.int .i64 (makeR p 1).P, .int .i64 (makeR p 1).Q] 44)).frozen? ⟨w.heap.size, 1, none⟩ = false := by go_simp
              have kB : Below w.heap.size w (w1.alloc (.cells #[.int .i64 (makeR p 1).P, .int .i64 (makeR p 1).Q] 44)) := by
                repeat (first | exact Below.refl _ _ | refine below_drewN ?_ _ | refine Below.drew ?_ | refine Below.setCell ?_ (by first | omega | (simp; done) | (simp; omega)) _ | refine Below.alloc ?_ (by first | omega | (simp; done) | (simp; omega)) _ | refine below_step (by assumption) (by first | omega | (simp; done) | (simp; omega)) ?_)
              have kz : w.heap.size < (w1.alloc (.cells #[.int .i64 (makeR p 1).P, .int .i64 (makeR p 1).Q] 44)).heap.size := by simp; omega
              generalize (w1.alloc (.cells #[.int .i64 (makeR p 1).P, .int .i64 (makeR p 1).Q] 44)) = W at *
              go_region
              all_goals go_wp2
              refine bodyPost_ret (v := .tuple #[.int .i64 ((a : Int) + n), .agg #[.int .i64 (makeR p 1).P, .int .i64 (makeR p 1).Q], .int .i64 (makeR p 1).E]) (by simp [results, Tryz.results96, go_sem, *]) rfl ?_
              refine ⟨HR.out, ?_⟩
              exact ((kB.setCell (by simp) _).setCell (by simp) _).drew
          | true =>
            cases hd : isd 10 s[a + n + 1] with
            | false =>
              have hfr : frac (s.data.toList.drop a) = false := Bool.eq_false_iff.2 fun h => by obtain ⟨_, _, _, h⟩ := hfa.1 h; rw [hd] at h; cases h
              have g := isd_no.1 hd
              unfold dgB at g
              have g3 := rdg_no g (by omega)
              clear b0 hfa hd g
              have hm : meas (s.data.toList.drop a) = ⟨10, (s.data.toList.drop a).take n, [], n⟩ := by unfold meas; rw [if_neg (by simp [hx]), if_neg (by simp [hfr]), hn]
              cases hj : jn 10 0 ((s.data.toList.drop a).take n) with
              | none =>
                have N1 : Hid (∀ w, Calls Tryz.prog 117 #[.string (s.extract a (a + n)), .int .i64 10] w fun e w' => e = .returned (.tuple #[.int .i64 0, .bool false]) ∧ w = w') := Lib.hid fun w => rjoin_none _ 10 w hsz (by omega) (by omega) (by rw [hli]; exact hal) (by rw [hli]; exact hj)
                have HR : Hid (Ending.returned (.tuple #[.int .i64 ((a : Int) + n), .agg #[.int .i64 0, .int .i64 0], .int .i64 6]) = .returned (.tuple #[.int .i64 ((a + (meas (s.data.toList.drop a)).fin : Nat) : Int), .agg #[.int .i64 (rnR (s.data.toList.drop a)).P, .int .i64 (rnR (s.data.toList.drop a)).Q], .int .i64 (rnR (s.data.toList.drop a)).E])) := by
                  apply Lib.hid
                  have hr : rnR (s.data.toList.drop a) = err 6 := by
                    unfold rnR; rw [hm, if_neg (by simp; omega)]; unfold numR; rw [if_neg (by simp)]; simp only [List.append_nil, hj]
                  rw [hr, hm]
                  simp only [err]
                  rw [show ((a + n : Nat) : Int) = (a : Int) + n by omega]
                clear hx hm hn hal hsz hli hj hfr
                go_wp2_with (first | (go_at_call 116; (with_reducible refine (R1.out _).mono ?_); rintro e w' ⟨rfl, rfl⟩) | (go_at_call 117; (with_reducible refine (N1.out _).mono ?_); rintro e w' ⟨rfl, rfl⟩) | (go_at_call 115; refine (rdigit_any _ hcb.1 hcb.2 _).mono ?_; rintro e w' ⟨rfl, rfl⟩))
                refine bodyPost_ret (v := .tuple #[.int .i64 ((a : Int) + n), .agg #[.int .i64 0, .int .i64 0], .int .i64 6]) (by simp [results, Tryz.results96, go_sem, *]) rfl ?_
                refine ⟨HR.out, ?_⟩
                repeat (first | exact Below.refl _ _ | refine below_drewN ?_ _ | refine Below.drew ?_ | refine Below.setCell ?_ (by first | omega | (simp; done) | (simp; omega)) _ | refine Below.alloc ?_ (by first | omega | (simp; done) | (simp; omega)) _ | refine below_step (by assumption) (by first | omega | (simp; done) | (simp; omega)) ?_)
              | some p =>
                have N1 : Hid (∀ w, Calls Tryz.prog 117 #[.string (s.extract a (a + n)), .int .i64 10] w fun e w' => e = .returned (.tuple #[.int .i64 p, .bool true]) ∧ w = w') := Lib.hid fun w => rjoin_some _ 10 p w hsz (by omega) (by omega) (by rw [hli]; exact hal) (by rw [hli]; exact hj)
                have HR : Hid (Ending.returned (.tuple #[.int .i64 ((a : Int) + n), .agg #[.int .i64 (makeR p (10 ^ 0)).P, .int .i64 (makeR p (10 ^ 0)).Q], .int .i64 (makeR p (10 ^ 0)).E]) = .returned (.tuple #[.int .i64 ((a + (meas (s.data.toList.drop a)).fin : Nat) : Int), .agg #[.int .i64 (rnR (s.data.toList.drop a)).P, .int .i64 (rnR (s.data.toList.drop a)).Q], .int .i64 (rnR (s.data.toList.drop a)).E])) := by
                  apply Lib.hid
                  have hr : rnR (s.data.toList.drop a) = makeR p (10 ^ 0) := by
                    unfold rnR; rw [hm, if_neg (by simp; omega)]; unfold numR; rw [if_neg (by simp)]; simp only [List.append_nil, hj, List.length_nil]
                  rw [hr, hm]
                  simp only
                  rw [show ((a + n : Nat) : Int) = (a : Int) + n by omega]
                simp only [Int.pow_zero] at HR
                obtain ⟨pl, hpl0⟩ : ∃ pl : Nat, pl = 0 := ⟨0, rfl⟩
                have PW : Hid (∀ w, Calls Tryz.prog 119 #[.int .i64 0] w fun e w' => e = .returned (.int .i64 1) ∧ w = w') := Lib.hid fun w => power_at 0 0 w rfl (by omega)
                clear hpl0
                clear hx hm hn hal hsz hli hj hfr
                go_wp2_with (first | (go_at_call 116; (with_reducible refine (R1.out _).mono ?_); rintro e w' ⟨rfl, rfl⟩) | (go_at_call 117; (with_reducible refine (N1.out _).mono ?_); rintro e w' ⟨rfl, rfl⟩) | (go_at_call 115; refine (rdigit_any _ hcb.1 hcb.2 _).mono ?_; rintro e w' ⟨rfl, rfl⟩) | (go_at_call 119; (with_reducible refine (PW.out _).mono ?_); rintro e w' ⟨rfl, rfl⟩) | (go_at_call 118; refine (rmake_any _ _ _).mono ?_; rintro e w1 ⟨rfl, hb1⟩; obtain ⟨hc1, hf1⟩ := bcell hb1; have hz := hb1.size; (try simp at hz); (try (have z1_0 : w.heap.size < w1.heap.size := (by omega))); (try (have z1_1 : w.heap.size + 1 < w1.heap.size := (by omega))); clear hz))
                have q0 : (w1.alloc (.cells #[.int .i64 (makeR p 1).P, .int .i64 (makeR p 1).Q] 44)).cell? ⟨w.heap.size, 0, none⟩ = some (.int .i64 0) := by go_simp
                have q1 : (w1.alloc (.cells #[.int .i64 (makeR p 1).P, .int .i64 (makeR p 1).Q] 44)).cell? ⟨w.heap.size, 1, none⟩ = some (.int .i64 0) := by go_simp
                have q2 : (w1.alloc (.cells #[.int .i64 (makeR p 1).P, .int .i64 (makeR p 1).Q] 44)).cell? ⟨w1.heap.size, 0, none⟩ = some (.int .i64 (makeR p 1).P) := by go_simp
                have q3 : (w1.alloc (.cells #[.int .i64 (makeR p 1).P, .int .i64 (makeR p 1).Q] 44)).cell? ⟨w1.heap.size, 1, none⟩ = some (.int .i64 (makeR p 1).Q) := by go_simp
                have qf0 : (w1.alloc (.cells #[.int .i64 (makeR p 1).P, .int .i64 (makeR p 1).Q] 44)).frozen? ⟨w.heap.size, 0, none⟩ = false := by go_simp
                have qf1 : (w1.alloc (.cells #[.int .i64 (makeR p 1).P, .int .i64 (makeR p 1).Q] 44)).frozen? ⟨w.heap.size, 1, none⟩ = false := by go_simp
                have kB : Below w.heap.size w (w1.alloc (.cells #[.int .i64 (makeR p 1).P, .int .i64 (makeR p 1).Q] 44)) := by
                  repeat (first | exact Below.refl _ _ | refine below_drewN ?_ _ | refine Below.drew ?_ | refine Below.setCell ?_ (by first | omega | (simp; done) | (simp; omega)) _ | refine Below.alloc ?_ (by first | omega | (simp; done) | (simp; omega)) _ | refine below_step (by assumption) (by first | omega | (simp; done) | (simp; omega)) ?_)
                have kz : w.heap.size < (w1.alloc (.cells #[.int .i64 (makeR p 1).P, .int .i64 (makeR p 1).Q] 44)).heap.size := by simp; omega
                generalize (w1.alloc (.cells #[.int .i64 (makeR p 1).P, .int .i64 (makeR p 1).Q] 44)) = W at *
                go_region
                all_goals go_wp2
                refine bodyPost_ret (v := .tuple #[.int .i64 ((a : Int) + n), .agg #[.int .i64 (makeR p 1).P, .int .i64 (makeR p 1).Q], .int .i64 (makeR p 1).E]) (by simp [results, Tryz.results96, go_sem, *]) rfl ?_
                refine ⟨HR.out, ?_⟩
                exact ((kB.setCell (by simp) _).setCell (by simp) _).drew
            | true =>
              have hfr : frac (s.data.toList.drop a) = true := hfa.2 ⟨by omega, b0.2 c0, h1, hd⟩
              obtain ⟨g1, g2⟩ := isd_yes.1 hd
              unfold dgB at g1 g2
              have g3 : rdg (s[a + n + 1].toNat : Int) < 10 := by rw [rdg_pos g1]; exact g2
              obtain ⟨m, hm0⟩ : ∃ m, cnt 10 (s.data.toList.drop (a + n + 1)) = m := ⟨_, rfl⟩
              have hcm := cnt_le 10 (s.data.toList.drop (a + n + 1))
              rw [List.length_drop, list_size, hm0] at hcm
              have hmp : 0 < m := by rw [← hm0]; exact (cnt_pos s 10 (a + n + 1)).2 ⟨h1, hd⟩
              have hm : meas (s.data.toList.drop a) = ⟨10, (s.data.toList.drop a).take n, (s.data.toList.drop (a + n + 1)).take m, n + 1 + m⟩ := by
                unfold meas; rw [if_neg (by simp [hx]), if_pos hfr, hn, List.drop_drop, show a + (n + 1) = a + n + 1 by omega, hm0]
              have R2 : Hid (∀ w, Calls Tryz.prog 116 #[.string s, .int .i64 ((a : Int) + n + 1), .int .i64 10] w fun e w' => e = .returned (.int .i64 ((a : Int) + n + 1 + m)) ∧ w = w') := Lib.hid fun w => by
                have := run_any s (a + n + 1) 10 w hs (by omega) (by omega) (by omega)
                rw [hm0] at this
                rw [show ((a : Int) + n + 1) = ((a + n + 1 : Nat) : Int) by omega, show (((a + n + 1 : Nat) : Int) + m) = ((a + n + 1 + m : Nat) : Int) by omega]; exact this
              clear b0 hfa hd
              have hal2 : alld 10 ((s.data.toList.drop (a + n + 1)).take m) := by rw [← hm0]; exact cnt_take 10 _
              have hsz2 : (s.extract a (a + n) ++ s.extract (a + n + 1) (a + n + 1 + m)).size ≤ 4000000000 := by simp; omega
              have hlb : ((s.data.toList.drop (a + n + 1)).take m).length = m := by rw [List.length_take, List.length_drop, list_size]; omega
              have hli2 : (s.extract a (a + n) ++ s.extract (a + n + 1) (a + n + 1 + m)).data.toList = (s.data.toList.drop a).take n ++ (s.data.toList.drop (a + n + 1)).take m := by
                rw [ByteArray.data_append, Array.toList_append, hli, ext_mk, mkB_list, show a + n + 1 + m - (a + n + 1) = m by omega]
              have hal3 : alld 10 ((s.data.toList.drop a).take n ++ (s.data.toList.drop (a + n + 1)).take m) := by
                intro c hc
                rcases List.mem_append.1 hc with hc | hc
                · exact hal c hc
                · exact hal2 c hc
              have hfin : ((a + (meas (s.data.toList.drop a)).fin : Nat) : Int) = (a : Int) + n + 1 + m := by rw [hm]; simp only; omega
              have hrn : rnR (s.data.toList.drop a) = numR ⟨10, (s.data.toList.drop a).take n, (s.data.toList.drop (a + n + 1)).take m, n + 1 + m⟩ := by
                unfold rnR; rw [hm, if_neg (by simp)]
              cases hj : jn 10 0 ((s.data.toList.drop a).take n ++ (s.data.toList.drop (a + n + 1)).take m) with
              | none =>
                have N1 : Hid (∀ w, Calls Tryz.prog 117 #[.string (s.extract a (a + n) ++ s.extract (a + n + 1) (a + n + 1 + m)), .int .i64 10] w fun e w' => e = .returned (.tuple #[.int .i64 0, .bool false]) ∧ w = w') := Lib.hid fun w => rjoin_none _ 10 w hsz2 (by omega) (by omega) (by rw [hli2]; exact hal3) (by rw [hli2]; exact hj)
                have HR : Hid (Ending.returned (.tuple #[.int .i64 ((a : Int) + n + 1 + m), .agg #[.int .i64 0, .int .i64 0], .int .i64 6]) = .returned (.tuple #[.int .i64 ((a + (meas (s.data.toList.drop a)).fin : Nat) : Int), .agg #[.int .i64 (rnR (s.data.toList.drop a)).P, .int .i64 (rnR (s.data.toList.drop a)).Q], .int .i64 (rnR (s.data.toList.drop a)).E])) := by
                  apply Lib.hid
                  have hr : rnR (s.data.toList.drop a) = err 6 := by
                    rw [hrn]; unfold numR; simp only [hj]
                    split <;> rfl
                  rw [hr, hfin]
                  simp only [err]
                clear hj hrn hfin hal3 hlb
                clear hx hm hn hal hsz hli hfr hm0 hal2 hsz2 hli2
                go_wp2_with (first | (go_at_call 116; (with_reducible refine (R1.out _).mono ?_); rintro e w' ⟨rfl, rfl⟩) | (go_at_call 116; (with_reducible refine (R2.out _).mono ?_); rintro e w' ⟨rfl, rfl⟩) | (go_at_call 117; (with_reducible refine (N1.out _).mono ?_); rintro e w' ⟨rfl, rfl⟩) | (go_at_call 115; refine (rdigit_any _ hcb.1 hcb.2 _).mono ?_; rintro e w' ⟨rfl, rfl⟩))
                refine bodyPost_ret (v := .tuple #[.int .i64 ((a : Int) + n + 1 + m), .agg #[.int .i64 0, .int .i64 0], .int .i64 6]) (by simp [results, Tryz.results96, go_sem, *]) rfl ?_
                refine ⟨HR.out, ?_⟩
                repeat (first | exact Below.refl _ _ | refine below_drewN ?_ _ | refine Below.drew ?_ | refine Below.setCell ?_ (by first | omega | (simp; done) | (simp; omega)) _ | refine Below.alloc ?_ (by first | omega | (simp; done) | (simp; omega)) _ | refine below_step (by assumption) (by first | omega | (simp; done) | (simp; omega)) ?_)
              | some p =>
                have N1 : Hid (∀ w, Calls Tryz.prog 117 #[.string (s.extract a (a + n) ++ s.extract (a + n + 1) (a + n + 1 + m)), .int .i64 10] w fun e w' => e = .returned (.tuple #[.int .i64 p, .bool true]) ∧ w = w') := Lib.hid fun w => rjoin_some _ 10 p w hsz2 (by omega) (by omega) (by rw [hli2]; exact hal3) (by rw [hli2]; exact hj)
                by_cases h9 : 9 < m
                · have HR : Hid (Ending.returned (.tuple #[.int .i64 ((a : Int) + n + 1 + m), .agg #[.int .i64 0, .int .i64 0], .int .i64 6]) = .returned (.tuple #[.int .i64 ((a + (meas (s.data.toList.drop a)).fin : Nat) : Int), .agg #[.int .i64 (rnR (s.data.toList.drop a)).P, .int .i64 (rnR (s.data.toList.drop a)).Q], .int .i64 (rnR (s.data.toList.drop a)).E])) := by
                    apply Lib.hid
                    have hr : rnR (s.data.toList.drop a) = err 6 := by
                      rw [hrn]; unfold numR; rw [if_pos (by show 9 < ((s.data.toList.drop (a + n + 1)).take m).length; omega)]
                    rw [hr, hfin]
                    simp only [err]
                  have h9' : (9 : Int) < (a : Int) + n + 1 + m - ((a : Int) + n + 1) := by omega
                  clear hj hrn hfin hal3 hlb
                  clear hx hm hn hal hsz hli hfr hm0 hal2 hsz2 hli2
                  go_wp2_with (first | (go_at_call 116; (with_reducible refine (R1.out _).mono ?_); rintro e w' ⟨rfl, rfl⟩) | (go_at_call 116; (with_reducible refine (R2.out _).mono ?_); rintro e w' ⟨rfl, rfl⟩) | (go_at_call 117; (with_reducible refine (N1.out _).mono ?_); rintro e w' ⟨rfl, rfl⟩) | (go_at_call 115; refine (rdigit_any _ hcb.1 hcb.2 _).mono ?_; rintro e w' ⟨rfl, rfl⟩))
                  refine bodyPost_ret (v := .tuple #[.int .i64 ((a : Int) + n + 1 + m), .agg #[.int .i64 0, .int .i64 0], .int .i64 6]) (by simp [results, Tryz.results96, go_sem, *]) rfl ?_
                  refine ⟨HR.out, ?_⟩
                  repeat (first | exact Below.refl _ _ | refine below_drewN ?_ _ | refine Below.drew ?_ | refine Below.setCell ?_ (by first | omega | (simp; done) | (simp; omega)) _ | refine Below.alloc ?_ (by first | omega | (simp; done) | (simp; omega)) _ | refine below_step (by assumption) (by first | omega | (simp; done) | (simp; omega)) ?_)
                · have h9' : (a : Int) + n + 1 + m - ((a : Int) + n + 1) ≤ 9 := by omega
                  have hpl : m ≤ 9 := by omega
                  have HR : Hid (Ending.returned (.tuple #[.int .i64 ((a : Int) + n + 1 + m), .agg #[.int .i64 (makeR p (10 ^ m)).P, .int .i64 (makeR p (10 ^ m)).Q], .int .i64 (makeR p (10 ^ m)).E]) = .returned (.tuple #[.int .i64 ((a + (meas (s.data.toList.drop a)).fin : Nat) : Int), .agg #[.int .i64 (rnR (s.data.toList.drop a)).P, .int .i64 (rnR (s.data.toList.drop a)).Q], .int .i64 (rnR (s.data.toList.drop a)).E])) := by
                    apply Lib.hid
                    have hr : rnR (s.data.toList.drop a) = makeR p (10 ^ m) := by
                      rw [hrn]; unfold numR; rw [if_neg (by show ¬ 9 < ((s.data.toList.drop (a + n + 1)).take m).length; omega)]; simp only [hj, hlb]
                    rw [hr, hfin]
                  clear hj hrn hfin hal3 hlb h9
                  clear hx hm hn hal hsz hli hfr hm0 hal2 hsz2 hli2
                  go_wp2_with (first | (go_at_call 116; (with_reducible refine (R1.out _).mono ?_); rintro e w' ⟨rfl, rfl⟩) | (go_at_call 116; (with_reducible refine (R2.out _).mono ?_); rintro e w' ⟨rfl, rfl⟩) | (go_at_call 117; (with_reducible refine (N1.out _).mono ?_); rintro e w' ⟨rfl, rfl⟩) | (go_at_call 115; refine (rdigit_any _ hcb.1 hcb.2 _).mono ?_; rintro e w' ⟨rfl, rfl⟩) | (go_at_call 119; refine (power_at _ m _ (by omega) hpl).mono ?_; rintro e w' ⟨rfl, rfl⟩) | (go_at_call 118; refine (rmake_any _ _ _).mono ?_; rintro e w1 ⟨rfl, hb1⟩; obtain ⟨hc1, hf1⟩ := bcell hb1; have hz := hb1.size; (try simp at hz); (try (have z1_0 : w.heap.size < w1.heap.size := (by omega))); (try (have z1_1 : w.heap.size + 1 < w1.heap.size := (by omega))); clear hz))
                  have q0 : (w1.alloc (.cells #[.int .i64 (makeR p (10 ^ m)).P, .int .i64 (makeR p (10 ^ m)).Q] 44)).cell? ⟨w.heap.size, 0, none⟩ = some (.int .i64 0) := by go_simp
                  have q1 : (w1.alloc (.cells #[.int .i64 (makeR p (10 ^ m)).P, .int .i64 (makeR p (10 ^ m)).Q] 44)).cell? ⟨w.heap.size, 1, none⟩ = some (.int .i64 0) := by go_simp
                  have q2 : (w1.alloc (.cells #[.int .i64 (makeR p (10 ^ m)).P, .int .i64 (makeR p (10 ^ m)).Q] 44)).cell? ⟨w1.heap.size, 0, none⟩ = some (.int .i64 (makeR p (10 ^ m)).P) := by go_simp
                  have q3 : (w1.alloc (.cells #[.int .i64 (makeR p (10 ^ m)).P, .int .i64 (makeR p (10 ^ m)).Q] 44)).cell? ⟨w1.heap.size, 1, none⟩ = some (.int .i64 (makeR p (10 ^ m)).Q) := by go_simp
                  have qf0 : (w1.alloc (.cells #[.int .i64 (makeR p (10 ^ m)).P, .int .i64 (makeR p (10 ^ m)).Q] 44)).frozen? ⟨w.heap.size, 0, none⟩ = false := by go_simp
                  have qf1 : (w1.alloc (.cells #[.int .i64 (makeR p (10 ^ m)).P, .int .i64 (makeR p (10 ^ m)).Q] 44)).frozen? ⟨w.heap.size, 1, none⟩ = false := by go_simp
                  have kB : Below w.heap.size w (w1.alloc (.cells #[.int .i64 (makeR p (10 ^ m)).P, .int .i64 (makeR p (10 ^ m)).Q] 44)) := by
                    repeat (first | exact Below.refl _ _ | refine below_drewN ?_ _ | refine Below.drew ?_ | refine Below.setCell ?_ (by first | omega | (simp; done) | (simp; omega)) _ | refine Below.alloc ?_ (by first | omega | (simp; done) | (simp; omega)) _ | refine below_step (by assumption) (by first | omega | (simp; done) | (simp; omega)) ?_)
                  have kz : w.heap.size < (w1.alloc (.cells #[.int .i64 (makeR p (10 ^ m)).P, .int .i64 (makeR p (10 ^ m)).Q] 44)).heap.size := by simp; omega
                  generalize (w1.alloc (.cells #[.int .i64 (makeR p (10 ^ m)).P, .int .i64 (makeR p (10 ^ m)).Q] 44)) = W at *
                  go_region
                  all_goals go_wp2
                  refine bodyPost_ret (v := .tuple #[.int .i64 ((a : Int) + n + 1 + m), .agg #[.int .i64 (makeR p (10 ^ m)).P, .int .i64 (makeR p (10 ^ m)).Q], .int .i64 (makeR p (10 ^ m)).E]) (by simp [results, Tryz.results96, go_sem, *]) rfl ?_
                  refine ⟨HR.out, ?_⟩
                  exact ((kB.setCell (by simp) _).setCell (by simp) _).drew
        · have hfr : frac (s.data.toList.drop a) = false := Bool.eq_false_iff.2 fun h => by obtain ⟨_, _, h, _⟩ := hfa.1 h; omega
          have hcb := byte_bd 0
          have h1' : (s.size : Int) ≤ (a : Int) + n + 1 := by omega
          clear hfa
          have hm : meas (s.data.toList.drop a) = ⟨10, (s.data.toList.drop a).take n, [], n⟩ := by unfold meas; rw [if_neg (by simp [hx]), if_neg (by simp [hfr]), hn]
          cases hj : jn 10 0 ((s.data.toList.drop a).take n) with
          | none =>
            have N1 : Hid (∀ w, Calls Tryz.prog 117 #[.string (s.extract a (a + n)), .int .i64 10] w fun e w' => e = .returned (.tuple #[.int .i64 0, .bool false]) ∧ w = w') := Lib.hid fun w => rjoin_none _ 10 w hsz (by omega) (by omega) (by rw [hli]; exact hal) (by rw [hli]; exact hj)
            have HR : Hid (Ending.returned (.tuple #[.int .i64 ((a : Int) + n), .agg #[.int .i64 0, .int .i64 0], .int .i64 6]) = .returned (.tuple #[.int .i64 ((a + (meas (s.data.toList.drop a)).fin : Nat) : Int), .agg #[.int .i64 (rnR (s.data.toList.drop a)).P, .int .i64 (rnR (s.data.toList.drop a)).Q], .int .i64 (rnR (s.data.toList.drop a)).E])) := by
              apply Lib.hid
              have hr : rnR (s.data.toList.drop a) = err 6 := by
                unfold rnR; rw [hm, if_neg (by simp; omega)]; unfold numR; rw [if_neg (by simp)]; simp only [List.append_nil, hj]
              rw [hr, hm]
              simp only [err]
              rw [show ((a + n : Nat) : Int) = (a : Int) + n by omega]
            clear hx hm hn hal hsz hli hj hfr
            go_wp2_with (first | (go_at_call 116; (with_reducible refine (R1.out _).mono ?_); rintro e w' ⟨rfl, rfl⟩) | (go_at_call 117; (with_reducible refine (N1.out _).mono ?_); rintro e w' ⟨rfl, rfl⟩) | (go_at_call 115; refine (rdigit_any _ hcb.1 hcb.2 _).mono ?_; rintro e w' ⟨rfl, rfl⟩))
            refine bodyPost_ret (v := .tuple #[.int .i64 ((a : Int) + n), .agg #[.int .i64 0, .int .i64 0], .int .i64 6]) (by simp [results, Tryz.results96, go_sem, *]) rfl ?_
            refine ⟨HR.out, ?_⟩
            repeat (first | exact Below.refl _ _ | refine below_drewN ?_ _ | refine Below.drew ?_ | refine Below.setCell ?_ (by first | omega | (simp; done) | (simp; omega)) _ | refine Below.alloc ?_ (by first | omega | (simp; done) | (simp; omega)) _ | refine below_step (by assumption) (by first | omega | (simp; done) | (simp; omega)) ?_)
          | some p =>
            have N1 : Hid (∀ w, Calls Tryz.prog 117 #[.string (s.extract a (a + n)), .int .i64 10] w fun e w' => e = .returned (.tuple #[.int .i64 p, .bool true]) ∧ w = w') := Lib.hid fun w => rjoin_some _ 10 p w hsz (by omega) (by omega) (by rw [hli]; exact hal) (by rw [hli]; exact hj)
            have HR : Hid (Ending.returned (.tuple #[.int .i64 ((a : Int) + n), .agg #[.int .i64 (makeR p (10 ^ 0)).P, .int .i64 (makeR p (10 ^ 0)).Q], .int .i64 (makeR p (10 ^ 0)).E]) = .returned (.tuple #[.int .i64 ((a + (meas (s.data.toList.drop a)).fin : Nat) : Int), .agg #[.int .i64 (rnR (s.data.toList.drop a)).P, .int .i64 (rnR (s.data.toList.drop a)).Q], .int .i64 (rnR (s.data.toList.drop a)).E])) := by
              apply Lib.hid
              have hr : rnR (s.data.toList.drop a) = makeR p (10 ^ 0) := by
                unfold rnR; rw [hm, if_neg (by simp; omega)]; unfold numR; rw [if_neg (by simp)]; simp only [List.append_nil, hj, List.length_nil]
              rw [hr, hm]
              simp only
              rw [show ((a + n : Nat) : Int) = (a : Int) + n by omega]
            simp only [Int.pow_zero] at HR
            obtain ⟨pl, hpl0⟩ : ∃ pl : Nat, pl = 0 := ⟨0, rfl⟩
            have PW : Hid (∀ w, Calls Tryz.prog 119 #[.int .i64 0] w fun e w' => e = .returned (.int .i64 1) ∧ w = w') := Lib.hid fun w => power_at 0 0 w rfl (by omega)
            clear hpl0
            clear hx hm hn hal hsz hli hj hfr
            go_wp2_with (first | (go_at_call 116; (with_reducible refine (R1.out _).mono ?_); rintro e w' ⟨rfl, rfl⟩) | (go_at_call 117; (with_reducible refine (N1.out _).mono ?_); rintro e w' ⟨rfl, rfl⟩) | (go_at_call 115; refine (rdigit_any _ hcb.1 hcb.2 _).mono ?_; rintro e w' ⟨rfl, rfl⟩) | (go_at_call 119; (with_reducible refine (PW.out _).mono ?_); rintro e w' ⟨rfl, rfl⟩) | (go_at_call 118; refine (rmake_any _ _ _).mono ?_; rintro e w1 ⟨rfl, hb1⟩; obtain ⟨hc1, hf1⟩ := bcell hb1; have hz := hb1.size; (try simp at hz); (try (have z1_0 : w.heap.size < w1.heap.size := (by omega))); (try (have z1_1 : w.heap.size + 1 < w1.heap.size := (by omega))); clear hz))
            have q0 : (w1.alloc (.cells #[.int .i64 (makeR p 1).P, .int .i64 (makeR p 1).Q] 44)).cell? ⟨w.heap.size, 0, none⟩ = some (.int .i64 0) := by go_simp
            have q1 : (w1.alloc (.cells #[.int .i64 (makeR p 1).P, .int .i64 (makeR p 1).Q] 44)).cell? ⟨w.heap.size, 1, none⟩ = some (.int .i64 0) := by go_simp
            have q2 : (w1.alloc (.cells #[.int .i64 (makeR p 1).P, .int .i64 (makeR p 1).Q] 44)).cell? ⟨w1.heap.size, 0, none⟩ = some (.int .i64 (makeR p 1).P) := by go_simp
            have q3 : (w1.alloc (.cells #[.int .i64 (makeR p 1).P, .int .i64 (makeR p 1).Q] 44)).cell? ⟨w1.heap.size, 1, none⟩ = some (.int .i64 (makeR p 1).Q) := by go_simp
            have qf0 : (w1.alloc (.cells #[.int .i64 (makeR p 1).P, .int .i64 (makeR p 1).Q] 44)).frozen? ⟨w.heap.size, 0, none⟩ = false := by go_simp
            have qf1 : (w1.alloc (.cells #[.int .i64 (makeR p 1).P, .int .i64 (makeR p 1).Q] 44)).frozen? ⟨w.heap.size, 1, none⟩ = false := by go_simp
            have kB : Below w.heap.size w (w1.alloc (.cells #[.int .i64 (makeR p 1).P, .int .i64 (makeR p 1).Q] 44)) := by
              repeat (first | exact Below.refl _ _ | refine below_drewN ?_ _ | refine Below.drew ?_ | refine Below.setCell ?_ (by first | omega | (simp; done) | (simp; omega)) _ | refine Below.alloc ?_ (by first | omega | (simp; done) | (simp; omega)) _ | refine below_step (by assumption) (by first | omega | (simp; done) | (simp; omega)) ?_)
            have kz : w.heap.size < (w1.alloc (.cells #[.int .i64 (makeR p 1).P, .int .i64 (makeR p 1).Q] 44)).heap.size := by simp; omega
            generalize (w1.alloc (.cells #[.int .i64 (makeR p 1).P, .int .i64 (makeR p 1).Q] 44)) = W at *
            go_region
            all_goals go_wp2
            refine bodyPost_ret (v := .tuple #[.int .i64 ((a : Int) + n), .agg #[.int .i64 (makeR p 1).P, .int .i64 (makeR p 1).Q], .int .i64 (makeR p 1).E]) (by simp [results, Tryz.results96, go_sem, *]) rfl ?_
            refine ⟨HR.out, ?_⟩
            exact ((kB.setCell (by simp) _).setCell (by simp) _).drew
end Go.Proofs.YtbdcmnhfmkefdaaGreatDoor
