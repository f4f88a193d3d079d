/- Contracts of layer 4: * and +. -/
import Derived.Test.YtkbcaklleiapdaaDoorPatX
namespace Go.Proofs.YtkbcaklleiapdaaDoor
open Go.RowKit M4
set_option linter.unusedVariables false
theorem belongs_int (E : Env) (m : Caps) (left : Int) (j i : Nat) (I : Int) (it : Itm) (w : World) (hI : I = (i : Int)) (hs : E.s.size ≤ 1000000) (hi : i ≤ E.s.size) (hl : E.g.its.length ≤ 1000000) (hj : E.g.its[j]? = some it) (hk : it.kind = 0) (h : Mat E m left w) :
    Calls Tryd.prog 79 #[.pointer (some ⟨E.b, 0, none⟩), .int .i64 (j : Int), .int .i64 I] w fun e w' => e = .returned (.bool (belongs E.s.data.toList it.P i)) ∧ ∃ n, w' = w.drewN n := by
  subst hI; exact belongs_any E m left j i it w hs hi hl hj hk h

set_option maxHeartbeats 8000000 in
set_option maxRecDepth 100000 in
theorem longest_any (E : Env) (j i least : Nat) (it : Itm) (m c : Caps) (st : List Nat) (lo : Nat) (left : Int) (w : World) (hle1 : least ≤ 1) (hs : E.s.size ≤ 1000000) (hg : E.g.its.length ≤ 1000000) (hj : E.g.its[j]? = some it) (hk : it.kind = 0) (IH : RestAt E (j + 1)) (hi : i ≤ E.s.size) (ha : Agr st m c) (hc : Cok st c lo i) (hw : WF (E.g.its.drop (j + 1)) st) (hl0 : 0 ≤ left) (hl1 : left ≤ 1000000) (h : Mat E m left w) :
    Calls Tryd.prog 68 #[.pointer (some ⟨E.b, 0, none⟩), .int .i64 (j : Int), .int .i64 (i : Int), .int .i64 (least : Int)] w fun e w' => RSaid E (more (runB E.s.data.toList it.P i) (downM (fun k => Mu E.s.data.toList E.g.fin (E.g.its.drop (j + 1)) k c) i least (runB E.s.data.toList it.P i))) (E.g.its.drop (j + 1)) st c ((E.g.its.drop (j + 1)).length + 1) left e w' ∧ Ch [E.b, E.cb] w w' := by
  have hjl := (List.getElem?_eq_some_iff.1 hj).1
  have hdl : (E.g.its.drop (j + 1)).length ≤ 1000000 := by rw [List.length_drop]; omega
  have hj1 := i64w ((j : Int) + 1) (by omega)
  have HCK := Lib.hid hc
  have HW := Lib.hid hw
  have HIH := Lib.hid IH
  have HJ := Lib.hid hj
  have HK := Lib.hid hk
  obtain ⟨n0, hn0⟩ : ∃ n, runB E.s.data.toList it.P i = n := ⟨_, rfl⟩
  have hn0s : i + n0 ≤ E.s.size := by
    have := runB_le E.s.data.toList it.P i (by simpa using hi)
    rw [hn0] at this; simpa using this
  obtain ⟨r, hr⟩ : ∃ r, (more (runB E.s.data.toList it.P i) (downM (fun k => Mu E.s.data.toList E.g.fin (E.g.its.drop (j + 1)) k c) i least (runB E.s.data.toList it.P i))) = r := ⟨_, rfl⟩
  rw [hr]
  rw [hn0] at hr
  have HRR := Lib.hid hr
  have HN0 := Lib.hid hn0
  have HM0 := Lib.hid h
  have HA0 := Lib.hid ha
  have hl9 : 0 ≤ (least : Int) := by omega
  clear hr h ha hc hw IH hj hk hn0
  go_enter Tryd.func68, Tryd.ntmps68
  go_wp2
  go_loopw [10] (fun vn wr => ∃ (n : Nat), n ≤ n0 ∧ (n : Int) ≤ left ∧ vn = .int .i64 (n : Int) ∧ Hid (Mat E m (left - n) wr) ∧ Hid (Ch [E.b, E.cb] w wr) ∧ Hid (n0 = n + runB E.s.data.toList it.P (i + n))) (fun vn _ => E.s.size + 1 - (intOf vn).toNat)
  case atStart => exact ⟨0, Nat.zero_le _, hl0, rfl, by have := HM0.out; exact Lib.hid (by simpa using this), Lib.hid (Ch.refl _ _), Lib.hid (by rw [Nat.add_zero, HN0.out, Nat.zero_add])⟩
  case round =>
    obtain ⟨n, hn, hnl, rfl, HM, HC, HRB⟩ := hrel
    rename World => W0
    clear HM0
    have hin := i64w ((i : Int) + (n : Int)) (by omega)
    have hnn := i64w ((n : Int) + 1) (by omega)
    have m7 := HM.out.c 7
    simp at m7
    have B0 := belongs_int E m (left - n) j (i + n) ((i : Int) + (n : Int)) it W0 (by push_cast; rfl) hs (by omega) hg HJ.out HK.out HM.out
    have S0 := fun q => step_any E m (left - n) (W0.drewN q) (by omega) (HM.out.drewN q)
    cases hb : belongs E.s.data.toList it.P (i + n) with
    | true =>
      rw [hb] at B0
      have B1 := Lib.hid B0
      have HRB2 : Hid (runB E.s.data.toList it.P (i + n) = runB E.s.data.toList it.P (i + n + 1) + 1) := Lib.hid (runB_step _ _ _ hb)
      by_cases hL : 0 ≤ left - n - 1
      · have S1 : Hid (∀ q, Calls Tryd.prog 52 #[.pointer (some ⟨E.mv, 0, none⟩)] (W0.drewN q) fun e w' => e = .returned (.bool true) ∧ Mat E m (left - n - 1) w' ∧ Ch [E.b] (W0.drewN q) w') := Lib.hid (fun q => by have := S0 q; rw [decide_eq_true hL] at this; exact this)
        clear B0 S0 hb
        go_wp2_with (first | (go_at_call 79; (with_reducible refine (B1.out).mono ?_); rintro e w3 ⟨rfl, q, rfl⟩) | (go_at_call 52; (with_reducible refine (S1.out _).mono ?_); rintro e w4 ⟨rfl, hm4, hc4⟩))
        have HM4 := Lib.hid hm4
        have HC4 := Lib.hid ((HC.out.drewN q).trans (hc4.mono (by simp)))
        clear hm4 hc4
        go_roundw
        case rel => exact ⟨n + 1, by have := HRB.out; have := HRB2.out; omega, by push_cast; omega, by go_num, Lib.hid (by have := HM4.out; rw [show left - ((n + 1 : Nat) : Int) = left - n - 1 by push_cast; omega]; exact this), HC4, Lib.hid (by have := HRB.out; have := HRB2.out; rw [show i + (n + 1) = i + n + 1 by omega]; omega)⟩
        case measure => simp [intOf]; omega
      · have S1 : Hid (∀ q, Calls Tryd.prog 52 #[.pointer (some ⟨E.mv, 0, none⟩)] (W0.drewN q) fun e w' => e = .returned (.bool false) ∧ Mat E m (left - n - 1) w' ∧ Ch [E.b] (W0.drewN q) w') := Lib.hid (fun q => by have := S0 q; rw [decide_eq_false hL] at this; exact this)
        have HOUT : Hid (¬ (r.2 : Int) ≤ left) := Lib.hid (by
          rw [← HRR.out]; unfold more; simp only []
          have := HRB.out; have := HRB2.out; push_cast; omega)
        have X1 := Lib.hid fun W (hW : Mat E m (left - n - 1) W) => (by have := exhausted_any E m (left - n - 1) W hW; rw [decide_eq_true (by omega)] at this; exact this : Calls _ _ _ _ fun e w' => e = .returned (.bool true) ∧ W = w')
        clear B0 S0 hb
        by_cases hln : (least : Int) ≤ (n : Int)
        · have hlnd : decide (least ≤ n) = true := decide_eq_true (by omega)
          go_wp2_with (first | (go_at_call 79; (with_reducible refine (B1.out).mono ?_); rintro e w3 ⟨rfl, q, rfl⟩) | (go_at_call 52; (with_reducible refine (S1.out _).mono ?_); rintro e w4 ⟨rfl, hm4, hc4⟩))
          refine wp_loop_rounds 1 ?_
          rw [rounds_succ]
          go_wp2_with (go_at_call 42; (with_reducible refine (X1.out _ hm4).mono ?_); rintro e w5 ⟨rfl, hw5⟩; subst w5)
          go_ret2
          exact ⟨RSaid.out (by have := HOUT.out; omega) (ROut.of (no_mk 0) hm4 (by omega) (fun _ => by push_cast; omega) hl0), (HC.out.drewN q).trans (hc4.mono (by simp))⟩
        · have hlnd : decide (least ≤ n) = false := decide_eq_false (by omega)
          go_wp2_with (first | (go_at_call 79; (with_reducible refine (B1.out).mono ?_); rintro e w3 ⟨rfl, q, rfl⟩) | (go_at_call 52; (with_reducible refine (S1.out _).mono ?_); rintro e w4 ⟨rfl, hm4, hc4⟩))
          refine wp_loop_rounds 1 ?_
          rw [rounds_succ]
          go_wp2
          go_ret2
          exact ⟨RSaid.out (by have := HOUT.out; omega) (ROut.of (no_mk 0) hm4 (by omega) (fun _ => by push_cast; omega) hl0), (HC.out.drewN q).trans (hc4.mono (by simp))⟩
    | false =>
      rw [hb] at B0
      have B1 := Lib.hid B0
      have HNE : Hid (n = n0) := Lib.hid (by have := HRB.out; rw [runB_stop _ _ _ hb] at this; omega)
      clear B0 S0 hb m7
      go_wp2_with (go_at_call 79; (with_reducible refine (B1.out).mono ?_); rintro e w3 ⟨rfl, q, rfl⟩)
      have HM1 := Lib.hid (HM.out.drewN q)
      have HC1 := Lib.hid (HC.out.drewN q)
      have HI0 : Hid (∀ e w', RSaid E (downZ (fun k => Mu E.s.data.toList E.g.fin (E.g.its.drop (j + 1)) k c) i least (n : Int)) (E.g.its.drop (j + 1)) st c ((E.g.its.drop (j + 1)).length + 1) (left - n) e w' → RSaid E r (E.g.its.drop (j + 1)) st c ((E.g.its.drop (j + 1)).length + 1) left e w') := Lib.hid (fun e w' hh => by
        rw [downZ_nat _ hle1, HNE.out] at hh
        rw [← HRR.out]
        exact RSaid.more n0 (by rw [← HNE.out]; exact hnl) hh)
      clear HM HC HRB
      go_loopw [10] (fun vn wr => ∃ (k : Int) (L : Int) (m' : Caps), -1 ≤ k ∧ k ≤ (n : Int) ∧ L ≤ left ∧ -1 - ((E.g.its.drop (j + 1)).length : Int) ≤ L ∧ vn = .int .i64 k ∧ Hid (Mat E m' L wr) ∧ Hid (Ch [E.b, E.cb] w wr) ∧ Hid ((0 ≤ L ∧ Agr st m' c ∧ ∀ e w', RSaid E (downZ (fun k => Mu E.s.data.toList E.g.fin (E.g.its.drop (j + 1)) k c) i least k) (E.g.its.drop (j + 1)) st c ((E.g.its.drop (j + 1)).length + 1) L e w' → RSaid E r (E.g.its.drop (j + 1)) st c ((E.g.its.drop (j + 1)).length + 1) left e w') ∨ (L < 0 ∧ ∀ e w', No e → Mat E m' L w' → RSaid E r (E.g.its.drop (j + 1)) st c ((E.g.its.drop (j + 1)).length + 1) left e w'))) (fun vn _ => ((intOf vn) + 1).toNat)
      case atStart => exact ⟨(n : Int), left - n, m, by omega, Int.le_refl _, by omega, by omega, rfl, HM1, HC1, Lib.hid (Or.inl ⟨by omega, HA0.out, HI0.out⟩)⟩
      case round =>
        obtain ⟨k, L, m', hk1, hk2, hL1, hL2, rfl, HM, HC, HI⟩ := hrel
        rename World => W1
        clear HM1 HC1 HI0
        have X0 := exhausted_any E m' L W1 HM.out
        by_cases hkl : (least : Int) ≤ k
        · have hkd : decide ((least : Int) ≤ k) = true := decide_eq_true hkl
          rcases HI.out with ⟨h1, h2, h3⟩ | ⟨h1, h2⟩
          · rw [decide_eq_false (by omega)] at X0
            have X1 := Lib.hid X0
            obtain ⟨kn, hkn⟩ : ∃ kn : Nat, k = (kn : Int) := ⟨k.toNat, by omega⟩
            obtain ⟨r1, hr1⟩ : ∃ r, Mu E.s.data.toList E.g.fin (E.g.its.drop (j + 1)) (i + kn) c = r := ⟨_, rfl⟩
            have hik := i64w ((i : Int) + k) (by omega)
            have hk9 := i64w (k - 1) (by omega)
            have HST : Hid (downZ (fun k => Mu E.s.data.toList E.g.fin (E.g.its.drop (j + 1)) k c) i least k = M4.orM r1 (downZ (fun k => Mu E.s.data.toList E.g.fin (E.g.its.drop (j + 1)) k c) i least (k - 1))) := Lib.hid (by rw [downZ_step hkl hle1]; simp only [show k.toNat = kn by omega, hr1])
            have R1 := Lib.hid (HIH.out.way ((j : Int) + 1) ((i : Int) + k) (i + kn) m' c st lo L W1 (by push_cast; rfl) (by push_cast; omega) (by omega) h2 (HCK.out.up (by omega)) HW.out h1 (by omega) HM.out r1 hr1)
            have H3 := Lib.hid h3
            clear hr1 X0 h2 h3 hkn
            by_cases hle : (r1.2 : Int) ≤ L
            · cases hu : r1.1 with
              | some u =>
                have R2 := Lib.hid (R1.out.mono fun e w' g => (by
                  obtain ⟨g1, g2⟩ := g
                  unfold RSaid at g1
                  rw [if_pos hle, hu] at g1
                  exact ⟨g1.1, g1.2, g2⟩ : e = .returned (.tuple #[.int .i64 (u.1 : Int), .bool true]) ∧ (∃ m' st', Mat E m' (L - r1.2) w' ∧ stL (E.g.its.drop (j + 1)) st = some st' ∧ Agr st' m' u.2) ∧ Ch [E.b, E.cb] W1 w'))
                have HU := Lib.hid hu
                have HLE := Lib.hid hle
                clear R1 hu hle
                go_wp2_with (first | (go_at_call 42; (with_reducible refine (X1.out).mono ?_); rintro e w5 ⟨rfl, hw5⟩; subst w5) | (go_at_call 53; (with_reducible refine (R2.out).mono ?_); rintro e w2 ⟨rfl, hm2, hc2⟩))
                go_ret2
                refine ⟨H3.out _ _ ?_, HC.out.trans hc2⟩
                rw [HST.out, orM_some' HU.out]
                exact RSaid.some HLE.out HU.out rfl hm2
              | none =>
                have R2 := Lib.hid (R1.out.mono fun e w' g => (by
                  obtain ⟨g1, g2⟩ := g
                  unfold RSaid at g1
                  rw [if_pos hle, hu] at g1
                  obtain ⟨⟨x, hx⟩, m', g3, g4⟩ := g1
                  exact ⟨x, hx, m', g3, g4, g2⟩ : ∃ x : Int, e = .returned (.tuple #[.int .i64 x, .bool false]) ∧ ∃ m', Mat E m' (L - r1.2) w' ∧ Agr st m' c ∧ Ch [E.b, E.cb] W1 w'))
                have HU := Lib.hid hu
                have HLE := Lib.hid hle
                clear R1 hu hle
                go_wp2_with (first | (go_at_call 42; (with_reducible refine (X1.out).mono ?_); rintro e w5 ⟨rfl, hw5⟩; subst w5) | (go_at_call 53; (with_reducible refine (R2.out).mono ?_); rintro e w2 ⟨x, rfl, m2, hm2, ha2, hc2⟩))
                have HM2 := Lib.hid hm2
                have HA2 := Lib.hid ha2
                have HC2 := Lib.hid (HC.out.trans hc2)
                clear hm2 ha2 hc2
                go_roundw
                case rel => exact ⟨k - 1, L - r1.2, m2, by omega, by omega, by have := HLE.out; omega, by have := HLE.out; omega, rfl, HM2, HC2, Lib.hid (Or.inl ⟨by have := HLE.out; omega, HA2.out, fun e w' hh => H3.out e w' (by rw [HST.out]; exact RSaid.orNone HU.out HLE.out hh)⟩)⟩
                case measure => simp [intOf]; omega
            · have R2 := Lib.hid (R1.out.mono fun e w' g => (by
                obtain ⟨g1, g2⟩ := g
                unfold RSaid at g1
                rw [if_neg hle] at g1
                obtain ⟨⟨x, hx⟩, m', l', g3, g4, g5, g6⟩ := g1
                exact ⟨x, hx, m', l', g3, g4, g5 h1, g2⟩ : ∃ x : Int, e = .returned (.tuple #[.int .i64 x, .bool false]) ∧ ∃ m' l', Mat E m' l' w' ∧ l' < 0 ∧ -1 - ((E.g.its.drop (j + 1)).length : Int) ≤ l' ∧ Ch [E.b, E.cb] W1 w'))
              have HLE := Lib.hid hle
              clear R1 hle
              go_wp2_with (first | (go_at_call 42; (with_reducible refine (X1.out).mono ?_); rintro e w5 ⟨rfl, hw5⟩; subst w5) | (go_at_call 53; (with_reducible refine (R2.out).mono ?_); rintro e w2 ⟨x, rfl, m2, l2, hm2, hl2, hl3, hc2⟩))
              have HM2 := Lib.hid hm2
              have HC2 := Lib.hid (HC.out.trans hc2)
              clear hm2 hc2
              go_roundw
              case rel => exact ⟨k - 1, l2, m2, by omega, by omega, by omega, by omega, rfl, HM2, HC2, Lib.hid (Or.inr ⟨hl2, fun e w' hn hm => H3.out e w' (by
                rw [HST.out]
                exact RSaid.out (by have := orM_ge r1 (downZ (fun k => Mu E.s.data.toList E.g.fin (E.g.its.drop (j + 1)) k c) i least (k - 1)); have := HLE.out; omega) (ROut.of hn hm hl2 (fun _ => by push_cast; omega) h1))⟩)⟩
              case measure => simp [intOf]; omega
          · rw [decide_eq_true h1] at X0
            have X1 := Lib.hid X0
            have H2 := Lib.hid h2
            clear X0 h2
            go_wp2_with (go_at_call 42; (with_reducible refine (X1.out).mono ?_); rintro e w5 ⟨rfl, hw5⟩; subst w5)
            go_ret2
            exact ⟨H2.out _ _ (no_mk 0) HM.out, HC.out⟩
        · have hkd : decide ((least : Int) ≤ k) = false := decide_eq_false hkl
          clear X0
          go_wp2
          go_ret2
          have fin : RSaid E r (E.g.its.drop (j + 1)) st c ((E.g.its.drop (j + 1)).length + 1) left (.returned (.tuple #[.int .i64 0, .bool false])) W1 := by
            rcases HI.out with ⟨h1, h2, h3⟩ | ⟨h1, h2⟩
            · refine h3 _ _ ?_
              rw [downZ_stop (by omega)]
              exact RSaid.none (by simpa using h1) rfl (no_mk 0) ⟨m', by have := HM.out; simpa using this, h2⟩
            · exact h2 _ _ (no_mk 0) HM.out
          refine ⟨?_, HC.out⟩
          first | exact fin | (rw [List.length_drop] at fin; exact fin)
end Go.Proofs.YtkbcaklleiapdaaDoor
