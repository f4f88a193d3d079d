/- Contracts of layer 4: * and +, and -. -/
import Derived.Test.YtkbcaklleiapdaaDoorPatW
namespace Go.Proofs.YtkbcaklleiapdaaDoor
open Go.RowKit M4
set_option linter.unusedVariables false
theorem upM_step (go : Nat → Res) (s : List UInt8) (P : UInt8 → Bool) (i : Nat) : upM go (runB s P i) i = if belongs s P i = true then M4.orM (go i) (more 1 (upM go (runB s P (i + 1)) (i + 1))) else go i := by
  cases hb : belongs s P i with
  | true =>
    rw [if_pos rfl, runB_step s P i hb]
    show M4.orM (go i) ((upM go (runB s P (i + 1)) (i + 1)).1, (upM go (runB s P (i + 1)) (i + 1)).2 + 1) = _
    unfold more
    rw [Nat.add_comm 1]
  | false => rw [if_neg (by decide), runB_stop s P i hb]; rfl
theorem RSaid.shape {E : Env} {r : Res} {its : List Itm} {st : List Nat} {c : Caps} {B : Nat} {left : Int} {e : Ending} {w' : World} (h : RSaid E r its st c B left e w') : ∃ (x : Int) (b : Bool), e = .returned (.tuple #[.int .i64 x, .bool b]) := by
  rcases h.ways with ⟨u, a1, a2, a3, a4⟩ | ⟨a1, a2, ⟨x, a3⟩, a4⟩ | ⟨a1, ⟨x, a2⟩, _⟩
  · exact ⟨_, _, a3⟩
  · exact ⟨_, _, a3⟩
  · exact ⟨_, _, a2⟩
theorem RSaid.orNone {E : Env} {r1 r2 : Res} {its : List Itm} {st : List Nat} {c : Caps} {B : Nat} {left : Int} {e : Ending} {w' : World} (h1 : r1.1 = Option.none) (hl : (r1.2 : Int) ≤ left) (h : RSaid E r2 its st c B (left - r1.2) e w') : RSaid E (M4.orM r1 r2) its st c B left e w' := by
  rw [orM_none h1]
  have := RSaid.more (r := r2) r1.2 hl h
  exact this
/-- One way of several: found, not found, no step left. -/
theorem RestAt.way {E : Env} {j : Nat} (IH : RestAt E j) (J I : Int) (i : Nat) (m c : Caps) (st : List Nat) (lo : Nat) (left : Int) (w : World) (hJ : J = (j : Int)) (hI : I = (i : Int)) (hi : i ≤ E.s.size) (ha : Agr st m c) (hc : Cok st c lo i) (hw : WF (E.g.its.drop j) st) (hl0 : 0 ≤ left) (hl1 : left ≤ 1000000) (h : Mat E m left w) (r : Res) (hr : Mu E.s.data.toList E.g.fin (E.g.its.drop j) i c = r) :
    Calls Tryd.prog 53 #[.pointer (some ⟨E.b, 0, none⟩), .int .i64 J, .int .i64 I] w fun e w' => RSaid E r (E.g.its.drop j) st c (E.g.its.drop j).length left e w' ∧ Ch [E.b, E.cb] w w' := by
  subst hr
  exact IH J I i m c st lo left w hJ hI hi ha hc hw (by omega) hl1 h

set_option maxHeartbeats 8000000 in
set_option maxRecDepth 100000 in
theorem shortest_any (E : Env) (j i : Nat) (it : Itm) (m c : Caps) (st : List Nat) (lo : Nat) (left : Int) (w : World) (hs : E.s.size ≤ 1000000) (hg : E.g.its.length ≤ 1000000) (hj : E.g.its[j]? = some it) (hk : it.kind = 0) (IH : RestAt E (j + 1)) (hi : i ≤ E.s.size) (ha : Agr st m c) (hc : Cok st c lo i) (hw : WF (E.g.its.drop (j + 1)) st) (hl0 : 0 ≤ left) (hl1 : left ≤ 1000000) (h : Mat E m left w) :
    Calls Tryd.prog 69 #[.pointer (some ⟨E.b, 0, none⟩), .int .i64 (j : Int), .int .i64 (i : Int)] w fun e w' => RSaid E (upM (fun k => Mu E.s.data.toList E.g.fin (E.g.its.drop (j + 1)) k c) (runB E.s.data.toList it.P i) i) (E.g.its.drop (j + 1)) st c ((E.g.its.drop (j + 1)).length + 1) left e w' ∧ Ch [E.b, E.cb] w w' := by
  have hjl := (List.getElem?_eq_some_iff.1 hj).1
  have hdl : (E.g.its.drop (j + 1)).length ≤ 1000000 := by rw [List.length_drop]; omega
  have hj1 := i64w ((j : Int) + 1) (by omega)
  have HCK := Lib.hid hc
  have HW := Lib.hid hw
  have HIH := Lib.hid IH
  have HJ := Lib.hid hj
  have HK := Lib.hid hk
  obtain ⟨r, hr⟩ : ∃ r, upM (fun k => Mu E.s.data.toList E.g.fin (E.g.its.drop (j + 1)) k c) (runB E.s.data.toList it.P i) i = r := ⟨_, rfl⟩
  rw [hr]
  have HRR := Lib.hid hr
  have HM0 := Lib.hid h
  have HA0 := Lib.hid ha
  clear hr h ha hc hw IH hj hk
  go_enter Tryd.func69, Tryd.ntmps69
  go_wp2
  go_loopw [2] (fun vi wr => ∃ (k : Nat) (L : Int) (m' : Caps), i ≤ k ∧ k ≤ E.s.size ∧ 0 ≤ L ∧ L ≤ left ∧ vi = .int .i64 (k : Int) ∧ Hid (Mat E m' L wr) ∧ Hid (Agr st m' c) ∧ Hid (Ch [E.b, E.cb] w wr) ∧ Hid (∀ e w', RSaid E (upM (fun k => Mu E.s.data.toList E.g.fin (E.g.its.drop (j + 1)) k c) (runB E.s.data.toList it.P k) k) (E.g.its.drop (j + 1)) st c ((E.g.its.drop (j + 1)).length + 1) L e w' → RSaid E r (E.g.its.drop (j + 1)) st c ((E.g.its.drop (j + 1)).length + 1) left e w')) (fun vi _ => E.s.size + 1 - (intOf vi).toNat)
  case atStart => exact ⟨i, left, m, Nat.le_refl _, hi, hl0, Int.le_refl _, rfl, HM0, HA0, Lib.hid (Ch.refl _ _), Lib.hid (fun e w' hh => by rw [← HRR.out]; exact hh)⟩
  case round =>
    obtain ⟨k, L, m', hik, hks, hL0, hL1, rfl, HM, HA, HC, HI⟩ := hrel
    rename World => W0
    clear HM0 HA0
    have hk1 := i64w ((k : Int) + 1) (by omega)
    obtain ⟨r1, hr1⟩ : ∃ r, Mu E.s.data.toList E.g.fin (E.g.its.drop (j + 1)) k c = r := ⟨_, rfl⟩
    have HST : Hid (upM (fun k => Mu E.s.data.toList E.g.fin (E.g.its.drop (j + 1)) k c) (runB E.s.data.toList it.P k) k = if belongs E.s.data.toList it.P k = true then M4.orM r1 (more 1 (upM (fun k => Mu E.s.data.toList E.g.fin (E.g.its.drop (j + 1)) k c) (runB E.s.data.toList it.P (k + 1)) (k + 1))) else r1) := Lib.hid (by rw [upM_step]; simp only [hr1])
    have R1 := Lib.hid (HIH.out.way ((j : Int) + 1) (k : Int) k m' c st lo L W0 (by push_cast; rfl) rfl hks HA.out (HCK.out.up hik) HW.out hL0 (by omega) HM.out r1 hr1)
    clear hr1
    by_cases hle : (r1.2 : Int) ≤ L
    · cases hu : r1.1 with
      | some u =>
        have R2 := Lib.hid (R1.out.mono fun e w' g => (by
          obtain ⟨g1, g2⟩ := g
          unfold RSaid at g1
          rw [if_pos hle, hu] at g1
          exact ⟨g1.1, g1.2, g2⟩ : e = .returned (.tuple #[.int .i64 (u.1 : Int), .bool true]) ∧ (∃ m' st', Mat E m' (L - r1.2) w' ∧ stL (E.g.its.drop (j + 1)) st = some st' ∧ Agr st' m' u.2) ∧ Ch [E.b, E.cb] W0 w'))
        have HU := Lib.hid hu
        have HLE := Lib.hid hle
        clear R1 hu hle
        go_wp2_with (go_at_call 53; (with_reducible refine (R2.out).mono ?_); rintro e w2 ⟨rfl, hm2, hc2⟩)
        go_ret2
        refine ⟨HI.out _ _ ?_, HC.out.trans hc2⟩
        rw [HST.out]
        split
        · rw [orM_some' HU.out]; exact RSaid.some HLE.out HU.out rfl hm2
        · exact RSaid.some HLE.out HU.out rfl hm2
      | none =>
        have R2 := Lib.hid (R1.out.mono fun e w' g => (by
          obtain ⟨g1, g2⟩ := g
          unfold RSaid at g1
          rw [if_pos hle, hu] at g1
          obtain ⟨⟨x, hx⟩, m', g3, g4⟩ := g1
          exact ⟨x, hx, m', g3, g4, g2⟩ : ∃ x : Int, e = .returned (.tuple #[.int .i64 x, .bool false]) ∧ ∃ m', Mat E m' (L - r1.2) w' ∧ Agr st m' c ∧ Ch [E.b, E.cb] W0 w'))
        have HU := Lib.hid hu
        have HLE := Lib.hid hle
        clear R1 hu
        go_upto_region 4 with (go_at_call 53; (with_reducible refine (R2.out).mono ?_); rintro e w2 ⟨x, rfl, m2, hm2, ha2, hc2⟩)
        have B0 := belongs_any E m2 (L - r1.2) j k it w2 hs hks hg HJ.out HK.out hm2
        cases hb : belongs E.s.data.toList it.P k with
        | false =>
          rw [hb] at B0
          have B1 := Lib.hid B0
          have HB := Lib.hid hb
          have HM2 := Lib.hid hm2
          have HA2 := Lib.hid ha2
          have HC2 := Lib.hid hc2
          clear B0 hb hm2 ha2 hc2 hle
          go_wp2_with (go_at_call 79; (with_reducible refine (B1.out).mono ?_); rintro e w3 ⟨rfl, n, rfl⟩)
          go_ret2
          refine ⟨HI.out _ _ ?_, (HC.out.trans HC2.out).drewN _⟩
          rw [HST.out, if_neg (by rw [HB.out]; decide)]
          exact RSaid.none HLE.out HU.out (no_mk 0) ⟨m2, HM2.out.drewN _, HA2.out⟩
        | true =>
          rw [hb] at B0
          have B1 := Lib.hid B0
          have HB := Lib.hid hb
          have hbl := belongs_lt hb
          simp at hbl
          have HM2 := Lib.hid hm2
          have HA2 := Lib.hid ha2
          have HC2 := Lib.hid hc2
          have S0 := fun n => step_any E m2 (L - r1.2) (w2.drewN n) (by omega) (hm2.drewN n)
          by_cases hL2 : 0 ≤ L - r1.2 - 1
          · have S1 : Hid (∀ n, Calls Tryd.prog 52 #[.pointer (some ⟨E.mv, 0, none⟩)] (w2.drewN n) fun e w' => e = .returned (.bool true) ∧ Mat E m2 (L - r1.2 - 1) w' ∧ Ch [E.b] (w2.drewN n) w') := Lib.hid (fun n => by have := S0 n; rw [decide_eq_true hL2] at this; exact this)
            have m7 := hm2.c 7
            simp at m7
            clear B0 hb hm2 ha2 hc2 S0
            go_wp2_with (first | (go_at_call 79; (with_reducible refine (B1.out).mono ?_); rintro e w3 ⟨rfl, n, rfl⟩) | (go_at_call 52; (with_reducible refine (S1.out _).mono ?_); rintro e w4 ⟨rfl, hm4, hc4⟩))
            have HM4 := Lib.hid hm4
            have HC4 := Lib.hid (((HC.out.trans HC2.out).drewN n).trans (hc4.mono (by simp)))
            clear hm4 hc4
            go_roundw
            case rel => exact ⟨k + 1, L - r1.2 - 1, m2, by omega, by omega, by omega, by omega, by go_num, HM4, HA2, HC4, Lib.hid (fun e w' hh => by
              apply HI.out
              rw [HST.out, if_pos HB.out]
              refine RSaid.orNone HU.out HLE.out ?_
              exact RSaid.more 1 (by have := HLE.out; push_cast; omega) (by push_cast; exact hh))⟩
            case measure => simp [intOf]; omega
          · have S1 : Hid (∀ n, Calls Tryd.prog 52 #[.pointer (some ⟨E.mv, 0, none⟩)] (w2.drewN n) fun e w' => e = .returned (.bool false) ∧ Mat E m2 (L - r1.2 - 1) w' ∧ Ch [E.b] (w2.drewN n) w') := Lib.hid (fun n => by have := S0 n; rw [decide_eq_false hL2] at this; exact this)
            have m7 := hm2.c 7
            simp at m7
            clear B0 hb hm2 ha2 hc2 S0
            go_wp2_with (first | (go_at_call 79; (with_reducible refine (B1.out).mono ?_); rintro e w3 ⟨rfl, n, rfl⟩) | (go_at_call 52; (with_reducible refine (S1.out _).mono ?_); rintro e w4 ⟨rfl, hm4, hc4⟩))
            go_ret2
            refine ⟨HI.out _ _ ?_, ((HC.out.trans HC2.out).drewN _).trans (hc4.mono (by simp))⟩
            rw [HST.out, if_pos HB.out]
            refine RSaid.orNone HU.out HLE.out ?_
            refine RSaid.out (by unfold more; push_cast; omega) (ROut.of (no_mk 0) hm4 (by omega) (fun _ => by push_cast; omega) (by omega))
    · have R2 := Lib.hid (R1.out.mono fun e w' g => (by
        obtain ⟨g1, g2⟩ := g
        unfold RSaid at g1
        rw [if_neg hle] at g1
        obtain ⟨⟨x, hx⟩, m', l', g3, g4, g5, g6⟩ := g1
        exact ⟨x, hx, m', l', g3, g4, g5 hL0, g2⟩ : ∃ x : Int, e = .returned (.tuple #[.int .i64 x, .bool false]) ∧ ∃ m' l', Mat E m' l' w' ∧ l' < 0 ∧ -1 - ((E.g.its.drop (j + 1)).length : Int) ≤ l' ∧ Ch [E.b, E.cb] W0 w'))
      have HLE := Lib.hid hle
      have HOUT : Hid (∀ (e : Ending) (w' : World) (m3 : Caps) (l3 : Int), No e → Mat E m3 l3 w' → l3 < 0 → -2 - ((E.g.its.drop (j + 1)).length : Int) ≤ l3 → RSaid E r (E.g.its.drop (j + 1)) st c ((E.g.its.drop (j + 1)).length + 1) left e w') := Lib.hid (fun e w' m3 l3 h1 h2 h3 h4 => by
        apply HI.out
        rw [HST.out]
        split
        · exact RSaid.out (by have := orM_ge r1 (more 1 (upM (fun k => Mu E.s.data.toList E.g.fin (E.g.its.drop (j + 1)) k c) (runB E.s.data.toList it.P (k + 1)) (k + 1))); omega) (ROut.of h1 h2 h3 (fun _ => by push_cast; omega) hL0)
        · exact RSaid.out hle (ROut.of h1 h2 h3 (fun _ => by push_cast; omega) hL0))
      clear R1 hle
      go_upto_region 4 with (go_at_call 53; (with_reducible refine (R2.out).mono ?_); rintro e w2 ⟨x, rfl, m2, l2, hm2, hl2, hl3, hc2⟩)
      have B0 := belongs_any E m2 l2 j k it w2 hs hks hg HJ.out HK.out hm2
      have HM2 := Lib.hid hm2
      have HC2 := Lib.hid hc2
      cases hb : belongs E.s.data.toList it.P k with
      | false =>
        rw [hb] at B0
        have B1 := Lib.hid B0
        clear B0 hb hm2 hc2
        go_wp2_with (go_at_call 79; (with_reducible refine (B1.out).mono ?_); rintro e w3 ⟨rfl, n, rfl⟩)
        go_ret2
        exact ⟨HOUT.out _ _ m2 l2 (no_mk 0) (HM2.out.drewN _) hl2 (by omega), (HC.out.trans HC2.out).drewN _⟩
      | true =>
        rw [hb] at B0
        have B1 := Lib.hid B0
        have S1 : Hid (∀ n, Calls Tryd.prog 52 #[.pointer (some ⟨E.mv, 0, none⟩)] (w2.drewN n) fun e w' => e = .returned (.bool false) ∧ Mat E m2 (l2 - 1) w' ∧ Ch [E.b] (w2.drewN n) w') := Lib.hid (fun n => by have := step_any E m2 l2 (w2.drewN n) (by omega) (hm2.drewN n); rw [decide_eq_false (by omega)] at this; exact this)
        have m7 := hm2.c 7
        simp at m7
        clear B0 hb hm2 hc2
        go_wp2_with (first | (go_at_call 79; (with_reducible refine (B1.out).mono ?_); rintro e w3 ⟨rfl, n, rfl⟩) | (go_at_call 52; (with_reducible refine (S1.out _).mono ?_); rintro e w4 ⟨rfl, hm4, hc4⟩))
        go_ret2
        exact ⟨HOUT.out _ _ m2 (l2 - 1) (no_mk 0) hm4 (by omega) (by omega), ((HC.out.trans HC2.out).drewN _).trans (hc4.mono (by simp))⟩
end Go.Proofs.YtkbcaklleiapdaaDoor
