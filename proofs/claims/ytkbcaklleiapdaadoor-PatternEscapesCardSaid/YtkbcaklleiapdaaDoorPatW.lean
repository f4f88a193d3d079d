/- Contracts of layer 4: ? and -. -/
import Derived.Test.YtkbcaklleiapdaaDoorPatV
namespace Go.Proofs.YtkbcaklleiapdaaDoor
open Go.RowKit M4
set_option linter.unusedVariables false
theorem drop_at {its : List Itm} {j : Nat} {it : Itm} (h : its[j]? = some it) : its.drop j = it :: its.drop (j + 1) := by
  obtain ⟨h1, h2⟩ := List.getElem?_eq_some_iff.1 h
  rw [List.drop_eq_getElem_cons h1, h2]
/-- Without a step, nothing is matched. -/
theorem ROut.of {E : Env} {B : Nat} {left l' : Int} {e : Ending} {w' : World} {m' : Caps} (hn : No e) (hm : Mat E m' l' w') (h1 : l' < 0) (h2 : 0 ≤ left → -1 - (B : Int) ≤ l') (h3 : 0 ≤ left) : ROut E B left e w' := ⟨hn, m', l', hm, h1, h2, fun e => by omega⟩
def RestLow (E : Env) (j : Nat) : Prop := ∀ (J I : Int) (m : Caps) (left : Int) (w : World), J = (j : Int) → -100000000 ≤ left → left < 0 → Mat E m left w →
  Calls Tryd.prog 53 #[.pointer (some ⟨E.b, 0, none⟩), .int .i64 J, .int .i64 I] w fun e w' => e = .returned (.tuple #[.int .i64 0, .bool false]) ∧ Mat E m (left - 1) w' ∧ Ch [E.b] w w'
theorem no_mk (x : Int) : No (.returned (.tuple #[.int .i64 x, .bool false])) := ⟨x, rfl⟩

set_option maxHeartbeats 2000000 in
set_option maxRecDepth 100000 in
theorem rest_low (E : Env) (j : Nat) : RestLow E j := by
  intro J I m left w hJ hl0 hl1 h
  subst hJ
  have m7 := h.c 7
  simp at m7
  have S0 := step_any E m left w ⟨by omega, by omega⟩ h
  rw [decide_eq_false (by omega)] at S0
  have S1 := Lib.hid S0
  clear h S0
  go_enter Tryd.func53, Tryd.ntmps53
  go_wp2
  refine wp_loop_rounds 1 ?_
  rw [rounds_succ]
  go_wp2_with (go_at_call 52; (with_reducible refine (S1.out).mono ?_); rintro e w1 ⟨rfl, h1, hg1⟩)
  go_ret2
  exact ⟨rfl, h1, hg1⟩

set_option maxHeartbeats 4000000 in
set_option maxRecDepth 100000 in
theorem optional_any (E : Env) (j i : Nat) (it : Itm) (m c : Caps) (st : List Nat) (lo : Nat) (left : Int) (w : World) (hs : E.s.size ≤ 1000000) (hg : E.g.its.length ≤ 1000000) (hj : E.g.its[j]? = some it) (hk : it.kind = 0) (IH : RestAt E (j + 1)) (hi : i ≤ E.s.size) (ha : Agr st m c) (hc : Cok st c lo i) (hw : WF (E.g.its.drop (j + 1)) st) (hl0 : 0 ≤ left) (hl1 : left ≤ 1000000) (h : Mat E m left w) :
    Calls Tryd.prog 67 #[.pointer (some ⟨E.b, 0, none⟩), .int .i64 (j : Int), .int .i64 (i : Int)] w fun e w' => RSaid E (if belongs E.s.data.toList it.P i = true then M4.orM (Mu E.s.data.toList E.g.fin (E.g.its.drop (j + 1)) (i + 1) c) (Mu E.s.data.toList E.g.fin (E.g.its.drop (j + 1)) i c) else Mu E.s.data.toList E.g.fin (E.g.its.drop (j + 1)) i c) (E.g.its.drop (j + 1)) st c ((E.g.its.drop (j + 1)).length + 1) left e w' ∧ Ch [E.b, E.cb] w w' := by
  have hjl := (List.getElem?_eq_some_iff.1 hj).1
  have hdl : (E.g.its.drop (j + 1)).length ≤ 1000000 := by rw [List.length_drop]; omega
  have hj1 := i64w ((j : Int) + 1) (by omega)
  have hi1 := i64w ((i : Int) + 1) (by omega)
  have HH := Lib.hid h
  have HA := Lib.hid ha
  have HCK := Lib.hid hc
  have HW := Lib.hid hw
  have HIH := Lib.hid IH
  have HRL := Lib.hid (rest_low E (j + 1))
  cases hb : belongs E.s.data.toList it.P i with
  | true =>
    rw [if_pos rfl]
    have hbl := belongs_lt hb
    simp at hbl
    have B0 := belongs_any E m left j i it w hs hi hg hj hk h
    rw [hb] at B0
    have B1 := Lib.hid B0
    obtain ⟨r1, hr1⟩ : ∃ r, Mu E.s.data.toList E.g.fin (E.g.its.drop (j + 1)) (i + 1) c = r := ⟨_, rfl⟩
    obtain ⟨r2, hr2⟩ : ∃ r, Mu E.s.data.toList E.g.fin (E.g.its.drop (j + 1)) i c = r := ⟨_, rfl⟩
    rw [hr1, hr2]
    have HR1 := Lib.hid hr1
    have HR2 := Lib.hid hr2
    have HP2 : Hid (1 ≤ r2.2) := Lib.hid (by rw [← hr2]; exact Mu_pos _ _ _ _ _)
    have R1 := Lib.hid fun n => (by have := IH ((j : Int) + 1) ((i : Int) + 1) (i + 1) m c st lo left (w.drewN n) (by push_cast; rfl) (by push_cast; rfl) (by omega) ha (hc.up (by omega)) hw (by omega) hl1 (h.drewN n); rw [hr1] at this; exact this : Calls _ _ _ _ fun e w' => RSaid E r1 (E.g.its.drop (j + 1)) st c (E.g.its.drop (j + 1)).length left e w' ∧ Ch [E.b, E.cb] (w.drewN n) w')
    clear hb hbl B0 hr1 hr2 h ha hc hw IH hj hk
    -- the first way
    by_cases hle : (r1.2 : Int) ≤ left
    · cases hu : r1.1 with
      | some u =>
        have R2 := Lib.hid fun n => (R1.out n).mono fun e w' g => (by
          obtain ⟨g1, g2⟩ := g
          unfold RSaid at g1
          rw [if_pos hle, hu] at g1
          exact ⟨g1.1, g1.2, g2⟩ : e = .returned (.tuple #[.int .i64 (u.1 : Int), .bool true]) ∧ (∃ m' st', Mat E m' (left - r1.2) w' ∧ stL (E.g.its.drop (j + 1)) st = some st' ∧ Agr st' m' u.2) ∧ Ch [E.b, E.cb] (w.drewN n) w')
        have HU := Lib.hid hu
        have HLE := Lib.hid hle
        clear R1 hu hle
        go_enter Tryd.func67, Tryd.ntmps67
        go_wp2_with (first | (go_at_call 79; (with_reducible refine (B1.out).mono ?_); rintro e w1 ⟨rfl, n, rfl⟩) | (go_at_call 53; (with_reducible refine (R2.out _).mono ?_); rintro e w2 ⟨rfl, hm2, hc2⟩))
        go_ret2
        refine ⟨?_, (Ch.drewN (Ch.refl _ w) _).trans hc2⟩
        rw [orM_some' HU.out]
        exact RSaid.some HLE.out HU.out rfl hm2
      | none =>
        have R2 := Lib.hid fun n => (R1.out n).mono fun e w' g => (by
          obtain ⟨g1, g2⟩ := g
          unfold RSaid at g1
          rw [if_pos hle, hu] at g1
          obtain ⟨⟨x, hx⟩, m', g3, g4⟩ := g1
          exact ⟨x, hx, m', g3, g4, g2⟩ : ∃ x : Int, e = .returned (.tuple #[.int .i64 x, .bool false]) ∧ ∃ m', Mat E m' (left - r1.2) w' ∧ Agr st m' c ∧ Ch [E.b, E.cb] (w.drewN n) w')
        have HU := Lib.hid hu
        have HLE := Lib.hid hle
        clear R1 hu hle
        go_enter Tryd.func67, Tryd.ntmps67
        go_upto_region 5 with (first | (go_at_call 79; (with_reducible refine (B1.out).mono ?_); rintro e w1 ⟨rfl, n, rfl⟩) | (go_at_call 53; (with_reducible refine (R2.out _).mono ?_); rintro e w2 ⟨x, rfl, m', hm2, ha2, hc2⟩))
        have hle2 := HLE.out
        have R3 := (by have := HIH.out ((j : Int) + 1) (i : Int) i m' c st lo (left - r1.2) w2 (by push_cast; rfl) rfl hi ha2 HCK.out HW.out (by omega) (by omega) hm2; rw [HR2.out] at this; exact this : Calls _ _ _ _ fun e w' => RSaid E r2 (E.g.its.drop (j + 1)) st c (E.g.its.drop (j + 1)).length (left - r1.2) e w' ∧ Ch [E.b, E.cb] w2 w')
        have R4 := Lib.hid (R3.mono fun e w' g => (by
          obtain ⟨g1, g2⟩ := g
          have fin : RSaid E (M4.orM r1 r2) (E.g.its.drop (j + 1)) st c ((E.g.its.drop (j + 1)).length + 1) left e w' := by
            rw [orM_none HU.out]
            rcases g1.ways with ⟨u, a1, a2, a3, a4⟩ | ⟨a1, a2, a3, a4⟩ | ⟨a1, a2, m3, l3, a4, a5, a6, a7⟩
            · exact RSaid.some (by push_cast; omega) a2 a3 (by rw [show left - ((r1.2 + r2.2 : Nat) : Int) = left - r1.2 - r2.2 by push_cast; omega]; exact a4)
            · exact RSaid.none (by push_cast; omega) a2 a3 (by rw [show left - ((r1.2 + r2.2 : Nat) : Int) = left - r1.2 - r2.2 by push_cast; omega]; exact a4)
            · exact RSaid.out (by push_cast; omega) (ROut.of a2 a4 a5 (fun _ => by have := a6 (by omega); push_cast; omega) hl0)
          have shape : (∃ x b, e = .returned (.tuple #[.int .i64 x, .bool b])) := by
            rcases g1.ways with ⟨u, a1, a2, a3, a4⟩ | ⟨a1, a2, ⟨x, a3⟩, a4⟩ | ⟨a1, ⟨x, a2⟩, _⟩
            · exact ⟨_, _, a3⟩
            · exact ⟨_, _, a3⟩
            · exact ⟨_, _, a2⟩
          obtain ⟨x, b, hx⟩ := shape
          exact ⟨x, b, hx, fin, g2⟩ : ∃ x b, e = .returned (.tuple #[.int .i64 x, .bool b]) ∧ RSaid E (M4.orM r1 r2) (E.g.its.drop (j + 1)) st c ((E.g.its.drop (j + 1)).length + 1) left e w' ∧ Ch [E.b, E.cb] w2 w'))
        have HC2 := Lib.hid hc2
        clear R3 hm2 ha2 hc2 hle2
        go_wp2_with (go_at_call 53; (with_reducible refine (R4.out).mono ?_); rintro e w3 ⟨x3, b3, rfl, hf, hc3⟩)
        go_ret2
        exact ⟨hf, ((Ch.drewN (Ch.refl _ w) _).trans HC2.out).trans hc3⟩
    · have R2 := Lib.hid fun n => (R1.out n).mono fun e w' g => (by
        obtain ⟨g1, g2⟩ := g
        unfold RSaid at g1
        rw [if_neg hle] at g1
        obtain ⟨⟨x, hx⟩, m', l', g3, g4, g5, g6⟩ := g1
        exact ⟨x, hx, m', l', g3, g4, g5 hl0, g2⟩ : ∃ x : Int, e = .returned (.tuple #[.int .i64 x, .bool false]) ∧ ∃ m' l', Mat E m' l' w' ∧ l' < 0 ∧ -1 - ((E.g.its.drop (j + 1)).length : Int) ≤ l' ∧ Ch [E.b, E.cb] (w.drewN n) w')
      have HLE := Lib.hid hle
      clear R1 hle
      go_enter Tryd.func67, Tryd.ntmps67
      go_upto_region 5 with (first | (go_at_call 79; (with_reducible refine (B1.out).mono ?_); rintro e w1 ⟨rfl, n, rfl⟩) | (go_at_call 53; (with_reducible refine (R2.out _).mono ?_); rintro e w2 ⟨x, rfl, m', l', hm2, hl2, hl3, hc2⟩))
      have R3 := Lib.hid (HRL.out ((j : Int) + 1) (i : Int) m' l' w2 (by push_cast; rfl) (by omega) hl2 hm2)
      have HC2 := Lib.hid hc2
      clear hm2 hc2
      go_wp2_with (go_at_call 53; (with_reducible refine (R3.out).mono ?_); rintro e w3 ⟨rfl, hm3, hc3⟩)
      go_ret2
      refine ⟨RSaid.out (by have := orM_ge r1 r2; have := HLE.out; omega) (ROut.of (no_mk 0) hm3 (by omega) (fun _ => by push_cast; omega) hl0), ((Ch.drewN (Ch.refl _ w) _).trans HC2.out).trans (hc3.mono (by simp))⟩
  | false =>
    rw [if_neg (by decide)]
    have B0 := belongs_any E m left j i it w hs hi hg hj hk h
    rw [hb] at B0
    have B1 := Lib.hid B0
    have R1 := Lib.hid fun n => (IH ((j : Int) + 1) (i : Int) i m c st lo left (w.drewN n) (by push_cast; rfl) rfl hi ha hc hw (by omega) hl1 (h.drewN n)).mono fun e w' g => (by
      obtain ⟨g1, g2⟩ := g
      have shape : (∃ x b, e = .returned (.tuple #[.int .i64 x, .bool b])) := by
        rcases g1.ways with ⟨u, a1, a2, a3, a4⟩ | ⟨a1, a2, ⟨x, a3⟩, a4⟩ | ⟨a1, ⟨x, a2⟩, _⟩
        · exact ⟨_, _, a3⟩
        · exact ⟨_, _, a3⟩
        · exact ⟨_, _, a2⟩
      have fin : RSaid E (Mu E.s.data.toList E.g.fin (E.g.its.drop (j + 1)) i c) (E.g.its.drop (j + 1)) st c ((E.g.its.drop (j + 1)).length + 1) left e w' := by
        rcases g1.ways with ⟨u, a1, a2, a3, a4⟩ | ⟨a1, a2, a3, a4⟩ | ⟨a1, a2, m3, l3, a4, a5, a6, a7⟩
        · exact RSaid.some a1 a2 a3 a4
        · exact RSaid.none a1 a2 a3 a4
        · exact RSaid.out a1 (ROut.of a2 a4 a5 (fun h => by have := a6 h; push_cast; omega) hl0)
      obtain ⟨x, b, hx⟩ := shape
      exact ⟨x, b, hx, fin, g2⟩ : ∃ x b, e = .returned (.tuple #[.int .i64 x, .bool b]) ∧ RSaid E (Mu E.s.data.toList E.g.fin (E.g.its.drop (j + 1)) i c) (E.g.its.drop (j + 1)) st c ((E.g.its.drop (j + 1)).length + 1) left e w' ∧ Ch [E.b, E.cb] (w.drewN n) w')
    clear hb B0 h ha hc hw IH hj hk
    go_enter Tryd.func67, Tryd.ntmps67
    go_wp2_with (first | (go_at_call 79; (with_reducible refine (B1.out).mono ?_); rintro e w1 ⟨rfl, n, rfl⟩) | (go_at_call 53; (with_reducible refine (R1.out _).mono ?_); rintro e w3 ⟨x3, b3, rfl, hf, hc3⟩))
    go_ret2
    exact ⟨hf, (Ch.drewN (Ch.refl _ w) _).trans hc3⟩
end Go.Proofs.YtkbcaklleiapdaaDoor
