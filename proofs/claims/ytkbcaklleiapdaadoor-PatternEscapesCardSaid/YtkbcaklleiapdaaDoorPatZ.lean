/- Contracts of layer 4: the items from one on. -/
import Derived.Test.YtkbcaklleiapdaaDoorPatY
import Derived.Test.YtkbcaklleiapdaaDoorPatU
namespace Go.Proofs.YtkbcaklleiapdaaDoor
open Go.RowKit M4
set_option linter.unusedVariables false
/-- What an item without a quantifier needs. -/
structure CapOk (E : Env) (m : Caps) (it : Itm) : Prop where
  set : it.kind = 1 ∨ it.kind = 2 ∨ it.kind = 3 → it.cap < m.length
  get : it.kind = 6 → ∃ a b : Nat, m[it.cap]? = some ((a : Int), (b : Int)) ∧ a ≤ b ∧ b ≤ E.s.size
def OnceAt (E : Env) (j : Nat) (it : Itm) : Prop := ∀ (m : Caps) (left : Int) (i gi cap : Nat) (w : World), i ≤ E.s.size → 0 ≤ left → left ≤ 1000000 → E.iv = .slice (some ⟨gi, 0, none⟩) E.g.its.length cap → CapOk E m it → Mat E m left w →
  Calls Tryd.prog 70 #[.pointer (some ⟨E.b, 0, none⟩), .pointer (some ⟨gi, j * 6, none⟩), .int .i64 (i : Int)] w fun e w' => OnceSaid E m left i it e w' ∧ Ch [E.b, E.cb] w w'
theorem capOk_of {E : Env} {m c : Caps} {st st' : List Nat} {it : Itm} {lo i : Nat} (hs : stI it st = some st') (ha : Agr st m c) (hc : Cok st c lo i) (hi : i ≤ E.s.size) : CapOk E m it := by
  have hla := ha.la
  unfold stI at hs
  refine ⟨fun hk => ?_, fun hk => ?_⟩
  · rcases hk with hk | hk | hk <;> (rw [hk] at hs; simp only [] at hs; split at hs <;> first | (rename_i h; have := st_lt h; omega) | cases hs)
  · rw [hk] at hs
    simp only [] at hs
    split at hs
    · rename_i h2
      have hlt := st_lt h2
      have e1 := ha.f _ _ h2 (by decide)
      have e2 := ha.t _ _ h2 (by decide)
      have e3 := hc.v1 _ _ h2 (by decide)
      have e4 := hc.v2 _ h2
      have hg : m[it.cap]? = some (m.getD it.cap (0, 0)) := caps_get (by omega)
      obtain ⟨x, y⟩ : Int × Int := m.getD it.cap (0, 0)
      refine ⟨(m.getD it.cap (0, 0)).1.toNat, (m.getD it.cap (0, 0)).2.toNat, ?_, by omega, by omega⟩
      rw [hg]
      congr 1
      apply Prod.ext
      · simp only []; omega
      · simp only []; omega
    · cases hs
theorem RSaid.cons {E : Env} {r : Res} {it : Itm} {its : List Itm} {st : List Nat} {c : Caps} {B : Nat} {left : Int} {e : Ending} {w' : World} (hk : it.kind = 0) (h : RSaid E r its st c B left e w') : RSaid E r (it :: its) st c B left e w' := by
  have e1 : stL (it :: its) st = stL its st := by rw [stL_cons, stI_single hk]
  unfold RSaid at *
  rw [e1]; exact h
/-- Behind an item without a quantifier. -/
theorem rsaid_once {E : Env} {r : Res} {it : Itm} {its : List Itm} {st st' : List Nat} {c c' : Caps} {i k n : Nat} {left : Int} {e : Ending} {w' : World} (hs : stI it st = some st') (ho : onceM E.s.data.toList it i c = (.some (k, c'), n)) (hl : c.length = st.length) (hn : ((1 + n : Nat) : Int) ≤ left)
    (h : RSaid E r its st' c' its.length (left - ((1 + n : Nat) : Int)) e w') : RSaid E (more (1 + n) r) (it :: its) st c (its.length + 1) left e w' := by
  have h2 := RSaid.more (1 + n) hn h
  rcases h2.ways with ⟨u, a1, a2, a3, m', q, a4, a5, a6⟩ | ⟨a1, a2, a3, m', a4, a5⟩ | ⟨a1, a2, m3, l3, a4, a5, a6, a7⟩
  · exact RSaid.some a1 a2 a3 ⟨m', q, a4, by rw [stL_cons, hs]; exact a5, a6⟩
  · exact RSaid.none a1 a2 a3 ⟨m', a4, once_back hs ho hl a5⟩
  · exact RSaid.out a1 ⟨a2, m3, l3, a4, a5, fun h => by have := a6 h; push_cast; omega, a7⟩
theorem Mu_q63 (s : List UInt8) (fin : Bool) (it : Itm) (its : List Itm) (i : Nat) (c : Caps) (h : it.q = 63) : Mu s fin (it :: its) i c = more 1 (if belongs s it.P i = true then M4.orM (Mu s fin its (i + 1) c) (Mu s fin its i c) else Mu s fin its i c) := by
  rw [Mu, if_pos h]; split <;> rfl
theorem Mu_q42 (s : List UInt8) (fin : Bool) (it : Itm) (its : List Itm) (i : Nat) (c : Caps) (h : it.q = 42) : Mu s fin (it :: its) i c = more 1 (more (runB s it.P i) (downM (fun k => Mu s fin its k c) i 0 (runB s it.P i))) := by
  rw [Mu, if_neg (by rw [h]; decide), if_pos h]; unfold more; simp only []; rw [Nat.add_assoc]
theorem Mu_q43 (s : List UInt8) (fin : Bool) (it : Itm) (its : List Itm) (i : Nat) (c : Caps) (h : it.q = 43) : Mu s fin (it :: its) i c = more 1 (more (runB s it.P i) (downM (fun k => Mu s fin its k c) i 1 (runB s it.P i))) := by
  rw [Mu, if_neg (by rw [h]; decide), if_neg (by rw [h]; decide), if_pos h]; unfold more; simp only []; rw [Nat.add_assoc]
theorem Mu_q45 (s : List UInt8) (fin : Bool) (it : Itm) (its : List Itm) (i : Nat) (c : Caps) (h : it.q = 45) : Mu s fin (it :: its) i c = more 1 (upM (fun k => Mu s fin its k c) (runB s it.P i) i) := by
  rw [Mu, if_neg (by rw [h]; decide), if_neg (by rw [h]; decide), if_neg (by rw [h]; decide), if_pos h]
theorem Mu_q0 (s : List UInt8) (fin : Bool) (it : Itm) (its : List Itm) (i : Nat) (c : Caps) (h1 : it.q ≠ 63) (h2 : it.q ≠ 42) (h3 : it.q ≠ 43) (h4 : it.q ≠ 45) : Mu s fin (it :: its) i c = match onceM s it i c with
      | (some (k, c'), n) => more (1 + n) (Mu s fin its k c')
      | (none, n) => (none, 1 + n) := by
  rw [Mu, if_neg h1, if_neg h2, if_neg h3, if_neg h4]
  rcases onceM s it i c with ⟨_ | ⟨k, c'⟩, n⟩ <;> rfl

set_option maxHeartbeats 8000000 in
set_option maxRecDepth 100000 in
theorem rest_step (E : Env) (hs : E.s.size ≤ 1000000) (hg : E.g.its.length ≤ 1000000) (hqd : Qd E.g.its) (hO : ∀ j it, E.g.its[j]? = some it → OnceAt E j it) (j : Nat) (hjl : j ≤ E.g.its.length) (IH : ∀ k, j < k → k ≤ E.g.its.length → RestAt E k) : RestAt E j := by
  intro J I i m c st lo left w hJ hI hi ha hc hw hl0 hl1 h
  subst hJ hI
  obtain ⟨r, hr⟩ : ∃ r, Mu E.s.data.toList E.g.fin (E.g.its.drop j) i c = r := ⟨_, rfl⟩
  rw [hr]
  have HRR := Lib.hid hr
  have HM0 := Lib.hid h
  have HA0 := Lib.hid ha
  have HC0 := Lib.hid hc
  have HW0 := Lib.hid hw
  have HIH := Lib.hid IH
  have HQD := Lib.hid hqd
  have HON := Lib.hid hO
  clear hr h ha hc hw IH hqd hO
  go_enter Tryd.func53, Tryd.ntmps53
  go_wp2
  go_loopw [1, 2] (fun vj vi wr => ∃ (k i' : Nat) (L : Int) (m' c' : Caps) (st' : List Nat), j ≤ k ∧ k ≤ E.g.its.length ∧ i' ≤ E.s.size ∧ -100000000 ≤ L ∧ L ≤ left ∧ vj = .int .i64 (k : Int) ∧ vi = .int .i64 (i' : Int) ∧ Hid (Mat E m' L wr) ∧ Hid (Agr st' m' c') ∧ Hid (Cok st' c' lo i') ∧ Hid (WF (E.g.its.drop k) st') ∧ Hid (Ch [E.b, E.cb] w wr) ∧ Hid (∀ e w', RSaid E (Mu E.s.data.toList E.g.fin (E.g.its.drop k) i' c') (E.g.its.drop k) st' c' (E.g.its.drop k).length L e w' → RSaid E r (E.g.its.drop j) st c (E.g.its.drop j).length left e w')) (fun vj _ _ => E.g.its.length + 1 - (intOf vj).toNat)
  case atStart => exact ⟨j, i, left, m, c, st, Nat.le_refl _, hjl, hi, hl0, Int.le_refl _, rfl, rfl, HM0, HA0, HC0, HW0, Lib.hid (Ch.refl _ _), Lib.hid (fun e w' hh => by rw [← HRR.out]; exact hh)⟩
  case round =>
    obtain ⟨k, i', L, m', c', st', hjk, hkl, his, hL0, hL1, rfl, rfl, HM, HA, HCK, HW, HC, HI⟩ := hrel
    rename World => W0
    clear HM0 HA0 HC0 HW0
    have m7 := HM.out.c 7
    simp at m7
    have S0 := step_any E m' L W0 ⟨by omega, by omega⟩ HM.out
    by_cases hL : 0 ≤ L - 1
    · rw [decide_eq_true hL] at S0
      have S1 := Lib.hid S0
      clear S0
      by_cases hkk : k < E.g.its.length
      · obtain ⟨it, hit⟩ : ∃ it, E.g.its[k]? = some it := ⟨_, List.getElem?_eq_getElem hkk⟩
        have HDR : Hid (E.g.its.drop k = it :: E.g.its.drop (k + 1)) := Lib.hid (drop_at hit)
        have HKQ : Hid (it.q ≠ 0 → it.kind = 0) := Lib.hid (HQD.out it (List.mem_of_getElem? hit))
        obtain ⟨gi, cap, v, hiv, hv, hcs⟩ := items_cell HM.out hit
        obtain ⟨st2, hs2, hw2⟩ := (by have := HW.out; rw [HDR.out] at this; exact this.head : ∃ st2, stI it st' = some st2 ∧ WF (E.g.its.drop (k + 1)) st2)
        have HS2 := Lib.hid hs2
        have HW2 := Lib.hid hw2
        have HIT := Lib.hid hit
        have HIV := Lib.hid hiv
        have HNX := Lib.hid (HIH.out (k + 1) (by omega) (by omega))
        have g1 : ((k : Int) == (E.g.its.length : Int)) = false := by rw [beq_eq_false_iff_ne]; omega
        have g2 : (k : Int) < (E.g.its.length : Int) := by omega
        have g3 : 0 ≤ (k : Int) := by omega
        have hdl : (E.g.its.drop (k + 1)).length + 1 = (E.g.its.drop k).length := by rw [List.length_drop, List.length_drop]; omega
        have HDL := Lib.hid hdl
        have hCellQ : ∀ W, Mat E m' (L - 1) W → W.cell? ⟨E.b, 3, none⟩ = some (.slice (some ⟨gi, 0, none⟩) E.g.its.length cap) ∧ W.cell? ⟨gi, k * 6 + 2, none⟩ = some (.int .u8 (it.q.toNat : Int)) := fun W hW => by
          obtain ⟨gi', cap', v', hiv', _, hcs'⟩ := items_cell hW HIT.out
          obtain ⟨rfl, rfl⟩ : gi' = gi ∧ cap' = cap := by rw [HIV.out] at hiv'; cases hiv'; exact ⟨rfl, rfl⟩
          refine ⟨?_, hcs' 2 (by decide)⟩
          have := hW.c 3
          simp at this
          rw [HIV.out] at this
          exact this
        have HCQ := Lib.hid hCellQ
        clear hs2 hw2 hit hiv hv hcs hdl hCellQ
        go_upto_region 3 with (go_at_call 52; (with_reducible refine (S1.out).mono ?_); rintro e w1 ⟨rfl, hm1, hc1⟩)
        obtain ⟨q3, q2⟩ := HCQ.out _ hm1
        have HM1 := Lib.hid hm1
        have HC1 : Hid (Ch [E.b, E.cb] w w1) := Lib.hid (HC.out.trans (hc1.mono (by simp)))
        clear hm1 hc1 m7
        by_cases hq : it.q = 63
        · have y1 : ((it.q.toNat : Int) == 63) = true := by rw [hq]; rfl
          have HK0 : Hid (it.kind = 0) := Lib.hid (HKQ.out (by rw [hq]; decide))
          have hst2 : st2 = st' := by have := HS2.out; rw [stI_single HK0.out] at this; exact (Option.some.inj this).symm
          subst hst2
          have HQV : Hid (∀ e w', RSaid E (if belongs E.s.data.toList it.P i' = true then M4.orM (Mu E.s.data.toList E.g.fin (E.g.its.drop (k + 1)) (i' + 1) c') (Mu E.s.data.toList E.g.fin (E.g.its.drop (k + 1)) i' c') else Mu E.s.data.toList E.g.fin (E.g.its.drop (k + 1)) i' c') (E.g.its.drop (k + 1)) st2 c' ((E.g.its.drop (k + 1)).length + 1) (L - 1) e w' → RSaid E r (E.g.its.drop j) st c (E.g.its.drop j).length left e w') := Lib.hid (fun e w' hh => by
            apply HI.out
            rw [HDR.out, Mu_q63 _ _ _ _ _ _ hq]
            exact RSaid.cons HK0.out (RSaid.more 1 (by push_cast; omega) (by push_cast; exact hh)))
          have O1 := Lib.hid fun (W : World) (hW : Mat E m' (L - 1) W) => (optional_any E k i' it m' c' st2 lo (L - 1) W hs hg HIT.out HK0.out HNX.out his HA.out HCK.out HW2.out hL (by omega) hW).mono fun e w' g => (by
            obtain ⟨g1, g2⟩ := g
            obtain ⟨x, b, hx⟩ := g1.shape
            exact ⟨x, b, hx, HQV.out _ _ g1, g2⟩ : ∃ (x : Int) (b : Bool), e = .returned (.tuple #[.int .i64 x, .bool b]) ∧ RSaid E r (E.g.its.drop j) st c (E.g.its.drop j).length left e w' ∧ Ch [E.b, E.cb] W w')
          clear hq
          go_wp2_with (go_at_call 67; (with_reducible refine (O1.out _ HM1.out).mono ?_); rintro e w3 ⟨x, bb, rfl, hf, hc3⟩)
          go_ret2
          exact ⟨hf, HC1.out.trans hc3⟩
        have n63 : ((it.q.toNat : Int) == 63) = false := ne4 it.q 63 (by decide) hq
        have N63 := Lib.hid hq
        clear hq
        by_cases hq : it.q = 42
        · have y1 : ((it.q.toNat : Int) == 42) = true := by rw [hq]; rfl
          have HK0 : Hid (it.kind = 0) := Lib.hid (HKQ.out (by rw [hq]; decide))
          have hst2 : st2 = st' := by have := HS2.out; rw [stI_single HK0.out] at this; exact (Option.some.inj this).symm
          subst hst2
          have HQV : Hid (∀ e w', RSaid E (more (runB E.s.data.toList it.P i') (downM (fun k_1 => Mu E.s.data.toList E.g.fin (E.g.its.drop (k + 1)) k_1 c') i' 0 (runB E.s.data.toList it.P i'))) (E.g.its.drop (k + 1)) st2 c' ((E.g.its.drop (k + 1)).length + 1) (L - 1) e w' → RSaid E r (E.g.its.drop j) st c (E.g.its.drop j).length left e w') := Lib.hid (fun e w' hh => by
            apply HI.out
            rw [HDR.out, Mu_q42 _ _ _ _ _ _ hq]
            exact RSaid.cons HK0.out (RSaid.more 1 (by push_cast; omega) (by push_cast; exact hh)))
          have O1 := Lib.hid fun (W : World) (hW : Mat E m' (L - 1) W) => (show Calls Tryd.prog 68 #[.pointer (some ⟨E.b, 0, none⟩), .int .i64 (k : Int), .int .i64 (i' : Int), .int .i64 0] W _ from longest_any E k i' 0 it m' c' st2 lo (L - 1) W (by decide) hs hg HIT.out HK0.out HNX.out his HA.out HCK.out HW2.out hL (by omega) hW).mono fun e w' g => (by
            obtain ⟨g1, g2⟩ := g
            obtain ⟨x, b, hx⟩ := g1.shape
            exact ⟨x, b, hx, HQV.out _ _ g1, g2⟩ : ∃ (x : Int) (b : Bool), e = .returned (.tuple #[.int .i64 x, .bool b]) ∧ RSaid E r (E.g.its.drop j) st c (E.g.its.drop j).length left e w' ∧ Ch [E.b, E.cb] W w')
          clear hq
          go_wp2_with (go_at_call 68; (with_reducible refine (O1.out _ HM1.out).mono ?_); rintro e w3 ⟨x, bb, rfl, hf, hc3⟩)
          go_ret2
          exact ⟨hf, HC1.out.trans hc3⟩
        have n42 : ((it.q.toNat : Int) == 42) = false := ne4 it.q 42 (by decide) hq
        have N42 := Lib.hid hq
        clear hq
        by_cases hq : it.q = 43
        · have y1 : ((it.q.toNat : Int) == 43) = true := by rw [hq]; rfl
          have HK0 : Hid (it.kind = 0) := Lib.hid (HKQ.out (by rw [hq]; decide))
          have hst2 : st2 = st' := by have := HS2.out; rw [stI_single HK0.out] at this; exact (Option.some.inj this).symm
          subst hst2
          have HQV : Hid (∀ e w', RSaid E (more (runB E.s.data.toList it.P i') (downM (fun k_1 => Mu E.s.data.toList E.g.fin (E.g.its.drop (k + 1)) k_1 c') i' 1 (runB E.s.data.toList it.P i'))) (E.g.its.drop (k + 1)) st2 c' ((E.g.its.drop (k + 1)).length + 1) (L - 1) e w' → RSaid E r (E.g.its.drop j) st c (E.g.its.drop j).length left e w') := Lib.hid (fun e w' hh => by
            apply HI.out
            rw [HDR.out, Mu_q43 _ _ _ _ _ _ hq]
            exact RSaid.cons HK0.out (RSaid.more 1 (by push_cast; omega) (by push_cast; exact hh)))
          have O1 := Lib.hid fun (W : World) (hW : Mat E m' (L - 1) W) => (show Calls Tryd.prog 68 #[.pointer (some ⟨E.b, 0, none⟩), .int .i64 (k : Int), .int .i64 (i' : Int), .int .i64 1] W _ from longest_any E k i' 1 it m' c' st2 lo (L - 1) W (by decide) hs hg HIT.out HK0.out HNX.out his HA.out HCK.out HW2.out hL (by omega) hW).mono fun e w' g => (by
            obtain ⟨g1, g2⟩ := g
            obtain ⟨x, b, hx⟩ := g1.shape
            exact ⟨x, b, hx, HQV.out _ _ g1, g2⟩ : ∃ (x : Int) (b : Bool), e = .returned (.tuple #[.int .i64 x, .bool b]) ∧ RSaid E r (E.g.its.drop j) st c (E.g.its.drop j).length left e w' ∧ Ch [E.b, E.cb] W w')
          clear hq
          go_wp2_with (go_at_call 68; (with_reducible refine (O1.out _ HM1.out).mono ?_); rintro e w3 ⟨x, bb, rfl, hf, hc3⟩)
          go_ret2
          exact ⟨hf, HC1.out.trans hc3⟩
        have n43 : ((it.q.toNat : Int) == 43) = false := ne4 it.q 43 (by decide) hq
        have N43 := Lib.hid hq
        clear hq
        by_cases hq : it.q = 45
        · have y1 : ((it.q.toNat : Int) == 45) = true := by rw [hq]; rfl
          have HK0 : Hid (it.kind = 0) := Lib.hid (HKQ.out (by rw [hq]; decide))
          have hst2 : st2 = st' := by have := HS2.out; rw [stI_single HK0.out] at this; exact (Option.some.inj this).symm
          subst hst2
          have HQV : Hid (∀ e w', RSaid E (upM (fun k_1 => Mu E.s.data.toList E.g.fin (E.g.its.drop (k + 1)) k_1 c') (runB E.s.data.toList it.P i') i') (E.g.its.drop (k + 1)) st2 c' ((E.g.its.drop (k + 1)).length + 1) (L - 1) e w' → RSaid E r (E.g.its.drop j) st c (E.g.its.drop j).length left e w') := Lib.hid (fun e w' hh => by
            apply HI.out
            rw [HDR.out, Mu_q45 _ _ _ _ _ _ hq]
            exact RSaid.cons HK0.out (RSaid.more 1 (by push_cast; omega) (by push_cast; exact hh)))
          have O1 := Lib.hid fun (W : World) (hW : Mat E m' (L - 1) W) => (shortest_any E k i' it m' c' st2 lo (L - 1) W hs hg HIT.out HK0.out HNX.out his HA.out HCK.out HW2.out hL (by omega) hW).mono fun e w' g => (by
            obtain ⟨g1, g2⟩ := g
            obtain ⟨x, b, hx⟩ := g1.shape
            exact ⟨x, b, hx, HQV.out _ _ g1, g2⟩ : ∃ (x : Int) (b : Bool), e = .returned (.tuple #[.int .i64 x, .bool b]) ∧ RSaid E r (E.g.its.drop j) st c (E.g.its.drop j).length left e w' ∧ Ch [E.b, E.cb] W w')
          clear hq
          go_wp2_with (go_at_call 69; (with_reducible refine (O1.out _ HM1.out).mono ?_); rintro e w3 ⟨x, bb, rfl, hf, hc3⟩)
          go_ret2
          exact ⟨hf, HC1.out.trans hc3⟩
        have n45 : ((it.q.toNat : Int) == 45) = false := ne4 it.q 45 (by decide) hq
        have N45 := Lib.hid hq
        clear hq
        -- an item without a quantifier
        have HMU : Hid (Mu E.s.data.toList E.g.fin (E.g.its.drop k) i' c' = match onceM E.s.data.toList it i' c' with
          | (some (k', c2), n) => more (1 + n) (Mu E.s.data.toList E.g.fin (E.g.its.drop (k + 1)) k' c2)
          | (none, n) => (none, 1 + n)) := Lib.hid (by rw [HDR.out]; exact Mu_q0 _ _ _ _ _ _ N63.out N42.out N43.out N45.out)
        have O0 := HON.out k it HIT.out m' (L - 1) i' gi cap w1 his hL (by omega) HIV.out (capOk_of HS2.out HA.out HCK.out his) HM1.out
        obtain ⟨ea, eb⟩ := once_agr (s := E.s.data.toList) (i := i') HA.out HS2.out
        obtain ⟨nn, hnn⟩ : ∃ n, (onceM E.s.data.toList it i' c').2 = n := ⟨_, rfl⟩
        rw [hnn] at ea
        by_cases hnl : (nn : Int) ≤ L - 1
        · rcases eb with ⟨eb1, eb2⟩ | ⟨k2, a2, b2, eb1, eb2, eb3⟩
          · have O1 := Lib.hid (O0.mono fun e w' g => (by
              obtain ⟨g1, g2⟩ := g
              unfold OnceSaid at g1
              rw [ea, if_pos hnl, eb1] at g1
              obtain ⟨⟨x, hx⟩, g3⟩ := g1
              exact ⟨x, hx, g3, g2⟩ : ∃ x : Int, e = .returned (.tuple #[.int .i64 x, .bool false]) ∧ Mat E m' (L - 1 - nn) w' ∧ Ch [E.b, E.cb] w1 w'))
            have HR2 : Hid (Mu E.s.data.toList E.g.fin (E.g.its.drop k) i' c' = (none, 1 + nn)) := Lib.hid (by
              rw [HMU.out, show onceM E.s.data.toList it i' c' = (none, nn) from Prod.ext eb2 hnn])
            clear O0 ea eb1 eb2 hnn
            go_wp2_with (go_at_call 70; (with_reducible refine (O1.out).mono ?_); rintro e w3 ⟨x, rfl, hm3, hc3⟩)
            go_ret2
            refine ⟨HI.out _ _ ?_, HC1.out.trans hc3⟩
            rw [HR2.out]
            exact RSaid.none (by push_cast; omega) rfl (no_mk 0) ⟨m', by rw [show L - ((1 + nn : Nat) : Int) = L - 1 - nn by push_cast; omega]; exact hm3, HA.out⟩
          · have O1 := Lib.hid (O0.mono fun e w' g => (by
              obtain ⟨g1, g2⟩ := g
              unfold OnceSaid at g1
              rw [ea, if_pos hnl, eb1] at g1
              exact ⟨g1.1, g1.2, g2⟩ : e = .returned (.tuple #[.int .i64 (k2 : Int), .bool true]) ∧ Mat E a2 (L - 1 - nn) w' ∧ Ch [E.b, E.cb] w1 w'))
            have hoc : onceM E.s.data.toList it i' c' = (some (k2, b2), nn) := Prod.ext eb2 hnn
            obtain ⟨hck2, hk2a, hk2b⟩ := once_ok hoc HS2.out HCK.out (by simpa using his)
            have hk2c : k2 ≤ E.s.size := by simpa using hk2b
            have HCK2 := Lib.hid hck2
            have HA2 := Lib.hid eb3
            have HI2 : Hid (∀ e w', RSaid E (Mu E.s.data.toList E.g.fin (E.g.its.drop (k + 1)) k2 b2) (E.g.its.drop (k + 1)) st2 b2 (E.g.its.drop (k + 1)).length (L - 1 - nn) e w' → RSaid E r (E.g.its.drop j) st c (E.g.its.drop j).length left e w') := Lib.hid (fun e w' hh => by
              apply HI.out
              rw [HMU.out, hoc]
              simp only []
              rw [← HDL.out, HDR.out]
              refine rsaid_once HS2.out hoc HCK.out.l (by push_cast; omega) ?_
              rw [show L - ((1 + nn : Nat) : Int) = L - 1 - nn by push_cast; omega]
              exact hh)
            clear O0 ea eb1 eb2 eb3 hnn hoc hck2 hk2a hk2b
            go_wp2_with (go_at_call 70; (with_reducible refine (O1.out).mono ?_); rintro e w3 ⟨rfl, hm3, hc3⟩)
            have HM3 := Lib.hid hm3
            have HC3 := Lib.hid (HC1.out.trans hc3)
            clear hm3 hc3
            go_roundw
            case rel => exact ⟨k + 1, k2, L - 1 - nn, a2, b2, st2, by omega, by omega, hk2c, by omega, by omega, by go_num, rfl, HM3, HA2, HCK2, HW2, HC3, HI2⟩
            case measure => simp [intOf]; omega
        · have O1 := Lib.hid (O0.mono fun e w' g => (by
            obtain ⟨g1, g2⟩ := g
            unfold OnceSaid at g1
            rw [ea, if_neg hnl] at g1
            obtain ⟨⟨x, hx⟩, g3⟩ := g1
            exact ⟨x, hx, g3, g2⟩ : ∃ x : Int, e = .returned (.tuple #[.int .i64 x, .bool false]) ∧ Mat E m' (-1) w' ∧ Ch [E.b, E.cb] w1 w'))
          have HR2 : Hid (nn + 1 ≤ (Mu E.s.data.toList E.g.fin (E.g.its.drop k) i' c').2) := Lib.hid (by
            rw [HMU.out]
            cases hoc : (onceM E.s.data.toList it i' c').1 with
            | none => rw [show onceM E.s.data.toList it i' c' = (none, nn) from Prod.ext hoc hnn]; simp only []; omega
            | some u => rw [show onceM E.s.data.toList it i' c' = (some (u.1, u.2), nn) from Prod.ext hoc hnn]; unfold more; simp only []; omega)
          clear O0 ea eb hnn
          go_wp2_with (go_at_call 70; (with_reducible refine (O1.out).mono ?_); rintro e w3 ⟨x, rfl, hm3, hc3⟩)
          go_ret2
          refine ⟨HI.out _ _ ?_, HC1.out.trans hc3⟩
          exact RSaid.out (by have := HR2.out; omega) (ROut.of (no_mk 0) hm3 (by decide) (fun _ => by omega) (by omega))
      · have hke : k = E.g.its.length := by omega
        have g1 : ((k : Int) == (E.g.its.length : Int)) = true := by rw [beq_iff_eq]; omega
        have HDR : Hid (E.g.its.drop k = []) := Lib.hid (List.drop_eq_nil_of_le (by omega))
        have hCellQ : ∀ W, Mat E m' (L - 1) W → (∃ ip ic, W.cell? ⟨E.b, 3, none⟩ = some (.slice ip E.g.its.length ic)) ∧ W.cell? ⟨E.b, 2, none⟩ = some (.bool E.g.fin) ∧ W.cell? ⟨E.b, 0, none⟩ = some (.string E.s) := fun W hW => by
          obtain ⟨ip, ic, hip⟩ := own_form hW.own
          have h3 := hW.c 3
          have h2 := hW.c 2
          have h0 := hW.c 0
          simp at h3 h2 h0
          rw [hip] at h3
          exact ⟨⟨ip, ic, h3⟩, h2, h0⟩
        have HCQ := Lib.hid hCellQ
        have HE : Hid (∀ (b : Bool) (e : Ending) (w' : World), (!E.g.fin || decide (i' = E.s.data.toList.length)) = b → e = .returned (.tuple #[.int .i64 (i' : Int), .bool b]) → Mat E m' (L - 1) w' → RSaid E r (E.g.its.drop j) st c (E.g.its.drop j).length left e w') := Lib.hid (fun b e w' hb he hm => by
          apply HI.out
          rw [HDR.out]
          cases b with
          | true => exact RSaid.some (by show ((1 : Nat) : Int) ≤ L; omega) (by unfold Mu; rw [if_pos hb]) he ⟨m', st', by show Mat E m' (L - ((1 : Nat) : Int)) w'; exact hm, rfl, HA.out⟩
          | false => exact RSaid.none (by show ((1 : Nat) : Int) ≤ L; omega) (by unfold Mu; rw [if_neg (by rw [hb]; decide)]) ⟨_, he⟩ ⟨m', by show Mat E m' (L - ((1 : Nat) : Int)) w'; exact hm, HA.out⟩)
        clear hke hCellQ
        go_upto_region 3 with (go_at_call 52; (with_reducible refine (S1.out).mono ?_); rintro e w1 ⟨rfl, hm1, hc1⟩)
        obtain ⟨⟨ip, ic, q3⟩, q2, q0⟩ := HCQ.out _ hm1
        have HD1 := Lib.hid fun n => hm1.drewN n
        have HC1 : Hid (∀ n, Ch [E.b, E.cb] w (w1.drewN n)) := Lib.hid (fun n => (HC.out.trans (hc1.mono (by simp))).drewN n)
        clear hm1 hc1 m7
        cases hf : E.g.fin with
        | false =>
          rw [hf] at q2
          have HF := Lib.hid hf
          clear hf
          go_wp2
          go_quiet (fail)
          go_wp2
          go_ret2
          exact ⟨HE.out true _ _ (by rw [HF.out]; rfl) rfl (HD1.out _), HC1.out _⟩
        | true =>
          rw [hf] at q2
          have HF := Lib.hid hf
          clear hf
          by_cases hie : i' = E.s.size
          · have y1 : ((i' : Int) == (E.s.size : Int)) = true := by rw [beq_iff_eq]; omega
            have HIE := Lib.hid hie
            clear hie
            go_wp2
            go_quiet (fail)
            go_wp2
            go_ret2
            exact ⟨HE.out true _ _ (by rw [HF.out, HIE.out]; simp) rfl (HD1.out _), HC1.out _⟩
          · have y1 : ((i' : Int) == (E.s.size : Int)) = false := by rw [beq_eq_false_iff_ne]; omega
            have HIE := Lib.hid hie
            clear hie
            go_wp2
            go_quiet (fail)
            go_wp2
            go_ret2
            exact ⟨HE.out false _ _ (by rw [HF.out, decide_eq_false (by simpa using HIE.out)]; rfl) rfl (HD1.out _), HC1.out _⟩
    · rw [decide_eq_false hL] at S0
      have S1 := Lib.hid S0
      have HPS := Lib.hid (Mu_pos E.s.data.toList E.g.fin (E.g.its.drop k) i' c')
      clear S0
      go_wp2_with (go_at_call 52; (with_reducible refine (S1.out).mono ?_); rintro e w1 ⟨rfl, hm1, hc1⟩)
      go_ret2
      refine ⟨HI.out _ _ ?_, HC.out.trans (hc1.mono (by simp))⟩
      exact RSaid.out (by have := HPS.out; omega) ⟨no_mk 0, m', L - 1, hm1, by omega, fun _ => by omega, fun _ => rfl⟩
theorem rest_any (E : Env) (hs : E.s.size ≤ 1000000) (hg : E.g.its.length ≤ 1000000) (hqd : Qd E.g.its) (hO : ∀ j it, E.g.its[j]? = some it → OnceAt E j it) : ∀ (n j : Nat), E.g.its.length - j ≤ n → j ≤ E.g.its.length → RestAt E j
  | 0, j, h1, h2 => rest_step E hs hg hqd hO j h2 (fun k h3 h4 => by omega)
  | n + 1, j, h1, h2 => rest_step E hs hg hqd hO j h2 (fun k h3 h4 => rest_any E hs hg hqd hO n k (by omega) h4)
end Go.Proofs.YtkbcaklleiapdaaDoor
