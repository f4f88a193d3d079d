/- Contracts of layer 4: All for an anchored pattern. -/
import Derived.Test.YtkbcaklleiapdaaDoorPatAg
namespace Go.Proofs.YtkbcaklleiapdaaDoor
open Go.RowKit M4
set_option linter.unusedVariables false
theorem meas_n0 (n a b : Nat) (ha : a ≤ 1) : 2 * n + a < 2 * (n + 1) + b := by omega
set_option maxHeartbeats 16000000 in
set_option maxRecDepth 100000 in
theorem all_true (s p : ByteArray) (w : World) (hp : p.size ≤ 1000000) (hs : s.size ≤ 1000000) (g : Pg) (hr : readF p.data.toList = .ok g) (hG : ∀ E : Env, E.s = s → E.g = g → Good E) (hst0 : g.start = true) :
    Calls Tryd.prog 21 #[.string s, .string p] w fun e w' => AllSaid (alln s.data.toList g 0 none 100000) g.caps w.heap.size e w' ∧ Below w.heap.size w w' := by
    obtain ⟨j0, hj, jz0, jz1, jz2⟩ := info_parts info_match
    have HBG := Lib.hid (begin_ok s p w hp g hr)
    clear hr
    obtain ⟨r, hfr⟩ : ∃ r, alln s.data.toList g 0 none 100000 = r := ⟨_, rfl⟩
    rw [hfr]
    have HRR := Lib.hid hfr
    clear hfr
    go_enter Tryd.func21, Tryd.ntmps21
    go_wp2_with (go_at_call 39; (with_reducible refine HBG.out.mono ?_); rintro e w2 ⟨⟨E, hes, heg, rfl, hM, hb1, hb2⟩, hb⟩; subst hes; subst heg; have q1 := hM.c 1; simp at q1; simp only [hst0] at q1; have HM2 := Lib.hid hM; have HB := Lib.hid hb; clear hb hM)
    have G := Lib.hid (hG E rfl rfl)
    have HCZ : Hid (Ch [E.b, E.cb] w2 w2) := Lib.hid (Ch.refl _ _)
    have HMZ : Hid (Mts w2.heap.size E.g.caps [] [] (.slice none 0 0) w2) := Lib.hid (Mts.nil _ _ _)
    have HZB := Lib.hid HB.out.size
    have HLB := Lib.hid HM2.out.lb
    have HOK := Lib.hid G.out.ok
    clear hG q1
    obtain ⟨W2, hW2⟩ : ∃ W, w2 = W := ⟨_, rfl⟩
    obtain ⟨B, hBB⟩ : ∃ B, w2.heap.size = B := ⟨_, rfl⟩
    rw [hBB] at HMZ HZB HLB
    have HBB := Lib.hid hBB
    clear hBB hW2
    go_loopw [9, 10, 11] (fun vl ve vi wr => ∃ (k L : Nat) (last : Option Nat) (m' : Caps) (ms : List Mt) (vs : List Value) (lp : Option Addr) (lc : Nat) (ev : Int), k ≤ E.s.size + 1 ∧ L ≤ 100000 ∧ vl = .slice lp ms.length lc ∧ ve = .int .i64 ev ∧ vi = .int .i64 (k : Int) ∧ Hid (ev = endV last) ∧ Hid (Mat E m' (L : Int) wr) ∧ Hid (Mts B E.g.caps ms vs (.slice lp ms.length lc) wr) ∧ Hid (Ch [E.b, E.cb] w2 wr) ∧ Hid ((alln E.s.data.toList E.g k last L).map (ms ++ ·) = r) ∧ Hid (ms.length ≤ lastN last) ∧ Hid (∀ x, last = some x → x ≤ k)) (fun _ ve vi _ => 2 * (E.s.size + 1 - (intOf vi).toNat) + (if intOf ve = intOf vi then 0 else 1))
    case atStart => exact ⟨0, 100000, none, _, [], [], none, 0, -1, by omega, by omega, rfl, rfl, rfl, Lib.hid rfl, HM2, HMZ, HCZ, Lib.hid (by rw [← HRR.out]; cases alln E.s.data.toList E.g 0 none 100000 <;> rfl), Lib.hid (Nat.le_refl _), Lib.hid (by simp)⟩
    case round =>
      obtain ⟨k, L, last, m', ms, vs, lp, lc, ev, hks, hL, rfl, rfl, rfl, HEV, HM0, HMS, HC0, HF0, HML, HLK⟩ := hrel
      have hmk : ms.length ≤ k + 1 := Nat.le_trans HML.out (lastN_le HLK.out)
      rename World => W0
      clear HM2 HMZ HCZ
      have HST := Lib.hid (alln_step (s := E.s.data.toList) HOK.out k last L)
      have hk1 := i64w ((k : Int) + 1) (by omega)
      have HW0 : Hid (B ≤ W0.heap.size) := Lib.hid (by have := HC0.out.size; have := HBB.out; omega)
      have HCW : Hid (∀ W, Ch [] W0 W → Below w.heap.size w W) := Lib.hid (fun W hW => by
        have h1 : Ch [E.cb] w W := Ch.new ((Ch.of_below HB.out)) hb1 (HC0.out.trans (hW.mono (by simp)))
        exact (Ch.new (Ch.refl [] w) hb2 h1).below)
      by_cases hkl : lastA E.s.data.toList E.g < k
      · have y1 : ¬ ((k : Int) ≤ 0) := by unfold lastA at hkl; simp [hst0] at hkl; omega
        have HF : Hid (some ms = r) := Lib.hid (by have := HF0.out; rw [HST.out, if_pos hkl] at this; simpa using this)
        clear hkl HST HF0
        go_wp2
        go_ret2
        exact ⟨by rw [← HF.out]; exact ⟨_, _, vs, rfl, HMS.out.low HZB.out⟩, HCW.out _ (Ch.refl _ _)⟩
      · have y1 : ((k : Int) ≤ 0) := by unfold lastA at hkl; simp [hst0] at hkl; omega
        have hks2 : k ≤ E.s.size := by have := lastA_le E.s.data.toList E.g; simp at this; omega
        obtain rfl : k = 0 := by (unfold lastA at hkl; simp [hst0] at hkl; omega)
        have hz0 : ((0 : Nat) : Int) = 0 := rfl
        clear y1
        obtain ⟨a, ha⟩ : ∃ a, atM E.s.data.toList E.g 0 = a := ⟨_, rfl⟩
        by_cases hle : a.2 ≤ L
        · have hle2 : (a.2 : Int) ≤ (L : Int) := by omega
          have XX : Hid (∀ (W : World) (mm : Caps), Mat E mm ((L : Int) - (a.2 : Int)) W → Calls Tryd.prog 42 #[.pointer (some ⟨E.b, 0, none⟩)] W fun e w' => e = .returned (.bool false) ∧ W = w') := Lib.hid fun W mm hW => by (have := exhausted_any E mm ((L : Int) - (a.2 : Int)) W hW; rw [decide_eq_false (by omega)] at this; exact this)
          cases hu : a.1 with
          | none =>
            have A0 := at_none E G.out 0 m' (L : Int) W0 hks2 (by omega) (by omega) HM0.out a.2 (by rw [ha, ← hu]) hle2
            unfold mt0 at A0
            simp only [hz0] at A0
            have A1 := Lib.hid A0
            have HF : Hid ((alln E.s.data.toList E.g (0 + 1) last (L - a.2)).map (ms ++ ·) = r) := Lib.hid (by have := HF0.out; rw [HST.out, if_neg hkl, ha, if_pos hle, hu] at this; exact this)
            clear A0 hu ha HST HF0 hkl
            go_upto_region 12 with (go_at_call 41; (with_reducible refine A1.out.mono ?_); rintro e w2 ⟨rfl, hm2, hc2⟩; have HC2 := Lib.hid hc2; clear hc2; obtain ⟨m2, l2, hm2, hl2⟩ := hm2; subst hl2; have HMM := Lib.hid hm2; clear hm2)
            have hI : Mtb w2.heap.size #[.int .i64 0, .int .i64 0, .slice none 0 0] (w2.alloc (.cells #[.int .i64 0, .int .i64 0, .slice none 0 0] 29)) := mtb_new w2 _ _ rfl
            have hS : Ch [] w2 (w2.alloc (.cells #[.int .i64 0, .int .i64 0, .slice none 0 0] 29)) := (Ch.refl [] w2).alloc _
            have hM3 : Mat E m2 ((L : Int) - (a.2 : Int)) (w2.alloc (.cells #[.int .i64 0, .int .i64 0, .slice none 0 0] 29)) := HMM.out.same hS
            have hz3 : (w2.alloc (.cells #[.int .i64 0, .int .i64 0, .slice none 0 0] 29)).heap.size = w2.heap.size + 1 := by simp
            obtain ⟨X, hX⟩ : ∃ X, w2.heap.size = X := ⟨_, rfl⟩
            rw [hX] at hI hz3
            obtain ⟨W3, hst⟩ : ∃ W3, (w2.alloc (.cells #[.int .i64 0, .int .i64 0, .slice none 0 0] 29)) = W3 := ⟨_, rfl⟩
            rw [hst] at hI hS hM3 hz3
            try rw [hX]
            rw [hst]
            have q0 := hI.cell 0
            have q1 := hI.cell 1
            have q2 := hI.cell 2
            simp at q0 q1 q2
            have b1 := hM3.c 1
            simp at b1
            simp only [hst0] at b1
            have HM3 := Lib.hid hM3
            have HS3 := Lib.hid hS
            have hxl : X < W3.heap.size := by omega
            have HXE := Lib.hid hX
            have HMX := Lib.hid hI
            clear hI hS hM3 hst hX hz3
            go_wp2_with (go_at_call 42; (with_reducible refine (XX.out _ _ HM3.out).mono ?_); rintro e w5 ⟨rfl, rfl⟩)
            go_roundw
            case rel => exact ⟨0 + 1, L - a.2, last, m2, ms, vs, lp, lc, ev, by omega, by omega, rfl, rfl, by go_num, HEV, by have := HM3.out; rw [show (((L - a.2 : Nat)) : Int) = (L : Int) - (a.2 : Int) by omega]; exact Lib.hid this, Lib.hid ((HMS.out.ch HC2.out (by intro g hg; simp at hg; have := HLB.out; omega)).ch HS3.out (by simp)), Lib.hid ((HC0.out.trans HC2.out).trans (HS3.out.mono (by simp))), HF, HML, Lib.hid (fun x hx => by have := HLK.out x hx; omega)⟩
            case measure => (simp [intOf]; first | exact meas_next _ _ _ _ (ite01 _) hks2 | exact meas_n0 _ _ _ (ite01 _))
          | some u =>
            have A0 := at_some E G.out 0 m' (L : Int) W0 hks2 (by omega) (by omega) HM0.out u a.2 (by rw [ha, ← hu]) hle2
            simp only [hz0] at A0
            have A1 := Lib.hid A0
            clear A0
            have HUK : Hid (0 ≤ u.1 ∧ u.1 ≤ E.s.size) := Lib.hid (by
              have := atM_ok (s := E.s.data.toList) HOK.out (i := 0) (by simp) (r := u) (by rw [ha, hu])
              have h1 := this.le
              have h2 := this.hi
              simp at h2
              exact ⟨Nat.zero_le _, h2⟩)
            have hmc : 0 ≤ 1000001 := by omega
            by_cases hlast : last = some u.1
            · have y2 : ((u.1 : Int) == ev) = true := by rw [beq_iff_eq, HEV.out]; exact (endV_eq _ _).2 hlast
              have y3 : (u.1 : Int) = ev := by rw [HEV.out]; exact (endV_eq _ _).2 hlast
              have HF : Hid ((alln E.s.data.toList E.g (0 + 1) last (L - a.2)).map (ms ++ ·) = r) := Lib.hid (by have := HF0.out; rw [HST.out, if_neg hkl, ha, if_pos hle, hu] at this; simp only [] at this; rw [if_pos hlast] at this; exact this)
              have Y3 := Lib.hid y3
              clear y3 hu ha HST HF0 hkl hlast
              go_upto_region 12 with (go_at_call 41; (with_reducible refine A1.out.mono ?_); rintro e w2 ⟨⟨p1, c1, rfl, ho2, hn2⟩, hm2, hc2⟩; have HC2 := Lib.hid hc2; clear hc2; have HMM := Lib.hid hm2; have HO2 := Lib.hid ho2; have HN2 := Lib.hid hn2; clear hm2 ho2 hn2)
              have hI : Mtb w2.heap.size #[.int .i64 0, .int .i64 (u.1 : Int), .slice p1 E.g.caps c1] (w2.alloc (.cells #[.int .i64 0, .int .i64 (u.1 : Int), .slice p1 E.g.caps c1] 29)) := mtb_new w2 _ _ rfl
              have hS : Ch [] w2 (w2.alloc (.cells #[.int .i64 0, .int .i64 (u.1 : Int), .slice p1 E.g.caps c1] 29)) := (Ch.refl [] w2).alloc _
              have hM3 : Mat E u.2 ((L : Int) - (a.2 : Int)) (w2.alloc (.cells #[.int .i64 0, .int .i64 (u.1 : Int), .slice p1 E.g.caps c1] 29)) := HMM.out.same hS
              have hz3 : (w2.alloc (.cells #[.int .i64 0, .int .i64 (u.1 : Int), .slice p1 E.g.caps c1] 29)).heap.size = w2.heap.size + 1 := by simp
              obtain ⟨X, hX⟩ : ∃ X, w2.heap.size = X := ⟨_, rfl⟩
              rw [hX] at hI hz3
              obtain ⟨W3, hst⟩ : ∃ W3, (w2.alloc (.cells #[.int .i64 0, .int .i64 (u.1 : Int), .slice p1 E.g.caps c1] 29)) = W3 := ⟨_, rfl⟩
              rw [hst] at hI hS hM3 hz3
              try rw [hX]
              rw [hst]
              have q0 := hI.cell 0
              have q1 := hI.cell 1
              have q2 := hI.cell 2
              simp at q0 q1 q2
              have b1 := hM3.c 1
              simp at b1
              simp only [hst0] at b1
              have HM3 := Lib.hid hM3
              have HS3 := Lib.hid hS
              have hxl : X < W3.heap.size := by omega
              have HXE := Lib.hid hX
              have HMX := Lib.hid hI
              clear hI hS hM3 hst hX hz3
              go_wp2_with (go_at_call 42; (with_reducible refine (XX.out _ _ HM3.out).mono ?_); rintro e w5 ⟨rfl, rfl⟩)
              go_roundw
              case rel => exact ⟨0 + 1, L - a.2, last, u.2, ms, vs, lp, lc, ev, by omega, by omega, rfl, rfl, by go_num, HEV, by have := HM3.out; rw [show (((L - a.2 : Nat)) : Int) = (L : Int) - (a.2 : Int) by omega]; exact Lib.hid this, Lib.hid ((HMS.out.ch HC2.out (by intro g hg; simp at hg; have := HLB.out; omega)).ch HS3.out (by simp)), Lib.hid ((HC0.out.trans HC2.out).trans (HS3.out.mono (by simp))), HF, HML, Lib.hid (fun x hx => by have := HLK.out x hx; omega)⟩
              case measure => (simp [intOf]; first | exact meas_next _ _ _ _ (ite01 _) hks2 | exact meas_n0 _ _ _ (ite01 _))
            · have y2 : ((u.1 : Int) == ev) = false := by rw [beq_eq_false_iff_ne, HEV.out]; exact fun e => hlast ((endV_eq _ _).1 e)
              have HKE : Hid (¬ (ev = (0 : Int) ∧ u.1 = 0)) := Lib.hid (by rintro ⟨e1, e2⟩; apply hlast; apply (endV_eq _ _).1; rw [← HEV.out, e1, e2]; rfl)
              have HLL : Hid (lastN last ≤ u.1) := Lib.hid (lastN_lt HLK.out HUK.out.1 hlast)
              have HF : Hid (some (ms ++ [⟨0, u.1, u.2⟩]) = r) := Lib.hid (by have := HF0.out; rw [HST.out, if_neg hkl, ha, if_pos hle, hu] at this; simp only [] at this; rw [if_neg hlast, if_pos hst0] at this; simpa using this)
              clear hu ha HST HF0 hkl hlast
              go_upto_region 12 with (go_at_call 41; (with_reducible refine A1.out.mono ?_); rintro e w2 ⟨⟨p1, c1, rfl, ho2, hn2⟩, hm2, hc2⟩; have HC2 := Lib.hid hc2; clear hc2; have HMM := Lib.hid hm2; have HO2 := Lib.hid ho2; have HN2 := Lib.hid hn2; clear hm2 ho2 hn2)
              have hI : Mtb w2.heap.size #[.int .i64 0, .int .i64 (u.1 : Int), .slice p1 E.g.caps c1] (w2.alloc (.cells #[.int .i64 0, .int .i64 (u.1 : Int), .slice p1 E.g.caps c1] 29)) := mtb_new w2 _ _ rfl
              have hS : Ch [] w2 (w2.alloc (.cells #[.int .i64 0, .int .i64 (u.1 : Int), .slice p1 E.g.caps c1] 29)) := (Ch.refl [] w2).alloc _
              have hM3 : Mat E u.2 ((L : Int) - (a.2 : Int)) (w2.alloc (.cells #[.int .i64 0, .int .i64 (u.1 : Int), .slice p1 E.g.caps c1] 29)) := HMM.out.same hS
              have hz3 : (w2.alloc (.cells #[.int .i64 0, .int .i64 (u.1 : Int), .slice p1 E.g.caps c1] 29)).heap.size = w2.heap.size + 1 := by simp
              obtain ⟨X, hX⟩ : ∃ X, w2.heap.size = X := ⟨_, rfl⟩
              rw [hX] at hI hz3
              obtain ⟨W3, hst⟩ : ∃ W3, (w2.alloc (.cells #[.int .i64 0, .int .i64 (u.1 : Int), .slice p1 E.g.caps c1] 29)) = W3 := ⟨_, rfl⟩
              rw [hst] at hI hS hM3 hz3
              try rw [hX]
              rw [hst]
              have q0 := hI.cell 0
              have q1 := hI.cell 1
              have q2 := hI.cell 2
              simp at q0 q1 q2
              have b1 := hM3.c 1
              simp at b1
              simp only [hst0] at b1
              have HM3 := Lib.hid hM3
              have HS3 := Lib.hid hS
              have hxl : X < W3.heap.size := by omega
              have HXE := Lib.hid hX
              have HMX := Lib.hid hI
              clear hI hS hM3 hst hX hz3
              have HOWN : Hid (W3.ownsRow 0 29 3 (.slice lp ms.length lc) ms.length (cellsM ms vs)) := Lib.hid ((HMS.out.ch HC2.out (by intro g hg; simp at hg; have := HLB.out; omega)).ch HS3.out (by simp)).own
              go_upto_region 16 with (go_at_call 42; (with_reducible refine (XX.out _ _ HM3.out).mono ?_); rintro e w5 ⟨rfl, rfl⟩)
              go_wp2_with (at_builtin; refine wpList_append_own_at _ rfl _ _ 39 rfl 0 29 j0 (.agg #[.int .i64 0, .int .i64 0, .slice none 0 0]) 3 40 Tryd.underlying39 hj jz0 jz1 jz2 rfl (by decide) _ _ _ rfl (HOWN.out.alloc _) ⟨W3.heap.size, 0, none⟩ 1 1 [.int .i64 0, .int .i64 (u.1 : Int), .slice p1 E.g.caps c1] rfl rfl (by intro j u' hj; match j, hj with | 0, hj => (simp at hj; subst hj; simp [Addr.add]) | 1, hj => (simp at hj; subst hj; simp [Addr.add]) | 2, hj => (simp at hj; subst hj; simp [Addr.add])) (by intro u' hu'; simp at hu'; rcases hu' with rfl | rfl | rfl <;> rfl) (by unfold maxLen; omega) (by omega) (by omega) ?_)
              intro v5 w5 ho5 hg5 _ hat5
              obtain ⟨p5, c5, hv5⟩ := own_form ho5
              subst hv5
              have hn5 : ∀ g ∈ ob (Value.slice p5 (ms.length + 1) c5), g ∈ ob (Value.slice lp ms.length lc) ∨ (W3.alloc (.cells #[.int .i64 0, .int .i64 (u.1 : Int), .slice p1 E.g.caps c1] 29)).heap.size ≤ g := fun g hg => by
                rw [mem_ob] at hg
                rcases hat5 with h | h
                · left; rw [mem_ob, ← h]; exact hg
                · right; rw [h] at hg; cases hg; simp
              have h45 : Ch (ob (Value.slice lp ms.length lc)) (W3.alloc (.cells #[.int .i64 0, .int .i64 (u.1 : Int), .slice p1 E.g.caps c1] 29)) w5 := Ch.of_grown hg5 (fun g e => mem_ob.2 e)
              have hal : Ch [] W3 (W3.alloc (.cells #[.int .i64 0, .int .i64 (u.1 : Int), .slice p1 E.g.caps c1] 29)) := (Ch.refl _ _).alloc _
              have hms5 := HMS.out.next (m := ⟨0, u.1, u.2⟩) HW0.out HC2.out (by intro g hg; simp at hg; have := HLB.out; omega) HO2.out HN2.out (HS3.out.trans hal) h45 ho5 hn5
              have h35 : Ch (ob (Value.slice lp ms.length lc)) W3 w5 := (hal.mono (by simp)).trans h45
              have hlbg : ∀ g ∈ ob (Value.slice lp ms.length lc), B ≤ g ∧ g < W0.heap.size := fun g hg => ⟨HMS.out.lb g hg, own_lt HMS.out.own hg⟩
              have hm5 : Mat E u.2 ((L : Int) - (a.2 : Int)) w5 := HM3.out.others h35 (fun g hg => by have := hlbg g hg; have := HLB.out; omega)
              have hx5 : Mtb X #[.int .i64 0, .int .i64 (u.1 : Int), .slice p1 E.g.caps c1] w5 := HMX.out.ch h35 (fun e => by have := hlbg X e; have := HXE.out; have := HC2.out.size; omega)
              have q0 := hx5.cell 0
              have q1 := hx5.cell 1
              have q2 := hx5.cell 2
              simp at q0 q1 q2
              have b1 := hm5.c 1
              simp at b1
              simp only [hst0] at b1
              have HM5 := Lib.hid hm5
              have HMS5 := Lib.hid hms5
              have HC5 : Hid (Ch [E.b, E.cb] _ w5) := Lib.hid (Ch.fresh ((HC0.out.trans HC2.out).trans (HS3.out.mono (by simp))) (fun g hg => by have := hlbg g hg; have := HBB.out; omega) h35)
              have hlt5 : X < w5.heap.size := by have := h35.size; omega
              clear hm5 hms5 hx5 h35 h45 hn5 hal ho5 hg5 hat5 hlbg
              go_upto_region 17 with fail
              go_quiet (fail)
              go_wp2
              go_ret2
              exact ⟨by rw [← HF.out]; exact ⟨p5, c5, vs ++ [.slice p1 E.g.caps c1], by rw [List.length_append, List.length_singleton]; rfl, by rw [List.length_append, List.length_singleton]; exact (HMS5.out.ch ((Ch.refl [] _).drewN _) (by simp)).low HZB.out⟩, (Ch.new (Ch.refl [] w) hb2 (Ch.new (Ch.of_below HB.out) hb1 (HC5.out.drewN _))).below⟩
        · have A0 := at_out E G.out 0 m' (L : Int) W0 hks2 (by omega) (by omega) HM0.out (by rw [ha]; omega)
          unfold mt0 at A0
          simp only [hz0] at A0
          have A1 := Lib.hid A0
          have HF : Hid (none = r) := Lib.hid (by have := HF0.out; rw [HST.out, if_neg hkl, ha, if_neg hle] at this; exact this)
          clear A0 ha HST HF0 hkl
          go_upto_region 12 with (go_at_call 41; (with_reducible refine A1.out.mono ?_); rintro e w2 ⟨rfl, hm2, hc2⟩; have HC2 := Lib.hid hc2; clear hc2; obtain ⟨m2, l2, hm2, hl2, hl3⟩ := hm2; have HMM := Lib.hid hm2; clear hm2)
          have XX : Hid (∀ (W : World) (mm : Caps), Mat E mm (l2) W → Calls Tryd.prog 42 #[.pointer (some ⟨E.b, 0, none⟩)] W fun e w' => e = .returned (.bool true) ∧ W = w') := Lib.hid fun W mm hW => by (have := exhausted_any E mm (l2) W hW; rw [decide_eq_true (by omega)] at this; exact this)
          have hI : Mtb w2.heap.size #[.int .i64 0, .int .i64 0, .slice none 0 0] (w2.alloc (.cells #[.int .i64 0, .int .i64 0, .slice none 0 0] 29)) := mtb_new w2 _ _ rfl
          have hS : Ch [] w2 (w2.alloc (.cells #[.int .i64 0, .int .i64 0, .slice none 0 0] 29)) := (Ch.refl [] w2).alloc _
          have hM3 : Mat E m2 l2 (w2.alloc (.cells #[.int .i64 0, .int .i64 0, .slice none 0 0] 29)) := HMM.out.same hS
          have hz3 : (w2.alloc (.cells #[.int .i64 0, .int .i64 0, .slice none 0 0] 29)).heap.size = w2.heap.size + 1 := by simp
          obtain ⟨X, hX⟩ : ∃ X, w2.heap.size = X := ⟨_, rfl⟩
          rw [hX] at hI hz3
          obtain ⟨W3, hst⟩ : ∃ W3, (w2.alloc (.cells #[.int .i64 0, .int .i64 0, .slice none 0 0] 29)) = W3 := ⟨_, rfl⟩
          rw [hst] at hI hS hM3 hz3
          try rw [hX]
          rw [hst]
          have q0 := hI.cell 0
          have q1 := hI.cell 1
          have q2 := hI.cell 2
          simp at q0 q1 q2
          have b1 := hM3.c 1
          simp at b1
          simp only [hst0] at b1
          have HM3 := Lib.hid hM3
          have HS3 := Lib.hid hS
          have hxl : X < W3.heap.size := by omega
          have HXE := Lib.hid hX
          have HMX := Lib.hid hI
          clear hI hS hM3 hst hX hz3
          go_wp2_with (go_at_call 42; (with_reducible refine (XX.out _ _ HM3.out).mono ?_); rintro e w5 ⟨rfl, rfl⟩)
          go_ret2
          exact ⟨by rw [← HF.out]; rfl, by
            have h1 : Ch [E.cb] w W3 := Ch.new ((Ch.of_below HB.out)) hb1 ((HC0.out.trans HC2.out).trans (HS3.out.mono (by simp)))
            exact (Ch.new (Ch.refl [] w) hb2 h1).below⟩

end Go.Proofs.YtkbcaklleiapdaaDoor
