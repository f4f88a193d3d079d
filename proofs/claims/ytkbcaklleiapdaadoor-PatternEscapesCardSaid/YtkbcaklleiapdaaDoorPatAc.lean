/- Contracts of layer 4: the first match. -/
import Derived.Test.YtkbcaklleiapdaaDoorPatAb
namespace Go.Proofs.YtkbcaklleiapdaaDoor
open Go.RowKit M4
set_option linter.unusedVariables false
/-- What the first match leaves. -/
def FirstSaid (r : Option (Option Mt)) (n sz : Nat) (e : Ending) (w' : World) : Prop :=
  match r with
  | none => e = .returned (.tuple #[.agg mt0, .bool false, .int .i64 3])
  | some none => e = .returned (.tuple #[.agg mt0, .bool false, .int .i64 0])
  | some (some m) => ∃ p c, e = .returned (.tuple #[.agg #[.int .i64 (m.fr : Int), .int .i64 (m.to : Int), .slice p n c], .bool true, .int .i64 0]) ∧ w'.ownsRow 0 43 2 (.slice p n c) n (capC m.caps) ∧ ∀ g ∈ ob (.slice p n c), sz ≤ g
theorem firstM_succ (s : List UInt8) (g : Pg) (n i left : Nat) : firstM s g (n + 1) i left = if (atM s g i).2 ≤ left then (match (atM s g i).1 with
      | some r => some (some ⟨i, r.1, r.2⟩)
      | none => firstM s g n (i + 1) (left - (atM s g i).2)) else none := by rfl

set_option maxHeartbeats 8000000 in
set_option maxRecDepth 100000 in
theorem first_any (E : Env) (G : Good E) (i n : Nat) (m : Caps) (left : Nat) (last : Int) (w : World) (hn : 1 ≤ n) (hi : i + n ≤ E.s.size + 1) (hlast : last = (i : Int) + n - 1) (hl1 : left ≤ 1000000) (h : Mat E m (left : Int) w) :
    Calls Tryd.prog 40 #[.pointer (some ⟨E.b, 0, none⟩), .int .i64 (i : Int), .int .i64 last] w fun e w' => FirstSaid (firstM E.s.data.toList E.g n i left) E.g.caps w.heap.size e w' ∧ Ch [E.b, E.cb] w w' := by
  have hs6 := G.hs
  have hla2 : last + 1 ≤ (i : Int) + n := by omega
  have hla3 : (i : Int) + n ≤ last + 1 := by omega
  clear hlast
  obtain ⟨r, hr⟩ : ∃ r, firstM E.s.data.toList E.g n i left = r := ⟨_, rfl⟩
  rw [hr]
  have HRR := Lib.hid hr
  clear hr
  have hlb := h.lb
  have hR1 : Mtb w.heap.size mt0 (w.alloc (.cells #[.int .i64 0, .int .i64 0, .slice none 0 0] 29)) := mtb_new w mt0 _ rfl
  have hm1 : Mat E m (left : Int) (w.alloc (.cells #[.int .i64 0, .int .i64 0, .slice none 0 0] 29)) := h.same ((Ch.refl [] w).alloc _)
  have hc1 : Ch [E.b, E.cb] w (w.alloc (.cells #[.int .i64 0, .int .i64 0, .slice none 0 0] 29)) := (Ch.refl _ w).alloc _
  have hz1 : (w.alloc (.cells #[.int .i64 0, .int .i64 0, .slice none 0 0] 29)).heap.size = w.heap.size + 1 := by simp
  obtain ⟨w1, hw1⟩ : ∃ w1, (w.alloc (.cells #[.int .i64 0, .int .i64 0, .slice none 0 0] 29)) = w1 := ⟨_, rfl⟩
  rw [hw1] at hR1 hm1 hc1 hz1
  obtain ⟨R, hRe⟩ : ∃ R, w.heap.size = R := ⟨_, rfl⟩
  rw [hRe] at hR1 hz1 hlb
  have HR1 := Lib.hid hR1
  have HM1 := Lib.hid hm1
  have HC1 := Lib.hid hc1
  go_enter Tryd.func40, Tryd.ntmps40
  go_upto_region 1 with fail
  (try simp only [hw1, hRe])
  have HRE := Lib.hid hRe
  clear hw1 hRe hR1 hm1 hc1 h
  go_wp2
  go_loopw [9] (fun vi wr => ∃ (k L : Nat) (m' : Caps), i ≤ k ∧ k ≤ i + n ∧ L ≤ left ∧ vi = .int .i64 (k : Int) ∧ Hid (Mat E m' (L : Int) wr) ∧ Hid (Mtb R mt0 wr) ∧ Hid (Ch [E.b, E.cb] w wr) ∧ Hid (firstM E.s.data.toList E.g (i + n - k) k L = r)) (fun vi _ => E.s.size + 2 - (intOf vi).toNat)
  case atStart => exact ⟨i, left, m, Nat.le_refl _, by omega, Nat.le_refl _, rfl, HM1, HR1, HC1, Lib.hid (by rw [show i + n - i = n by omega]; exact HRR.out)⟩
  case round =>
    obtain ⟨k, L, m', hik, hkn, hLl, rfl, HM0, HR0, HC0, HF0⟩ := hrel
    rename World => W0
    clear HM1 HR1 HC1
    have HRL : Hid (R < W0.heap.size) := Lib.hid HR0.out.lt
    have hlb0 := HM0.out.lb
    have hk1 := i64w ((k : Int) + 1) (by omega)
    by_cases hkl : k < i + n
    · have y1 : ((k : Int) ≤ last) := by omega
      have HS := Lib.hid (firstM_succ E.s.data.toList E.g (i + n - k - 1) k L)
      obtain ⟨a, ha⟩ : ∃ a, atM E.s.data.toList E.g k = a := ⟨_, rfl⟩
      have HAA := Lib.hid ha
      by_cases hle : a.2 ≤ L
      · have hle2 : (a.2 : Int) ≤ (L : Int) := by omega
        cases hu : a.1 with
        | some u =>
          have A1 := Lib.hid (at_some E G k m' (L : Int) W0 (by omega) (by omega) (by omega) HM0.out u a.2 (by rw [ha, ← hu]) hle2)
          have HF : Hid (some (some ⟨k, u.1, u.2⟩) = r) := Lib.hid (by have := HF0.out; rw [show i + n - k = i + n - k - 1 + 1 by omega, HS.out, ha, if_pos hle, hu] at this; exact this)
          have XX : Hid (∀ (W : World) (mm : Caps), Mat E mm ((L : Int) - (a.2 : Int)) W → Calls Tryd.prog 42 #[.pointer (some ⟨E.b, 0, none⟩)] W fun e w' => e = .returned (.bool false) ∧ W = w') := Lib.hid fun W mm hW => by (have := exhausted_any E mm ((L : Int) - (a.2 : Int)) W hW; rw [decide_eq_false (by omega)] at this; exact this)
          clear hu ha HS HF0
          go_upto_region 5 with (go_at_call 41; (with_reducible refine A1.out.mono ?_); rintro e w2 ⟨⟨p1, c1, rfl, ho2, hn2⟩, hm2, hc2⟩; have HC2 := Lib.hid hc2; have hR2 := HR0.out.ch hc2 (by simp; omega); have HR2 := Lib.hid hR2; clear hc2 hR2; have HM2 := Lib.hid hm2; have HO2 := Lib.hid ho2; have HN2 := Lib.hid hn2; clear hm2 ho2 hn2)
          have hlb2 := HM2.out.lb
          have hRw2 := HR2.out.lt
          have hI : Mtb w2.heap.size #[.int .i64 (k : Int), .int .i64 (u.1 : Int), .slice p1 E.g.caps c1] (w2.alloc (.cells #[.int .i64 (k : Int), .int .i64 (u.1 : Int), .slice p1 E.g.caps c1] 29)) := mtb_new w2 _ _ rfl
          have hS : Ch [] w2 (w2.alloc (.cells #[.int .i64 (k : Int), .int .i64 (u.1 : Int), .slice p1 E.g.caps c1] 29)) := (Ch.refl [] w2).alloc _
          have hO3 := hS.own HO2.out (by simp)
          have hM3 : Mat E u.2 ((L : Int) - (a.2 : Int)) (w2.alloc (.cells #[.int .i64 (k : Int), .int .i64 (u.1 : Int), .slice p1 E.g.caps c1] 29)) := HM2.out.same hS
          have hR3 : Mtb R mt0 (w2.alloc (.cells #[.int .i64 (k : Int), .int .i64 (u.1 : Int), .slice p1 E.g.caps c1] 29)) := HR2.out.ch hS (by simp)
          have hC3 : Ch [E.b, E.cb] w (w2.alloc (.cells #[.int .i64 (k : Int), .int .i64 (u.1 : Int), .slice p1 E.g.caps c1] 29)) := (HC0.out.trans HC2.out).trans (hS.mono (by simp))
          have hz3 := hS.size
          obtain ⟨B, hB⟩ : ∃ B, w2.heap.size = B := ⟨_, rfl⟩
          rw [hB] at hI hz3
          obtain ⟨W3, hst⟩ : ∃ W3, (w2.alloc (.cells #[.int .i64 (k : Int), .int .i64 (u.1 : Int), .slice p1 E.g.caps c1] 29)) = W3 := ⟨_, rfl⟩
          rw [hst] at hI hM3 hR3 hC3 hz3
          try rw [hst] at hO3
          try rw [hB]
          rw [hst]
          have q0 := hI.cell 0
          have q1 := hI.cell 1
          have q2 := hI.cell 2
          simp at q0 q1 q2
          have r0 := hR3.cell 0
          have r1 := hR3.cell 1
          have r2 := hR3.cell 2
          simp [mt0] at r0 r1 r2
          have f0 := hR3.fz 0
          have f1 := hR3.fz 1
          have f2 := hR3.fz 2
          have HM3 := Lib.hid hM3
          have HR3 := Lib.hid hR3
          have HC3 := Lib.hid hC3
          clear hI hS hM3 hR3 hC3 hst

          have HO3 := Lib.hid hO3
          clear hO3
          go_wp2_with (go_at_call 42; (with_reducible refine (XX.out _ _ HM3.out).mono ?_); rintro e w5 ⟨rfl, rfl⟩)
          show bodyPost _ _ _ Exit.ret _ (st3 W3 R (.int .i64 (k : Int)) (.int .i64 (u.1 : Int)) (.slice p1 E.g.caps c1))
          have hI : Mtb R #[.int .i64 (k : Int), .int .i64 (u.1 : Int), .slice p1 E.g.caps c1] (st3 W3 R (.int .i64 (k : Int)) (.int .i64 (u.1 : Int)) (.slice p1 E.g.caps c1)) := st3_mt HR3.out
          have hS : Ch [R] W3 (st3 W3 R (.int .i64 (k : Int)) (.int .i64 (u.1 : Int)) (.slice p1 E.g.caps c1)) := st3_ch
          have ho9 := hS.own HO3.out (fun g hg => by have := HN2.out g hg; simp; have := HRL.out; omega)
          have hc9 : Ch [E.b, E.cb] w (st3 W3 R (.int .i64 (k : Int)) (.int .i64 (u.1 : Int)) (.slice p1 E.g.caps c1)) := Ch.new HC3.out (Nat.le_of_eq HRE.out) (hS.mono (by simp))
          have hn9 : ∀ g ∈ ob (Value.slice p1 E.g.caps c1), w.heap.size ≤ g := fun g hg => by have := HN2.out g hg; have := HC0.out.size; omega
          have d0 := hI.cell 0
          have d1 := hI.cell 1
          have d2 := hI.cell 2
          simp at d0 d1 d2
          generalize (st3 W3 R (.int .i64 (k : Int)) (.int .i64 (u.1 : Int)) (.slice p1 E.g.caps c1)) = W9 at *
          refine bodyPost_ret (v := .tuple #[.agg #[.int .i64 (k : Int), .int .i64 (u.1 : Int), .slice p1 E.g.caps c1], .bool true, .int .i64 0]) ?_ rfl ⟨by rw [← HF.out]; exact ⟨p1, c1, rfl, ho9, hn9⟩, hc9⟩
          · simp [results, Tryd.results40, go_sem, d0, d1, d2]

        | none =>
          have A0 := at_none E G k m' (L : Int) W0 (by omega) (by omega) (by omega) HM0.out a.2 (by rw [ha, ← hu]) hle2
          unfold mt0 at A0
          have A1 := Lib.hid A0
          clear A0
          have HF : Hid (firstM E.s.data.toList E.g (i + n - (k + 1)) (k + 1) (L - a.2) = r) := Lib.hid (by have := HF0.out; rw [show i + n - k = i + n - k - 1 + 1 by omega, HS.out, ha, if_pos hle, hu] at this; rw [show i + n - (k + 1) = i + n - k - 1 by omega]; exact this)
          have XX : Hid (∀ (W : World) (mm : Caps), Mat E mm ((L : Int) - (a.2 : Int)) W → Calls Tryd.prog 42 #[.pointer (some ⟨E.b, 0, none⟩)] W fun e w' => e = .returned (.bool false) ∧ W = w') := Lib.hid fun W mm hW => by (have := exhausted_any E mm ((L : Int) - (a.2 : Int)) W hW; rw [decide_eq_false (by omega)] at this; exact this)
          clear hu ha HS HF0
          go_upto_region 5 with (go_at_call 41; (with_reducible refine A1.out.mono ?_); rintro e w2 ⟨rfl, hm2, hc2⟩; have HC2 := Lib.hid hc2; have hR2 := HR0.out.ch hc2 (by simp; omega); have HR2 := Lib.hid hR2; clear hc2 hR2; obtain ⟨m2, l2, hm2, hl2⟩ := hm2; subst hl2; have HM2 := Lib.hid hm2; clear hm2)
          have hlb2 := HM2.out.lb
          have hRw2 := HR2.out.lt
          have hI : Mtb w2.heap.size #[.int .i64 0, .int .i64 0, .slice none 0 0] (w2.alloc (.cells #[.int .i64 0, .int .i64 0, .slice none 0 0] 29)) := mtb_new w2 _ _ rfl
          have hS : Ch [] w2 (w2.alloc (.cells #[.int .i64 0, .int .i64 0, .slice none 0 0] 29)) := (Ch.refl [] w2).alloc _
          have hM3 : Mat E m2 ((L : Int) - (a.2 : Int)) (w2.alloc (.cells #[.int .i64 0, .int .i64 0, .slice none 0 0] 29)) := HM2.out.same hS
          have hR3 : Mtb R mt0 (w2.alloc (.cells #[.int .i64 0, .int .i64 0, .slice none 0 0] 29)) := HR2.out.ch hS (by simp)
          have hC3 : Ch [E.b, E.cb] w (w2.alloc (.cells #[.int .i64 0, .int .i64 0, .slice none 0 0] 29)) := (HC0.out.trans HC2.out).trans (hS.mono (by simp))
          have hz3 := hS.size
          obtain ⟨B, hB⟩ : ∃ B, w2.heap.size = B := ⟨_, rfl⟩
          rw [hB] at hI hz3
          obtain ⟨W3, hst⟩ : ∃ W3, (w2.alloc (.cells #[.int .i64 0, .int .i64 0, .slice none 0 0] 29)) = W3 := ⟨_, rfl⟩
          rw [hst] at hI hM3 hR3 hC3 hz3
          try rw [hst] at hO3
          try rw [hB]
          rw [hst]
          have q0 := hI.cell 0
          have q1 := hI.cell 1
          have q2 := hI.cell 2
          simp at q0 q1 q2
          have r0 := hR3.cell 0
          have r1 := hR3.cell 1
          have r2 := hR3.cell 2
          simp [mt0] at r0 r1 r2
          have f0 := hR3.fz 0
          have f1 := hR3.fz 1
          have f2 := hR3.fz 2
          have HM3 := Lib.hid hM3
          have HR3 := Lib.hid hR3
          have HC3 := Lib.hid hC3
          clear hI hS hM3 hR3 hC3 hst

          go_wp2_with (go_at_call 42; (with_reducible refine (XX.out _ _ HM3.out).mono ?_); rintro e w5 ⟨rfl, rfl⟩)
          go_roundw
          case rel => exact ⟨k + 1, L - a.2, m2, by omega, by omega, by omega, by go_num, by have := HM3.out; rw [show (((L - a.2 : Nat)) : Int) = (L : Int) - (a.2 : Int) by omega]; exact Lib.hid this, HR3, HC3, HF⟩
          case measure => simp [intOf]; omega
      · have A0 := at_out E G k m' (L : Int) W0 (by omega) (by omega) (by omega) HM0.out (by rw [ha]; omega)
        unfold mt0 at A0
        have A1 := Lib.hid A0
        clear A0
        have HF : Hid (none = r) := Lib.hid (by have := HF0.out; rw [show i + n - k = i + n - k - 1 + 1 by omega, HS.out, ha, if_neg hle] at this; exact this)
        clear ha HS HF0
        go_upto_region 5 with (go_at_call 41; (with_reducible refine A1.out.mono ?_); rintro e w2 ⟨rfl, hm2, hc2⟩; have HC2 := Lib.hid hc2; have hR2 := HR0.out.ch hc2 (by simp; omega); have HR2 := Lib.hid hR2; clear hc2 hR2; obtain ⟨m2, l2, hm2, hl2, hl3⟩ := hm2; have HM2 := Lib.hid hm2; clear hm2)
        have XX : Hid (∀ (W : World) (mm : Caps), Mat E mm (l2) W → Calls Tryd.prog 42 #[.pointer (some ⟨E.b, 0, none⟩)] W fun e w' => e = .returned (.bool true) ∧ W = w') := Lib.hid fun W mm hW => by (have := exhausted_any E mm (l2) W hW; rw [decide_eq_true (by omega)] at this; exact this)
        have hlb2 := HM2.out.lb
        have hRw2 := HR2.out.lt
        have hI : Mtb w2.heap.size #[.int .i64 0, .int .i64 0, .slice none 0 0] (w2.alloc (.cells #[.int .i64 0, .int .i64 0, .slice none 0 0] 29)) := mtb_new w2 _ _ rfl
        have hS : Ch [] w2 (w2.alloc (.cells #[.int .i64 0, .int .i64 0, .slice none 0 0] 29)) := (Ch.refl [] w2).alloc _
        have hM3 : Mat E m2 l2 (w2.alloc (.cells #[.int .i64 0, .int .i64 0, .slice none 0 0] 29)) := HM2.out.same hS
        have hR3 : Mtb R mt0 (w2.alloc (.cells #[.int .i64 0, .int .i64 0, .slice none 0 0] 29)) := HR2.out.ch hS (by simp)
        have hC3 : Ch [E.b, E.cb] w (w2.alloc (.cells #[.int .i64 0, .int .i64 0, .slice none 0 0] 29)) := (HC0.out.trans HC2.out).trans (hS.mono (by simp))
        have hz3 := hS.size
        obtain ⟨B, hB⟩ : ∃ B, w2.heap.size = B := ⟨_, rfl⟩
        rw [hB] at hI hz3
        obtain ⟨W3, hst⟩ : ∃ W3, (w2.alloc (.cells #[.int .i64 0, .int .i64 0, .slice none 0 0] 29)) = W3 := ⟨_, rfl⟩
        rw [hst] at hI hM3 hR3 hC3 hz3
        try rw [hst] at hO3
        try rw [hB]
        rw [hst]
        have q0 := hI.cell 0
        have q1 := hI.cell 1
        have q2 := hI.cell 2
        simp at q0 q1 q2
        have r0 := hR3.cell 0
        have r1 := hR3.cell 1
        have r2 := hR3.cell 2
        simp [mt0] at r0 r1 r2
        have f0 := hR3.fz 0
        have f1 := hR3.fz 1
        have f2 := hR3.fz 2
        have HM3 := Lib.hid hM3
        have HR3 := Lib.hid hR3
        have HC3 := Lib.hid hC3
        clear hI hS hM3 hR3 hC3 hst

        go_wp2_with (go_at_call 42; (with_reducible refine (XX.out _ _ HM3.out).mono ?_); rintro e w5 ⟨rfl, rfl⟩)
        show bodyPost _ _ _ Exit.ret _ (st3 W3 R (.int .i64 0) (.int .i64 0) (.slice none 0 0))
        have hI : Mtb R #[.int .i64 0, .int .i64 0, .slice none 0 0] (st3 W3 R (.int .i64 0) (.int .i64 0) (.slice none 0 0)) := st3_mt HR3.out
        have hS : Ch [R] W3 (st3 W3 R (.int .i64 0) (.int .i64 0) (.slice none 0 0)) := st3_ch
        have hc9 : Ch [E.b, E.cb] w (st3 W3 R (.int .i64 0) (.int .i64 0) (.slice none 0 0)) := Ch.new HC3.out (Nat.le_of_eq HRE.out) (hS.mono (by simp))
        have d0 := hI.cell 0
        have d1 := hI.cell 1
        have d2 := hI.cell 2
        simp at d0 d1 d2
        generalize (st3 W3 R (.int .i64 0) (.int .i64 0) (.slice none 0 0)) = W9 at *
        refine bodyPost_ret (v := .tuple #[.agg #[.int .i64 0, .int .i64 0, .slice none 0 0], .bool false, .int .i64 3]) ?_ rfl ⟨by rw [← HF.out]; rfl, hc9⟩
        · simp [results, Tryd.results40, go_sem, d0, d1, d2]

    · have y1 : ¬ ((k : Int) ≤ last) := by omega
      have HF : Hid (some none = r) := Lib.hid (by have := HF0.out; rw [show i + n - k = 0 by omega] at this; exact this)
      have r0 := HR0.out.cell 0
      have r1 := HR0.out.cell 1
      have r2 := HR0.out.cell 2
      simp [mt0] at r0 r1 r2
      have f0 := HR0.out.fz 0
      have f1 := HR0.out.fz 1
      have f2 := HR0.out.fz 2
      go_wp2
      show bodyPost _ _ _ Exit.ret _ (st3 W0 R (.int .i64 0) (.int .i64 0) (.slice none 0 0))
      have hI : Mtb R #[.int .i64 0, .int .i64 0, .slice none 0 0] (st3 W0 R (.int .i64 0) (.int .i64 0) (.slice none 0 0)) := st3_mt HR0.out
      have hS : Ch [R] W0 (st3 W0 R (.int .i64 0) (.int .i64 0) (.slice none 0 0)) := st3_ch
      have hc9 : Ch [E.b, E.cb] w (st3 W0 R (.int .i64 0) (.int .i64 0) (.slice none 0 0)) := Ch.new HC0.out (Nat.le_of_eq HRE.out) (hS.mono (by simp))
      have d0 := hI.cell 0
      have d1 := hI.cell 1
      have d2 := hI.cell 2
      simp at d0 d1 d2
      generalize (st3 W0 R (.int .i64 0) (.int .i64 0) (.slice none 0 0)) = W9 at *
      refine bodyPost_ret (v := .tuple #[.agg #[.int .i64 0, .int .i64 0, .slice none 0 0], .bool false, .int .i64 0]) ?_ rfl ⟨by rw [← HF.out]; rfl, hc9⟩
      · simp [results, Tryd.results40, go_sem, d0, d1, d2]

end Go.Proofs.YtkbcaklleiapdaaDoor
