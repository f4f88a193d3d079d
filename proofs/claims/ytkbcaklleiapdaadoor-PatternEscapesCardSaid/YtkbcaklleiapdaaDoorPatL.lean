/- Contracts of layer 4: %f, %1, ( and ). -/
import Derived.Test.YtkbcaklleiapdaaDoorPatK
namespace Go.Proofs.YtkbcaklleiapdaaDoor
open Go.RowKit M4
set_option linter.unusedVariables false

set_option maxHeartbeats 8000000 in
set_option maxRecDepth 100000 in
theorem balance_err (b : Nat) (p : ByteArray) (k : Nat) (st op : Value) (sts opn : List Nat) (w : World) (hp : p.size ≤ 1000000) (hk1 : k ≤ p.size) (hk : ¬ k + 2 ≤ p.size) (h : RdS b p k sts opn st op w) :
    Calls Tryd.prog 57 #[.pointer (some ⟨b, 0, none⟩)] w fun e w' => ItSaid b p (.error 4) st op w e w' := by
  have hbl := h.rd.lt
  have hR1 : Itb w.heap.size it0 (w.alloc (.cells #[.int .i64 0, .nilFunc, .int .u8 0, .int .u8 0, .int .u8 0, .int .i64 0] 88)) := itb_new w it0 _ rfl
  have hr1 : Rd b p k st op (w.alloc (.cells #[.int .i64 0, .nilFunc, .int .u8 0, .int .u8 0, .int .u8 0, .int .i64 0] 88)) := h.rd.ch ((Ch.refl [] _).alloc _) (by simp)
  have hc1 : Ch [b] w (w.alloc (.cells #[.int .i64 0, .nilFunc, .int .u8 0, .int .u8 0, .int .u8 0, .int .i64 0] 88)) := (Ch.refl [b] w).alloc _
  have hz1 : (w.alloc (.cells #[.int .i64 0, .nilFunc, .int .u8 0, .int .u8 0, .int .u8 0, .int .i64 0] 88)).heap.size = w.heap.size + 1 := by simp
  obtain ⟨w1, hw1⟩ : ∃ w1, w.alloc (.cells #[.int .i64 0, .nilFunc, .int .u8 0, .int .u8 0, .int .u8 0, .int .i64 0] 88) = w1 := ⟨_, rfl⟩
  rw [hw1] at hR1 hr1 hc1 hz1
  obtain ⟨R, hRe⟩ : ∃ R, w.heap.size = R := ⟨_, rfl⟩
  rw [hRe] at hR1 hbl hz1
  have hbR : b ≠ R := by omega
  have m0 := hr1.c0
  have m1 := hr1.c1
  have HR1 := Lib.hid hR1
  have Hr1 := Lib.hid hr1
  have HC1 := Lib.hid hc1
  have HH := Lib.hid h
  have s1 := i64w ((p.size : Int) - (k : Int)) (by omega)
  have k0 : (p.size : Int) - (k : Int) < 2 := by omega
  have hR1n := Lib.hid fun n => hR1.ch (Ch.drewN (Ch.refl [] w1) n) (by simp)
  clear hR1 hr1 hc1 h
  go_enter Tryd.func57, Tryd.ntmps57
  go_upto_region 1 with fail
  (try simp only [hw1, hRe])
  have HRE := Lib.hid hRe
  clear hw1 hRe
  go_quiet (fail)
  go_upto_region 2 with fail
  go_name_world V hV
  have hR : Itb R it0 V := by rw [← hV]; exact hR1n.out _
  have HR := Lib.hid hR
  have HCV : Hid (Ch [b] w V) := Lib.hid (by rw [← hV]; exact HC1.out.drewN _)
  clear hV m0 m1
  have r0 := hR.cell 0
  have r1 := hR.cell 1
  have r2 := hR.cell 2
  have r3 := hR.cell 3
  have r4 := hR.cell 4
  have r5 := hR.cell 5
  simp [it0] at r0 r1 r2 r3 r4 r5
  have f0 := hR.fz 0
  have f1 := hR.fz 1
  have f2 := hR.fz 2
  have f3 := hR.fz 3
  have f4 := hR.fz 4
  have f5 := hR.fz 5
  clear hR
  go_wp2
  show bodyPost _ _ _ Exit.ret _ (st6 V R (.int .i64 0) (.nilFunc) (.int .u8 0) (.int .u8 0) (.int .u8 0) (.int .i64 0))
  have hI : Itb R #[.int .i64 0, .nilFunc, .int .u8 0, .int .u8 0, .int .u8 0, .int .i64 0] (st6 V R (.int .i64 0) (.nilFunc) (.int .u8 0) (.int .u8 0) (.int .u8 0) (.int .i64 0)) := st6_it HR.out
  have hS : Ch [R] V (st6 V R (.int .i64 0) (.nilFunc) (.int .u8 0) (.int .u8 0) (.int .u8 0) (.int .i64 0)) := st6_ch
  have hc9 : Ch [b] w (st6 V R (.int .i64 0) (.nilFunc) (.int .u8 0) (.int .u8 0) (.int .u8 0) (.int .i64 0)) := Ch.new HCV.out (Nat.le_of_eq HRE.out) (hS.mono (by simp))
  have d0 := hI.cell 0
  have d1 := hI.cell 1
  have d2 := hI.cell 2
  have d3 := hI.cell 3
  have d4 := hI.cell 4
  have d5 := hI.cell 5
  simp at d0 d1 d2 d3 d4 d5
  generalize (st6 V R (.int .i64 0) (.nilFunc) (.int .u8 0) (.int .u8 0) (.int .u8 0) (.int .i64 0)) = W9 at *
  refine bodyPost_ret (v := .tuple #[.agg #[.int .i64 0, .nilFunc, .int .u8 0, .int .u8 0, .int .u8 0, .int .i64 0], .int .i64 4]) ?_ rfl ⟨rfl, hc9.mono (by simp)⟩
  · simp [results, Tryd.results57, go_sem, d0, d1, d2, d3, d4, d5]

set_option maxHeartbeats 8000000 in
set_option maxRecDepth 100000 in
theorem frontier_ok (b : Nat) (p : ByteArray) (k : Nat) (st op : Value) (sts opn : List Nat) (w : World) (hp : p.size ≤ 1000000) (hk : k ≤ p.size) (h : RdS b p k sts opn st op w) (h91 : p.data.toList[k]? = some 91) (r : (UInt8 → Bool) × Nat) (hr : setF p.data.toList (k + 1) = some r) :
    Calls Tryd.prog 58 #[.pointer (some ⟨b, 0, none⟩)] w fun e w' => ItSaid b p (.ok (⟨5, r.1, 0, 0, 0, 0⟩, r.2, sts, opn)) st op w e w' := by
  have hbl := h.rd.lt
  have hR1 : Itb w.heap.size it0 (w.alloc (.cells #[.int .i64 0, .nilFunc, .int .u8 0, .int .u8 0, .int .u8 0, .int .i64 0] 88)) := itb_new w it0 _ rfl
  have hr1 : Rd b p k st op (w.alloc (.cells #[.int .i64 0, .nilFunc, .int .u8 0, .int .u8 0, .int .u8 0, .int .i64 0] 88)) := h.rd.ch ((Ch.refl [] _).alloc _) (by simp)
  have hc1 : Ch [b] w (w.alloc (.cells #[.int .i64 0, .nilFunc, .int .u8 0, .int .u8 0, .int .u8 0, .int .i64 0] 88)) := (Ch.refl [b] w).alloc _
  have hz1 : (w.alloc (.cells #[.int .i64 0, .nilFunc, .int .u8 0, .int .u8 0, .int .u8 0, .int .i64 0] 88)).heap.size = w.heap.size + 1 := by simp
  obtain ⟨w1, hw1⟩ : ∃ w1, w.alloc (.cells #[.int .i64 0, .nilFunc, .int .u8 0, .int .u8 0, .int .u8 0, .int .i64 0] 88) = w1 := ⟨_, rfl⟩
  rw [hw1] at hR1 hr1 hc1 hz1
  obtain ⟨R, hRe⟩ : ∃ R, w.heap.size = R := ⟨_, rfl⟩
  rw [hRe] at hR1 hbl hz1
  have hbR : b ≠ R := by omega
  have S0 := skip4_lit b p k st op 91 91 rfl w1 hp hk hr1
  rw [if_pos h91, decide_eq_true h91] at S0
  have S1 := Lib.hid S0
  have P0 := Lib.hid fun W (hW : Rd b p (k + 1) st op W) => (set_any b p (k + 1) st op W hp (by have := get_of h91; obtain ⟨h1, _⟩ := this; omega) hW).mono fun e w' (h : _ ∧ _) => (by
    obtain ⟨h1, h2⟩ := h
    unfold SetSaid at h1; rw [hr] at h1
    obtain ⟨v, h3, h4, h5⟩ := h1
    exact ⟨v, h3, h4, h5, h2⟩ : ∃ v, e = .returned (.tuple #[v, .int .i64 0]) ∧ Rd b p r.2 st op w' ∧ TV W.heap.size w'.heap.size w' v r.1 ∧ Ch [b] W w')
  have HR1 := Lib.hid hR1
  have Hr1 := Lib.hid hr1
  have HC1 := Lib.hid hc1
  have HH := Lib.hid h
  clear hR1 hr1 hc1 h S0 h91 hr
  go_enter Tryd.func58, Tryd.ntmps58
  go_upto_region 1 with fail
  (try simp only [hw1, hRe])
  have HRE := Lib.hid hRe
  clear hw1 hRe
  go_upto_region 6 with (first | (go_at_call 43; (with_reducible refine (S1.out).mono ?_); rintro e w2 ⟨rfl, h2, hg2⟩) | (go_at_call 71; (with_reducible refine (P0.out _ h2).mono ?_); rintro e w3 ⟨v, he, h3, hT, hc3⟩; obtain ⟨_, F, fst, caps, hve, _, _⟩ := hT.ex; subst hve; subst he; have HT := Lib.hid hT; clear hT))
  have hc23 : Ch [b] w1 w3 := (Ch.of_grown hg2 (by simp)).trans hc3
  have hR := HR1.out.ch hc23 (by simp; omega)
  have HR := Lib.hid hR
  have HC3 : Hid (Ch [b] w w3) := Lib.hid (HC1.out.trans hc23)
  have H3 := Lib.hid h3
  have HZ2 : Hid (R < w2.heap.size) := Lib.hid (by have := hg2.size; omega)
  have HZ3 : Hid (w2.heap.size ≤ w3.heap.size) := Lib.hid hc3.size
  have r0 := hR.cell 0
  have r1 := hR.cell 1
  have r2 := hR.cell 2
  have r3 := hR.cell 3
  have r4 := hR.cell 4
  have r5 := hR.cell 5
  simp [it0] at r0 r1 r2 r3 r4 r5
  have f0 := hR.fz 0
  have f1 := hR.fz 1
  have f2 := hR.fz 2
  have f3 := hR.fz 3
  have f4 := hR.fz 4
  have f5 := hR.fz 5
  clear hR hc23 hc3 hg2 h2 h3
  go_wp2
  show bodyPost _ _ _ Exit.ret _ (st6 w3 R (.int .i64 5) (.func (.func F) fst caps) (.int .u8 0) (.int .u8 0) (.int .u8 0) (.int .i64 0))
  have hI : Itb R #[.int .i64 5, .func (.func F) fst caps, .int .u8 0, .int .u8 0, .int .u8 0, .int .i64 0] (st6 w3 R (.int .i64 5) (.func (.func F) fst caps) (.int .u8 0) (.int .u8 0) (.int .u8 0) (.int .i64 0)) := st6_it HR.out
  have hS : Ch [R] w3 (st6 w3 R (.int .i64 5) (.func (.func F) fst caps) (.int .u8 0) (.int .u8 0) (.int .u8 0) (.int .i64 0)) := st6_ch
  have hc9 : Ch [b] w (st6 w3 R (.int .i64 5) (.func (.func F) fst caps) (.int .u8 0) (.int .u8 0) (.int .u8 0) (.int .i64 0)) := Ch.new HC3.out (Nat.le_of_eq HRE.out) (hS.mono (by simp))
  have hr9 : Rd b p (r.2) st op (st6 w3 R (.int .i64 5) (.func (.func F) fst caps) (.int .u8 0) (.int .u8 0) (.int .u8 0) (.int .i64 0)) := H3.out.ch hS (by simp; omega)
  have hT9 : TV w.heap.size ((st6 w3 R (.int .i64 5) (.func (.func F) fst caps) (.int .u8 0) (.int .u8 0) (.int .u8 0) (.int .i64 0))).heap.size (st6 w3 R (.int .i64 5) (.func (.func F) fst caps) (.int .u8 0) (.int .u8 0) (.int .u8 0) (.int .i64 0)) (.func (.func F) fst caps) r.1 := by
    have h3 := HRE.out
    have h4 := HZ2.out
    have h5 := HZ3.out
    refine (HT.out.kept (hS.kp (Nat.le_refl _) ?_)).wide (by omega) hS.size (Nat.le_refl _)
    intro g hg
    simp at hg
    omega
  have d0 := hI.cell 0
  have d1 := hI.cell 1
  have d2 := hI.cell 2
  have d3 := hI.cell 3
  have d4 := hI.cell 4
  have d5 := hI.cell 5
  simp at d0 d1 d2 d3 d4 d5
  generalize (st6 w3 R (.int .i64 5) (.func (.func F) fst caps) (.int .u8 0) (.int .u8 0) (.int .u8 0) (.int .i64 0)) = W9 at *
  refine bodyPost_ret (v := .tuple #[.agg #[.int .i64 5, .func (.func F) fst caps, .int .u8 0, .int .u8 0, .int .u8 0, .int .i64 0], .int .i64 0]) ?_ rfl ⟨⟨_, st, op, rfl, HH.out.ch hc9 hr9, NewO.refl _ _, NewO.refl _ _, TVi.of (by simp) hT9⟩, hc9.mono (by simp)⟩
  · simp [results, Tryd.results58, go_sem, d0, d1, d2, d3, d4, d5]

set_option maxHeartbeats 8000000 in
set_option maxRecDepth 100000 in
theorem frontier_err (b : Nat) (p : ByteArray) (k : Nat) (st op : Value) (sts opn : List Nat) (w : World) (hp : p.size ≤ 1000000) (hk : k ≤ p.size) (h : RdS b p k sts opn st op w) (h91 : p.data.toList[k]? = some 91) (hr : setF p.data.toList (k + 1) = none) :
    Calls Tryd.prog 58 #[.pointer (some ⟨b, 0, none⟩)] w fun e w' => ItSaid b p (.error 4) st op w e w' := by
  have hbl := h.rd.lt
  have hR1 : Itb w.heap.size it0 (w.alloc (.cells #[.int .i64 0, .nilFunc, .int .u8 0, .int .u8 0, .int .u8 0, .int .i64 0] 88)) := itb_new w it0 _ rfl
  have hr1 : Rd b p k st op (w.alloc (.cells #[.int .i64 0, .nilFunc, .int .u8 0, .int .u8 0, .int .u8 0, .int .i64 0] 88)) := h.rd.ch ((Ch.refl [] _).alloc _) (by simp)
  have hc1 : Ch [b] w (w.alloc (.cells #[.int .i64 0, .nilFunc, .int .u8 0, .int .u8 0, .int .u8 0, .int .i64 0] 88)) := (Ch.refl [b] w).alloc _
  have hz1 : (w.alloc (.cells #[.int .i64 0, .nilFunc, .int .u8 0, .int .u8 0, .int .u8 0, .int .i64 0] 88)).heap.size = w.heap.size + 1 := by simp
  obtain ⟨w1, hw1⟩ : ∃ w1, w.alloc (.cells #[.int .i64 0, .nilFunc, .int .u8 0, .int .u8 0, .int .u8 0, .int .i64 0] 88) = w1 := ⟨_, rfl⟩
  rw [hw1] at hR1 hr1 hc1 hz1
  obtain ⟨R, hRe⟩ : ∃ R, w.heap.size = R := ⟨_, rfl⟩
  rw [hRe] at hR1 hbl hz1
  have hbR : b ≠ R := by omega
  have S0 := skip4_lit b p k st op 91 91 rfl w1 hp hk hr1
  rw [if_pos h91, decide_eq_true h91] at S0
  have S1 := Lib.hid S0
  have P0 := Lib.hid fun W (hW : Rd b p (k + 1) st op W) => (set_any b p (k + 1) st op W hp (by have := get_of h91; obtain ⟨h1, _⟩ := this; omega) hW).mono fun e w' (h : _ ∧ _) => (by
    obtain ⟨h1, h2⟩ := h
    unfold SetSaid at h1; rw [hr] at h1
    skip
    exact ⟨h1.1, h2⟩ : e = .returned (.tuple #[.nilFunc, .int .i64 4]) ∧ Ch [b] W w')
  have HR1 := Lib.hid hR1
  have Hr1 := Lib.hid hr1
  have HC1 := Lib.hid hc1
  have HH := Lib.hid h
  clear hR1 hr1 hc1 h S0 h91 hr
  go_enter Tryd.func58, Tryd.ntmps58
  go_upto_region 1 with fail
  (try simp only [hw1, hRe])
  have HRE := Lib.hid hRe
  clear hw1 hRe
  go_upto_region 5 with (first | (go_at_call 43; (with_reducible refine (S1.out).mono ?_); rintro e w2 ⟨rfl, h2, hg2⟩) | (go_at_call 71; (with_reducible refine (P0.out _ h2).mono ?_); rintro e w3 ⟨rfl, hc3⟩))
  have hc23 : Ch [b] w1 w3 := (Ch.of_grown hg2 (by simp)).trans hc3
  have hR := HR1.out.ch hc23 (by simp; omega)
  have HR := Lib.hid hR
  have HC3 : Hid (Ch [b] w w3) := Lib.hid (HC1.out.trans hc23)
  skip
  skip
  skip
  have r0 := hR.cell 0
  have r1 := hR.cell 1
  have r2 := hR.cell 2
  have r3 := hR.cell 3
  have r4 := hR.cell 4
  have r5 := hR.cell 5
  simp [it0] at r0 r1 r2 r3 r4 r5
  have f0 := hR.fz 0
  have f1 := hR.fz 1
  have f2 := hR.fz 2
  have f3 := hR.fz 3
  have f4 := hR.fz 4
  have f5 := hR.fz 5
  clear hR hc23 hc3 hg2 h2 
  go_wp2
  show bodyPost _ _ _ Exit.ret _ (st6 w3 R (.int .i64 0) (.nilFunc) (.int .u8 0) (.int .u8 0) (.int .u8 0) (.int .i64 0))
  have hI : Itb R #[.int .i64 0, .nilFunc, .int .u8 0, .int .u8 0, .int .u8 0, .int .i64 0] (st6 w3 R (.int .i64 0) (.nilFunc) (.int .u8 0) (.int .u8 0) (.int .u8 0) (.int .i64 0)) := st6_it HR.out
  have hS : Ch [R] w3 (st6 w3 R (.int .i64 0) (.nilFunc) (.int .u8 0) (.int .u8 0) (.int .u8 0) (.int .i64 0)) := st6_ch
  have hc9 : Ch [b] w (st6 w3 R (.int .i64 0) (.nilFunc) (.int .u8 0) (.int .u8 0) (.int .u8 0) (.int .i64 0)) := Ch.new HC3.out (Nat.le_of_eq HRE.out) (hS.mono (by simp))
  have d0 := hI.cell 0
  have d1 := hI.cell 1
  have d2 := hI.cell 2
  have d3 := hI.cell 3
  have d4 := hI.cell 4
  have d5 := hI.cell 5
  simp at d0 d1 d2 d3 d4 d5
  generalize (st6 w3 R (.int .i64 0) (.nilFunc) (.int .u8 0) (.int .u8 0) (.int .u8 0) (.int .i64 0)) = W9 at *
  refine bodyPost_ret (v := .tuple #[.agg #[.int .i64 0, .nilFunc, .int .u8 0, .int .u8 0, .int .u8 0, .int .i64 0], .int .i64 4]) ?_ rfl ⟨rfl, hc9.mono (by simp)⟩
  · simp [results, Tryd.results58, go_sem, d0, d1, d2, d3, d4, d5]

set_option maxHeartbeats 8000000 in
set_option maxRecDepth 100000 in
theorem frontier_no (b : Nat) (p : ByteArray) (k : Nat) (st op : Value) (sts opn : List Nat) (w : World) (hp : p.size ≤ 1000000) (hk : k ≤ p.size) (h : RdS b p k sts opn st op w) (h91 : ¬ p.data.toList[k]? = some 91) :
    Calls Tryd.prog 58 #[.pointer (some ⟨b, 0, none⟩)] w fun e w' => ItSaid b p (.error 4) st op w e w' := by
  have hbl := h.rd.lt
  have hR1 : Itb w.heap.size it0 (w.alloc (.cells #[.int .i64 0, .nilFunc, .int .u8 0, .int .u8 0, .int .u8 0, .int .i64 0] 88)) := itb_new w it0 _ rfl
  have hr1 : Rd b p k st op (w.alloc (.cells #[.int .i64 0, .nilFunc, .int .u8 0, .int .u8 0, .int .u8 0, .int .i64 0] 88)) := h.rd.ch ((Ch.refl [] _).alloc _) (by simp)
  have hc1 : Ch [b] w (w.alloc (.cells #[.int .i64 0, .nilFunc, .int .u8 0, .int .u8 0, .int .u8 0, .int .i64 0] 88)) := (Ch.refl [b] w).alloc _
  have hz1 : (w.alloc (.cells #[.int .i64 0, .nilFunc, .int .u8 0, .int .u8 0, .int .u8 0, .int .i64 0] 88)).heap.size = w.heap.size + 1 := by simp
  obtain ⟨w1, hw1⟩ : ∃ w1, w.alloc (.cells #[.int .i64 0, .nilFunc, .int .u8 0, .int .u8 0, .int .u8 0, .int .i64 0] 88) = w1 := ⟨_, rfl⟩
  rw [hw1] at hR1 hr1 hc1 hz1
  obtain ⟨R, hRe⟩ : ∃ R, w.heap.size = R := ⟨_, rfl⟩
  rw [hRe] at hR1 hbl hz1
  have hbR : b ≠ R := by omega
  have S0 := skip4_lit b p k st op 91 91 rfl w1 hp hk hr1
  rw [if_neg h91, decide_eq_false h91] at S0
  have S1 := Lib.hid S0
  have HR1 := Lib.hid hR1
  have Hr1 := Lib.hid hr1
  have HC1 := Lib.hid hc1
  have HH := Lib.hid h
  clear hR1 hr1 hc1 h S0 h91
  go_enter Tryd.func58, Tryd.ntmps58
  go_upto_region 1 with fail
  (try simp only [hw1, hRe])
  have HRE := Lib.hid hRe
  clear hw1 hRe
  go_upto_region 2 with (go_at_call 43; (with_reducible refine (S1.out).mono ?_); rintro e w2 ⟨rfl, h2, hg2⟩)
  have hc2 : Ch [b] w1 w2 := (Ch.of_grown hg2 (by simp))
  have hR := HR1.out.ch hc2 (by simp; omega)
  have HR := Lib.hid hR
  have HC3 : Hid (Ch [b] w w2) := Lib.hid (HC1.out.trans hc2)
  have r0 := hR.cell 0
  have r1 := hR.cell 1
  have r2 := hR.cell 2
  have r3 := hR.cell 3
  have r4 := hR.cell 4
  have r5 := hR.cell 5
  simp [it0] at r0 r1 r2 r3 r4 r5
  have f0 := hR.fz 0
  have f1 := hR.fz 1
  have f2 := hR.fz 2
  have f3 := hR.fz 3
  have f4 := hR.fz 4
  have f5 := hR.fz 5
  clear hR hc2 hg2 h2
  go_wp2
  show bodyPost _ _ _ Exit.ret _ (st6 w2 R (.int .i64 0) (.nilFunc) (.int .u8 0) (.int .u8 0) (.int .u8 0) (.int .i64 0))
  have hI : Itb R #[.int .i64 0, .nilFunc, .int .u8 0, .int .u8 0, .int .u8 0, .int .i64 0] (st6 w2 R (.int .i64 0) (.nilFunc) (.int .u8 0) (.int .u8 0) (.int .u8 0) (.int .i64 0)) := st6_it HR.out
  have hS : Ch [R] w2 (st6 w2 R (.int .i64 0) (.nilFunc) (.int .u8 0) (.int .u8 0) (.int .u8 0) (.int .i64 0)) := st6_ch
  have hc9 : Ch [b] w (st6 w2 R (.int .i64 0) (.nilFunc) (.int .u8 0) (.int .u8 0) (.int .u8 0) (.int .i64 0)) := Ch.new HC3.out (Nat.le_of_eq HRE.out) (hS.mono (by simp))
  have d0 := hI.cell 0
  have d1 := hI.cell 1
  have d2 := hI.cell 2
  have d3 := hI.cell 3
  have d4 := hI.cell 4
  have d5 := hI.cell 5
  simp at d0 d1 d2 d3 d4 d5
  generalize (st6 w2 R (.int .i64 0) (.nilFunc) (.int .u8 0) (.int .u8 0) (.int .u8 0) (.int .i64 0)) = W9 at *
  refine bodyPost_ret (v := .tuple #[.agg #[.int .i64 0, .nilFunc, .int .u8 0, .int .u8 0, .int .u8 0, .int .i64 0], .int .i64 4]) ?_ rfl ⟨rfl, hc9.mono (by simp)⟩
  · simp [results, Tryd.results58, go_sem, d0, d1, d2, d3, d4, d5]

set_option maxHeartbeats 8000000 in
set_option maxRecDepth 100000 in
theorem again_ok (b : Nat) (p : ByteArray) (k : Nat) (st op : Value) (sts opn : List Nat) (w : World) (n : Nat) (hn9 : n ≤ 9) (h16 : sts.length ≤ 16) (h : RdS b p k sts opn st op w) (hn : sts[n]? = some 1) :
    Calls Tryd.prog 59 #[.pointer (some ⟨b, 0, none⟩), .int .i64 (n : Int)] w fun e w' => ItSaid b p (.ok (⟨6, noP, 0, 0, 0, n⟩, k, sts, opn)) st op w e w' := by
  have hbl := h.rd.lt
  have hR1 : Itb w.heap.size it0 (w.alloc (.cells #[.int .i64 0, .nilFunc, .int .u8 0, .int .u8 0, .int .u8 0, .int .i64 0] 88)) := itb_new w it0 _ rfl
  have hr1 : Rd b p k st op (w.alloc (.cells #[.int .i64 0, .nilFunc, .int .u8 0, .int .u8 0, .int .u8 0, .int .i64 0] 88)) := h.rd.ch ((Ch.refl [] _).alloc _) (by simp)
  have hc1 : Ch [b] w (w.alloc (.cells #[.int .i64 0, .nilFunc, .int .u8 0, .int .u8 0, .int .u8 0, .int .i64 0] 88)) := (Ch.refl [b] w).alloc _
  have hz1 : (w.alloc (.cells #[.int .i64 0, .nilFunc, .int .u8 0, .int .u8 0, .int .u8 0, .int .i64 0] 88)).heap.size = w.heap.size + 1 := by simp
  obtain ⟨w1, hw1⟩ : ∃ w1, w.alloc (.cells #[.int .i64 0, .nilFunc, .int .u8 0, .int .u8 0, .int .u8 0, .int .i64 0] 88) = w1 := ⟨_, rfl⟩
  rw [hw1] at hR1 hr1 hc1 hz1
  obtain ⟨R, hRe⟩ : ∃ R, w.heap.size = R := ⟨_, rfl⟩
  rw [hRe] at hR1 hbl hz1
  have hbR : b ≠ R := by omega
  have hS1 := hc1.own h.s (fun g hg e => h.n1 (by simp at e; rw [← e]; exact hg))
  obtain ⟨sp, sc, hst⟩ := own_form h.s
  have m2 := hr1.c2
  have HH := Lib.hid h
  have HR1 := Lib.hid hR1
  have Hr1 := Lib.hid hr1
  have HC1 := Lib.hid hc1
  rw [hst] at hS1
  rw [hst] at m2
  have hnl := st_lt hn
  have g1 : ¬ (n : Int) ≥ (sts.length : Int) := by omega
  have g2 : ¬ (sts.length : Int) ≤ (n : Int) := by omega
  have g3 : decide (sts.length ≤ n) = false := decide_eq_false (by omega)
  obtain ⟨g, cap, hv⟩ := Joins.ownsRow_form hS1 (by omega)
  rw [hv] at hS1 m2
  have hcl := hS1.cellAt n (by omega)
  rw [show (ints sts)[n]? = some (.int .i64 1) by unfold ints; rw [List.getElem?_map, hn]; rfl] at hcl
  have g4 : (n : Int) < (sts.length : Int) := by omega
  have g5 : 0 ≤ (n : Int) := by omega
  have HSS := Lib.hid hS1
  clear hR1 hr1 hc1 h hS1 hst hn hv
  go_enter Tryd.func59, Tryd.ntmps59
  go_upto_region 1 with fail
  (try simp only [hw1, hRe])
  have HRE := Lib.hid hRe
  clear hw1 hRe
  go_upto_region 3 with fail
  go_name_world V hV
  have hR : Itb R it0 V := by rw [← hV]; exact HR1.out
  have HR := Lib.hid hR
  have HCV : Hid (Ch [b] w V) := Lib.hid (by rw [← hV]; exact HC1.out)
  have HRV : Hid (Rd b p k st op V) := Lib.hid (by rw [← hV]; exact Hr1.out)
  clear hV m2 hcl
  have r0 := hR.cell 0
  have r1 := hR.cell 1
  have r2 := hR.cell 2
  have r3 := hR.cell 3
  have r4 := hR.cell 4
  have r5 := hR.cell 5
  simp [it0] at r0 r1 r2 r3 r4 r5
  have f0 := hR.fz 0
  have f1 := hR.fz 1
  have f2 := hR.fz 2
  have f3 := hR.fz 3
  have f4 := hR.fz 4
  have f5 := hR.fz 5
  clear hR
  go_wp2
  show bodyPost _ _ _ Exit.ret _ (st6 V R (.int .i64 6) (.nilFunc) (.int .u8 0) (.int .u8 0) (.int .u8 0) (.int .i64 (n : Int)))
  have hI : Itb R #[.int .i64 6, .nilFunc, .int .u8 0, .int .u8 0, .int .u8 0, .int .i64 (n : Int)] (st6 V R (.int .i64 6) (.nilFunc) (.int .u8 0) (.int .u8 0) (.int .u8 0) (.int .i64 (n : Int))) := st6_it HR.out
  have hS : Ch [R] V (st6 V R (.int .i64 6) (.nilFunc) (.int .u8 0) (.int .u8 0) (.int .u8 0) (.int .i64 (n : Int))) := st6_ch
  have hc9 : Ch [b] w (st6 V R (.int .i64 6) (.nilFunc) (.int .u8 0) (.int .u8 0) (.int .u8 0) (.int .i64 (n : Int))) := Ch.new HCV.out (Nat.le_of_eq HRE.out) (hS.mono (by simp))
  have hr9 : Rd b p (k) st op (st6 V R (.int .i64 6) (.nilFunc) (.int .u8 0) (.int .u8 0) (.int .u8 0) (.int .i64 (n : Int))) := HRV.out.ch hS (by simp; omega)
  have d0 := hI.cell 0
  have d1 := hI.cell 1
  have d2 := hI.cell 2
  have d3 := hI.cell 3
  have d4 := hI.cell 4
  have d5 := hI.cell 5
  simp at d0 d1 d2 d3 d4 d5
  generalize (st6 V R (.int .i64 6) (.nilFunc) (.int .u8 0) (.int .u8 0) (.int .u8 0) (.int .i64 (n : Int))) = W9 at *
  refine bodyPost_ret (v := .tuple #[.agg #[.int .i64 6, .nilFunc, .int .u8 0, .int .u8 0, .int .u8 0, .int .i64 (n : Int)], .int .i64 0]) ?_ rfl ⟨⟨_, st, op, rfl, HH.out.ch hc9 hr9, NewO.refl _ _, NewO.refl _ _, TVi.no _ _ _ (by simp)⟩, hc9.mono (by simp)⟩
  · simp [results, Tryd.results59, go_sem, d0, d1, d2, d3, d4, d5]

set_option maxHeartbeats 8000000 in
set_option maxRecDepth 100000 in
theorem again_out (b : Nat) (p : ByteArray) (k : Nat) (st op : Value) (sts opn : List Nat) (w : World) (n : Nat) (hn9 : n ≤ 9) (h16 : sts.length ≤ 16) (h : RdS b p k sts opn st op w) (hn : sts.length ≤ n) :
    Calls Tryd.prog 59 #[.pointer (some ⟨b, 0, none⟩), .int .i64 (n : Int)] w fun e w' => ItSaid b p (.error 4) st op w e w' := by
  have hbl := h.rd.lt
  have hR1 : Itb w.heap.size it0 (w.alloc (.cells #[.int .i64 0, .nilFunc, .int .u8 0, .int .u8 0, .int .u8 0, .int .i64 0] 88)) := itb_new w it0 _ rfl
  have hr1 : Rd b p k st op (w.alloc (.cells #[.int .i64 0, .nilFunc, .int .u8 0, .int .u8 0, .int .u8 0, .int .i64 0] 88)) := h.rd.ch ((Ch.refl [] _).alloc _) (by simp)
  have hc1 : Ch [b] w (w.alloc (.cells #[.int .i64 0, .nilFunc, .int .u8 0, .int .u8 0, .int .u8 0, .int .i64 0] 88)) := (Ch.refl [b] w).alloc _
  have hz1 : (w.alloc (.cells #[.int .i64 0, .nilFunc, .int .u8 0, .int .u8 0, .int .u8 0, .int .i64 0] 88)).heap.size = w.heap.size + 1 := by simp
  obtain ⟨w1, hw1⟩ : ∃ w1, w.alloc (.cells #[.int .i64 0, .nilFunc, .int .u8 0, .int .u8 0, .int .u8 0, .int .i64 0] 88) = w1 := ⟨_, rfl⟩
  rw [hw1] at hR1 hr1 hc1 hz1
  obtain ⟨R, hRe⟩ : ∃ R, w.heap.size = R := ⟨_, rfl⟩
  rw [hRe] at hR1 hbl hz1
  have hbR : b ≠ R := by omega
  have hS1 := hc1.own h.s (fun g hg e => h.n1 (by simp at e; rw [← e]; exact hg))
  obtain ⟨sp, sc, hst⟩ := own_form h.s
  have m2 := hr1.c2
  have HH := Lib.hid h
  have HR1 := Lib.hid hR1
  have Hr1 := Lib.hid hr1
  have HC1 := Lib.hid hc1
  rw [hst] at hS1
  rw [hst] at m2
  skip
  have g1 : (n : Int) ≥ (sts.length : Int) := by omega
  have g2 : (sts.length : Int) ≤ (n : Int) := by omega
  have g3 : decide (sts.length ≤ n) = true := decide_eq_true hn
  have HSS := Lib.hid hS1
  clear hR1 hr1 hc1 h hS1 hst  
  go_enter Tryd.func59, Tryd.ntmps59
  go_upto_region 1 with fail
  (try simp only [hw1, hRe])
  have HRE := Lib.hid hRe
  clear hw1 hRe
  go_upto_region 2 with fail
  go_name_world V hV
  have hR : Itb R it0 V := by rw [← hV]; exact HR1.out
  have HR := Lib.hid hR
  have HCV : Hid (Ch [b] w V) := Lib.hid (by rw [← hV]; exact HC1.out)
  have HRV : Hid (Rd b p k st op V) := Lib.hid (by rw [← hV]; exact Hr1.out)
  clear hV m2 
  have r0 := hR.cell 0
  have r1 := hR.cell 1
  have r2 := hR.cell 2
  have r3 := hR.cell 3
  have r4 := hR.cell 4
  have r5 := hR.cell 5
  simp [it0] at r0 r1 r2 r3 r4 r5
  have f0 := hR.fz 0
  have f1 := hR.fz 1
  have f2 := hR.fz 2
  have f3 := hR.fz 3
  have f4 := hR.fz 4
  have f5 := hR.fz 5
  clear hR
  go_wp2
  show bodyPost _ _ _ Exit.ret _ (st6 V R (.int .i64 0) (.nilFunc) (.int .u8 0) (.int .u8 0) (.int .u8 0) (.int .i64 0))
  have hI : Itb R #[.int .i64 0, .nilFunc, .int .u8 0, .int .u8 0, .int .u8 0, .int .i64 0] (st6 V R (.int .i64 0) (.nilFunc) (.int .u8 0) (.int .u8 0) (.int .u8 0) (.int .i64 0)) := st6_it HR.out
  have hS : Ch [R] V (st6 V R (.int .i64 0) (.nilFunc) (.int .u8 0) (.int .u8 0) (.int .u8 0) (.int .i64 0)) := st6_ch
  have hc9 : Ch [b] w (st6 V R (.int .i64 0) (.nilFunc) (.int .u8 0) (.int .u8 0) (.int .u8 0) (.int .i64 0)) := Ch.new HCV.out (Nat.le_of_eq HRE.out) (hS.mono (by simp))
  have d0 := hI.cell 0
  have d1 := hI.cell 1
  have d2 := hI.cell 2
  have d3 := hI.cell 3
  have d4 := hI.cell 4
  have d5 := hI.cell 5
  simp at d0 d1 d2 d3 d4 d5
  generalize (st6 V R (.int .i64 0) (.nilFunc) (.int .u8 0) (.int .u8 0) (.int .u8 0) (.int .i64 0)) = W9 at *
  refine bodyPost_ret (v := .tuple #[.agg #[.int .i64 0, .nilFunc, .int .u8 0, .int .u8 0, .int .u8 0, .int .i64 0], .int .i64 4]) ?_ rfl ⟨rfl, hc9.mono (by simp)⟩
  · simp [results, Tryd.results59, go_sem, d0, d1, d2, d3, d4, d5]

set_option maxHeartbeats 8000000 in
set_option maxRecDepth 100000 in
theorem again_err (b : Nat) (p : ByteArray) (k : Nat) (st op : Value) (sts opn : List Nat) (w : World) (n : Nat) (hn9 : n ≤ 9) (h16 : sts.length ≤ 16) (h : RdS b p k sts opn st op w) (x : Nat) (hx : sts[n]? = some x) (hn : x ≠ 1) (hx3 : x ≤ 2) :
    Calls Tryd.prog 59 #[.pointer (some ⟨b, 0, none⟩), .int .i64 (n : Int)] w fun e w' => ItSaid b p (.error 4) st op w e w' := by
  have hbl := h.rd.lt
  have hR1 : Itb w.heap.size it0 (w.alloc (.cells #[.int .i64 0, .nilFunc, .int .u8 0, .int .u8 0, .int .u8 0, .int .i64 0] 88)) := itb_new w it0 _ rfl
  have hr1 : Rd b p k st op (w.alloc (.cells #[.int .i64 0, .nilFunc, .int .u8 0, .int .u8 0, .int .u8 0, .int .i64 0] 88)) := h.rd.ch ((Ch.refl [] _).alloc _) (by simp)
  have hc1 : Ch [b] w (w.alloc (.cells #[.int .i64 0, .nilFunc, .int .u8 0, .int .u8 0, .int .u8 0, .int .i64 0] 88)) := (Ch.refl [b] w).alloc _
  have hz1 : (w.alloc (.cells #[.int .i64 0, .nilFunc, .int .u8 0, .int .u8 0, .int .u8 0, .int .i64 0] 88)).heap.size = w.heap.size + 1 := by simp
  obtain ⟨w1, hw1⟩ : ∃ w1, w.alloc (.cells #[.int .i64 0, .nilFunc, .int .u8 0, .int .u8 0, .int .u8 0, .int .i64 0] 88) = w1 := ⟨_, rfl⟩
  rw [hw1] at hR1 hr1 hc1 hz1
  obtain ⟨R, hRe⟩ : ∃ R, w.heap.size = R := ⟨_, rfl⟩
  rw [hRe] at hR1 hbl hz1
  have hbR : b ≠ R := by omega
  have hS1 := hc1.own h.s (fun g hg e => h.n1 (by simp at e; rw [← e]; exact hg))
  obtain ⟨sp, sc, hst⟩ := own_form h.s
  have m2 := hr1.c2
  have HH := Lib.hid h
  have HR1 := Lib.hid hR1
  have Hr1 := Lib.hid hr1
  have HC1 := Lib.hid hc1
  rw [hst] at hS1
  rw [hst] at m2
  have hnl := st_lt hx
  have g1 : ¬ (n : Int) ≥ (sts.length : Int) := by omega
  have g2 : ¬ (sts.length : Int) ≤ (n : Int) := by omega
  have g3 : decide (sts.length ≤ n) = false := decide_eq_false (by omega)
  obtain ⟨g, cap, hv⟩ := Joins.ownsRow_form hS1 (by omega)
  rw [hv] at hS1 m2
  have hcl := hS1.cellAt n (by omega)
  rw [show (ints sts)[n]? = some (.int .i64 (x : Int)) by unfold ints; rw [List.getElem?_map, hx]; rfl] at hcl
  have g4 : (n : Int) < (sts.length : Int) := by omega
  have g5 : 0 ≤ (n : Int) := by omega
  have g6 : ((x : Int) != 1) = true := by rw [bne_iff_ne]; omega
  have HSS := Lib.hid hS1
  clear hR1 hr1 hc1 h hS1 hst hx hv
  go_enter Tryd.func59, Tryd.ntmps59
  go_upto_region 1 with fail
  (try simp only [hw1, hRe])
  have HRE := Lib.hid hRe
  clear hw1 hRe
  go_upto_region 2 with fail
  go_name_world V hV
  have hR : Itb R it0 V := by rw [← hV]; exact HR1.out
  have HR := Lib.hid hR
  have HCV : Hid (Ch [b] w V) := Lib.hid (by rw [← hV]; exact HC1.out)
  have HRV : Hid (Rd b p k st op V) := Lib.hid (by rw [← hV]; exact Hr1.out)
  clear hV m2 hcl
  have r0 := hR.cell 0
  have r1 := hR.cell 1
  have r2 := hR.cell 2
  have r3 := hR.cell 3
  have r4 := hR.cell 4
  have r5 := hR.cell 5
  simp [it0] at r0 r1 r2 r3 r4 r5
  have f0 := hR.fz 0
  have f1 := hR.fz 1
  have f2 := hR.fz 2
  have f3 := hR.fz 3
  have f4 := hR.fz 4
  have f5 := hR.fz 5
  clear hR
  go_wp2
  show bodyPost _ _ _ Exit.ret _ (st6 V R (.int .i64 0) (.nilFunc) (.int .u8 0) (.int .u8 0) (.int .u8 0) (.int .i64 0))
  have hI : Itb R #[.int .i64 0, .nilFunc, .int .u8 0, .int .u8 0, .int .u8 0, .int .i64 0] (st6 V R (.int .i64 0) (.nilFunc) (.int .u8 0) (.int .u8 0) (.int .u8 0) (.int .i64 0)) := st6_it HR.out
  have hS : Ch [R] V (st6 V R (.int .i64 0) (.nilFunc) (.int .u8 0) (.int .u8 0) (.int .u8 0) (.int .i64 0)) := st6_ch
  have hc9 : Ch [b] w (st6 V R (.int .i64 0) (.nilFunc) (.int .u8 0) (.int .u8 0) (.int .u8 0) (.int .i64 0)) := Ch.new HCV.out (Nat.le_of_eq HRE.out) (hS.mono (by simp))
  have d0 := hI.cell 0
  have d1 := hI.cell 1
  have d2 := hI.cell 2
  have d3 := hI.cell 3
  have d4 := hI.cell 4
  have d5 := hI.cell 5
  simp at d0 d1 d2 d3 d4 d5
  generalize (st6 V R (.int .i64 0) (.nilFunc) (.int .u8 0) (.int .u8 0) (.int .u8 0) (.int .i64 0)) = W9 at *
  refine bodyPost_ret (v := .tuple #[.agg #[.int .i64 0, .nilFunc, .int .u8 0, .int .u8 0, .int .u8 0, .int .i64 0], .int .i64 4]) ?_ rfl ⟨rfl, hc9.mono (by simp)⟩
  · simp [results, Tryd.results59, go_sem, d0, d1, d2, d3, d4, d5]
end Go.Proofs.YtkbcaklleiapdaaDoor
