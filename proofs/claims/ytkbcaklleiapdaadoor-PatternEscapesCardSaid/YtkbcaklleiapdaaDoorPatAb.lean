/- Contracts of layer 4: the match at an index. -/
import Derived.Test.YtkbcaklleiapdaaDoorPatAa
namespace Go.Proofs.YtkbcaklleiapdaaDoor
open Go.RowKit M4
set_option linter.unusedVariables false
theorem Mat.other {E : Env} {m : Caps} {left : Int} {w W : World} {R : Nat} (h : Mat E m left w) (hc : Ch [R] w W) (h1 : E.b < R) (h2 : E.cb < R) (h3 : E.mv < R) : Mat E m left W := by
  have nb := h.nb
  refine ⟨?_, ?_, ?_, hc.own h.own (fun g hg e => by have := h.ivN g hg; simp at e; omega), h.ivN, h.len, fun j it v e1 e2 e3 => ?_, nb, h.nc, h.bc, h.mb, h.mc, h.ml⟩
  · rw [hc.block E.b (Array.getElem?_eq_some_iff.1 h.blk).1 (by simp; omega)]; exact h.blk
  · rw [hc.block E.cb (Array.getElem?_eq_some_iff.1 h.cbk).1 (by simp; omega)]; exact h.cbk
  · rw [hc.block E.mv (Array.getElem?_eq_some_iff.1 h.mvk).1 (by simp; omega)]; exact h.mvk
  · obtain ⟨lo, hi, e4, e5⟩ := h.tv j it v e1 e2 e3
    obtain ⟨hhi, _⟩ := e5.ex
    exact ⟨lo, hi, e4, e5.kept (hc.kp hhi (by intro g hg; simp at hg; right; omega))⟩
theorem Mat.lb {E : Env} {m : Caps} {left : Int} {w : World} (h : Mat E m left w) : E.b < w.heap.size ∧ E.cb < w.heap.size ∧ E.mv < w.heap.size :=
  ⟨(Array.getElem?_eq_some_iff.1 h.blk).1, (Array.getElem?_eq_some_iff.1 h.cbk).1, (Array.getElem?_eq_some_iff.1 h.mvk).1⟩
theorem agr_zero (n : Nat) (m : Caps) (h : m.length = n) : Agr (List.replicate n 0) m (zc n) := by
  refine ⟨by simp [h], by simp [zc], fun k v h1 h2 => ?_, fun k v h1 h2 => ?_⟩ <;>
  · have := List.eq_of_mem_replicate (List.mem_of_getElem? h1); omega

set_option maxHeartbeats 4000000 in
theorem at_no (E : Env) (i : Nat) (m : Caps) (left : Int) (w : World) (P : Int → Prop) (h : Mat E m left w)
    (hr : ∀ w1, Mat E m left w1 → Calls Tryd.prog 53 #[.pointer (some ⟨E.b, 0, none⟩), .int .i64 0, .int .i64 (i : Int)] w1 fun e w' => (∃ x : Int, e = .returned (.tuple #[.int .i64 x, .bool false])) ∧ (∃ m' l', Mat E m' l' w' ∧ P l') ∧ Ch [E.b, E.cb] w1 w') :
    Calls Tryd.prog 41 #[.pointer (some ⟨E.b, 0, none⟩), .int .i64 (i : Int)] w fun e w' => e = .returned (.tuple #[.agg mt0, .bool false]) ∧ (∃ m' l', Mat E m' l' w' ∧ P l') ∧ Ch [E.b, E.cb] w w' := by
  have hlb := h.lb
  have hR1 : Mtb w.heap.size mt0 (w.alloc (.cells #[.int .i64 0, .int .i64 0, .slice none 0 0] 29)) := mtb_new w mt0 _ rfl
  have hm1 : Mat E m left (w.alloc (.cells #[.int .i64 0, .int .i64 0, .slice none 0 0] 29)) := h.same ((Ch.refl [] w).alloc _)
  have hc1 : Ch [E.b, E.cb] w (w.alloc (.cells #[.int .i64 0, .int .i64 0, .slice none 0 0] 29)) := (Ch.refl _ w).alloc _
  have hz1 : (w.alloc (.cells #[.int .i64 0, .int .i64 0, .slice none 0 0] 29)).heap.size = w.heap.size + 1 := by simp
  obtain ⟨w1, hw1⟩ : ∃ w1, (w.alloc (.cells #[.int .i64 0, .int .i64 0, .slice none 0 0] 29)) = w1 := ⟨_, rfl⟩
  rw [hw1] at hR1 hm1 hc1 hz1
  obtain ⟨R, hRe⟩ : ∃ R, w.heap.size = R := ⟨_, rfl⟩
  rw [hRe] at hR1 hz1 hlb
  have HR1 := Lib.hid hR1
  have HM1 := Lib.hid hm1
  have HC1 := Lib.hid hc1
  have HX := Lib.hid (hr w1 hm1)
  clear hr
  go_enter Tryd.func41, Tryd.ntmps41
  go_upto_region 1 with fail
  (try simp only [hw1, hRe])
  have HRE := Lib.hid hRe
  clear hw1 hRe hR1 hm1 hc1 h
  go_wp2_with (go_at_call 53; (with_reducible refine HX.out.mono ?_); rintro e w2 ⟨⟨x, rfl⟩, hm2, hc2⟩; have HM2 := Lib.hid hm2; have HC2 := Lib.hid hc2; have hR2 := HR1.out.ch hc2 (by simp; omega); clear hm2 hc2; have r0 := hR2.cell 0; have r1 := hR2.cell 1; have r2 := hR2.cell 2; simp [mt0] at r0 r1 r2; have f0 := hR2.fz 0; have f1 := hR2.fz 1; have f2 := hR2.fz 2; have HR2 := Lib.hid hR2; clear hR2)
  show bodyPost _ _ _ Exit.ret _ (st3 w2 R (.int .i64 0) (.int .i64 0) (.slice none 0 0))
  have hI : Mtb R #[.int .i64 0, .int .i64 0, .slice none 0 0] (st3 w2 R (.int .i64 0) (.int .i64 0) (.slice none 0 0)) := st3_mt HR2.out
  have hS : Ch [R] w2 (st3 w2 R (.int .i64 0) (.int .i64 0) (.slice none 0 0)) := st3_ch
  have hm9 : ∃ m' l', Mat E m' l' (st3 w2 R (.int .i64 0) (.int .i64 0) (.slice none 0 0)) ∧ P l' := by
    obtain ⟨m', l', g1, g2⟩ := HM2.out
    exact ⟨m', l', g1.other hS hlb.1 hlb.2.1 hlb.2.2, g2⟩
  have hc9 : Ch [E.b, E.cb] w (st3 w2 R (.int .i64 0) (.int .i64 0) (.slice none 0 0)) := Ch.new (HC1.out.trans HC2.out) (Nat.le_of_eq HRE.out) (hS.mono (by simp))
  have d0 := hI.cell 0
  have d1 := hI.cell 1
  have d2 := hI.cell 2
  simp at d0 d1 d2
  generalize (st3 w2 R (.int .i64 0) (.int .i64 0) (.slice none 0 0)) = W9 at *
  refine bodyPost_ret (v := .tuple #[.agg #[.int .i64 0, .int .i64 0, .slice none 0 0], .bool false]) ?_ rfl ⟨rfl, hm9, hc9⟩
  · simp [results, Tryd.results41, go_sem, d0, d1, d2]

set_option maxHeartbeats 4000000 in
theorem at_yes (E : Env) (i : Nat) (m : Caps) (left l' : Int) (w : World) (u : Nat × Caps) (h16 : E.g.caps ≤ 16) (h : Mat E m left w)
    (hr : ∀ w1, Mat E m left w1 → Calls Tryd.prog 53 #[.pointer (some ⟨E.b, 0, none⟩), .int .i64 0, .int .i64 (i : Int)] w1 fun e w' => e = .returned (.tuple #[.int .i64 (u.1 : Int), .bool true]) ∧ Mat E u.2 l' w' ∧ Ch [E.b, E.cb] w1 w') :
    Calls Tryd.prog 41 #[.pointer (some ⟨E.b, 0, none⟩), .int .i64 (i : Int)] w fun e w' => (∃ p c, e = .returned (.tuple #[.agg #[.int .i64 (i : Int), .int .i64 (u.1 : Int), .slice p E.g.caps c], .bool true]) ∧ w'.ownsRow 0 43 2 (.slice p E.g.caps c) E.g.caps (capC u.2) ∧ (∀ g ∈ ob (.slice p E.g.caps c), w.heap.size ≤ g)) ∧ Mat E u.2 l' w' ∧ Ch [E.b, E.cb] w w' := by
  have hlb := h.lb
  have hR1 : Mtb w.heap.size mt0 (w.alloc (.cells #[.int .i64 0, .int .i64 0, .slice none 0 0] 29)) := mtb_new w mt0 _ rfl
  have hm1 : Mat E m left (w.alloc (.cells #[.int .i64 0, .int .i64 0, .slice none 0 0] 29)) := h.same ((Ch.refl [] w).alloc _)
  have hc1 : Ch [E.b, E.cb] w (w.alloc (.cells #[.int .i64 0, .int .i64 0, .slice none 0 0] 29)) := (Ch.refl _ w).alloc _
  have hz1 : (w.alloc (.cells #[.int .i64 0, .int .i64 0, .slice none 0 0] 29)).heap.size = w.heap.size + 1 := by simp
  obtain ⟨w1, hw1⟩ : ∃ w1, (w.alloc (.cells #[.int .i64 0, .int .i64 0, .slice none 0 0] 29)) = w1 := ⟨_, rfl⟩
  rw [hw1] at hR1 hm1 hc1 hz1
  obtain ⟨R, hRe⟩ : ∃ R, w.heap.size = R := ⟨_, rfl⟩
  rw [hRe] at hR1 hz1 hlb
  have HR1 := Lib.hid hR1
  have HM1 := Lib.hid hm1
  have HC1 := Lib.hid hc1
  have HX := Lib.hid (hr w1 hm1)
  clear hr
  go_enter Tryd.func41, Tryd.ntmps41
  go_upto_region 1 with fail
  (try simp only [hw1, hRe])
  have HRE := Lib.hid hRe
  clear hw1 hRe hR1 hm1 hc1 h
  go_wp2_with (first | (go_at_call 53; (with_reducible refine HX.out.mono ?_); rintro e w2 ⟨rfl, hm2, hc2⟩; have q5 := hm2.c 5; simp at q5; have HM2 := Lib.hid hm2; have HC2 := Lib.hid hc2; have HK := Lib.hid (clone_any u.2 E.cb E.g.caps w2 hm2.ml h16 hm2.cbk); have hR2 := HR1.out.ch hc2 (by simp; omega); have HRa := Lib.hid hR2; clear hm2 hc2 hR2) | (go_at_call 54; (with_reducible refine HK.out.mono ?_); rintro e w3 ⟨⟨v, rfl, ho, hn⟩, hb⟩; obtain ⟨p1, c1, hv⟩ := own_form ho; subst hv; have HO := Lib.hid ho; have HN := Lib.hid hn; have HB := Lib.hid hb; have hR2 := HRa.out.ch (Ch.of_below (S := []) hb) (by simp); clear ho hn hb; have r0 := hR2.cell 0; have r1 := hR2.cell 1; have r2 := hR2.cell 2; simp [mt0] at r0 r1 r2; have f0 := hR2.fz 0; have f1 := hR2.fz 1; have f2 := hR2.fz 2; have HR2 := Lib.hid hR2; clear hR2))
  have hz2 := HC2.out.size
  have hz3 := HB.out.size
  show bodyPost _ _ _ Exit.ret _ (st3 w3 R (.int .i64 (i : Int)) (.int .i64 (u.1 : Int)) (.slice p1 E.g.caps c1))
  have hI : Mtb R #[.int .i64 (i : Int), .int .i64 (u.1 : Int), .slice p1 E.g.caps c1] (st3 w3 R (.int .i64 (i : Int)) (.int .i64 (u.1 : Int)) (.slice p1 E.g.caps c1)) := st3_mt HR2.out
  have hS : Ch [R] w3 (st3 w3 R (.int .i64 (i : Int)) (.int .i64 (u.1 : Int)) (.slice p1 E.g.caps c1)) := st3_ch
  have hm9 : Mat E u.2 l' (st3 w3 R (.int .i64 (i : Int)) (.int .i64 (u.1 : Int)) (.slice p1 E.g.caps c1)) := (HM2.out.same (Ch.of_below HB.out)).other hS hlb.1 hlb.2.1 hlb.2.2
  have hc9 : Ch [E.b, E.cb] w (st3 w3 R (.int .i64 (i : Int)) (.int .i64 (u.1 : Int)) (.slice p1 E.g.caps c1)) := Ch.new (HC1.out.trans HC2.out |>.trans (Ch.of_below HB.out)) (Nat.le_of_eq HRE.out) (hS.mono (by simp))
  have ho9 := hS.own HO.out (fun g hg => by have := HN.out g hg; simp; omega)
  have hn9 : ∀ g ∈ ob (Value.slice p1 E.g.caps c1), w.heap.size ≤ g := fun g hg => by have := HN.out g hg; have := HRE.out; omega
  have d0 := hI.cell 0
  have d1 := hI.cell 1
  have d2 := hI.cell 2
  simp at d0 d1 d2
  generalize (st3 w3 R (.int .i64 (i : Int)) (.int .i64 (u.1 : Int)) (.slice p1 E.g.caps c1)) = W9 at *
  refine bodyPost_ret (v := .tuple #[.agg #[.int .i64 (i : Int), .int .i64 (u.1 : Int), .slice p1 E.g.caps c1], .bool true]) ?_ rfl ⟨⟨p1, c1, rfl, ho9, hn9⟩, hm9, hc9⟩
  · simp [results, Tryd.results41, go_sem, d0, d1, d2]

theorem rest_at (E : Env) (G : Good E) (i : Nat) (m : Caps) (left : Int) (w : World) (hi : i ≤ E.s.size) (hl0 : 0 ≤ left) (hl1 : left ≤ 1000000) (h : Mat E m left w) :
    Calls Tryd.prog 53 #[.pointer (some ⟨E.b, 0, none⟩), .int .i64 0, .int .i64 (i : Int)] w fun e w' => RSaid E (atM E.s.data.toList E.g i) E.g.its (List.replicate E.g.caps 0) (zc E.g.caps) E.g.its.length left e w' ∧ Ch [E.b, E.cb] w w' := by
  have R0 := rest_any E G.hs G.hg G.ok.2.1 G.on E.g.its.length 0 (by omega) (Nat.zero_le _) 0 (i : Int) i m (zc E.g.caps) (List.replicate E.g.caps 0) i left w rfl rfl hi (agr_zero _ _ h.ml) (Cok.zero _ _) (by rw [List.drop_zero]; exact G.ok.1) (by omega) hl1 h
  simp only [List.drop_zero] at R0
  exact R0
theorem at_some (E : Env) (G : Good E) (i : Nat) (m : Caps) (left : Int) (w : World) (hi : i ≤ E.s.size) (hl0 : 0 ≤ left) (hl1 : left ≤ 1000000) (h : Mat E m left w) (u : Nat × Caps) (n : Nat) (hr : atM E.s.data.toList E.g i = (some u, n)) (hn : (n : Int) ≤ left) :
    Calls Tryd.prog 41 #[.pointer (some ⟨E.b, 0, none⟩), .int .i64 (i : Int)] w fun e w' => (∃ p c, e = .returned (.tuple #[.agg #[.int .i64 (i : Int), .int .i64 (u.1 : Int), .slice p E.g.caps c], .bool true]) ∧ w'.ownsRow 0 43 2 (.slice p E.g.caps c) E.g.caps (capC u.2) ∧ (∀ g ∈ ob (.slice p E.g.caps c), w.heap.size ≤ g)) ∧ Mat E u.2 (left - n) w' ∧ Ch [E.b, E.cb] w w' := by
  refine at_yes E i m left (left - n) w u G.ok.2.2 h (fun w1 h1 => (rest_at E G i m left w1 hi hl0 hl1 h1).mono ?_)
  rintro e w' ⟨g1, g2⟩
  unfold RSaid at g1
  rw [hr] at g1
  simp only [] at g1
  rw [if_pos hn] at g1
  obtain ⟨g3, m', st', g4, g5, g6⟩ := g1
  obtain ⟨q, h1, h2, h3, h4, h5⟩ := Mu_ok E.s.data.toList E.g.fin E.g.its i i (zc E.g.caps) _ u.1 u.2 G.ok.2.1 (show (atM E.s.data.toList E.g i).1 = some (u.1, u.2) by rw [hr]) (Cok.zero _ _) hi G.ok.1
  rw [h1] at g5
  cases g5
  rw [agr_full g6 h2] at g4
  exact ⟨g3, g4, g2⟩
theorem at_none (E : Env) (G : Good E) (i : Nat) (m : Caps) (left : Int) (w : World) (hi : i ≤ E.s.size) (hl0 : 0 ≤ left) (hl1 : left ≤ 1000000) (h : Mat E m left w) (n : Nat) (hr : atM E.s.data.toList E.g i = (none, n)) (hn : (n : Int) ≤ left) :
    Calls Tryd.prog 41 #[.pointer (some ⟨E.b, 0, none⟩), .int .i64 (i : Int)] w fun e w' => e = .returned (.tuple #[.agg mt0, .bool false]) ∧ (∃ m' l', Mat E m' l' w' ∧ l' = left - n) ∧ Ch [E.b, E.cb] w w' := by
  refine at_no E i m left w (fun l' => l' = left - n) h (fun w1 h1 => (rest_at E G i m left w1 hi hl0 hl1 h1).mono ?_)
  rintro e w' ⟨g1, g2⟩
  unfold RSaid at g1
  rw [hr] at g1
  simp only [] at g1
  rw [if_pos hn] at g1
  obtain ⟨g3, m', g4, _⟩ := g1
  exact ⟨g3, ⟨m', _, g4, rfl⟩, g2⟩
theorem at_out (E : Env) (G : Good E) (i : Nat) (m : Caps) (left : Int) (w : World) (hi : i ≤ E.s.size) (hl0 : 0 ≤ left) (hl1 : left ≤ 1000000) (h : Mat E m left w) (hn : ¬ ((atM E.s.data.toList E.g i).2 : Int) ≤ left) :
    Calls Tryd.prog 41 #[.pointer (some ⟨E.b, 0, none⟩), .int .i64 (i : Int)] w fun e w' => e = .returned (.tuple #[.agg mt0, .bool false]) ∧ (∃ m' l', Mat E m' l' w' ∧ (-2000000 ≤ l' ∧ l' < 0)) ∧ Ch [E.b, E.cb] w w' := by
  refine at_no E i m left w (fun l' => -2000000 ≤ l' ∧ l' < 0) h (fun w1 h1 => (rest_at E G i m left w1 hi hl0 hl1 h1).mono ?_)
  rintro e w' ⟨g1, g2⟩
  unfold RSaid at g1
  rw [if_neg hn] at g1
  obtain ⟨g3, m', l', g4, g5, g6, _⟩ := g1
  have := G.hg
  have := g6 hl0
  exact ⟨g3, ⟨m', l', g4, by omega, g5⟩, g2⟩
end Go.Proofs.YtkbcaklleiapdaaDoor
