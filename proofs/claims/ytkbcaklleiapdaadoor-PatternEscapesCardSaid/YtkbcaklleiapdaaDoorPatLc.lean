/- Contracts of layer 4: ). -/
import Derived.Test.YtkbcaklleiapdaaDoorPatLb
namespace Go.Proofs.YtkbcaklleiapdaaDoor
open Go.RowKit M4
set_option linter.unusedVariables false
theorem ints_set (l : List Nat) (n x : Nat) : (ints l).set n (.int .i64 (x : Int)) = ints (l.set n x) := by unfold ints; rw [List.map_set]
theorem own_cap {w : World} {e : TypeId} {size n c : Nat} {p : Option Addr} {xs : List Value} (ho : w.ownsRow 0 e size (.slice p n c) n xs) : n ≤ c := by
  rcases ho.2 with ⟨h, h0⟩ | ⟨g, cap, cur, h, _, _, hn, _⟩
  · omega
  · cases h; exact hn

set_option maxHeartbeats 8000000 in
set_option maxRecDepth 100000 in
theorem closing_err (b : Nat) (p : ByteArray) (k : Nat) (st op : Value) (sts : List Nat) (w : World) (h : RdS b p k sts [] st op w) :
    Calls Tryd.prog 56 #[.pointer (some ⟨b, 0, none⟩)] w fun e w' => ItSaid b p (.error 4) st op w e w' := by
  have hbl := h.rd.lt
  have hR1 : Itb w.heap.size it0 (w.alloc (.cells #[.int .i64 0, .nilFunc, .int .u8 0, .int .u8 0, .int .u8 0, .int .i64 0] 88)) := itb_new w it0 _ rfl
  have hr1 : Rd b p k st op (w.alloc (.cells #[.int .i64 0, .nilFunc, .int .u8 0, .int .u8 0, .int .u8 0, .int .i64 0] 88)) := h.rd.ch ((Ch.refl [] _).alloc _) (by simp)
  have hc1 : Ch [b] w (w.alloc (.cells #[.int .i64 0, .nilFunc, .int .u8 0, .int .u8 0, .int .u8 0, .int .i64 0] 88)) := (Ch.refl [b] w).alloc _
  have hz1 : (w.alloc (.cells #[.int .i64 0, .nilFunc, .int .u8 0, .int .u8 0, .int .u8 0, .int .i64 0] 88)).heap.size = w.heap.size + 1 := by simp
  obtain ⟨w1, hw1⟩ : ∃ w1, w.alloc (.cells #[.int .i64 0, .nilFunc, .int .u8 0, .int .u8 0, .int .u8 0, .int .i64 0] 88) = w1 := ⟨_, rfl⟩
  rw [hw1] at hR1 hr1 hc1 hz1
  obtain ⟨R, hRe⟩ : ∃ R, w.heap.size = R := ⟨_, rfl⟩
  rw [hRe] at hR1 hbl hz1
  have hbR : b ≠ R := by omega
  obtain ⟨np, nc, hop⟩ := own_form h.o
  have m3 := hr1.c3
  have HR1 := Lib.hid hR1
  have HC1 := Lib.hid hc1
  rw [hop] at m3
  have hw1 := hw1
  clear hr1 hc1 h hop
  go_enter Tryd.func56, Tryd.ntmps56
  go_upto_region 1 with fail
  (try simp only [hw1, hRe])
  have HRE := Lib.hid hRe
  clear hw1 hRe
  have r0 := hR1.cell 0
  have r1 := hR1.cell 1
  have r2 := hR1.cell 2
  have r3 := hR1.cell 3
  have r4 := hR1.cell 4
  have r5 := hR1.cell 5
  simp [it0] at r0 r1 r2 r3 r4 r5
  have f0 := hR1.fz 0
  have f1 := hR1.fz 1
  have f2 := hR1.fz 2
  have f3 := hR1.fz 3
  have f4 := hR1.fz 4
  have f5 := hR1.fz 5
  clear hR1
  go_wp2
  show bodyPost _ _ _ Exit.ret _ (st6 w1 R (.int .i64 0) (.nilFunc) (.int .u8 0) (.int .u8 0) (.int .u8 0) (.int .i64 0))
  have hI : Itb R #[.int .i64 0, .nilFunc, .int .u8 0, .int .u8 0, .int .u8 0, .int .i64 0] (st6 w1 R (.int .i64 0) (.nilFunc) (.int .u8 0) (.int .u8 0) (.int .u8 0) (.int .i64 0)) := st6_it HR1.out
  have hS : Ch [R] w1 (st6 w1 R (.int .i64 0) (.nilFunc) (.int .u8 0) (.int .u8 0) (.int .u8 0) (.int .i64 0)) := st6_ch
  have hc9 : Ch (b :: (ob st ++ ob op)) w (st6 w1 R (.int .i64 0) (.nilFunc) (.int .u8 0) (.int .u8 0) (.int .u8 0) (.int .i64 0)) := Ch.new (HC1.out.mono (by simp)) (Nat.le_of_eq HRE.out) (hS.mono (by simp))
  have d0 := hI.cell 0
  have d1 := hI.cell 1
  have d2 := hI.cell 2
  have d3 := hI.cell 3
  have d4 := hI.cell 4
  have d5 := hI.cell 5
  simp at d0 d1 d2 d3 d4 d5
  generalize (st6 w1 R (.int .i64 0) (.nilFunc) (.int .u8 0) (.int .u8 0) (.int .u8 0) (.int .i64 0)) = W9 at *
  refine bodyPost_ret (v := .tuple #[.agg #[.int .i64 0, .nilFunc, .int .u8 0, .int .u8 0, .int .u8 0, .int .i64 0], .int .i64 4]) ?_ rfl ⟨rfl, hc9⟩
  · simp [results, Tryd.results56, go_sem, d0, d1, d2, d3, d4, d5]

set_option maxHeartbeats 8000000 in
set_option maxRecDepth 100000 in
theorem closing_ok (b : Nat) (p : ByteArray) (k : Nat) (st op : Value) (sts ys : List Nat) (n : Nat) (w : World) (hn : n < sts.length) (h16 : sts.length ≤ 16) (hy : ys.length ≤ 16) (h : RdS b p k sts (ys ++ [n]) st op w) :
    Calls Tryd.prog 56 #[.pointer (some ⟨b, 0, none⟩)] w fun e w' => ItSaid b p (.ok (⟨2, noP, 0, 0, 0, n⟩, k, sts.set n 1, ys)) st op w e w' := by
  have hbl := h.rd.lt
  have hR1 : Itb w.heap.size it0 (w.alloc (.cells #[.int .i64 0, .nilFunc, .int .u8 0, .int .u8 0, .int .u8 0, .int .i64 0] 88)) := itb_new w it0 _ rfl
  have hr1 : Rd b p k st op (w.alloc (.cells #[.int .i64 0, .nilFunc, .int .u8 0, .int .u8 0, .int .u8 0, .int .i64 0] 88)) := h.rd.ch ((Ch.refl [] _).alloc _) (by simp)
  have hc1 : Ch [b] w (w.alloc (.cells #[.int .i64 0, .nilFunc, .int .u8 0, .int .u8 0, .int .u8 0, .int .i64 0] 88)) := (Ch.refl [b] w).alloc _
  have hz1 : (w.alloc (.cells #[.int .i64 0, .nilFunc, .int .u8 0, .int .u8 0, .int .u8 0, .int .i64 0] 88)).heap.size = w.heap.size + 1 := by simp
  obtain ⟨w1, hw1⟩ : ∃ w1, w.alloc (.cells #[.int .i64 0, .nilFunc, .int .u8 0, .int .u8 0, .int .u8 0, .int .i64 0] 88) = w1 := ⟨_, rfl⟩
  rw [hw1] at hR1 hr1 hc1 hz1
  obtain ⟨R, hRe⟩ : ∃ R, w.heap.size = R := ⟨_, rfl⟩
  rw [hRe] at hR1 hbl hz1
  have hbR : b ≠ R := by omega
  have hoL := hc1.own h.o (fun g hg e => h.n2 (by simp at e; rw [← e]; exact hg))
  have hsL := hc1.own h.s (fun g hg e => h.n1 (by simp at e; rw [← e]; exact hg))
  have e0 : (ys ++ [n]).length = ys.length + 1 := by simp
  rw [e0, ints_snoc] at hoL
  obtain ⟨g, oc, hop⟩ := Joins.ownsRow_form hoL (by omega)
  obtain ⟨gs, sc, hst⟩ := Joins.ownsRow_form hsL (by omega)
  have m2 := hr1.c2
  have m3 := hr1.c3
  have mf := hr1.fz 3
  have HH := Lib.hid h
  have HR1 := Lib.hid hR1
  have Hr1 := Lib.hid hr1
  have HC1 := Lib.hid hc1
  have HST := Lib.hid hst
  have HOP := Lib.hid hop
  rw [hst] at m2
  rw [hop] at m3
  have hoS := hoL
  have hsS := hsL
  rw [hop] at hoS
  rw [hst] at hsS
  have hcap := own_cap hoS
  have hcl := hoS.cellAt ys.length (by omega)
  rw [List.getElem?_append_right (by simp [ints])] at hcl
  have hcl2 : w1.cell? ⟨g, ys.length, none⟩ = some (.int .i64 (n : Int)) := by rw [hcl]; simp [ints]
  have hgo : g ∈ ob op := mem_ob.2 (by rw [hop]; rfl)
  have hgs : gs ∈ ob st := mem_ob.2 (by rw [hst]; rfl)
  have hgb : b ≠ g := fun e => h.n2 (by rw [e]; exact hgo)
  have hsb : b ≠ gs := fun e => h.n1 (by rw [e]; exact hgs)
  have hsg : gs ≠ g := fun e => h.so gs hgs (by rw [e]; exact hgo)
  have hgR : g < R := by have := own_lt h.o hgo; omega
  have hsR : gs < R := by have := own_lt h.s hgs; omega
  have hsc := hsS.cellAt n (by omega)
  have hsc2 : w1.cell? ⟨gs, n, none⟩ = some (.int .i64 ((sts[n] : Nat) : Int)) := by rw [hsc]; unfold ints; rw [List.getElem?_map, List.getElem?_eq_getElem hn]; rfl
  have hsf := hsS.frozenAt n
  have g1 : ¬ (((ys.length + 1 : Nat) : Int) - 1 < 0) := by omega
  have g2 : IntKind.i64.wrap (((ys.length + 1 : Nat) : Int) - 1) = (ys.length : Int) := by rw [i64w _ (by omega)]; omega
  have g3 : ((ys.length + 1 : Nat) : Int) - 1 = (ys.length : Int) := by omega
  have g4 : (ys.length : Int) < ((ys.length + 1 : Nat) : Int) := by omega
  have g5 : 0 ≤ (ys.length : Int) := by omega
  have g6 : (ys.length : Int) ≤ (oc : Int) := by omega
  have g7 : (n : Int) < (sts.length : Int) := by omega
  have g8 : 0 ≤ (n : Int) := by omega
  have HPOP := Lib.hid (ownsRow_pop (xs := ints ys) (last := [.int .i64 (n : Int)]) (by simp [ints]) hoS)
  have HSS := Lib.hid hsS
  clear hR1 hr1 hc1 h hst hop hoL hsL hcl hsc hoS hsS e0
  go_enter Tryd.func56, Tryd.ntmps56
  go_upto_region 1 with fail
  (try simp only [hw1, hRe])
  have HRE := Lib.hid hRe
  clear hw1 hRe
  go_upto_region 7 with fail
  go_name_world V hV
  obtain ⟨A, hA⟩ : ∃ A, w1.setCell ⟨b, 3, none⟩ (.slice (some ⟨g, 0, none⟩) ys.length oc) = A := ⟨_, rfl⟩
  rw [hA] at hV
  have hcA : Ch [b] w1 A := by rw [← hA]; exact (Ch.refl [b] w1).set b 3 _ (Or.inl (by simp))
  have hcV : Ch [gs] A V := by rw [← hV]; exact (Ch.refl [gs] A).set gs n _ (Or.inl (by simp))
  have hrA : Rd b p k st (.slice (some ⟨g, 0, none⟩) ys.length oc) A := by rw [← hA]; exact Hr1.out.set3 _
  have HRDV : Hid (Rd b p k st (.slice (some ⟨g, 0, none⟩) ys.length oc) V) := Lib.hid (hrA.ch hcV (by simp; exact hsb))
  have hobg : ∀ x, x ∈ ob (Value.slice (some ⟨g, 0, none⟩) ys.length oc) → x = g := fun x hx => by rw [mem_ob] at hx; cases hx; rfl
  have hobs : ∀ x, x ∈ ob (Value.slice (some ⟨gs, 0, none⟩) sts.length sc) → x = gs := fun x hx => by rw [mem_ob] at hx; cases hx; rfl
  have HOV : Hid (V.ownsRow 0 3 1 (.slice (some ⟨g, 0, none⟩) ys.length oc) ys.length (ints ys)) := Lib.hid (hcV.own (hcA.own HPOP.out (fun x hx e => by simp at e; exact hgb (by rw [← e, hobg x hx]))) (fun x hx e => by simp at e; exact hsg (by rw [← e, hobg x hx])))
  have hsA : A.ownsRow 0 3 1 (.slice (some ⟨gs, 0, none⟩) sts.length sc) sts.length (ints sts) := hcA.own HSS.out (fun x hx e => by simp at e; exact hsb (by rw [← e, hobs x hx]))
  have HSV : Hid (V.ownsRow 0 3 1 st (sts.set n 1).length (ints (sts.set n 1))) := Lib.hid (by
    rw [HST.out, ← ints_set, List.length_set, ← hV]; exact (hsA.stored n (.int .i64 1)).1)
  have HN2 : Hid (b ∉ ob (.slice (some ⟨g, 0, none⟩) ys.length oc)) := Lib.hid (fun e => hgb (hobg b e))
  have HSO : Hid (∀ x ∈ ob st, x ∉ ob (.slice (some ⟨g, 0, none⟩) ys.length oc)) := Lib.hid (fun x hx e => hsg (by rw [HST.out] at hx; rw [← hobs x hx, hobg x e]))
  have HNO : Hid (NewO w op (.slice (some ⟨g, 0, none⟩) ys.length oc)) := Lib.hid (fun x hx => Or.inl (by rw [hobg x hx]; exact hgo))
  have HCV : Hid (Ch (b :: (ob st ++ ob op)) w V) := Lib.hid (((HC1.out.mono (by simp)).trans (hcA.mono (by simp))).trans (hcV.mono (by intro x hx; simp at hx; subst hx; simp [hgs])))
  have HSL : Hid (∀ x ∈ ob st, x ≠ R) := Lib.hid (fun x hx e => by rw [HST.out] at hx; have := hobs x hx; omega)
  have HGL : Hid (∀ x ∈ ob (.slice (some ⟨g, 0, none⟩) ys.length oc), x ≠ R) := Lib.hid (fun x hx e => by have := hobg x hx; omega)
  have hR := (HR1.out.ch hcA (by simp; omega)).ch hcV (by simp; omega)
  have HRV := Lib.hid hR
  clear hV hA hcA hcV hrA hobg hobs hsA m2 m3 mf hcl2 hsc2 hsf
  have r0 := hR.cell 0
  have r1 := hR.cell 1
  have r2 := hR.cell 2
  have r3 := hR.cell 3
  have r4 := hR.cell 4
  have r5 := hR.cell 5
  simp [it0] at r0 r1 r2 r3 r4 r5
  have f0 := hR.fz 0
  have f1 := hR.fz 1
  have f2 := hR.fz 2
  have f3 := hR.fz 3
  have f4 := hR.fz 4
  have f5 := hR.fz 5
  clear hR
  go_wp2
  show bodyPost _ _ _ Exit.ret _ (st6 V R (.int .i64 2) (.nilFunc) (.int .u8 0) (.int .u8 0) (.int .u8 0) (.int .i64 (n : Int)))
  have hI : Itb R #[.int .i64 2, .nilFunc, .int .u8 0, .int .u8 0, .int .u8 0, .int .i64 (n : Int)] (st6 V R (.int .i64 2) (.nilFunc) (.int .u8 0) (.int .u8 0) (.int .u8 0) (.int .i64 (n : Int))) := st6_it HRV.out
  have hS : Ch [R] V (st6 V R (.int .i64 2) (.nilFunc) (.int .u8 0) (.int .u8 0) (.int .u8 0) (.int .i64 (n : Int))) := st6_ch
  have hc9 : Ch (b :: (ob st ++ ob op)) w (st6 V R (.int .i64 2) (.nilFunc) (.int .u8 0) (.int .u8 0) (.int .u8 0) (.int .i64 (n : Int))) := Ch.new HCV.out (Nat.le_of_eq HRE.out) (hS.mono (by simp))
  have hs9 : ((st6 V R (.int .i64 2) (.nilFunc) (.int .u8 0) (.int .u8 0) (.int .u8 0) (.int .i64 (n : Int)))).ownsRow 0 3 1 st (sts.set n 1).length (ints (sts.set n 1)) := hS.own HSV.out (by intro x hx; have := HSL.out x hx; simp; omega)
  have ho9 : ((st6 V R (.int .i64 2) (.nilFunc) (.int .u8 0) (.int .u8 0) (.int .u8 0) (.int .i64 (n : Int)))).ownsRow 0 3 1 (.slice (some ⟨g, 0, none⟩) ys.length oc) ys.length (ints ys) := hS.own HOV.out (by intro x hx; have := HGL.out x hx; simp; omega)
  have hr9 : Rd b p k st (.slice (some ⟨g, 0, none⟩) ys.length oc) (st6 V R (.int .i64 2) (.nilFunc) (.int .u8 0) (.int .u8 0) (.int .u8 0) (.int .i64 (n : Int))) := HRDV.out.ch hS (by simp; omega)
  have d0 := hI.cell 0
  have d1 := hI.cell 1
  have d2 := hI.cell 2
  have d3 := hI.cell 3
  have d4 := hI.cell 4
  have d5 := hI.cell 5
  simp at d0 d1 d2 d3 d4 d5
  generalize (st6 V R (.int .i64 2) (.nilFunc) (.int .u8 0) (.int .u8 0) (.int .u8 0) (.int .i64 (n : Int))) = W9 at *
  refine bodyPost_ret (v := .tuple #[.agg #[.int .i64 2, .nilFunc, .int .u8 0, .int .u8 0, .int .u8 0, .int .i64 (n : Int)], .int .i64 0]) ?_ rfl ⟨⟨_, st, _, rfl, ⟨hr9, hs9, ho9, HH.out.n1, HN2.out, HSO.out⟩, NewO.refl _ _, HNO.out, TVi.no _ _ _ (by simp)⟩, hc9⟩
  · simp [results, Tryd.results56, go_sem, d0, d1, d2, d3, d4, d5]
end Go.Proofs.YtkbcaklleiapdaaDoor
