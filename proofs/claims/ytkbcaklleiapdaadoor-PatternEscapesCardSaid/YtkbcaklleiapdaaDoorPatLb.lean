/- Contracts of layer 4: ( and ). -/
import Derived.Test.YtkbcaklleiapdaaDoorPatL
import Derived.OwnWalk
import Derived.Maps.AppendAt
namespace Go.Proofs.YtkbcaklleiapdaaDoor
open Go.RowKit M4
set_option linter.unusedVariables false
theorem info_int : (Tryd.prog.info? 3).map (fun i => (i.zero, i.size, i.bytes)) = some (some (.int .i64 0), 1, 8) := by kernel_rfl
theorem ints_snoc (l : List Nat) (n : Nat) : ints (l ++ [n]) = ints l ++ [.int .i64 (n : Int)] := by simp [ints]
/-- The reader's states in a new list. -/
theorem Rd.set2 {b : Nat} {p : ByteArray} {k : Nat} {st op : Value} {w : World} (h : Rd b p k st op w) (v : Value) : Rd b p k v op (w.setCell ⟨b, 2, none⟩ v) := set_same w b 2 _ _ _ h
theorem Rd.set3 {b : Nat} {p : ByteArray} {k : Nat} {st op : Value} {w : World} (h : Rd b p k st op w) (v : Value) : Rd b p k st v (w.setCell ⟨b, 3, none⟩ v) := set_same w b 3 _ _ _ h
theorem ob_of {v v' : Value} {w : World} (h : v'.ownBlock = v.ownBlock ∨ v'.ownBlock = some w.heap.size) : NewO w v v' := fun g hg => by
  rw [mem_ob] at hg ⊢
  rcases h with h | h
  · left; rw [← h]; exact hg
  · right; rw [h] at hg; cases hg; exact Nat.le_refl _
theorem NewO.base {w W : World} {a b : Value} (h : NewO W a b) (hz : w.heap.size ≤ W.heap.size) : NewO w a b := fun g hg => (h g hg).imp id (fun e => by omega)
theorem own_grow {w w' : World} {r : Option Nat} {e : TypeId} {size n : Nat} {v : Value} {xs : List Value} (ho : w.ownsRow 0 e size v n xs) (hg : w.grownBy w' r) (hr : ∀ g, r = some g → g ∉ ob v) : w'.ownsRow 0 e size v n xs :=
  Ch.own (S := r.toList) ⟨hg.os, hg.tape, hg.output, hg.size, fun g h1 h2 => hg.block g h1 (fun e => h2 (by rw [← e]; simp))⟩ ho (fun g h1 h2 => hr g (by simpa using h2) h1)

set_option maxHeartbeats 8000000 in
set_option maxRecDepth 100000 in
theorem opening_pos (b : Nat) (p : ByteArray) (k : Nat) (st op : Value) (sts opn : List Nat) (w : World) (hp : p.size ≤ 1000000) (hk : k ≤ p.size) (h16 : sts.length < 16) (h : RdS b p k sts opn st op w) (h41 : p.data.toList[k]? = some 41) :
    Calls Tryd.prog 55 #[.pointer (some ⟨b, 0, none⟩)] w fun e w' => ItSaid b p (.ok (⟨3, noP, 0, 0, 0, sts.length⟩, k + 1, sts ++ [2], opn)) st op w e w' := by
  obtain ⟨i0, hi, jz0, jz1, jz2⟩ := info_parts info_int
  have hbl := h.rd.lt
  have hR1 : Itb w.heap.size it0 (w.alloc (.cells #[.int .i64 0, .nilFunc, .int .u8 0, .int .u8 0, .int .u8 0, .int .i64 0] 88)) := itb_new w it0 _ rfl
  have hr1 : Rd b p k st op (w.alloc (.cells #[.int .i64 0, .nilFunc, .int .u8 0, .int .u8 0, .int .u8 0, .int .i64 0] 88)) := h.rd.ch ((Ch.refl [] _).alloc _) (by simp)
  have hc1 : Ch [b] w (w.alloc (.cells #[.int .i64 0, .nilFunc, .int .u8 0, .int .u8 0, .int .u8 0, .int .i64 0] 88)) := (Ch.refl [b] w).alloc _
  have hz1 : (w.alloc (.cells #[.int .i64 0, .nilFunc, .int .u8 0, .int .u8 0, .int .u8 0, .int .i64 0] 88)).heap.size = w.heap.size + 1 := by simp
  obtain ⟨w1, hw1⟩ : ∃ w1, w.alloc (.cells #[.int .i64 0, .nilFunc, .int .u8 0, .int .u8 0, .int .u8 0, .int .i64 0] 88) = w1 := ⟨_, rfl⟩
  rw [hw1] at hR1 hr1 hc1 hz1
  obtain ⟨R, hRe⟩ : ∃ R, w.heap.size = R := ⟨_, rfl⟩
  rw [hRe] at hR1 hbl hz1
  have hbR : b ≠ R := by omega
  have S0 := fun W (hW : Rd b p k st op W) => skip4_lit b p k st op 41 41 rfl W hp hk hW
  simp only [if_pos h41, decide_eq_true h41] at S0
  have S1 := Lib.hid S0
  obtain ⟨sp, sc, hst⟩ := own_form h.s
  have m2 := hr1.c2
  have HH := Lib.hid h
  have HR1 := Lib.hid hR1
  have Hr1 := Lib.hid hr1
  have HC1 := Lib.hid hc1
  have HST := Lib.hid hst
  rw [hst] at m2
  have g1 : ((sts.length : Int) == 16) = false := by rw [beq_eq_false_iff_ne]; omega
  clear hR1 hr1 hc1 h hst S0 h41
  go_enter Tryd.func55, Tryd.ntmps55
  go_upto_region 1 with fail
  (try simp only [hw1, hRe])
  have HRE := Lib.hid hRe
  clear hw1 hRe
  go_upto_region 5 with (go_at_call 43; (with_reducible refine (S1.out _ Hr1.out).mono ?_); rintro e w2 ⟨rfl, h2, hg2⟩)
  have q2 := h2.c2
  have qf := h2.fz 2
  rw [HST.out] at q2
  have hc2 : Ch [b] w w2 := HC1.out.trans (Ch.of_grown hg2 (by simp))
  have HC2 := Lib.hid hc2
  have HO : Hid (w2.ownsRow 0 3 1 (.slice sp sts.length sc) sts.length (ints sts)) := Lib.hid (by rw [← HST.out]; exact hc2.own HH.out.s (fun g hg e => HH.out.n1 (by simp at e; rw [← e]; exact hg)))
  have HO2 : Hid (w2.ownsRow 0 3 1 op opn.length (ints opn)) := Lib.hid (hc2.own HH.out.o (fun g hg e => HH.out.n2 (by simp at e; rw [← e]; exact hg)))
  have HR2 := Lib.hid (HR1.out.ch (Ch.of_grown hg2 (S := [b]) (by simp)) (by simp; omega))
  have H2 := Lib.hid h2
  have hz3 : R < w2.heap.size := by have := hg2.size; omega
  clear hg2 h2 m2 hc2
  go_upto_region 6 with (at_builtin; go_loud (refine wpList_append_own_at _ rfl _ _ 80 rfl 0 3 i0 (.int .i64 0) 1 8 Tryd.underlying80 hi jz0 jz1 jz2 rfl (by decide) _ _ _ rfl (HO.out.alloc _) ⟨w2.heap.size, 0, none⟩ 1 1 [.int .i64 2] rfl rfl (by intro j u' hj; match j, hj with | 0, hj => (simp at hj; subst hj; simp [Addr.add])) (by intro u' hu'; simp at hu'; subst hu'; rfl) (by unfold maxLen; omega) (by omega) (by omega) ?_))
  intro v3 w3 ho3 hg3 _ hat3
  obtain ⟨p3, c3, hv3⟩ := own_form ho3
  subst hv3
  have hob : ∀ g, (Value.slice sp sts.length sc).ownBlock = some g → g ∈ ob st := fun g e => mem_ob.2 (by rw [HST.out]; exact e)
  have hstl : ∀ g ∈ ob st, g < R := fun g hg => by have := own_lt HH.out.s hg; have := HRE.out; omega
  have hopl : ∀ g ∈ ob op, g < R := fun g hg => by have := own_lt HH.out.o hg; have := HRE.out; omega
  have hc3 : Ch (ob st) w2 w3 := Ch.trans ((Ch.refl _ w2).alloc _) (Ch.of_grown hg3 hob)
  have hnew : NewO w2 st (.slice p3 (sts.length + 1) c3) := fun g hg => by
    rw [mem_ob] at hg
    rcases hat3 with h | h
    · left; exact hob g (by rw [← h]; exact hg)
    · right; rw [h] at hg; cases hg; simp
  have hrd3 : Rd b p (k + 1) (.slice sp sts.length sc) op w3 := by have := H2.out.ch hc3 HH.out.n1; rw [HST.out] at this; exact this
  have HRD3 := Lib.hid hrd3
  have HC3 := Lib.hid hc3
  have HO3 := Lib.hid ho3
  have HNW := Lib.hid hnew
  have HSTL := Lib.hid hstl
  have HOPL := Lib.hid hopl
  have n0 := hrd3.c2
  have nf := hrd3.fz 2
  clear q2 qf hg3 hat3 ho3 hob hrd3 hc3 hnew hstl hopl
  go_upto_region 6 with fail
  go_name_world V hV
  have hcbV : Ch [b] w3 V := by rw [← hV]; exact (Ch.refl [b] w3).set b 2 _ (Or.inl (by simp))
  have HRDV : Hid (Rd b p (k + 1) (.slice p3 (sts.length + 1) c3) op V) := Lib.hid (by rw [← hV]; exact HRD3.out.set2 _)
  have HN1 : Hid (b ∉ ob (.slice p3 (sts.length + 1) c3)) := Lib.hid (fun e => by rcases HNW.out b e with h | h; exact HH.out.n1 h; omega)
  have HSV : Hid (V.ownsRow 0 3 1 (.slice p3 (sts.length + 1) c3) (sts ++ [2]).length (ints (sts ++ [2]))) := Lib.hid (by
    rw [ints_snoc, List.length_append]; exact hcbV.own HO3.out (fun g hg e => HN1.out (by simp at e; rw [← e]; exact hg)))
  have HOV : Hid (V.ownsRow 0 3 1 op opn.length (ints opn)) := Lib.hid (hcbV.own (HC3.out.own HO2.out (fun g hg e => HH.out.so g e hg)) (fun g hg e => HH.out.n2 (by simp at e; rw [← e]; exact hg)))
  have HCV : Hid (Ch (b :: (ob st ++ ob op)) w V) := Lib.hid (((HC2.out.mono (by simp)).trans (HC3.out.mono (by intro g hg; simp [hg]))).trans (hcbV.mono (by simp)))
  have HOL : Hid (∀ g ∈ ob (.slice p3 (sts.length + 1) c3), g ≠ R) := Lib.hid (fun g hg e => by rcases HNW.out g hg with h | h; have := HSTL.out g h; omega; omega)
  have HSO : Hid (∀ g ∈ ob (.slice p3 (sts.length + 1) c3), g ∉ ob op) := Lib.hid (fun g hg e => by rcases HNW.out g hg with h | h; exact HH.out.so g h e; have := HOPL.out g e; omega)
  have HNO : Hid (NewO w st (.slice p3 (sts.length + 1) c3)) := Lib.hid (HNW.out.base HC2.out.size)
  have hR := (HR2.out.ch HC3.out (fun e => by have := HSTL.out R e; omega)).ch hcbV (by simp; omega)
  have HRV := Lib.hid hR
  clear hV n0 nf hcbV
  have r0 := hR.cell 0
  have r1 := hR.cell 1
  have r2 := hR.cell 2
  have r3 := hR.cell 3
  have r4 := hR.cell 4
  have r5 := hR.cell 5
  simp [it0] at r0 r1 r2 r3 r4 r5
  have f0 := hR.fz 0
  have f1 := hR.fz 1
  have f2 := hR.fz 2
  have f3 := hR.fz 3
  have f4 := hR.fz 4
  have f5 := hR.fz 5
  clear hR
  go_wp2
  show bodyPost _ _ _ Exit.ret _ (st6 V R (.int .i64 3) (.nilFunc) (.int .u8 0) (.int .u8 0) (.int .u8 0) (.int .i64 (sts.length : Int)))
  have hI : Itb R #[.int .i64 3, .nilFunc, .int .u8 0, .int .u8 0, .int .u8 0, .int .i64 (sts.length : Int)] (st6 V R (.int .i64 3) (.nilFunc) (.int .u8 0) (.int .u8 0) (.int .u8 0) (.int .i64 (sts.length : Int))) := st6_it HRV.out
  have hS : Ch [R] V (st6 V R (.int .i64 3) (.nilFunc) (.int .u8 0) (.int .u8 0) (.int .u8 0) (.int .i64 (sts.length : Int))) := st6_ch
  have hc9 : Ch (b :: (ob st ++ ob op)) w (st6 V R (.int .i64 3) (.nilFunc) (.int .u8 0) (.int .u8 0) (.int .u8 0) (.int .i64 (sts.length : Int))) := Ch.new HCV.out (Nat.le_of_eq HRE.out) (hS.mono (by simp))
  have hs9 : ((st6 V R (.int .i64 3) (.nilFunc) (.int .u8 0) (.int .u8 0) (.int .u8 0) (.int .i64 (sts.length : Int)))).ownsRow 0 3 1 (.slice p3 (sts.length + 1) c3) (sts ++ [2]).length (ints (sts ++ [2])) := hS.own HSV.out (by intro g hg; have := HOL.out g hg; simp; omega)
  have ho9 : ((st6 V R (.int .i64 3) (.nilFunc) (.int .u8 0) (.int .u8 0) (.int .u8 0) (.int .i64 (sts.length : Int)))).ownsRow 0 3 1 op opn.length (ints opn) := hS.own HOV.out (by intro g hg; have := own_lt HH.out.o hg; have := HRE.out; simp; omega)
  have hr9 : Rd b p (k + 1) (.slice p3 (sts.length + 1) c3) op (st6 V R (.int .i64 3) (.nilFunc) (.int .u8 0) (.int .u8 0) (.int .u8 0) (.int .i64 (sts.length : Int))) := HRDV.out.ch hS (by simp; omega)
  have d0 := hI.cell 0
  have d1 := hI.cell 1
  have d2 := hI.cell 2
  have d3 := hI.cell 3
  have d4 := hI.cell 4
  have d5 := hI.cell 5
  simp at d0 d1 d2 d3 d4 d5
  generalize (st6 V R (.int .i64 3) (.nilFunc) (.int .u8 0) (.int .u8 0) (.int .u8 0) (.int .i64 (sts.length : Int))) = W9 at *
  refine bodyPost_ret (v := .tuple #[.agg #[.int .i64 3, .nilFunc, .int .u8 0, .int .u8 0, .int .u8 0, .int .i64 (sts.length : Int)], .int .i64 0]) ?_ rfl ⟨⟨_, _, op, rfl, ⟨hr9, hs9, ho9, HN1.out, HH.out.n2, HSO.out⟩, HNO.out, NewO.refl _ _, TVi.no _ _ _ (by simp)⟩, hc9⟩
  · simp [results, Tryd.results55, go_sem, d0, d1, d2, d3, d4, d5]

set_option maxHeartbeats 8000000 in
set_option maxRecDepth 100000 in
theorem opening_begin (b : Nat) (p : ByteArray) (k : Nat) (st op : Value) (sts opn : List Nat) (w : World) (hp : p.size ≤ 1000000) (hk : k ≤ p.size) (h16 : sts.length < 16) (ho16 : opn.length < 17) (h : RdS b p k sts opn st op w) (h41 : ¬ p.data.toList[k]? = some 41) :
    Calls Tryd.prog 55 #[.pointer (some ⟨b, 0, none⟩)] w fun e w' => ItSaid b p (.ok (⟨1, noP, 0, 0, 0, sts.length⟩, k, sts ++ [0], opn ++ [sts.length])) st op w e w' := by
  obtain ⟨i0, hi, jz0, jz1, jz2⟩ := info_parts info_int
  have hbl := h.rd.lt
  have hR1 : Itb w.heap.size it0 (w.alloc (.cells #[.int .i64 0, .nilFunc, .int .u8 0, .int .u8 0, .int .u8 0, .int .i64 0] 88)) := itb_new w it0 _ rfl
  have hr1 : Rd b p k st op (w.alloc (.cells #[.int .i64 0, .nilFunc, .int .u8 0, .int .u8 0, .int .u8 0, .int .i64 0] 88)) := h.rd.ch ((Ch.refl [] _).alloc _) (by simp)
  have hc1 : Ch [b] w (w.alloc (.cells #[.int .i64 0, .nilFunc, .int .u8 0, .int .u8 0, .int .u8 0, .int .i64 0] 88)) := (Ch.refl [b] w).alloc _
  have hz1 : (w.alloc (.cells #[.int .i64 0, .nilFunc, .int .u8 0, .int .u8 0, .int .u8 0, .int .i64 0] 88)).heap.size = w.heap.size + 1 := by simp
  obtain ⟨w1, hw1⟩ : ∃ w1, w.alloc (.cells #[.int .i64 0, .nilFunc, .int .u8 0, .int .u8 0, .int .u8 0, .int .i64 0] 88) = w1 := ⟨_, rfl⟩
  rw [hw1] at hR1 hr1 hc1 hz1
  obtain ⟨R, hRe⟩ : ∃ R, w.heap.size = R := ⟨_, rfl⟩
  rw [hRe] at hR1 hbl hz1
  have hbR : b ≠ R := by omega
  have S0 := fun W (hW : Rd b p k st op W) => skip4_lit b p k st op 41 41 rfl W hp hk hW
  simp only [if_neg h41, decide_eq_false h41] at S0
  have S1 := Lib.hid S0
  obtain ⟨sp, sc, hst⟩ := own_form h.s
  obtain ⟨np, nc, hop⟩ := own_form h.o
  have m2 := hr1.c2
  have HH := Lib.hid h
  have HR1 := Lib.hid hR1
  have Hr1 := Lib.hid hr1
  have HC1 := Lib.hid hc1
  have HST := Lib.hid hst
  have HOP := Lib.hid hop
  rw [hst] at m2
  have g1 : ((sts.length : Int) == 16) = false := by rw [beq_eq_false_iff_ne]; omega
  clear hR1 hr1 hc1 h hst hop S0 h41
  go_enter Tryd.func55, Tryd.ntmps55
  go_upto_region 1 with fail
  (try simp only [hw1, hRe])
  have HRE := Lib.hid hRe
  clear hw1 hRe
  go_upto_region 7 with (go_at_call 43; (with_reducible refine (S1.out _ Hr1.out).mono ?_); rintro e w2 ⟨rfl, h2, hg2⟩)
  have q2 := h2.c2
  have qf := h2.fz 2
  rw [HST.out] at q2
  have hc2 : Ch [b] w w2 := HC1.out.trans (Ch.of_grown hg2 (by simp))
  have HC2 := Lib.hid hc2
  have HO : Hid (w2.ownsRow 0 3 1 (.slice sp sts.length sc) sts.length (ints sts)) := Lib.hid (by rw [← HST.out]; exact hc2.own HH.out.s (fun g hg e => HH.out.n1 (by simp at e; rw [← e]; exact hg)))
  have HO2 : Hid (w2.ownsRow 0 3 1 op opn.length (ints opn)) := Lib.hid (hc2.own HH.out.o (fun g hg e => HH.out.n2 (by simp at e; rw [← e]; exact hg)))
  have HR2 := Lib.hid (HR1.out.ch (Ch.of_grown hg2 (S := [b]) (by simp)) (by simp; omega))
  have H2 := Lib.hid h2
  have hz3 : R < w2.heap.size := by have := hg2.size; omega
  clear hg2 h2 m2 hc2
  go_upto_region 8 with (at_builtin; go_loud (refine wpList_append_own_at _ rfl _ _ 80 rfl 0 3 i0 (.int .i64 0) 1 8 Tryd.underlying80 hi jz0 jz1 jz2 rfl (by decide) _ _ _ rfl (HO.out.alloc _) ⟨w2.heap.size, 0, none⟩ 1 1 [.int .i64 0] rfl rfl (by intro j u' hj; match j, hj with | 0, hj => (simp at hj; subst hj; simp [Addr.add])) (by intro u' hu'; simp at hu'; subst hu'; rfl) (by unfold maxLen; omega) (by omega) (by omega) ?_))
  intro v3 w3 ho3 hg3 _ hat3
  obtain ⟨p3, c3, hv3⟩ := own_form ho3
  subst hv3
  have hob : ∀ g, (Value.slice sp sts.length sc).ownBlock = some g → g ∈ ob st := fun g e => mem_ob.2 (by rw [HST.out]; exact e)
  have hstl : ∀ g ∈ ob st, g < R := fun g hg => by have := own_lt HH.out.s hg; have := HRE.out; omega
  have hopl : ∀ g ∈ ob op, g < R := fun g hg => by have := own_lt HH.out.o hg; have := HRE.out; omega
  have hc3 : Ch (ob st) w2 w3 := Ch.trans ((Ch.refl _ w2).alloc _) (Ch.of_grown hg3 hob)
  have hnew : NewO w2 st (.slice p3 (sts.length + 1) c3) := fun g hg => by
    rw [mem_ob] at hg
    rcases hat3 with h | h
    · left; exact hob g (by rw [← h]; exact hg)
    · right; rw [h] at hg; cases hg; simp
  have hrd3 : Rd b p k (.slice sp sts.length sc) op w3 := by have := H2.out.ch hc3 HH.out.n1; rw [HST.out] at this; exact this
  have HRD3 := Lib.hid hrd3
  have HC3 := Lib.hid hc3
  have HO3 := Lib.hid ho3
  have HNW := Lib.hid hnew
  have HSTL := Lib.hid hstl
  have HOPL := Lib.hid hopl
  have n0 := hrd3.c2
  have nf := hrd3.fz 2
  clear q2 qf hg3 hat3 ho3 hob hrd3 hc3 hnew hstl hopl
  go_upto_region 8 with fail
  go_name_world V hV
  have hcbV : Ch [b] w3 V := by rw [← hV]; exact (Ch.refl [b] w3).set b 2 _ (Or.inl (by simp))
  have HRDV : Hid (Rd b p k (.slice p3 (sts.length + 1) c3) op V) := Lib.hid (by rw [← hV]; exact HRD3.out.set2 _)
  have HN1 : Hid (b ∉ ob (.slice p3 (sts.length + 1) c3)) := Lib.hid (fun e => by rcases HNW.out b e with h | h; exact HH.out.n1 h; omega)
  have HSV : Hid (V.ownsRow 0 3 1 (.slice p3 (sts.length + 1) c3) (sts ++ [0]).length (ints (sts ++ [0]))) := Lib.hid (by
    rw [ints_snoc, List.length_append]; exact hcbV.own HO3.out (fun g hg e => HN1.out (by simp at e; rw [← e]; exact hg)))
  have HOV : Hid (V.ownsRow 0 3 1 op opn.length (ints opn)) := Lib.hid (hcbV.own (HC3.out.own HO2.out (fun g hg e => HH.out.so g e hg)) (fun g hg e => HH.out.n2 (by simp at e; rw [← e]; exact hg)))
  have HCV : Hid (Ch (b :: (ob st ++ ob op)) w V) := Lib.hid (((HC2.out.mono (by simp)).trans (HC3.out.mono (by intro g hg; simp [hg]))).trans (hcbV.mono (by simp)))
  have HOL : Hid (∀ g ∈ ob (.slice p3 (sts.length + 1) c3), g ≠ R) := Lib.hid (fun g hg e => by rcases HNW.out g hg with h | h; have := HSTL.out g h; omega; omega)
  have HSO : Hid (∀ g ∈ ob (.slice p3 (sts.length + 1) c3), g ∉ ob op) := Lib.hid (fun g hg e => by rcases HNW.out g hg with h | h; exact HH.out.so g h e; have := HOPL.out g e; omega)
  have HNO : Hid (NewO w st (.slice p3 (sts.length + 1) c3)) := Lib.hid (HNW.out.base HC2.out.size)
  have hR := (HR2.out.ch HC3.out (fun e => by have := HSTL.out R e; omega)).ch hcbV (by simp; omega)
  have HRV := Lib.hid hR
  clear hV n0 nf hcbV
  clear hR
  have o2 := HRDV.out.c3
  have of := HRDV.out.fz 3
  rw [HOP.out] at o2
  have HOW : Hid (V.ownsRow 0 3 1 (.slice np opn.length nc) opn.length (ints opn)) := Lib.hid (by have := HOV.out; rw [HOP.out] at this; exact this)
  go_upto_region 9 with (at_builtin; go_loud (refine wpList_append_own_at _ rfl _ _ 80 rfl 0 3 i0 (.int .i64 0) 1 8 Tryd.underlying80 hi jz0 jz1 jz2 rfl (by decide) _ _ _ rfl (HOW.out.alloc _) ⟨V.heap.size, 0, none⟩ 1 1 [.int .i64 (sts.length : Int)] rfl rfl (by intro j u' hj; match j, hj with | 0, hj => (simp at hj; subst hj; simp [Addr.add])) (by intro u' hu'; simp at hu'; subst hu'; rfl) (by unfold maxLen; omega) (by omega) (by omega) ?_))
  intro v4 w4 ho4 hg4 _ hat4
  obtain ⟨p4, c4, hv4⟩ := own_form ho4
  subst hv4
  have hob : ∀ g, (Value.slice np opn.length nc).ownBlock = some g → g ∈ ob op := fun g e => mem_ob.2 (by rw [HOP.out]; exact e)
  have hc4 : Ch (ob op) V w4 := Ch.trans ((Ch.refl _ V).alloc _) (Ch.of_grown hg4 hob)
  have hnew : NewO V op (.slice p4 (opn.length + 1) c4) := fun g hg => by
    rw [mem_ob] at hg
    rcases hat4 with h | h
    · left; exact hob g (by rw [← h]; exact hg)
    · right; rw [h] at hg; cases hg; simp
  have HRD4 : Hid (Rd b p k (.slice p3 (sts.length + 1) c3) op w4) := Lib.hid (HRDV.out.ch hc4 HH.out.n2)
  have HC4 := Lib.hid hc4
  have HO4 := Lib.hid ho4
  have HNW4 := Lib.hid hnew
  have n0 := HRD4.out.c3
  rw [HOP.out] at n0
  have nf := HRD4.out.fz 3
  have hz4 : R < V.heap.size := by have := HCV.out.size; have := HRV.out.lt; omega
  have hbV : b < V.heap.size := HRDV.out.lt
  clear o2 of hg4 hat4 ho4 hob hc4 hnew
  go_upto_region 9 with fail
  go_name_world U hU
  have hcbU : Ch [b] w4 U := by rw [← hU]; exact (Ch.refl [b] w4).set b 3 _ (Or.inl (by simp))
  have HRDU : Hid (Rd b p k (.slice p3 (sts.length + 1) c3) (.slice p4 (opn.length + 1) c4) U) := Lib.hid (by rw [← hU]; exact HRD4.out.set3 _)
  have HN2 : Hid (b ∉ ob (.slice p4 (opn.length + 1) c4)) := Lib.hid (fun e => by rcases HNW4.out b e with h | h; exact HH.out.n2 h; omega)
  have HOU : Hid (U.ownsRow 0 3 1 (.slice p4 (opn.length + 1) c4) (opn ++ [sts.length]).length (ints (opn ++ [sts.length]))) := Lib.hid (by
    rw [ints_snoc, List.length_append]; exact hcbU.own HO4.out (fun g hg e => HN2.out (by simp at e; rw [← e]; exact hg)))
  have HSU : Hid (U.ownsRow 0 3 1 (.slice p3 (sts.length + 1) c3) (sts ++ [0]).length (ints (sts ++ [0]))) := Lib.hid (hcbU.own (HC4.out.own HSV.out (fun g hg e => HSO.out g hg e)) (fun g hg e => HN1.out (by simp at e; rw [← e]; exact hg)))
  have HCU : Hid (Ch (b :: (ob st ++ ob op)) w U) := Lib.hid ((HCV.out.trans (HC4.out.mono (by intro g hg; simp [hg]))).trans (hcbU.mono (by simp)))
  have HOL4 : Hid (∀ g ∈ ob (.slice p4 (opn.length + 1) c4), g ≠ R) := Lib.hid (fun g hg e => by rcases HNW4.out g hg with h | h; have := HOPL.out g h; omega; omega)
  have HSO4 : Hid (∀ g ∈ ob (.slice p3 (sts.length + 1) c3), g ∉ ob (.slice p4 (opn.length + 1) c4)) := Lib.hid (fun g hg e => by
    rcases HNW4.out g e with h | h
    · exact HSO.out g hg h
    · have := own_lt HSV.out hg; omega)
  have HNO4 : Hid (NewO w op (.slice p4 (opn.length + 1) c4)) := Lib.hid (HNW4.out.base HCV.out.size)
  have hR := (HRV.out.ch HC4.out (fun e => by have := HOPL.out R e; omega)).ch hcbU (by simp; omega)
  have HRU := Lib.hid hR
  clear hU n0 nf hcbU
  have r0 := hR.cell 0
  have r1 := hR.cell 1
  have r2 := hR.cell 2
  have r3 := hR.cell 3
  have r4 := hR.cell 4
  have r5 := hR.cell 5
  simp [it0] at r0 r1 r2 r3 r4 r5
  have f0 := hR.fz 0
  have f1 := hR.fz 1
  have f2 := hR.fz 2
  have f3 := hR.fz 3
  have f4 := hR.fz 4
  have f5 := hR.fz 5
  clear hR
  go_wp2
  show bodyPost _ _ _ Exit.ret _ (st6 U R (.int .i64 1) (.nilFunc) (.int .u8 0) (.int .u8 0) (.int .u8 0) (.int .i64 (sts.length : Int)))
  have hI : Itb R #[.int .i64 1, .nilFunc, .int .u8 0, .int .u8 0, .int .u8 0, .int .i64 (sts.length : Int)] (st6 U R (.int .i64 1) (.nilFunc) (.int .u8 0) (.int .u8 0) (.int .u8 0) (.int .i64 (sts.length : Int))) := st6_it HRU.out
  have hS : Ch [R] U (st6 U R (.int .i64 1) (.nilFunc) (.int .u8 0) (.int .u8 0) (.int .u8 0) (.int .i64 (sts.length : Int))) := st6_ch
  have hc9 : Ch (b :: (ob st ++ ob op)) w (st6 U R (.int .i64 1) (.nilFunc) (.int .u8 0) (.int .u8 0) (.int .u8 0) (.int .i64 (sts.length : Int))) := Ch.new HCU.out (Nat.le_of_eq HRE.out) (hS.mono (by simp))
  have hs9 : ((st6 U R (.int .i64 1) (.nilFunc) (.int .u8 0) (.int .u8 0) (.int .u8 0) (.int .i64 (sts.length : Int)))).ownsRow 0 3 1 (.slice p3 (sts.length + 1) c3) (sts ++ [0]).length (ints (sts ++ [0])) := hS.own HSU.out (by intro g hg; have := HOL.out g hg; simp; omega)
  have ho9 : ((st6 U R (.int .i64 1) (.nilFunc) (.int .u8 0) (.int .u8 0) (.int .u8 0) (.int .i64 (sts.length : Int)))).ownsRow 0 3 1 (.slice p4 (opn.length + 1) c4) (opn ++ [sts.length]).length (ints (opn ++ [sts.length])) := hS.own HOU.out (by intro g hg; have := HOL4.out g hg; simp; omega)
  have hr9 : Rd b p k (.slice p3 (sts.length + 1) c3) (.slice p4 (opn.length + 1) c4) (st6 U R (.int .i64 1) (.nilFunc) (.int .u8 0) (.int .u8 0) (.int .u8 0) (.int .i64 (sts.length : Int))) := HRDU.out.ch hS (by simp; omega)
  have d0 := hI.cell 0
  have d1 := hI.cell 1
  have d2 := hI.cell 2
  have d3 := hI.cell 3
  have d4 := hI.cell 4
  have d5 := hI.cell 5
  simp at d0 d1 d2 d3 d4 d5
  generalize (st6 U R (.int .i64 1) (.nilFunc) (.int .u8 0) (.int .u8 0) (.int .u8 0) (.int .i64 (sts.length : Int))) = W9 at *
  refine bodyPost_ret (v := .tuple #[.agg #[.int .i64 1, .nilFunc, .int .u8 0, .int .u8 0, .int .u8 0, .int .i64 (sts.length : Int)], .int .i64 0]) ?_ rfl ⟨⟨_, _, _, rfl, ⟨hr9, hs9, ho9, HN1.out, HN2.out, HSO4.out⟩, HNO.out, HNO4.out, TVi.no _ _ _ (by simp)⟩, hc9⟩
  · simp [results, Tryd.results55, go_sem, d0, d1, d2, d3, d4, d5]

set_option maxHeartbeats 8000000 in
set_option maxRecDepth 100000 in
theorem opening_lim (b : Nat) (p : ByteArray) (k : Nat) (st op : Value) (sts opn : List Nat) (w : World) (h16 : sts.length = 16) (h : RdS b p k sts opn st op w) :
    Calls Tryd.prog 55 #[.pointer (some ⟨b, 0, none⟩)] w fun e w' => ItSaid b p (.error 3) st op w e w' := by
  have hbl := h.rd.lt
  have hR1 : Itb w.heap.size it0 (w.alloc (.cells #[.int .i64 0, .nilFunc, .int .u8 0, .int .u8 0, .int .u8 0, .int .i64 0] 88)) := itb_new w it0 _ rfl
  have hr1 : Rd b p k st op (w.alloc (.cells #[.int .i64 0, .nilFunc, .int .u8 0, .int .u8 0, .int .u8 0, .int .i64 0] 88)) := h.rd.ch ((Ch.refl [] _).alloc _) (by simp)
  have hc1 : Ch [b] w (w.alloc (.cells #[.int .i64 0, .nilFunc, .int .u8 0, .int .u8 0, .int .u8 0, .int .i64 0] 88)) := (Ch.refl [b] w).alloc _
  have hz1 : (w.alloc (.cells #[.int .i64 0, .nilFunc, .int .u8 0, .int .u8 0, .int .u8 0, .int .i64 0] 88)).heap.size = w.heap.size + 1 := by simp
  obtain ⟨w1, hw1⟩ : ∃ w1, w.alloc (.cells #[.int .i64 0, .nilFunc, .int .u8 0, .int .u8 0, .int .u8 0, .int .i64 0] 88) = w1 := ⟨_, rfl⟩
  rw [hw1] at hR1 hr1 hc1 hz1
  obtain ⟨R, hRe⟩ : ∃ R, w.heap.size = R := ⟨_, rfl⟩
  rw [hRe] at hR1 hbl hz1
  have hbR : b ≠ R := by omega
  obtain ⟨sp, sc, hst⟩ := own_form h.s
  have m2 := hr1.c2
  have HH := Lib.hid h
  have HR1 := Lib.hid hR1
  have HC1 := Lib.hid hc1
  rw [hst] at m2
  have g1 : ((sts.length : Int) == 16) = true := by rw [h16]; rfl
  clear hr1 hc1 h hst h16
  go_enter Tryd.func55, Tryd.ntmps55
  go_upto_region 1 with fail
  (try simp only [hw1, hRe])
  have HRE := Lib.hid hRe
  clear hw1 hRe
  have r0 := hR1.cell 0
  have r1 := hR1.cell 1
  have r2 := hR1.cell 2
  have r3 := hR1.cell 3
  have r4 := hR1.cell 4
  have r5 := hR1.cell 5
  simp [it0] at r0 r1 r2 r3 r4 r5
  have f0 := hR1.fz 0
  have f1 := hR1.fz 1
  have f2 := hR1.fz 2
  have f3 := hR1.fz 3
  have f4 := hR1.fz 4
  have f5 := hR1.fz 5
  clear hR1
  go_wp2
  show bodyPost _ _ _ Exit.ret _ (st6 w1 R (.int .i64 0) (.nilFunc) (.int .u8 0) (.int .u8 0) (.int .u8 0) (.int .i64 0))
  have hI : Itb R #[.int .i64 0, .nilFunc, .int .u8 0, .int .u8 0, .int .u8 0, .int .i64 0] (st6 w1 R (.int .i64 0) (.nilFunc) (.int .u8 0) (.int .u8 0) (.int .u8 0) (.int .i64 0)) := st6_it HR1.out
  have hS : Ch [R] w1 (st6 w1 R (.int .i64 0) (.nilFunc) (.int .u8 0) (.int .u8 0) (.int .u8 0) (.int .i64 0)) := st6_ch
  have hc9 : Ch (b :: (ob st ++ ob op)) w (st6 w1 R (.int .i64 0) (.nilFunc) (.int .u8 0) (.int .u8 0) (.int .u8 0) (.int .i64 0)) := Ch.new (HC1.out.mono (by simp)) (Nat.le_of_eq HRE.out) (hS.mono (by simp))
  have d0 := hI.cell 0
  have d1 := hI.cell 1
  have d2 := hI.cell 2
  have d3 := hI.cell 3
  have d4 := hI.cell 4
  have d5 := hI.cell 5
  simp at d0 d1 d2 d3 d4 d5
  generalize (st6 w1 R (.int .i64 0) (.nilFunc) (.int .u8 0) (.int .u8 0) (.int .u8 0) (.int .i64 0)) = W9 at *
  refine bodyPost_ret (v := .tuple #[.agg #[.int .i64 0, .nilFunc, .int .u8 0, .int .u8 0, .int .u8 0, .int .i64 0], .int .i64 3]) ?_ rfl ⟨rfl, hc9⟩
  · simp [results, Tryd.results55, go_sem, d0, d1, d2, d3, d4, d5]
end Go.Proofs.YtkbcaklleiapdaaDoor
