/- Contracts of layer 4: %b. -/
import Derived.Test.YtkbcaklleiapdaaDoorPatK
import Derived.BigRegion
namespace Go.Proofs.YtkbcaklleiapdaaDoor
open Go.RowKit M4
set_option linter.unusedVariables false

set_option maxHeartbeats 8000000 in
set_option maxRecDepth 100000 in
theorem balance_ok (b : Nat) (p : ByteArray) (k : Nat) (st op : Value) (sts opn : List Nat) (w : World) (hp : p.size ≤ 1000000) (hk : k + 2 ≤ p.size) (h : RdS b p k sts opn st op w) :
    Calls Tryd.prog 57 #[.pointer (some ⟨b, 0, none⟩)] w fun e w' => ItSaid b p (.ok (⟨4, noP, 0, p.data.toList.getD k 0, p.data.toList.getD (k + 1) 0, 0⟩, k + 2, sts, opn)) st op w e w' := by
  have hbl := h.rd.lt
  have hR1 : Itb w.heap.size it0 (w.alloc (.cells #[.int .i64 0, .nilFunc, .int .u8 0, .int .u8 0, .int .u8 0, .int .i64 0] 88)) := itb_new w it0 _ rfl
  have hr1 : Rd b p k st op (w.alloc (.cells #[.int .i64 0, .nilFunc, .int .u8 0, .int .u8 0, .int .u8 0, .int .i64 0] 88)) := h.rd.ch ((Ch.refl [] _).alloc _) (by simp)
  have hc1 : Ch [b] w (w.alloc (.cells #[.int .i64 0, .nilFunc, .int .u8 0, .int .u8 0, .int .u8 0, .int .i64 0] 88)) := (Ch.refl [b] w).alloc _
  have hz1 : (w.alloc (.cells #[.int .i64 0, .nilFunc, .int .u8 0, .int .u8 0, .int .u8 0, .int .i64 0] 88)).heap.size = w.heap.size + 1 := by simp
  obtain ⟨w1, hw1⟩ : ∃ w1, w.alloc (.cells #[.int .i64 0, .nilFunc, .int .u8 0, .int .u8 0, .int .u8 0, .int .i64 0] 88) = w1 := ⟨_, rfl⟩
  rw [hw1] at hR1 hr1 hc1 hz1
  obtain ⟨R, hRe⟩ : ∃ R, w.heap.size = R := ⟨_, rfl⟩
  rw [hRe] at hR1 hbl hz1
  have hbR : b ≠ R := by omega
  have hx := get_some p k (by omega)
  have hy := get_some p (k + 1) (by omega)
  rw [List.getD_eq_getElem?_getD, List.getD_eq_getElem?_getD, hx, hy]
  obtain ⟨x, hxx⟩ : ∃ x, p[k] = x := ⟨_, rfl⟩
  obtain ⟨y, hyy⟩ : ∃ y, p[k + 1] = y := ⟨_, rfl⟩
  simp only [hxx, hyy, Option.getD_some]
  have hxi : (p[k].toNat : Int) = (x.toNat : Int) := by rw [hxx]
  have hyi : (p[k + 1].toNat : Int) = (y.toNat : Int) := by rw [hyy]
  have m0 := hr1.c0
  have m1 := hr1.c1
  have mf := hr1.fz 1
  have HR1 := Lib.hid hR1
  have Hr1 := Lib.hid hr1
  have HC1 := Lib.hid hc1
  have HH := Lib.hid h
  have s1 := i64w ((p.size : Int) - (k : Int)) (by omega)
  have s2 := i64w ((k : Int) + 2) (by omega)
  have k0 : ¬ (p.size : Int) - (k : Int) < 2 := by omega
  clear hx hy hxx hyy hR1 hr1 hc1 h
  go_enter Tryd.func57, Tryd.ntmps57
  go_upto_region 1 with fail
  (try simp only [hw1, hRe])
  have HRE := Lib.hid hRe
  clear hw1 hRe
  go_quiet (fail)
  go_upto_region 4 with fail
  go_name_world V hV
  have HRV : Hid (Rd b p (k + 2) st op V) := Lib.hid (by rw [← hV]; exact (Hr1.out.drewN _).set1 (k + 2) _ (by push_cast; rfl))
  have HCV : Hid (Ch [b] w V) := Lib.hid (by rw [← hV]; exact (HC1.out.drewN _).set b 1 _ (Or.inl (by simp)))
  have hR : Itb R it0 V := by rw [← hV]; exact (HR1.out.ch (Ch.drewN (Ch.refl [] w1) _) (by simp)).other b 1 _ hbR
  have HR := Lib.hid hR
  clear hV m0 m1 mf
  have m0 := HRV.out.c0
  have m1 : V.cell? ⟨b, 1, none⟩ = some (.int .i64 ((k : Int) + 2)) := by rw [HRV.out.c1]; push_cast; rfl
  have r0 := hR.cell 0
  have r1 := hR.cell 1
  have r2 := hR.cell 2
  have r3 := hR.cell 3
  have r4 := hR.cell 4
  have r5 := hR.cell 5
  simp [it0] at r0 r1 r2 r3 r4 r5
  have f0 := hR.fz 0
  have f1 := hR.fz 1
  have f2 := hR.fz 2
  have f3 := hR.fz 3
  have f4 := hR.fz 4
  have f5 := hR.fz 5
  have s3 : IntKind.i64.wrap ((k : Int) + 2 - 2) = (k : Int) := by rw [i64w _ (by omega)]; omega
  have s4 : IntKind.i64.wrap ((k : Int) + 2 - 1) = ((k + 1 : Nat) : Int) := by rw [i64w _ (by omega)]; push_cast; omega
  have b1 : (k : Int) < (p.size : Int) := by omega
  have b2 : ((k + 1 : Nat) : Int) < (p.size : Int) := by omega
  have b3 : 0 ≤ (k : Int) := by omega
  have b4 : 0 ≤ ((k + 1 : Nat) : Int) := by omega
  have b5 : ((k : Int)).toNat = k := by omega
  have b6 : ((k + 1 : Nat) : Int).toNat = k + 1 := by omega
  clear hR
  go_region
  simp only [Exit.then]
  have hI : Itb R #[.int .i64 4, .nilFunc, .int .u8 0, .int .u8 (x.toNat : Int), .int .u8 (y.toNat : Int), .int .i64 0] ((st6 V R (.int .i64 4) (.nilFunc) (.int .u8 0) (.int .u8 (x.toNat : Int)) (.int .u8 (y.toNat : Int)) (.int .i64 0)).drew) := Itb.heap (st6_it HR.out) rfl
  have hS : Ch [R] V ((st6 V R (.int .i64 4) (.nilFunc) (.int .u8 0) (.int .u8 (x.toNat : Int)) (.int .u8 (y.toNat : Int)) (.int .i64 0)).drew) := (st6_ch).drew
  have hc9 : Ch [b] w ((st6 V R (.int .i64 4) (.nilFunc) (.int .u8 0) (.int .u8 (x.toNat : Int)) (.int .u8 (y.toNat : Int)) (.int .i64 0)).drew) := Ch.new HCV.out (Nat.le_of_eq HRE.out) (hS.mono (by simp))
  have hr9 : Rd b p (k + 2) st op ((st6 V R (.int .i64 4) (.nilFunc) (.int .u8 0) (.int .u8 (x.toNat : Int)) (.int .u8 (y.toNat : Int)) (.int .i64 0)).drew) := HRV.out.ch hS (by simp; exact hbR)
  have hst : ∃ W9, ((st6 V R (.int .i64 4) (.nilFunc) (.int .u8 0) (.int .u8 (x.toNat : Int)) (.int .u8 (y.toNat : Int)) (.int .i64 0)).drew) = W9 := ⟨_, rfl⟩
  obtain ⟨W9, hst⟩ := hst
  rw [hst] at hI hc9 hr9
  unfold st6 at hst
  rw [hst]
  have d0 := hI.cell 0
  have d1 := hI.cell 1
  have d2 := hI.cell 2
  have d3 := hI.cell 3
  have d4 := hI.cell 4
  have d5 := hI.cell 5
  simp at d0 d1 d2 d3 d4 d5
  clear hst hI hS
  go_wp2
  refine bodyPost_ret (v := .tuple #[.agg #[.int .i64 4, .nilFunc, .int .u8 0, .int .u8 (x.toNat : Int), .int .u8 (y.toNat : Int), .int .i64 0], .int .i64 0]) ?_ rfl ⟨⟨_, st, op, rfl, HH.out.ch hc9 hr9, NewO.refl _ _, NewO.refl _ _, TVi.no _ _ _ (by simp)⟩, hc9.mono (by simp)⟩
  · simp [results, Tryd.results57, go_sem, d0, d1, d2, d3, d4, d5]
end Go.Proofs.YtkbcaklleiapdaaDoor
