/- Contracts of layer 4: an item that is a single. -/
import Derived.Test.YtkbcaklleiapdaaDoorPatLd
namespace Go.Proofs.YtkbcaklleiapdaaDoor
open Go.RowKit M4
set_option linter.unusedVariables false

theorem kind_s {l : List UInt8} {k : Nat} {sts opn : List Nat} {r : Itm × Nat × List Nat × List Nat} (hs : Sgl l k) (hr : itemF l k sts opn = .ok r) : r.1.kind = 0 := by
  rw [item_sgl hs] at hr
  cases hg : singleF l k with
  | error e => rw [hg] at hr; cases hr
  | ok u => rw [hg] at hr; cases hr; exact (single_lt hg).2.2

set_option maxHeartbeats 8000000 in
set_option maxRecDepth 100000 in
theorem item_s1_ok (b : Nat) (p : ByteArray) (k : Nat) (st op : Value) (sts opn : List Nat) (w : World) (hp : p.size ≤ 1000000) (hk : k < p.size) (h16 : sts.length ≤ 16) (ho16 : opn.length ≤ sts.length) (hop : ∀ n ∈ opn, n < sts.length) (hbd : ∀ x ∈ sts, x ≤ 2) (h : RdS b p k sts opn st op w) (h40 : ¬ p.data.toList[k]? = some 40) (h41 : ¬ p.data.toList[k]? = some 41) (h37 : ¬ p.data.toList[k]? = some 37) (r : Itm × Nat × List Nat × List Nat) (hok : itemF p.data.toList k sts opn = .ok r) :
    Calls Tryd.prog 44 #[.pointer (some ⟨b, 0, none⟩)] w fun e w' => ItSaid b p (itemF p.data.toList k sts opn) st op w e w' := by
  have hbl := h.rd.lt
  have hR1 : Itb w.heap.size it0 (w.alloc (.cells #[.int .i64 0, .nilFunc, .int .u8 0, .int .u8 0, .int .u8 0, .int .i64 0] 88)) := itb_new w it0 _ rfl
  have hr1 : Rd b p k st op (w.alloc (.cells #[.int .i64 0, .nilFunc, .int .u8 0, .int .u8 0, .int .u8 0, .int .i64 0] 88)) := h.rd.ch ((Ch.refl [] _).alloc _) (by simp)
  have hc1 : Ch [b] w (w.alloc (.cells #[.int .i64 0, .nilFunc, .int .u8 0, .int .u8 0, .int .u8 0, .int .i64 0] 88)) := (Ch.refl [b] w).alloc _
  have hz1 : (w.alloc (.cells #[.int .i64 0, .nilFunc, .int .u8 0, .int .u8 0, .int .u8 0, .int .i64 0] 88)).heap.size = w.heap.size + 1 := by simp
  obtain ⟨w1, hw1⟩ : ∃ w1, w.alloc (.cells #[.int .i64 0, .nilFunc, .int .u8 0, .int .u8 0, .int .u8 0, .int .i64 0] 88) = w1 := ⟨_, rfl⟩
  rw [hw1] at hR1 hr1 hc1 hz1
  obtain ⟨R, hRe⟩ : ∃ R, w.heap.size = R := ⟨_, rfl⟩
  rw [hRe] at hR1 hbl hz1
  have hbR : b ≠ R := by omega
  have HH := Lib.hid h
  have HR1 := Lib.hid hR1
  have Hr1 := Lib.hid hr1
  have HC1 := Lib.hid hc1
  have HSL : Hid (∀ g ∈ ob st, g < w.heap.size) := Lib.hid (fun g hg => own_lt h.s hg)
  have HOL : Hid (∀ g ∈ ob op, g < w.heap.size) := Lib.hid (fun g hg => own_lt h.o hg)
  have HBL : Hid (b < w.heap.size) := Lib.hid h.rd.lt
  have N40 := Lib.hid fun (W : World) (hW : Rd b p k st op W) => by
    have := skip4_lit b p k st op 40 40 rfl W hp (by omega) hW
    rw [if_neg h40, decide_eq_false h40] at this; exact this
  have N41 := Lib.hid fun (W : World) (hW : Rd b p k st op W) => by
    have := skip4_lit b p k st op 41 41 rfl W hp (by omega) hW
    rw [if_neg h41, decide_eq_false h41] at this; exact this
  have HSG : Hid (Sgl p.data.toList k) := Lib.hid ⟨h40, h41, fun e => h37 e.1, fun e => h37 e.1, fun e => h37 e.1⟩
  have O1 := Lib.hid fun W hW => single_any4 b p k st op sts opn W hp hk HSG.out hW
  have HFUN : Hid (∀ (e : Ending) (W W' : World), ItSaid b p (itemF p.data.toList k sts opn) st op W e W' → ∃ (k0 q x y cc code : Int) (F : FuncId) (fst caps : Array Value), e = .returned (.tuple #[.agg #[.int .i64 k0, .func (.func F) fst caps, .int .u8 q, .int .u8 x, .int .u8 y, .int .i64 cc], .int .i64 code])) := Lib.hid (fun e W W' hI => by rw [hok] at hI; exact it_func hI (Or.inl (kind_s HSG.out hok)))
  have hkk : (k : Int) < (p.size : Int) := by omega
  have hk0 : 0 ≤ (k : Int) := by omega
  have hw1k : IntKind.i64.wrap ((k : Int) + 1) = ((k + 1 : Nat) : Int) := by rw [i64w _ (by omega)]; push_cast; rfl
  have x37 : ((p[k].toNat : Int) == 37) = false := by
    rw [beq_eq_false_iff_ne]; intro e; exact h37 (by rw [get_some p k hk]; exact congrArg some (UInt8.toNat_inj.1 (by simp; omega)))
  clear h37
  clear h40 h41 hok
  go_enter Tryd.func44, Tryd.ntmps44
  go_upto_region 1 with fail
  (try simp only [hw1, hRe])
  have HRE := Lib.hid hRe
  clear hw1 hRe hR1 hr1 hc1 h
  go_upto_region 5 with (go_at_call 43; first | ((with_reducible refine (N40.out _ Hr1.out).mono ?_); rintro e w4 ⟨rfl, h4, hg4⟩) | ((with_reducible refine (N41.out _ h4).mono ?_); rintro e w5 ⟨rfl, h5, hg5⟩))
  have HCA5 : Hid (Ch [b] w1 w5) := Lib.hid ((Ch.of_grown hg4 (by simp)).trans (Ch.of_grown hg5 (by simp)))
  have H5 := Lib.hid h5
  have m0 := h5.c0
  have m1 := h5.c1
  have mf := h5.fz 1
  clear hg4 hg5 h4 h5
  go_quiet (fail)

  go_upto_region 16 with fail
  go_name_world W2 hV
  have HRD2 : Hid (Rd b p k st op W2) := Lib.hid (by rw [← hV]; exact H5.out.drewN _)
  have HCA : Hid (Ch [b] w1 W2) := Lib.hid (by rw [← hV]; exact HCA5.out.drewN _)
  clear hV m0 m1 mf
  have hR2 := HR1.out.ch HCA.out (by simp; omega)
  have HR2 := Lib.hid hR2
  have HC2 : Hid (Ch [b] w W2) := Lib.hid (HC1.out.trans HCA.out)
  have hz3 : R < W2.heap.size := by have := HCA.out.size; omega
  have HS2 := Lib.hid (HH.out.ch HC2.out HRD2.out)
  have HRN : Hid (R ∉ b :: (ob st ++ ob op)) := Lib.hid (by
    have h1 := HRE.out
    intro e
    simp at e
    rcases e with e | e | e
    · omega
    · have := HSL.out R e; omega
    · have := HOL.out R e; omega)
  clear hR2
  go_wp2_with (go_at_call 60; (with_reducible refine (O1.out W2 HS2.out).mono ?_); rintro e w3 hIt; obtain ⟨k0, q, x, y, cc, code, F, fst, caps, he⟩ := HFUN.out _ _ _ hIt; subst he; have HIT := Lib.hid hIt; have hR := HR2.out.ch hIt.2 HRN.out; have r0 := hR.cell 0; have r1 := hR.cell 1; have r2 := hR.cell 2; have r3 := hR.cell 3; have r4 := hR.cell 4; have r5 := hR.cell 5; simp [it0] at r0 r1 r2 r3 r4 r5; have f0 := hR.fz 0; have f1 := hR.fz 1; have f2 := hR.fz 2; have f3 := hR.fz 3; have f4 := hR.fz 4; have f5 := hR.fz 5; have HR := Lib.hid hR; clear hIt hR)
  show bodyPost _ _ _ Exit.ret _ (st6 w3 R (.int .i64 k0) (.func (.func F) fst caps) (.int .u8 q) (.int .u8 x) (.int .u8 y) (.int .i64 cc))
  have hI : Itb R #[.int .i64 k0, .func (.func F) fst caps, .int .u8 q, .int .u8 x, .int .u8 y, .int .i64 cc] (st6 w3 R (.int .i64 k0) (.func (.func F) fst caps) (.int .u8 q) (.int .u8 x) (.int .u8 y) (.int .i64 cc)) := st6_it HR.out
  have hS : Ch [R] w3 (st6 w3 R (.int .i64 k0) (.func (.func F) fst caps) (.int .u8 q) (.int .u8 x) (.int .u8 y) (.int .i64 cc)) := st6_ch
  have d0 := hI.cell 0
  have d1 := hI.cell 1
  have d2 := hI.cell 2
  have d3 := hI.cell 3
  have d4 := hI.cell 4
  have d5 := hI.cell 5
  simp at d0 d1 d2 d3 d4 d5
  generalize (st6 w3 R (.int .i64 k0) (.func (.func F) fst caps) (.int .u8 q) (.int .u8 x) (.int .u8 y) (.int .i64 cc)) = W9 at *
  refine bodyPost_ret (v := .tuple #[.agg #[.int .i64 k0, .func (.func F) fst caps, .int .u8 q, .int .u8 x, .int .u8 y, .int .i64 cc], .int .i64 code]) ?_ rfl (HIT.out.lift HSL.out HOL.out HBL.out (Nat.le_of_eq HRE.out) hz3 HC2.out hS)
  simp [results, Tryd.results44, go_sem, d0, d1, d2, d3, d4, d5]

set_option maxHeartbeats 8000000 in
set_option maxRecDepth 100000 in
theorem item_s1_er (b : Nat) (p : ByteArray) (k : Nat) (st op : Value) (sts opn : List Nat) (w : World) (hp : p.size ≤ 1000000) (hk : k < p.size) (h16 : sts.length ≤ 16) (ho16 : opn.length ≤ sts.length) (hop : ∀ n ∈ opn, n < sts.length) (hbd : ∀ x ∈ sts, x ≤ 2) (h : RdS b p k sts opn st op w) (h40 : ¬ p.data.toList[k]? = some 40) (h41 : ¬ p.data.toList[k]? = some 41) (h37 : ¬ p.data.toList[k]? = some 37) (er : Nat) (hok : itemF p.data.toList k sts opn = .error er) :
    Calls Tryd.prog 44 #[.pointer (some ⟨b, 0, none⟩)] w fun e w' => ItSaid b p (itemF p.data.toList k sts opn) st op w e w' := by
  have hbl := h.rd.lt
  have hR1 : Itb w.heap.size it0 (w.alloc (.cells #[.int .i64 0, .nilFunc, .int .u8 0, .int .u8 0, .int .u8 0, .int .i64 0] 88)) := itb_new w it0 _ rfl
  have hr1 : Rd b p k st op (w.alloc (.cells #[.int .i64 0, .nilFunc, .int .u8 0, .int .u8 0, .int .u8 0, .int .i64 0] 88)) := h.rd.ch ((Ch.refl [] _).alloc _) (by simp)
  have hc1 : Ch [b] w (w.alloc (.cells #[.int .i64 0, .nilFunc, .int .u8 0, .int .u8 0, .int .u8 0, .int .i64 0] 88)) := (Ch.refl [b] w).alloc _
  have hz1 : (w.alloc (.cells #[.int .i64 0, .nilFunc, .int .u8 0, .int .u8 0, .int .u8 0, .int .i64 0] 88)).heap.size = w.heap.size + 1 := by simp
  obtain ⟨w1, hw1⟩ : ∃ w1, w.alloc (.cells #[.int .i64 0, .nilFunc, .int .u8 0, .int .u8 0, .int .u8 0, .int .i64 0] 88) = w1 := ⟨_, rfl⟩
  rw [hw1] at hR1 hr1 hc1 hz1
  obtain ⟨R, hRe⟩ : ∃ R, w.heap.size = R := ⟨_, rfl⟩
  rw [hRe] at hR1 hbl hz1
  have hbR : b ≠ R := by omega
  have HH := Lib.hid h
  have HR1 := Lib.hid hR1
  have Hr1 := Lib.hid hr1
  have HC1 := Lib.hid hc1
  have HSL : Hid (∀ g ∈ ob st, g < w.heap.size) := Lib.hid (fun g hg => own_lt h.s hg)
  have HOL : Hid (∀ g ∈ ob op, g < w.heap.size) := Lib.hid (fun g hg => own_lt h.o hg)
  have HBL : Hid (b < w.heap.size) := Lib.hid h.rd.lt
  have N40 := Lib.hid fun (W : World) (hW : Rd b p k st op W) => by
    have := skip4_lit b p k st op 40 40 rfl W hp (by omega) hW
    rw [if_neg h40, decide_eq_false h40] at this; exact this
  have N41 := Lib.hid fun (W : World) (hW : Rd b p k st op W) => by
    have := skip4_lit b p k st op 41 41 rfl W hp (by omega) hW
    rw [if_neg h41, decide_eq_false h41] at this; exact this
  have HSG : Hid (Sgl p.data.toList k) := Lib.hid ⟨h40, h41, fun e => h37 e.1, fun e => h37 e.1, fun e => h37 e.1⟩
  have O1 := Lib.hid fun W hW => single_any4 b p k st op sts opn W hp hk HSG.out hW
  have HNIL : Hid (∀ r, itemF p.data.toList k sts opn = .ok r → ¬ (r.1.kind = 0 ∨ r.1.kind = 5)) := Lib.hid (fun r hr => by rw [hok] at hr; cases hr)
  have hkk : (k : Int) < (p.size : Int) := by omega
  have hk0 : 0 ≤ (k : Int) := by omega
  have hw1k : IntKind.i64.wrap ((k : Int) + 1) = ((k + 1 : Nat) : Int) := by rw [i64w _ (by omega)]; push_cast; rfl
  have x37 : ((p[k].toNat : Int) == 37) = false := by
    rw [beq_eq_false_iff_ne]; intro e; exact h37 (by rw [get_some p k hk]; exact congrArg some (UInt8.toNat_inj.1 (by simp; omega)))
  clear h37
  clear h40 h41 hok
  go_enter Tryd.func44, Tryd.ntmps44
  go_upto_region 1 with fail
  (try simp only [hw1, hRe])
  have HRE := Lib.hid hRe
  clear hw1 hRe hR1 hr1 hc1 h
  go_upto_region 5 with (go_at_call 43; first | ((with_reducible refine (N40.out _ Hr1.out).mono ?_); rintro e w4 ⟨rfl, h4, hg4⟩) | ((with_reducible refine (N41.out _ h4).mono ?_); rintro e w5 ⟨rfl, h5, hg5⟩))
  have HCA5 : Hid (Ch [b] w1 w5) := Lib.hid ((Ch.of_grown hg4 (by simp)).trans (Ch.of_grown hg5 (by simp)))
  have H5 := Lib.hid h5
  have m0 := h5.c0
  have m1 := h5.c1
  have mf := h5.fz 1
  clear hg4 hg5 h4 h5
  go_quiet (fail)

  go_upto_region 16 with fail
  go_name_world W2 hV
  have HRD2 : Hid (Rd b p k st op W2) := Lib.hid (by rw [← hV]; exact H5.out.drewN _)
  have HCA : Hid (Ch [b] w1 W2) := Lib.hid (by rw [← hV]; exact HCA5.out.drewN _)
  clear hV m0 m1 mf
  have hR2 := HR1.out.ch HCA.out (by simp; omega)
  have HR2 := Lib.hid hR2
  have HC2 : Hid (Ch [b] w W2) := Lib.hid (HC1.out.trans HCA.out)
  have hz3 : R < W2.heap.size := by have := HCA.out.size; omega
  have HS2 := Lib.hid (HH.out.ch HC2.out HRD2.out)
  have HRN : Hid (R ∉ b :: (ob st ++ ob op)) := Lib.hid (by
    have h1 := HRE.out
    intro e
    simp at e
    rcases e with e | e | e
    · omega
    · have := HSL.out R e; omega
    · have := HOL.out R e; omega)
  clear hR2
  go_wp2_with (go_at_call 60; (with_reducible refine (O1.out W2 HS2.out).mono ?_); rintro e w3 hIt; obtain ⟨k0, q, x, y, cc, code, he⟩ := it_nil hIt HNIL.out; subst he; have HIT := Lib.hid hIt; have hR := HR2.out.ch hIt.2 HRN.out; have r0 := hR.cell 0; have r1 := hR.cell 1; have r2 := hR.cell 2; have r3 := hR.cell 3; have r4 := hR.cell 4; have r5 := hR.cell 5; simp [it0] at r0 r1 r2 r3 r4 r5; have f0 := hR.fz 0; have f1 := hR.fz 1; have f2 := hR.fz 2; have f3 := hR.fz 3; have f4 := hR.fz 4; have f5 := hR.fz 5; have HR := Lib.hid hR; clear hIt hR)
  show bodyPost _ _ _ Exit.ret _ (st6 w3 R (.int .i64 k0) (.nilFunc) (.int .u8 q) (.int .u8 x) (.int .u8 y) (.int .i64 cc))
  have hI : Itb R #[.int .i64 k0, .nilFunc, .int .u8 q, .int .u8 x, .int .u8 y, .int .i64 cc] (st6 w3 R (.int .i64 k0) (.nilFunc) (.int .u8 q) (.int .u8 x) (.int .u8 y) (.int .i64 cc)) := st6_it HR.out
  have hS : Ch [R] w3 (st6 w3 R (.int .i64 k0) (.nilFunc) (.int .u8 q) (.int .u8 x) (.int .u8 y) (.int .i64 cc)) := st6_ch
  have d0 := hI.cell 0
  have d1 := hI.cell 1
  have d2 := hI.cell 2
  have d3 := hI.cell 3
  have d4 := hI.cell 4
  have d5 := hI.cell 5
  simp at d0 d1 d2 d3 d4 d5
  generalize (st6 w3 R (.int .i64 k0) (.nilFunc) (.int .u8 q) (.int .u8 x) (.int .u8 y) (.int .i64 cc)) = W9 at *
  refine bodyPost_ret (v := .tuple #[.agg #[.int .i64 k0, .nilFunc, .int .u8 q, .int .u8 x, .int .u8 y, .int .i64 cc], .int .i64 code]) ?_ rfl (HIT.out.lift HSL.out HOL.out HBL.out (Nat.le_of_eq HRE.out) hz3 HC2.out hS)
  simp [results, Tryd.results44, go_sem, d0, d1, d2, d3, d4, d5]

set_option maxHeartbeats 8000000 in
set_option maxRecDepth 100000 in
theorem item_s2_ok (b : Nat) (p : ByteArray) (k : Nat) (st op : Value) (sts opn : List Nat) (w : World) (hp : p.size ≤ 1000000) (hk : k < p.size) (h16 : sts.length ≤ 16) (ho16 : opn.length ≤ sts.length) (hop : ∀ n ∈ opn, n < sts.length) (hbd : ∀ x ∈ sts, x ≤ 2) (h : RdS b p k sts opn st op w) (h40 : ¬ p.data.toList[k]? = some 40) (h41 : ¬ p.data.toList[k]? = some 41) (h37 : p.data.toList[k]? = some 37) (hlast : ¬ k + 1 < p.size) (r : Itm × Nat × List Nat × List Nat) (hok : itemF p.data.toList k sts opn = .ok r) :
    Calls Tryd.prog 44 #[.pointer (some ⟨b, 0, none⟩)] w fun e w' => ItSaid b p (itemF p.data.toList k sts opn) st op w e w' := by
  have hbl := h.rd.lt
  have hR1 : Itb w.heap.size it0 (w.alloc (.cells #[.int .i64 0, .nilFunc, .int .u8 0, .int .u8 0, .int .u8 0, .int .i64 0] 88)) := itb_new w it0 _ rfl
  have hr1 : Rd b p k st op (w.alloc (.cells #[.int .i64 0, .nilFunc, .int .u8 0, .int .u8 0, .int .u8 0, .int .i64 0] 88)) := h.rd.ch ((Ch.refl [] _).alloc _) (by simp)
  have hc1 : Ch [b] w (w.alloc (.cells #[.int .i64 0, .nilFunc, .int .u8 0, .int .u8 0, .int .u8 0, .int .i64 0] 88)) := (Ch.refl [b] w).alloc _
  have hz1 : (w.alloc (.cells #[.int .i64 0, .nilFunc, .int .u8 0, .int .u8 0, .int .u8 0, .int .i64 0] 88)).heap.size = w.heap.size + 1 := by simp
  obtain ⟨w1, hw1⟩ : ∃ w1, w.alloc (.cells #[.int .i64 0, .nilFunc, .int .u8 0, .int .u8 0, .int .u8 0, .int .i64 0] 88) = w1 := ⟨_, rfl⟩
  rw [hw1] at hR1 hr1 hc1 hz1
  obtain ⟨R, hRe⟩ : ∃ R, w.heap.size = R := ⟨_, rfl⟩
  rw [hRe] at hR1 hbl hz1
  have hbR : b ≠ R := by omega
  have HH := Lib.hid h
  have HR1 := Lib.hid hR1
  have Hr1 := Lib.hid hr1
  have HC1 := Lib.hid hc1
  have HSL : Hid (∀ g ∈ ob st, g < w.heap.size) := Lib.hid (fun g hg => own_lt h.s hg)
  have HOL : Hid (∀ g ∈ ob op, g < w.heap.size) := Lib.hid (fun g hg => own_lt h.o hg)
  have HBL : Hid (b < w.heap.size) := Lib.hid h.rd.lt
  have N40 := Lib.hid fun (W : World) (hW : Rd b p k st op W) => by
    have := skip4_lit b p k st op 40 40 rfl W hp (by omega) hW
    rw [if_neg h40, decide_eq_false h40] at this; exact this
  have N41 := Lib.hid fun (W : World) (hW : Rd b p k st op W) => by
    have := skip4_lit b p k st op 41 41 rfl W hp (by omega) hW
    rw [if_neg h41, decide_eq_false h41] at this; exact this
  have HSG : Hid (Sgl p.data.toList k) := Lib.hid (by
    have hno : p.data.toList[k + 1]? = none := List.getElem?_eq_none (by simp; omega)
    exact ⟨h40, h41, (fun e => by rw [hno] at e; cases e.2), (fun e => by rw [hno] at e; cases e.2), (fun e => by rw [hno] at e; obtain ⟨_, c, h2, _⟩ := e; cases h2)⟩)
  have O1 := Lib.hid fun W hW => single_any4 b p k st op sts opn W hp hk HSG.out hW
  have HFUN : Hid (∀ (e : Ending) (W W' : World), ItSaid b p (itemF p.data.toList k sts opn) st op W e W' → ∃ (k0 q x y cc code : Int) (F : FuncId) (fst caps : Array Value), e = .returned (.tuple #[.agg #[.int .i64 k0, .func (.func F) fst caps, .int .u8 q, .int .u8 x, .int .u8 y, .int .i64 cc], .int .i64 code])) := Lib.hid (fun e W W' hI => by rw [hok] at hI; exact it_func hI (Or.inl (kind_s HSG.out hok)))
  have hkk : (k : Int) < (p.size : Int) := by omega
  have hk0 : 0 ≤ (k : Int) := by omega
  have hw1k : IntKind.i64.wrap ((k : Int) + 1) = ((k + 1 : Nat) : Int) := by rw [i64w _ (by omega)]; push_cast; rfl
  obtain ⟨_, hp37⟩ := get_of h37
  have x37 : ((p[k].toNat : Int) == 37) = true := by rw [hp37]; rfl
  clear hp37
  have hkk2 : ¬ (k : Int) + 1 < (p.size : Int) := by omega
  have hkk1 : ¬ ((k + 1 : Nat) : Int) < (p.size : Int) := by omega
  have hkd : decide (k + 1 < p.size) = false := decide_eq_false hlast
  clear h37
  clear h40 h41 hok
  go_enter Tryd.func44, Tryd.ntmps44
  go_upto_region 1 with fail
  (try simp only [hw1, hRe])
  have HRE := Lib.hid hRe
  clear hw1 hRe hR1 hr1 hc1 h
  go_upto_region 5 with (go_at_call 43; first | ((with_reducible refine (N40.out _ Hr1.out).mono ?_); rintro e w4 ⟨rfl, h4, hg4⟩) | ((with_reducible refine (N41.out _ h4).mono ?_); rintro e w5 ⟨rfl, h5, hg5⟩))
  have HCA5 : Hid (Ch [b] w1 w5) := Lib.hid ((Ch.of_grown hg4 (by simp)).trans (Ch.of_grown hg5 (by simp)))
  have H5 := Lib.hid h5
  have m0 := h5.c0
  have m1 := h5.c1
  have mf := h5.fz 1
  clear hg4 hg5 h4 h5
  go_quiet (fail)

  go_upto_region 16 with fail
  go_name_world W2 hV
  have HRD2 : Hid (Rd b p k st op W2) := Lib.hid (by rw [← hV]; exact H5.out.drewN _)
  have HCA : Hid (Ch [b] w1 W2) := Lib.hid (by rw [← hV]; exact HCA5.out.drewN _)
  clear hV m0 m1 mf
  have hR2 := HR1.out.ch HCA.out (by simp; omega)
  have HR2 := Lib.hid hR2
  have HC2 : Hid (Ch [b] w W2) := Lib.hid (HC1.out.trans HCA.out)
  have hz3 : R < W2.heap.size := by have := HCA.out.size; omega
  have HS2 := Lib.hid (HH.out.ch HC2.out HRD2.out)
  have HRN : Hid (R ∉ b :: (ob st ++ ob op)) := Lib.hid (by
    have h1 := HRE.out
    intro e
    simp at e
    rcases e with e | e | e
    · omega
    · have := HSL.out R e; omega
    · have := HOL.out R e; omega)
  clear hR2
  go_wp2_with (go_at_call 60; (with_reducible refine (O1.out W2 HS2.out).mono ?_); rintro e w3 hIt; obtain ⟨k0, q, x, y, cc, code, F, fst, caps, he⟩ := HFUN.out _ _ _ hIt; subst he; have HIT := Lib.hid hIt; have hR := HR2.out.ch hIt.2 HRN.out; have r0 := hR.cell 0; have r1 := hR.cell 1; have r2 := hR.cell 2; have r3 := hR.cell 3; have r4 := hR.cell 4; have r5 := hR.cell 5; simp [it0] at r0 r1 r2 r3 r4 r5; have f0 := hR.fz 0; have f1 := hR.fz 1; have f2 := hR.fz 2; have f3 := hR.fz 3; have f4 := hR.fz 4; have f5 := hR.fz 5; have HR := Lib.hid hR; clear hIt hR)
  show bodyPost _ _ _ Exit.ret _ (st6 w3 R (.int .i64 k0) (.func (.func F) fst caps) (.int .u8 q) (.int .u8 x) (.int .u8 y) (.int .i64 cc))
  have hI : Itb R #[.int .i64 k0, .func (.func F) fst caps, .int .u8 q, .int .u8 x, .int .u8 y, .int .i64 cc] (st6 w3 R (.int .i64 k0) (.func (.func F) fst caps) (.int .u8 q) (.int .u8 x) (.int .u8 y) (.int .i64 cc)) := st6_it HR.out
  have hS : Ch [R] w3 (st6 w3 R (.int .i64 k0) (.func (.func F) fst caps) (.int .u8 q) (.int .u8 x) (.int .u8 y) (.int .i64 cc)) := st6_ch
  have d0 := hI.cell 0
  have d1 := hI.cell 1
  have d2 := hI.cell 2
  have d3 := hI.cell 3
  have d4 := hI.cell 4
  have d5 := hI.cell 5
  simp at d0 d1 d2 d3 d4 d5
  generalize (st6 w3 R (.int .i64 k0) (.func (.func F) fst caps) (.int .u8 q) (.int .u8 x) (.int .u8 y) (.int .i64 cc)) = W9 at *
  refine bodyPost_ret (v := .tuple #[.agg #[.int .i64 k0, .func (.func F) fst caps, .int .u8 q, .int .u8 x, .int .u8 y, .int .i64 cc], .int .i64 code]) ?_ rfl (HIT.out.lift HSL.out HOL.out HBL.out (Nat.le_of_eq HRE.out) hz3 HC2.out hS)
  simp [results, Tryd.results44, go_sem, d0, d1, d2, d3, d4, d5]

set_option maxHeartbeats 8000000 in
set_option maxRecDepth 100000 in
theorem item_s2_er (b : Nat) (p : ByteArray) (k : Nat) (st op : Value) (sts opn : List Nat) (w : World) (hp : p.size ≤ 1000000) (hk : k < p.size) (h16 : sts.length ≤ 16) (ho16 : opn.length ≤ sts.length) (hop : ∀ n ∈ opn, n < sts.length) (hbd : ∀ x ∈ sts, x ≤ 2) (h : RdS b p k sts opn st op w) (h40 : ¬ p.data.toList[k]? = some 40) (h41 : ¬ p.data.toList[k]? = some 41) (h37 : p.data.toList[k]? = some 37) (hlast : ¬ k + 1 < p.size) (er : Nat) (hok : itemF p.data.toList k sts opn = .error er) :
    Calls Tryd.prog 44 #[.pointer (some ⟨b, 0, none⟩)] w fun e w' => ItSaid b p (itemF p.data.toList k sts opn) st op w e w' := by
  have hbl := h.rd.lt
  have hR1 : Itb w.heap.size it0 (w.alloc (.cells #[.int .i64 0, .nilFunc, .int .u8 0, .int .u8 0, .int .u8 0, .int .i64 0] 88)) := itb_new w it0 _ rfl
  have hr1 : Rd b p k st op (w.alloc (.cells #[.int .i64 0, .nilFunc, .int .u8 0, .int .u8 0, .int .u8 0, .int .i64 0] 88)) := h.rd.ch ((Ch.refl [] _).alloc _) (by simp)
  have hc1 : Ch [b] w (w.alloc (.cells #[.int .i64 0, .nilFunc, .int .u8 0, .int .u8 0, .int .u8 0, .int .i64 0] 88)) := (Ch.refl [b] w).alloc _
  have hz1 : (w.alloc (.cells #[.int .i64 0, .nilFunc, .int .u8 0, .int .u8 0, .int .u8 0, .int .i64 0] 88)).heap.size = w.heap.size + 1 := by simp
  obtain ⟨w1, hw1⟩ : ∃ w1, w.alloc (.cells #[.int .i64 0, .nilFunc, .int .u8 0, .int .u8 0, .int .u8 0, .int .i64 0] 88) = w1 := ⟨_, rfl⟩
  rw [hw1] at hR1 hr1 hc1 hz1
  obtain ⟨R, hRe⟩ : ∃ R, w.heap.size = R := ⟨_, rfl⟩
  rw [hRe] at hR1 hbl hz1
  have hbR : b ≠ R := by omega
  have HH := Lib.hid h
  have HR1 := Lib.hid hR1
  have Hr1 := Lib.hid hr1
  have HC1 := Lib.hid hc1
  have HSL : Hid (∀ g ∈ ob st, g < w.heap.size) := Lib.hid (fun g hg => own_lt h.s hg)
  have HOL : Hid (∀ g ∈ ob op, g < w.heap.size) := Lib.hid (fun g hg => own_lt h.o hg)
  have HBL : Hid (b < w.heap.size) := Lib.hid h.rd.lt
  have N40 := Lib.hid fun (W : World) (hW : Rd b p k st op W) => by
    have := skip4_lit b p k st op 40 40 rfl W hp (by omega) hW
    rw [if_neg h40, decide_eq_false h40] at this; exact this
  have N41 := Lib.hid fun (W : World) (hW : Rd b p k st op W) => by
    have := skip4_lit b p k st op 41 41 rfl W hp (by omega) hW
    rw [if_neg h41, decide_eq_false h41] at this; exact this
  have HSG : Hid (Sgl p.data.toList k) := Lib.hid (by
    have hno : p.data.toList[k + 1]? = none := List.getElem?_eq_none (by simp; omega)
    exact ⟨h40, h41, (fun e => by rw [hno] at e; cases e.2), (fun e => by rw [hno] at e; cases e.2), (fun e => by rw [hno] at e; obtain ⟨_, c, h2, _⟩ := e; cases h2)⟩)
  have O1 := Lib.hid fun W hW => single_any4 b p k st op sts opn W hp hk HSG.out hW
  have HNIL : Hid (∀ r, itemF p.data.toList k sts opn = .ok r → ¬ (r.1.kind = 0 ∨ r.1.kind = 5)) := Lib.hid (fun r hr => by rw [hok] at hr; cases hr)
  have hkk : (k : Int) < (p.size : Int) := by omega
  have hk0 : 0 ≤ (k : Int) := by omega
  have hw1k : IntKind.i64.wrap ((k : Int) + 1) = ((k + 1 : Nat) : Int) := by rw [i64w _ (by omega)]; push_cast; rfl
  obtain ⟨_, hp37⟩ := get_of h37
  have x37 : ((p[k].toNat : Int) == 37) = true := by rw [hp37]; rfl
  clear hp37
  have hkk2 : ¬ (k : Int) + 1 < (p.size : Int) := by omega
  have hkk1 : ¬ ((k + 1 : Nat) : Int) < (p.size : Int) := by omega
  have hkd : decide (k + 1 < p.size) = false := decide_eq_false hlast
  clear h37
  clear h40 h41 hok
  go_enter Tryd.func44, Tryd.ntmps44
  go_upto_region 1 with fail
  (try simp only [hw1, hRe])
  have HRE := Lib.hid hRe
  clear hw1 hRe hR1 hr1 hc1 h
  go_upto_region 5 with (go_at_call 43; first | ((with_reducible refine (N40.out _ Hr1.out).mono ?_); rintro e w4 ⟨rfl, h4, hg4⟩) | ((with_reducible refine (N41.out _ h4).mono ?_); rintro e w5 ⟨rfl, h5, hg5⟩))
  have HCA5 : Hid (Ch [b] w1 w5) := Lib.hid ((Ch.of_grown hg4 (by simp)).trans (Ch.of_grown hg5 (by simp)))
  have H5 := Lib.hid h5
  have m0 := h5.c0
  have m1 := h5.c1
  have mf := h5.fz 1
  clear hg4 hg5 h4 h5
  go_quiet (fail)

  go_upto_region 16 with fail
  go_name_world W2 hV
  have HRD2 : Hid (Rd b p k st op W2) := Lib.hid (by rw [← hV]; exact H5.out.drewN _)
  have HCA : Hid (Ch [b] w1 W2) := Lib.hid (by rw [← hV]; exact HCA5.out.drewN _)
  clear hV m0 m1 mf
  have hR2 := HR1.out.ch HCA.out (by simp; omega)
  have HR2 := Lib.hid hR2
  have HC2 : Hid (Ch [b] w W2) := Lib.hid (HC1.out.trans HCA.out)
  have hz3 : R < W2.heap.size := by have := HCA.out.size; omega
  have HS2 := Lib.hid (HH.out.ch HC2.out HRD2.out)
  have HRN : Hid (R ∉ b :: (ob st ++ ob op)) := Lib.hid (by
    have h1 := HRE.out
    intro e
    simp at e
    rcases e with e | e | e
    · omega
    · have := HSL.out R e; omega
    · have := HOL.out R e; omega)
  clear hR2
  go_wp2_with (go_at_call 60; (with_reducible refine (O1.out W2 HS2.out).mono ?_); rintro e w3 hIt; obtain ⟨k0, q, x, y, cc, code, he⟩ := it_nil hIt HNIL.out; subst he; have HIT := Lib.hid hIt; have hR := HR2.out.ch hIt.2 HRN.out; have r0 := hR.cell 0; have r1 := hR.cell 1; have r2 := hR.cell 2; have r3 := hR.cell 3; have r4 := hR.cell 4; have r5 := hR.cell 5; simp [it0] at r0 r1 r2 r3 r4 r5; have f0 := hR.fz 0; have f1 := hR.fz 1; have f2 := hR.fz 2; have f3 := hR.fz 3; have f4 := hR.fz 4; have f5 := hR.fz 5; have HR := Lib.hid hR; clear hIt hR)
  show bodyPost _ _ _ Exit.ret _ (st6 w3 R (.int .i64 k0) (.nilFunc) (.int .u8 q) (.int .u8 x) (.int .u8 y) (.int .i64 cc))
  have hI : Itb R #[.int .i64 k0, .nilFunc, .int .u8 q, .int .u8 x, .int .u8 y, .int .i64 cc] (st6 w3 R (.int .i64 k0) (.nilFunc) (.int .u8 q) (.int .u8 x) (.int .u8 y) (.int .i64 cc)) := st6_it HR.out
  have hS : Ch [R] w3 (st6 w3 R (.int .i64 k0) (.nilFunc) (.int .u8 q) (.int .u8 x) (.int .u8 y) (.int .i64 cc)) := st6_ch
  have d0 := hI.cell 0
  have d1 := hI.cell 1
  have d2 := hI.cell 2
  have d3 := hI.cell 3
  have d4 := hI.cell 4
  have d5 := hI.cell 5
  simp at d0 d1 d2 d3 d4 d5
  generalize (st6 w3 R (.int .i64 k0) (.nilFunc) (.int .u8 q) (.int .u8 x) (.int .u8 y) (.int .i64 cc)) = W9 at *
  refine bodyPost_ret (v := .tuple #[.agg #[.int .i64 k0, .nilFunc, .int .u8 q, .int .u8 x, .int .u8 y, .int .i64 cc], .int .i64 code]) ?_ rfl (HIT.out.lift HSL.out HOL.out HBL.out (Nat.le_of_eq HRE.out) hz3 HC2.out hS)
  simp [results, Tryd.results44, go_sem, d0, d1, d2, d3, d4, d5]

set_option maxHeartbeats 8000000 in
set_option maxRecDepth 100000 in
theorem item_s3l_ok (b : Nat) (p : ByteArray) (k : Nat) (st op : Value) (sts opn : List Nat) (w : World) (hp : p.size ≤ 1000000) (hk : k < p.size) (h16 : sts.length ≤ 16) (ho16 : opn.length ≤ sts.length) (hop : ∀ n ∈ opn, n < sts.length) (hbd : ∀ x ∈ sts, x ≤ 2) (h : RdS b p k sts opn st op w) (h40 : ¬ p.data.toList[k]? = some 40) (h41 : ¬ p.data.toList[k]? = some 41) (h37 : p.data.toList[k]? = some 37) (c : UInt8) (n98 : c ≠ 98) (n102 : c ≠ 102) (hnd : ¬ (49 ≤ c.toNat ∧ c.toNat ≤ 57)) (hc : p.data.toList[k + 1]? = some c) (hlo : c.toNat < 49) (r : Itm × Nat × List Nat × List Nat) (hok : itemF p.data.toList k sts opn = .ok r) :
    Calls Tryd.prog 44 #[.pointer (some ⟨b, 0, none⟩)] w fun e w' => ItSaid b p (itemF p.data.toList k sts opn) st op w e w' := by
  have hbl := h.rd.lt
  have hR1 : Itb w.heap.size it0 (w.alloc (.cells #[.int .i64 0, .nilFunc, .int .u8 0, .int .u8 0, .int .u8 0, .int .i64 0] 88)) := itb_new w it0 _ rfl
  have hr1 : Rd b p k st op (w.alloc (.cells #[.int .i64 0, .nilFunc, .int .u8 0, .int .u8 0, .int .u8 0, .int .i64 0] 88)) := h.rd.ch ((Ch.refl [] _).alloc _) (by simp)
  have hc1 : Ch [b] w (w.alloc (.cells #[.int .i64 0, .nilFunc, .int .u8 0, .int .u8 0, .int .u8 0, .int .i64 0] 88)) := (Ch.refl [b] w).alloc _
  have hz1 : (w.alloc (.cells #[.int .i64 0, .nilFunc, .int .u8 0, .int .u8 0, .int .u8 0, .int .i64 0] 88)).heap.size = w.heap.size + 1 := by simp
  obtain ⟨w1, hw1⟩ : ∃ w1, w.alloc (.cells #[.int .i64 0, .nilFunc, .int .u8 0, .int .u8 0, .int .u8 0, .int .i64 0] 88) = w1 := ⟨_, rfl⟩
  rw [hw1] at hR1 hr1 hc1 hz1
  obtain ⟨R, hRe⟩ : ∃ R, w.heap.size = R := ⟨_, rfl⟩
  rw [hRe] at hR1 hbl hz1
  have hbR : b ≠ R := by omega
  have HH := Lib.hid h
  have HR1 := Lib.hid hR1
  have Hr1 := Lib.hid hr1
  have HC1 := Lib.hid hc1
  have HSL : Hid (∀ g ∈ ob st, g < w.heap.size) := Lib.hid (fun g hg => own_lt h.s hg)
  have HOL : Hid (∀ g ∈ ob op, g < w.heap.size) := Lib.hid (fun g hg => own_lt h.o hg)
  have HBL : Hid (b < w.heap.size) := Lib.hid h.rd.lt
  have N40 := Lib.hid fun (W : World) (hW : Rd b p k st op W) => by
    have := skip4_lit b p k st op 40 40 rfl W hp (by omega) hW
    rw [if_neg h40, decide_eq_false h40] at this; exact this
  have N41 := Lib.hid fun (W : World) (hW : Rd b p k st op W) => by
    have := skip4_lit b p k st op 41 41 rfl W hp (by omega) hW
    rw [if_neg h41, decide_eq_false h41] at this; exact this
  have HSG : Hid (Sgl p.data.toList k) := Lib.hid ⟨h40, h41, (fun e => n98 (by have := e.2; rw [hc] at this; exact Option.some.inj this)), (fun e => n102 (by have := e.2; rw [hc] at this; exact Option.some.inj this)), (fun e => by obtain ⟨_, d, h2, h3⟩ := e; rw [hc] at h2; cases h2; exact hnd h3)⟩
  have O1 := Lib.hid fun W hW => single_any4 b p k st op sts opn W hp hk HSG.out hW
  have HFUN : Hid (∀ (e : Ending) (W W' : World), ItSaid b p (itemF p.data.toList k sts opn) st op W e W' → ∃ (k0 q x y cc code : Int) (F : FuncId) (fst caps : Array Value), e = .returned (.tuple #[.agg #[.int .i64 k0, .func (.func F) fst caps, .int .u8 q, .int .u8 x, .int .u8 y, .int .i64 cc], .int .i64 code])) := Lib.hid (fun e W W' hI => by rw [hok] at hI; exact it_func hI (Or.inl (kind_s HSG.out hok)))
  have hkk : (k : Int) < (p.size : Int) := by omega
  have hk0 : 0 ≤ (k : Int) := by omega
  have hw1k : IntKind.i64.wrap ((k : Int) + 1) = ((k + 1 : Nat) : Int) := by rw [i64w _ (by omega)]; push_cast; rfl
  obtain ⟨_, hp37⟩ := get_of h37
  have x37 : ((p[k].toNat : Int) == 37) = true := by rw [hp37]; rfl
  clear hp37
  obtain ⟨hk1, hpc⟩ := get_of hc
  have hck : (p[k + 1].toNat : Int) = (c.toNat : Int) := by rw [hpc]
  have hkk1 : ((k + 1 : Nat) : Int) < (p.size : Int) := by omega
  have hkk2 : (k : Int) + 1 < (p.size : Int) := by omega
  have hk10 : 0 ≤ ((k + 1 : Nat) : Int) := by omega
  have hkd : decide (k + 1 < p.size) = true := decide_eq_true hk1
  clear hpc
  have y1 : ((c.toNat : Int) == 98) = false := ne4 c 98 (by decide) n98
  have y2 : ((c.toNat : Int) == 102) = false := ne4 c 102 (by decide) n102
  have HND : Hid (¬ (49 ≤ c.toNat ∧ c.toNat ≤ 57)) := Lib.hid hnd
  have y3 : ¬ (49 : Int) ≤ (c.toNat : Int) := by omega
  have y3n : decide (49 ≤ c.toNat) = false := decide_eq_false (by omega)
  clear h37 hc n98 n102 hnd
  clear h40 h41 hok
  go_enter Tryd.func44, Tryd.ntmps44
  go_upto_region 1 with fail
  (try simp only [hw1, hRe])
  have HRE := Lib.hid hRe
  clear hw1 hRe hR1 hr1 hc1 h
  go_upto_region 5 with (go_at_call 43; first | ((with_reducible refine (N40.out _ Hr1.out).mono ?_); rintro e w4 ⟨rfl, h4, hg4⟩) | ((with_reducible refine (N41.out _ h4).mono ?_); rintro e w5 ⟨rfl, h5, hg5⟩))
  have HCA5 : Hid (Ch [b] w1 w5) := Lib.hid ((Ch.of_grown hg4 (by simp)).trans (Ch.of_grown hg5 (by simp)))
  have H5 := Lib.hid h5
  have m0 := h5.c0
  have m1 := h5.c1
  have mf := h5.fz 1
  clear hg4 hg5 h4 h5
  go_quiet (fail)
  go_upto_region 6 with fail
  go_quiet (fail)
  go_upto_region 16 with fail
  go_name_world W2 hV
  have HRD2 : Hid (Rd b p k st op W2) := Lib.hid (by rw [← hV]; exact H5.out.drewN _)
  have HCA : Hid (Ch [b] w1 W2) := Lib.hid (by rw [← hV]; exact HCA5.out.drewN _)
  clear hV m0 m1 mf
  have hR2 := HR1.out.ch HCA.out (by simp; omega)
  have HR2 := Lib.hid hR2
  have HC2 : Hid (Ch [b] w W2) := Lib.hid (HC1.out.trans HCA.out)
  have hz3 : R < W2.heap.size := by have := HCA.out.size; omega
  have HS2 := Lib.hid (HH.out.ch HC2.out HRD2.out)
  have HRN : Hid (R ∉ b :: (ob st ++ ob op)) := Lib.hid (by
    have h1 := HRE.out
    intro e
    simp at e
    rcases e with e | e | e
    · omega
    · have := HSL.out R e; omega
    · have := HOL.out R e; omega)
  clear hR2
  go_wp2_with (go_at_call 60; (with_reducible refine (O1.out W2 HS2.out).mono ?_); rintro e w3 hIt; obtain ⟨k0, q, x, y, cc, code, F, fst, caps, he⟩ := HFUN.out _ _ _ hIt; subst he; have HIT := Lib.hid hIt; have hR := HR2.out.ch hIt.2 HRN.out; have r0 := hR.cell 0; have r1 := hR.cell 1; have r2 := hR.cell 2; have r3 := hR.cell 3; have r4 := hR.cell 4; have r5 := hR.cell 5; simp [it0] at r0 r1 r2 r3 r4 r5; have f0 := hR.fz 0; have f1 := hR.fz 1; have f2 := hR.fz 2; have f3 := hR.fz 3; have f4 := hR.fz 4; have f5 := hR.fz 5; have HR := Lib.hid hR; clear hIt hR)
  show bodyPost _ _ _ Exit.ret _ (st6 w3 R (.int .i64 k0) (.func (.func F) fst caps) (.int .u8 q) (.int .u8 x) (.int .u8 y) (.int .i64 cc))
  have hI : Itb R #[.int .i64 k0, .func (.func F) fst caps, .int .u8 q, .int .u8 x, .int .u8 y, .int .i64 cc] (st6 w3 R (.int .i64 k0) (.func (.func F) fst caps) (.int .u8 q) (.int .u8 x) (.int .u8 y) (.int .i64 cc)) := st6_it HR.out
  have hS : Ch [R] w3 (st6 w3 R (.int .i64 k0) (.func (.func F) fst caps) (.int .u8 q) (.int .u8 x) (.int .u8 y) (.int .i64 cc)) := st6_ch
  have d0 := hI.cell 0
  have d1 := hI.cell 1
  have d2 := hI.cell 2
  have d3 := hI.cell 3
  have d4 := hI.cell 4
  have d5 := hI.cell 5
  simp at d0 d1 d2 d3 d4 d5
  generalize (st6 w3 R (.int .i64 k0) (.func (.func F) fst caps) (.int .u8 q) (.int .u8 x) (.int .u8 y) (.int .i64 cc)) = W9 at *
  refine bodyPost_ret (v := .tuple #[.agg #[.int .i64 k0, .func (.func F) fst caps, .int .u8 q, .int .u8 x, .int .u8 y, .int .i64 cc], .int .i64 code]) ?_ rfl (HIT.out.lift HSL.out HOL.out HBL.out (Nat.le_of_eq HRE.out) hz3 HC2.out hS)
  simp [results, Tryd.results44, go_sem, d0, d1, d2, d3, d4, d5]

set_option maxHeartbeats 8000000 in
set_option maxRecDepth 100000 in
theorem item_s3l_er (b : Nat) (p : ByteArray) (k : Nat) (st op : Value) (sts opn : List Nat) (w : World) (hp : p.size ≤ 1000000) (hk : k < p.size) (h16 : sts.length ≤ 16) (ho16 : opn.length ≤ sts.length) (hop : ∀ n ∈ opn, n < sts.length) (hbd : ∀ x ∈ sts, x ≤ 2) (h : RdS b p k sts opn st op w) (h40 : ¬ p.data.toList[k]? = some 40) (h41 : ¬ p.data.toList[k]? = some 41) (h37 : p.data.toList[k]? = some 37) (c : UInt8) (n98 : c ≠ 98) (n102 : c ≠ 102) (hnd : ¬ (49 ≤ c.toNat ∧ c.toNat ≤ 57)) (hc : p.data.toList[k + 1]? = some c) (hlo : c.toNat < 49) (er : Nat) (hok : itemF p.data.toList k sts opn = .error er) :
    Calls Tryd.prog 44 #[.pointer (some ⟨b, 0, none⟩)] w fun e w' => ItSaid b p (itemF p.data.toList k sts opn) st op w e w' := by
  have hbl := h.rd.lt
  have hR1 : Itb w.heap.size it0 (w.alloc (.cells #[.int .i64 0, .nilFunc, .int .u8 0, .int .u8 0, .int .u8 0, .int .i64 0] 88)) := itb_new w it0 _ rfl
  have hr1 : Rd b p k st op (w.alloc (.cells #[.int .i64 0, .nilFunc, .int .u8 0, .int .u8 0, .int .u8 0, .int .i64 0] 88)) := h.rd.ch ((Ch.refl [] _).alloc _) (by simp)
  have hc1 : Ch [b] w (w.alloc (.cells #[.int .i64 0, .nilFunc, .int .u8 0, .int .u8 0, .int .u8 0, .int .i64 0] 88)) := (Ch.refl [b] w).alloc _
  have hz1 : (w.alloc (.cells #[.int .i64 0, .nilFunc, .int .u8 0, .int .u8 0, .int .u8 0, .int .i64 0] 88)).heap.size = w.heap.size + 1 := by simp
  obtain ⟨w1, hw1⟩ : ∃ w1, w.alloc (.cells #[.int .i64 0, .nilFunc, .int .u8 0, .int .u8 0, .int .u8 0, .int .i64 0] 88) = w1 := ⟨_, rfl⟩
  rw [hw1] at hR1 hr1 hc1 hz1
  obtain ⟨R, hRe⟩ : ∃ R, w.heap.size = R := ⟨_, rfl⟩
  rw [hRe] at hR1 hbl hz1
  have hbR : b ≠ R := by omega
  have HH := Lib.hid h
  have HR1 := Lib.hid hR1
  have Hr1 := Lib.hid hr1
  have HC1 := Lib.hid hc1
  have HSL : Hid (∀ g ∈ ob st, g < w.heap.size) := Lib.hid (fun g hg => own_lt h.s hg)
  have HOL : Hid (∀ g ∈ ob op, g < w.heap.size) := Lib.hid (fun g hg => own_lt h.o hg)
  have HBL : Hid (b < w.heap.size) := Lib.hid h.rd.lt
  have N40 := Lib.hid fun (W : World) (hW : Rd b p k st op W) => by
    have := skip4_lit b p k st op 40 40 rfl W hp (by omega) hW
    rw [if_neg h40, decide_eq_false h40] at this; exact this
  have N41 := Lib.hid fun (W : World) (hW : Rd b p k st op W) => by
    have := skip4_lit b p k st op 41 41 rfl W hp (by omega) hW
    rw [if_neg h41, decide_eq_false h41] at this; exact this
  have HSG : Hid (Sgl p.data.toList k) := Lib.hid ⟨h40, h41, (fun e => n98 (by have := e.2; rw [hc] at this; exact Option.some.inj this)), (fun e => n102 (by have := e.2; rw [hc] at this; exact Option.some.inj this)), (fun e => by obtain ⟨_, d, h2, h3⟩ := e; rw [hc] at h2; cases h2; exact hnd h3)⟩
  have O1 := Lib.hid fun W hW => single_any4 b p k st op sts opn W hp hk HSG.out hW
  have HNIL : Hid (∀ r, itemF p.data.toList k sts opn = .ok r → ¬ (r.1.kind = 0 ∨ r.1.kind = 5)) := Lib.hid (fun r hr => by rw [hok] at hr; cases hr)
  have hkk : (k : Int) < (p.size : Int) := by omega
  have hk0 : 0 ≤ (k : Int) := by omega
  have hw1k : IntKind.i64.wrap ((k : Int) + 1) = ((k + 1 : Nat) : Int) := by rw [i64w _ (by omega)]; push_cast; rfl
  obtain ⟨_, hp37⟩ := get_of h37
  have x37 : ((p[k].toNat : Int) == 37) = true := by rw [hp37]; rfl
  clear hp37
  obtain ⟨hk1, hpc⟩ := get_of hc
  have hck : (p[k + 1].toNat : Int) = (c.toNat : Int) := by rw [hpc]
  have hkk1 : ((k + 1 : Nat) : Int) < (p.size : Int) := by omega
  have hkk2 : (k : Int) + 1 < (p.size : Int) := by omega
  have hk10 : 0 ≤ ((k + 1 : Nat) : Int) := by omega
  have hkd : decide (k + 1 < p.size) = true := decide_eq_true hk1
  clear hpc
  have y1 : ((c.toNat : Int) == 98) = false := ne4 c 98 (by decide) n98
  have y2 : ((c.toNat : Int) == 102) = false := ne4 c 102 (by decide) n102
  have HND : Hid (¬ (49 ≤ c.toNat ∧ c.toNat ≤ 57)) := Lib.hid hnd
  have y3 : ¬ (49 : Int) ≤ (c.toNat : Int) := by omega
  have y3n : decide (49 ≤ c.toNat) = false := decide_eq_false (by omega)
  clear h37 hc n98 n102 hnd
  clear h40 h41 hok
  go_enter Tryd.func44, Tryd.ntmps44
  go_upto_region 1 with fail
  (try simp only [hw1, hRe])
  have HRE := Lib.hid hRe
  clear hw1 hRe hR1 hr1 hc1 h
  go_upto_region 5 with (go_at_call 43; first | ((with_reducible refine (N40.out _ Hr1.out).mono ?_); rintro e w4 ⟨rfl, h4, hg4⟩) | ((with_reducible refine (N41.out _ h4).mono ?_); rintro e w5 ⟨rfl, h5, hg5⟩))
  have HCA5 : Hid (Ch [b] w1 w5) := Lib.hid ((Ch.of_grown hg4 (by simp)).trans (Ch.of_grown hg5 (by simp)))
  have H5 := Lib.hid h5
  have m0 := h5.c0
  have m1 := h5.c1
  have mf := h5.fz 1
  clear hg4 hg5 h4 h5
  go_quiet (fail)
  go_upto_region 6 with fail
  go_quiet (fail)
  go_upto_region 16 with fail
  go_name_world W2 hV
  have HRD2 : Hid (Rd b p k st op W2) := Lib.hid (by rw [← hV]; exact H5.out.drewN _)
  have HCA : Hid (Ch [b] w1 W2) := Lib.hid (by rw [← hV]; exact HCA5.out.drewN _)
  clear hV m0 m1 mf
  have hR2 := HR1.out.ch HCA.out (by simp; omega)
  have HR2 := Lib.hid hR2
  have HC2 : Hid (Ch [b] w W2) := Lib.hid (HC1.out.trans HCA.out)
  have hz3 : R < W2.heap.size := by have := HCA.out.size; omega
  have HS2 := Lib.hid (HH.out.ch HC2.out HRD2.out)
  have HRN : Hid (R ∉ b :: (ob st ++ ob op)) := Lib.hid (by
    have h1 := HRE.out
    intro e
    simp at e
    rcases e with e | e | e
    · omega
    · have := HSL.out R e; omega
    · have := HOL.out R e; omega)
  clear hR2
  go_wp2_with (go_at_call 60; (with_reducible refine (O1.out W2 HS2.out).mono ?_); rintro e w3 hIt; obtain ⟨k0, q, x, y, cc, code, he⟩ := it_nil hIt HNIL.out; subst he; have HIT := Lib.hid hIt; have hR := HR2.out.ch hIt.2 HRN.out; have r0 := hR.cell 0; have r1 := hR.cell 1; have r2 := hR.cell 2; have r3 := hR.cell 3; have r4 := hR.cell 4; have r5 := hR.cell 5; simp [it0] at r0 r1 r2 r3 r4 r5; have f0 := hR.fz 0; have f1 := hR.fz 1; have f2 := hR.fz 2; have f3 := hR.fz 3; have f4 := hR.fz 4; have f5 := hR.fz 5; have HR := Lib.hid hR; clear hIt hR)
  show bodyPost _ _ _ Exit.ret _ (st6 w3 R (.int .i64 k0) (.nilFunc) (.int .u8 q) (.int .u8 x) (.int .u8 y) (.int .i64 cc))
  have hI : Itb R #[.int .i64 k0, .nilFunc, .int .u8 q, .int .u8 x, .int .u8 y, .int .i64 cc] (st6 w3 R (.int .i64 k0) (.nilFunc) (.int .u8 q) (.int .u8 x) (.int .u8 y) (.int .i64 cc)) := st6_it HR.out
  have hS : Ch [R] w3 (st6 w3 R (.int .i64 k0) (.nilFunc) (.int .u8 q) (.int .u8 x) (.int .u8 y) (.int .i64 cc)) := st6_ch
  have d0 := hI.cell 0
  have d1 := hI.cell 1
  have d2 := hI.cell 2
  have d3 := hI.cell 3
  have d4 := hI.cell 4
  have d5 := hI.cell 5
  simp at d0 d1 d2 d3 d4 d5
  generalize (st6 w3 R (.int .i64 k0) (.nilFunc) (.int .u8 q) (.int .u8 x) (.int .u8 y) (.int .i64 cc)) = W9 at *
  refine bodyPost_ret (v := .tuple #[.agg #[.int .i64 k0, .nilFunc, .int .u8 q, .int .u8 x, .int .u8 y, .int .i64 cc], .int .i64 code]) ?_ rfl (HIT.out.lift HSL.out HOL.out HBL.out (Nat.le_of_eq HRE.out) hz3 HC2.out hS)
  simp [results, Tryd.results44, go_sem, d0, d1, d2, d3, d4, d5]

set_option maxHeartbeats 8000000 in
set_option maxRecDepth 100000 in
theorem item_s3h_ok (b : Nat) (p : ByteArray) (k : Nat) (st op : Value) (sts opn : List Nat) (w : World) (hp : p.size ≤ 1000000) (hk : k < p.size) (h16 : sts.length ≤ 16) (ho16 : opn.length ≤ sts.length) (hop : ∀ n ∈ opn, n < sts.length) (hbd : ∀ x ∈ sts, x ≤ 2) (h : RdS b p k sts opn st op w) (h40 : ¬ p.data.toList[k]? = some 40) (h41 : ¬ p.data.toList[k]? = some 41) (h37 : p.data.toList[k]? = some 37) (c : UInt8) (n98 : c ≠ 98) (n102 : c ≠ 102) (hnd : ¬ (49 ≤ c.toNat ∧ c.toNat ≤ 57)) (hc : p.data.toList[k + 1]? = some c) (hlo : 49 ≤ c.toNat) (r : Itm × Nat × List Nat × List Nat) (hok : itemF p.data.toList k sts opn = .ok r) :
    Calls Tryd.prog 44 #[.pointer (some ⟨b, 0, none⟩)] w fun e w' => ItSaid b p (itemF p.data.toList k sts opn) st op w e w' := by
  have hbl := h.rd.lt
  have hR1 : Itb w.heap.size it0 (w.alloc (.cells #[.int .i64 0, .nilFunc, .int .u8 0, .int .u8 0, .int .u8 0, .int .i64 0] 88)) := itb_new w it0 _ rfl
  have hr1 : Rd b p k st op (w.alloc (.cells #[.int .i64 0, .nilFunc, .int .u8 0, .int .u8 0, .int .u8 0, .int .i64 0] 88)) := h.rd.ch ((Ch.refl [] _).alloc _) (by simp)
  have hc1 : Ch [b] w (w.alloc (.cells #[.int .i64 0, .nilFunc, .int .u8 0, .int .u8 0, .int .u8 0, .int .i64 0] 88)) := (Ch.refl [b] w).alloc _
  have hz1 : (w.alloc (.cells #[.int .i64 0, .nilFunc, .int .u8 0, .int .u8 0, .int .u8 0, .int .i64 0] 88)).heap.size = w.heap.size + 1 := by simp
  obtain ⟨w1, hw1⟩ : ∃ w1, w.alloc (.cells #[.int .i64 0, .nilFunc, .int .u8 0, .int .u8 0, .int .u8 0, .int .i64 0] 88) = w1 := ⟨_, rfl⟩
  rw [hw1] at hR1 hr1 hc1 hz1
  obtain ⟨R, hRe⟩ : ∃ R, w.heap.size = R := ⟨_, rfl⟩
  rw [hRe] at hR1 hbl hz1
  have hbR : b ≠ R := by omega
  have HH := Lib.hid h
  have HR1 := Lib.hid hR1
  have Hr1 := Lib.hid hr1
  have HC1 := Lib.hid hc1
  have HSL : Hid (∀ g ∈ ob st, g < w.heap.size) := Lib.hid (fun g hg => own_lt h.s hg)
  have HOL : Hid (∀ g ∈ ob op, g < w.heap.size) := Lib.hid (fun g hg => own_lt h.o hg)
  have HBL : Hid (b < w.heap.size) := Lib.hid h.rd.lt
  have N40 := Lib.hid fun (W : World) (hW : Rd b p k st op W) => by
    have := skip4_lit b p k st op 40 40 rfl W hp (by omega) hW
    rw [if_neg h40, decide_eq_false h40] at this; exact this
  have N41 := Lib.hid fun (W : World) (hW : Rd b p k st op W) => by
    have := skip4_lit b p k st op 41 41 rfl W hp (by omega) hW
    rw [if_neg h41, decide_eq_false h41] at this; exact this
  have HSG : Hid (Sgl p.data.toList k) := Lib.hid ⟨h40, h41, (fun e => n98 (by have := e.2; rw [hc] at this; exact Option.some.inj this)), (fun e => n102 (by have := e.2; rw [hc] at this; exact Option.some.inj this)), (fun e => by obtain ⟨_, d, h2, h3⟩ := e; rw [hc] at h2; cases h2; exact hnd h3)⟩
  have O1 := Lib.hid fun W hW => single_any4 b p k st op sts opn W hp hk HSG.out hW
  have HFUN : Hid (∀ (e : Ending) (W W' : World), ItSaid b p (itemF p.data.toList k sts opn) st op W e W' → ∃ (k0 q x y cc code : Int) (F : FuncId) (fst caps : Array Value), e = .returned (.tuple #[.agg #[.int .i64 k0, .func (.func F) fst caps, .int .u8 q, .int .u8 x, .int .u8 y, .int .i64 cc], .int .i64 code])) := Lib.hid (fun e W W' hI => by rw [hok] at hI; exact it_func hI (Or.inl (kind_s HSG.out hok)))
  have hkk : (k : Int) < (p.size : Int) := by omega
  have hk0 : 0 ≤ (k : Int) := by omega
  have hw1k : IntKind.i64.wrap ((k : Int) + 1) = ((k + 1 : Nat) : Int) := by rw [i64w _ (by omega)]; push_cast; rfl
  obtain ⟨_, hp37⟩ := get_of h37
  have x37 : ((p[k].toNat : Int) == 37) = true := by rw [hp37]; rfl
  clear hp37
  obtain ⟨hk1, hpc⟩ := get_of hc
  have hck : (p[k + 1].toNat : Int) = (c.toNat : Int) := by rw [hpc]
  have hkk1 : ((k + 1 : Nat) : Int) < (p.size : Int) := by omega
  have hkk2 : (k : Int) + 1 < (p.size : Int) := by omega
  have hk10 : 0 ≤ ((k + 1 : Nat) : Int) := by omega
  have hkd : decide (k + 1 < p.size) = true := decide_eq_true hk1
  clear hpc
  have y1 : ((c.toNat : Int) == 98) = false := ne4 c 98 (by decide) n98
  have y2 : ((c.toNat : Int) == 102) = false := ne4 c 102 (by decide) n102
  have HND : Hid (¬ (49 ≤ c.toNat ∧ c.toNat ≤ 57)) := Lib.hid hnd
  have y3 : (49 : Int) ≤ (c.toNat : Int) := by omega
  have y3n : decide (49 ≤ c.toNat) = true := decide_eq_true (by omega)
  have y4 : ¬ (c.toNat : Int) ≤ 57 := by omega
  clear h37 hc n98 n102 hnd
  clear h40 h41 hok
  go_enter Tryd.func44, Tryd.ntmps44
  go_upto_region 1 with fail
  (try simp only [hw1, hRe])
  have HRE := Lib.hid hRe
  clear hw1 hRe hR1 hr1 hc1 h
  go_upto_region 5 with (go_at_call 43; first | ((with_reducible refine (N40.out _ Hr1.out).mono ?_); rintro e w4 ⟨rfl, h4, hg4⟩) | ((with_reducible refine (N41.out _ h4).mono ?_); rintro e w5 ⟨rfl, h5, hg5⟩))
  have HCA5 : Hid (Ch [b] w1 w5) := Lib.hid ((Ch.of_grown hg4 (by simp)).trans (Ch.of_grown hg5 (by simp)))
  have H5 := Lib.hid h5
  have m0 := h5.c0
  have m1 := h5.c1
  have mf := h5.fz 1
  clear hg4 hg5 h4 h5
  go_quiet (fail)
  go_upto_region 6 with fail
  go_quiet (fail)
  go_upto_region 16 with fail
  go_name_world W2 hV
  have HRD2 : Hid (Rd b p k st op W2) := Lib.hid (by rw [← hV]; exact H5.out.drewN _)
  have HCA : Hid (Ch [b] w1 W2) := Lib.hid (by rw [← hV]; exact HCA5.out.drewN _)
  clear hV m0 m1 mf
  have hR2 := HR1.out.ch HCA.out (by simp; omega)
  have HR2 := Lib.hid hR2
  have HC2 : Hid (Ch [b] w W2) := Lib.hid (HC1.out.trans HCA.out)
  have hz3 : R < W2.heap.size := by have := HCA.out.size; omega
  have HS2 := Lib.hid (HH.out.ch HC2.out HRD2.out)
  have HRN : Hid (R ∉ b :: (ob st ++ ob op)) := Lib.hid (by
    have h1 := HRE.out
    intro e
    simp at e
    rcases e with e | e | e
    · omega
    · have := HSL.out R e; omega
    · have := HOL.out R e; omega)
  clear hR2
  go_wp2_with (go_at_call 60; (with_reducible refine (O1.out W2 HS2.out).mono ?_); rintro e w3 hIt; obtain ⟨k0, q, x, y, cc, code, F, fst, caps, he⟩ := HFUN.out _ _ _ hIt; subst he; have HIT := Lib.hid hIt; have hR := HR2.out.ch hIt.2 HRN.out; have r0 := hR.cell 0; have r1 := hR.cell 1; have r2 := hR.cell 2; have r3 := hR.cell 3; have r4 := hR.cell 4; have r5 := hR.cell 5; simp [it0] at r0 r1 r2 r3 r4 r5; have f0 := hR.fz 0; have f1 := hR.fz 1; have f2 := hR.fz 2; have f3 := hR.fz 3; have f4 := hR.fz 4; have f5 := hR.fz 5; have HR := Lib.hid hR; clear hIt hR)
  show bodyPost _ _ _ Exit.ret _ (st6 w3 R (.int .i64 k0) (.func (.func F) fst caps) (.int .u8 q) (.int .u8 x) (.int .u8 y) (.int .i64 cc))
  have hI : Itb R #[.int .i64 k0, .func (.func F) fst caps, .int .u8 q, .int .u8 x, .int .u8 y, .int .i64 cc] (st6 w3 R (.int .i64 k0) (.func (.func F) fst caps) (.int .u8 q) (.int .u8 x) (.int .u8 y) (.int .i64 cc)) := st6_it HR.out
  have hS : Ch [R] w3 (st6 w3 R (.int .i64 k0) (.func (.func F) fst caps) (.int .u8 q) (.int .u8 x) (.int .u8 y) (.int .i64 cc)) := st6_ch
  have d0 := hI.cell 0
  have d1 := hI.cell 1
  have d2 := hI.cell 2
  have d3 := hI.cell 3
  have d4 := hI.cell 4
  have d5 := hI.cell 5
  simp at d0 d1 d2 d3 d4 d5
  generalize (st6 w3 R (.int .i64 k0) (.func (.func F) fst caps) (.int .u8 q) (.int .u8 x) (.int .u8 y) (.int .i64 cc)) = W9 at *
  refine bodyPost_ret (v := .tuple #[.agg #[.int .i64 k0, .func (.func F) fst caps, .int .u8 q, .int .u8 x, .int .u8 y, .int .i64 cc], .int .i64 code]) ?_ rfl (HIT.out.lift HSL.out HOL.out HBL.out (Nat.le_of_eq HRE.out) hz3 HC2.out hS)
  simp [results, Tryd.results44, go_sem, d0, d1, d2, d3, d4, d5]

set_option maxHeartbeats 8000000 in
set_option maxRecDepth 100000 in
theorem item_s3h_er (b : Nat) (p : ByteArray) (k : Nat) (st op : Value) (sts opn : List Nat) (w : World) (hp : p.size ≤ 1000000) (hk : k < p.size) (h16 : sts.length ≤ 16) (ho16 : opn.length ≤ sts.length) (hop : ∀ n ∈ opn, n < sts.length) (hbd : ∀ x ∈ sts, x ≤ 2) (h : RdS b p k sts opn st op w) (h40 : ¬ p.data.toList[k]? = some 40) (h41 : ¬ p.data.toList[k]? = some 41) (h37 : p.data.toList[k]? = some 37) (c : UInt8) (n98 : c ≠ 98) (n102 : c ≠ 102) (hnd : ¬ (49 ≤ c.toNat ∧ c.toNat ≤ 57)) (hc : p.data.toList[k + 1]? = some c) (hlo : 49 ≤ c.toNat) (er : Nat) (hok : itemF p.data.toList k sts opn = .error er) :
    Calls Tryd.prog 44 #[.pointer (some ⟨b, 0, none⟩)] w fun e w' => ItSaid b p (itemF p.data.toList k sts opn) st op w e w' := by
  have hbl := h.rd.lt
  have hR1 : Itb w.heap.size it0 (w.alloc (.cells #[.int .i64 0, .nilFunc, .int .u8 0, .int .u8 0, .int .u8 0, .int .i64 0] 88)) := itb_new w it0 _ rfl
  have hr1 : Rd b p k st op (w.alloc (.cells #[.int .i64 0, .nilFunc, .int .u8 0, .int .u8 0, .int .u8 0, .int .i64 0] 88)) := h.rd.ch ((Ch.refl [] _).alloc _) (by simp)
  have hc1 : Ch [b] w (w.alloc (.cells #[.int .i64 0, .nilFunc, .int .u8 0, .int .u8 0, .int .u8 0, .int .i64 0] 88)) := (Ch.refl [b] w).alloc _
  have hz1 : (w.alloc (.cells #[.int .i64 0, .nilFunc, .int .u8 0, .int .u8 0, .int .u8 0, .int .i64 0] 88)).heap.size = w.heap.size + 1 := by simp
  obtain ⟨w1, hw1⟩ : ∃ w1, w.alloc (.cells #[.int .i64 0, .nilFunc, .int .u8 0, .int .u8 0, .int .u8 0, .int .i64 0] 88) = w1 := ⟨_, rfl⟩
  rw [hw1] at hR1 hr1 hc1 hz1
  obtain ⟨R, hRe⟩ : ∃ R, w.heap.size = R := ⟨_, rfl⟩
  rw [hRe] at hR1 hbl hz1
  have hbR : b ≠ R := by omega
  have HH := Lib.hid h
  have HR1 := Lib.hid hR1
  have Hr1 := Lib.hid hr1
  have HC1 := Lib.hid hc1
  have HSL : Hid (∀ g ∈ ob st, g < w.heap.size) := Lib.hid (fun g hg => own_lt h.s hg)
  have HOL : Hid (∀ g ∈ ob op, g < w.heap.size) := Lib.hid (fun g hg => own_lt h.o hg)
  have HBL : Hid (b < w.heap.size) := Lib.hid h.rd.lt
  have N40 := Lib.hid fun (W : World) (hW : Rd b p k st op W) => by
    have := skip4_lit b p k st op 40 40 rfl W hp (by omega) hW
    rw [if_neg h40, decide_eq_false h40] at this; exact this
  have N41 := Lib.hid fun (W : World) (hW : Rd b p k st op W) => by
    have := skip4_lit b p k st op 41 41 rfl W hp (by omega) hW
    rw [if_neg h41, decide_eq_false h41] at this; exact this
  have HSG : Hid (Sgl p.data.toList k) := Lib.hid ⟨h40, h41, (fun e => n98 (by have := e.2; rw [hc] at this; exact Option.some.inj this)), (fun e => n102 (by have := e.2; rw [hc] at this; exact Option.some.inj this)), (fun e => by obtain ⟨_, d, h2, h3⟩ := e; rw [hc] at h2; cases h2; exact hnd h3)⟩
  have O1 := Lib.hid fun W hW => single_any4 b p k st op sts opn W hp hk HSG.out hW
  have HNIL : Hid (∀ r, itemF p.data.toList k sts opn = .ok r → ¬ (r.1.kind = 0 ∨ r.1.kind = 5)) := Lib.hid (fun r hr => by rw [hok] at hr; cases hr)
  have hkk : (k : Int) < (p.size : Int) := by omega
  have hk0 : 0 ≤ (k : Int) := by omega
  have hw1k : IntKind.i64.wrap ((k : Int) + 1) = ((k + 1 : Nat) : Int) := by rw [i64w _ (by omega)]; push_cast; rfl
  obtain ⟨_, hp37⟩ := get_of h37
  have x37 : ((p[k].toNat : Int) == 37) = true := by rw [hp37]; rfl
  clear hp37
  obtain ⟨hk1, hpc⟩ := get_of hc
  have hck : (p[k + 1].toNat : Int) = (c.toNat : Int) := by rw [hpc]
  have hkk1 : ((k + 1 : Nat) : Int) < (p.size : Int) := by omega
  have hkk2 : (k : Int) + 1 < (p.size : Int) := by omega
  have hk10 : 0 ≤ ((k + 1 : Nat) : Int) := by omega
  have hkd : decide (k + 1 < p.size) = true := decide_eq_true hk1
  clear hpc
  have y1 : ((c.toNat : Int) == 98) = false := ne4 c 98 (by decide) n98
  have y2 : ((c.toNat : Int) == 102) = false := ne4 c 102 (by decide) n102
  have HND : Hid (¬ (49 ≤ c.toNat ∧ c.toNat ≤ 57)) := Lib.hid hnd
  have y3 : (49 : Int) ≤ (c.toNat : Int) := by omega
  have y3n : decide (49 ≤ c.toNat) = true := decide_eq_true (by omega)
  have y4 : ¬ (c.toNat : Int) ≤ 57 := by omega
  clear h37 hc n98 n102 hnd
  clear h40 h41 hok
  go_enter Tryd.func44, Tryd.ntmps44
  go_upto_region 1 with fail
  (try simp only [hw1, hRe])
  have HRE := Lib.hid hRe
  clear hw1 hRe hR1 hr1 hc1 h
  go_upto_region 5 with (go_at_call 43; first | ((with_reducible refine (N40.out _ Hr1.out).mono ?_); rintro e w4 ⟨rfl, h4, hg4⟩) | ((with_reducible refine (N41.out _ h4).mono ?_); rintro e w5 ⟨rfl, h5, hg5⟩))
  have HCA5 : Hid (Ch [b] w1 w5) := Lib.hid ((Ch.of_grown hg4 (by simp)).trans (Ch.of_grown hg5 (by simp)))
  have H5 := Lib.hid h5
  have m0 := h5.c0
  have m1 := h5.c1
  have mf := h5.fz 1
  clear hg4 hg5 h4 h5
  go_quiet (fail)
  go_upto_region 6 with fail
  go_quiet (fail)
  go_upto_region 16 with fail
  go_name_world W2 hV
  have HRD2 : Hid (Rd b p k st op W2) := Lib.hid (by rw [← hV]; exact H5.out.drewN _)
  have HCA : Hid (Ch [b] w1 W2) := Lib.hid (by rw [← hV]; exact HCA5.out.drewN _)
  clear hV m0 m1 mf
  have hR2 := HR1.out.ch HCA.out (by simp; omega)
  have HR2 := Lib.hid hR2
  have HC2 : Hid (Ch [b] w W2) := Lib.hid (HC1.out.trans HCA.out)
  have hz3 : R < W2.heap.size := by have := HCA.out.size; omega
  have HS2 := Lib.hid (HH.out.ch HC2.out HRD2.out)
  have HRN : Hid (R ∉ b :: (ob st ++ ob op)) := Lib.hid (by
    have h1 := HRE.out
    intro e
    simp at e
    rcases e with e | e | e
    · omega
    · have := HSL.out R e; omega
    · have := HOL.out R e; omega)
  clear hR2
  go_wp2_with (go_at_call 60; (with_reducible refine (O1.out W2 HS2.out).mono ?_); rintro e w3 hIt; obtain ⟨k0, q, x, y, cc, code, he⟩ := it_nil hIt HNIL.out; subst he; have HIT := Lib.hid hIt; have hR := HR2.out.ch hIt.2 HRN.out; have r0 := hR.cell 0; have r1 := hR.cell 1; have r2 := hR.cell 2; have r3 := hR.cell 3; have r4 := hR.cell 4; have r5 := hR.cell 5; simp [it0] at r0 r1 r2 r3 r4 r5; have f0 := hR.fz 0; have f1 := hR.fz 1; have f2 := hR.fz 2; have f3 := hR.fz 3; have f4 := hR.fz 4; have f5 := hR.fz 5; have HR := Lib.hid hR; clear hIt hR)
  show bodyPost _ _ _ Exit.ret _ (st6 w3 R (.int .i64 k0) (.nilFunc) (.int .u8 q) (.int .u8 x) (.int .u8 y) (.int .i64 cc))
  have hI : Itb R #[.int .i64 k0, .nilFunc, .int .u8 q, .int .u8 x, .int .u8 y, .int .i64 cc] (st6 w3 R (.int .i64 k0) (.nilFunc) (.int .u8 q) (.int .u8 x) (.int .u8 y) (.int .i64 cc)) := st6_it HR.out
  have hS : Ch [R] w3 (st6 w3 R (.int .i64 k0) (.nilFunc) (.int .u8 q) (.int .u8 x) (.int .u8 y) (.int .i64 cc)) := st6_ch
  have d0 := hI.cell 0
  have d1 := hI.cell 1
  have d2 := hI.cell 2
  have d3 := hI.cell 3
  have d4 := hI.cell 4
  have d5 := hI.cell 5
  simp at d0 d1 d2 d3 d4 d5
  generalize (st6 w3 R (.int .i64 k0) (.nilFunc) (.int .u8 q) (.int .u8 x) (.int .u8 y) (.int .i64 cc)) = W9 at *
  refine bodyPost_ret (v := .tuple #[.agg #[.int .i64 k0, .nilFunc, .int .u8 q, .int .u8 x, .int .u8 y, .int .i64 cc], .int .i64 code]) ?_ rfl (HIT.out.lift HSL.out HOL.out HBL.out (Nat.le_of_eq HRE.out) hz3 HC2.out hS)
  simp [results, Tryd.results44, go_sem, d0, d1, d2, d3, d4, d5]
end Go.Proofs.YtkbcaklleiapdaaDoor
