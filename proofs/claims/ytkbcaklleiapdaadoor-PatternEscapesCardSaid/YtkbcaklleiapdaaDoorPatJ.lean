/- Contracts of layer 4: a single with its quantifier. -/
import Derived.Test.YtkbcaklleiapdaaDoorPatI
import Derived.Laws.EntriesVeiled
import Derived.Lib.SmallJoins
namespace Go.Proofs.YtkbcaklleiapdaaDoor
open Go.RowKit M4
set_option linter.unusedVariables false
def qs4 (j : Nat) : UInt8 := if j = 0 then 42 else if j = 1 then 43 else if j = 2 then 45 else 63
theorem quant_at {l : List UInt8} {k j : Nat} (hj : j < 4) (h : l[k]? = some (qs4 j)) : quantF l k = qs4 j ∧ ¬ quantF l k = 0 := by
  unfold quantF; rw [h]
  match j, hj with
  | 0, _ => exact ⟨rfl, by decide⟩
  | 1, _ => exact ⟨rfl, by decide⟩
  | 2, _ => exact ⟨rfl, by decide⟩
  | 3, _ => exact ⟨rfl, by decide⟩
theorem quant_no {l : List UInt8} {k : Nat} (h : ∀ i, i < 4 → ¬ l[k]? = some (qs4 i)) : quantF l k = 0 := by
  unfold quantF
  cases hc : l[k]? with
  | none => rfl
  | some c =>
    simp only []
    rw [if_neg]
    rintro (e | e | e | e)
    · exact h 0 (by decide) (by rw [hc, e]; rfl)
    · exact h 1 (by decide) (by rw [hc, e]; rfl)
    · exact h 2 (by decide) (by rw [hc, e]; rfl)
    · exact h 3 (by decide) (by rw [hc, e]; rfl)
/-- An item in memory, with the function value of its test. -/
def itC (it : Itm) (v : Value) : Array Value := #[.int .i64 (it.kind : Int), v, .int .u8 (it.q.toNat : Int), .int .u8 (it.x.toNat : Int), .int .u8 (it.y.toNat : Int), .int .i64 (it.cap : Int)]
def it0 : Array Value := #[.int .i64 0, .nilFunc, .int .u8 0, .int .u8 0, .int .u8 0, .int .i64 0]
/-- What reading a single leaves. -/
def SingleSaid (b : Nat) (p : ByteArray) (k : Nat) (st op : Value) (lo : Nat) (e : Ending) (w' : World) : Prop := match singleF p.data.toList k with
  | .ok r => ∃ v, e = .returned (.tuple #[.agg (itC r.1 v), .int .i64 0]) ∧ Rd b p r.2 st op w' ∧ TV lo w'.heap.size w' v r.1.P
  | .error c => e = .returned (.tuple #[.agg it0, .int .i64 (c : Int)])
/-- A block with an item. -/
def Itb (R : Nat) (cs : Array Value) (w : World) : Prop := w.heap[R]? = some (.cells cs 88 (0, 0))
theorem Itb.lt {R : Nat} {cs : Array Value} {w : World} (h : Itb R cs w) : R < w.heap.size := (Array.getElem?_eq_some_iff.1 h).1
theorem Itb.cell {R : Nat} {cs : Array Value} {w : World} (h : Itb R cs w) (i : Nat) : w.cell? ⟨R, i, none⟩ = cs[i]? := by unfold Itb at h; simp [World.cell?, h]
theorem Itb.fz {R : Nat} {cs : Array Value} {w : World} (h : Itb R cs w) (i : Nat) : w.frozen? ⟨R, i, none⟩ = false := by unfold Itb at h; simp [World.frozen?, h]
theorem Itb.ch {R : Nat} {cs : Array Value} {w w' : World} {S : List Nat} (h : Itb R cs w) (hg : Ch S w w') (hr : R ∉ S) : Itb R cs w' := by
  have := h.lt; unfold Itb at *; rw [hg.block R this hr]; exact h
theorem Itb.set {R : Nat} {cs : Array Value} {w : World} (h : Itb R cs w) (i : Nat) (v : Value) : Itb R (cs.setIfInBounds i v) (w.setCell ⟨R, i, none⟩ v) := set_same w R i cs _ v h
theorem Itb.other {R : Nat} {cs : Array Value} {w : World} (h : Itb R cs w) (b i : Nat) (v : Value) (hb : b ≠ R) : Itb R cs (w.setCell ⟨b, i, none⟩ v) := by
  unfold Itb at *; rw [Below.heap_setCell _ _ _ _ (fun e => hb (by rw [e]))]; exact h
theorem blk_new4 (w : World) (o : Obj) (n : Nat) (h : n = w.heap.size) : (w.alloc o).heap[n]? = some o := by subst h; exact heap_new _ _
theorem itb_new (w : World) (cs : Array Value) (n : Nat) (h : n = w.heap.size) : Itb n cs (w.alloc (.cells cs 88)) := by subst h; exact heap_new _ _
/-- Six stores: an item is stored whole. -/
def st6 (W : World) (R : Nat) (a0 a1 a2 a3 a4 a5 : Value) : World := (((((W.setCell ⟨R, 0, none⟩ a0).setCell ⟨R, 1, none⟩ a1).setCell ⟨R, 2, none⟩ a2).setCell ⟨R, 3, none⟩ a3).setCell ⟨R, 4, none⟩ a4).setCell ⟨R, 5, none⟩ a5
theorem st6_it {W : World} {R : Nat} {c0 c1 c2 c3 c4 c5 a0 a1 a2 a3 a4 a5 : Value} (h : Itb R #[c0, c1, c2, c3, c4, c5] W) : Itb R #[a0, a1, a2, a3, a4, a5] (st6 W R a0 a1 a2 a3 a4 a5) :=
  (((((h.set 0 a0).set 1 a1).set 2 a2).set 3 a3).set 4 a4).set 5 a5
theorem st6_ch {W : World} {R : Nat} {a0 a1 a2 a3 a4 a5 : Value} : Ch [R] W (st6 W R a0 a1 a2 a3 a4 a5) := by
  have m : R ∈ [R] := by simp
  exact (((((Ch.set (Ch.refl [R] W) R 0 a0 (Or.inl m)).set R 1 a1 (Or.inl m)).set R 2 a2 (Or.inl m)).set R 3 a3 (Or.inl m)).set R 4 a4 (Or.inl m)).set R 5 a5 (Or.inl m)
theorem cells_ch {w w' : World} {b : Nat} {cs : Array Value} {t : TypeId} {f : Nat × Nat} {S : List Nat} (h : w.heap[b]? = some (.cells cs t f)) (hg : Ch S w w') (hr : b ∉ S) : w'.heap[b]? = some (.cells cs t f) := by
  rw [hg.block b (Array.getElem?_eq_some_iff.1 h).1 hr]; exact h

set_option maxHeartbeats 8000000 in
set_option maxRecDepth 100000 in
theorem single_ok (b : Nat) (p : ByteArray) (k : Nat) (st op : Value) (w : World) (hp : p.size ≤ 1000000) (hk : k < p.size) (h : Rd b p k st op w) (r : (UInt8 → Bool) × Nat) (hr : testF p.data.toList k = some r) :
    Calls Tryd.prog 60 #[.pointer (some ⟨b, 0, none⟩)] w fun e w' => SingleSaid b p k st op w.heap.size e w' ∧ Ch [b] w w' := by
  have hbl := h.lt
  have hrl := test_lt hr
  have hrl2 : r.2 ≤ p.size := by simpa using hrl.2
  have hR1 : Rd b p k st op (w.alloc (.cells #[.int .i64 0, .nilFunc, .int .u8 0, .int .u8 0, .int .u8 0, .int .i64 0] 88)) := h.ch ((Ch.refl [] _).alloc _) (by simp)
  have T1 := Lib.hid ((test_any b p k st op _ hp hk hR1).mono fun e w' (h : _ ∧ _) => (by
    obtain ⟨h1, h2⟩ := h
    unfold TestSaid at h1; rw [hr] at h1
    obtain ⟨v, h3, h4, h5⟩ := h1
    exact ⟨v, h3, h4, h5, h2⟩ : ∃ v, e = .returned (.tuple #[v, .int .i64 0]) ∧ Rd b p r.2 st op w' ∧ TV _ w'.heap.size w' v r.1 ∧ Ch [b] _ w'))
  have hsg : singleF p.data.toList k = .ok (⟨0, r.1, quantF p.data.toList r.2, 0, 0, 0⟩, if quantF p.data.toList r.2 = 0 then r.2 else r.2 + 1) := by unfold singleF; rw [hr]
  unfold SingleSaid
  rw [hsg]
  simp only []
  have kc : ∀ (w : World) (C : Array Value) (n c g : Nat), g = w.heap.size → (convert 57 57 (.slice (some ⟨g, 0, none⟩) n c)).run Tryd.prog (w.alloc (.cells C 5)) = .ok (.slice (some ⟨g, 0, none⟩) n c) (w.alloc (.cells C 5 (C.size, C.size + 1))) :=
    fun w C n c g hg => Joins.run_convert_bytes_const_at w _ _ C n c g hg Tryd.underlying57 Tryd.underlying5
  clear h hR1 hr hsg
  go_enter Tryd.func60, Tryd.ntmps60
  go_wp2_with (go_at_call 72; (with_reducible refine (T1.out).mono ?_); rintro e w1 ⟨v, he, h1, hT, hc1⟩; obtain ⟨_, F, fst, caps, hve, _, _⟩ := hT.ex; subst hve; subst he; have HT := Lib.hid hT; clear hT)
  go_name_world V hV
  have hX : Itb w1.heap.size #[.int .i64 0, .func (.func F) fst caps, .int .u8 0, .int .u8 0, .int .u8 0, .int .i64 0] V := by rw [← hV]; exact (itb_new w1 _ _ rfl).ch ((Ch.refl [] _).alloc _) (by simp)
  have hA : V.heap[w1.heap.size + 1]? = some (.cells #[.int .u8 42, .int .u8 43, .int .u8 45, .int .u8 63] 5 (4, 5)) := by
    rw [← hV]; exact blk_new4 _ _ _ (by simp)
  have hR : Itb w.heap.size it0 V := by rw [← hV]; exact (((itb_new w it0 _ rfl).ch hc1 (by simp; omega)).ch ((Ch.refl [] _).alloc _) (by simp)).ch ((Ch.refl [] _).alloc _) (by simp)
  have hrV : Rd b p r.2 st op V := by rw [← hV]; exact (h1.ch ((Ch.refl [] _).alloc _) (by simp)).ch ((Ch.refl [] _).alloc _) (by simp)
  have hC1 : Ch [] w1 V := by rw [← hV]; exact ((Ch.refl [] _).alloc _).alloc _
  have hz1 : w.heap.size + 1 ≤ w1.heap.size := by simpa using hc1.size
  have hz2 : w1.heap.size + 2 ≤ V.heap.size := by rw [← hV]; simp
  have hCV : Ch [b] w V := (((Ch.refl [b] w).alloc _).trans hc1).trans (hC1.mono (by simp))
  have HX := Lib.hid hX
  have HA := Lib.hid hA
  have HR := Lib.hid hR
  have HRV := Lib.hid hrV
  have HC1 := Lib.hid hC1
  have HCV := Lib.hid hCV
  obtain ⟨X, hXe⟩ : ∃ X, w1.heap.size = X := ⟨_, rfl⟩
  obtain ⟨R, hRe⟩ : ∃ R, w.heap.size = R := ⟨_, rfl⟩
  (try rw [hXe] at hz1 hz2 HX HA)
  rw [hRe] at HR hz1 hbl
  (try simp only [hXe, hRe])
  have HXE := Lib.hid hXe
  have HRE := Lib.hid hRe
  clear hX hA hR hrV hC1 hCV h1 hc1 hV hXe hRe T1
  have HWR : Hid (w.heap.size ≤ R) := Lib.hid (by rw [HRE.out]; exact Nat.le_refl _)
  have hRb : R ≠ b := by omega
  have hXb : X ≠ b := by omega
  have hXR : X ≠ R := by omega
  go_wp2
  go_loopw [23] (fun vj wr => ∃ j : Nat, j ≤ 4 ∧ vj = .int .i64 j ∧ Hid (Rd b p r.2 st op wr) ∧ Hid (Ch [b] V wr) ∧ Hid (∀ i, i < j → ¬ p.data.toList[r.2]? = some (qs4 i))) (fun vj _ => 4 - (intOf vj).toNat)
  case atStart => exact ⟨0, by omega, rfl, HRV, Lib.hid (Ch.refl _ _), Lib.hid (fun i h => by omega)⟩
  case round =>
    obtain ⟨j, hj, rfl, HRD, HCH, HNO⟩ := hrel
    rename World => W0
    have hXb2 : X ∉ [b] := by simp; exact hXb
    have hRb2 : R ∉ [b] := by simp; exact hRb
    have hX0 := HX.out.ch HCH.out hXb2
    have hR0 := HR.out.ch HCH.out hRb2
    have hA0 := cells_ch HA.out HCH.out (by simp; omega)
    have HX0 := Lib.hid hX0
    have HR0 := Lib.hid hR0
    by_cases hj4 : j < 4
    · have hj4' : (j : Int) < 4 := by omega
      have hc : W0.cell? ⟨X + 1, j, none⟩ = some (.int .u8 ((qs4 j).toNat : Int)) := by
        rw [Joins.cell_of_block hA0]
        match j, hj4 with
        | 0, _ => rfl
        | 1, _ => rfl
        | 2, _ => rfl
        | 3, _ => rfl
      have S0 := skip4_any b p r.2 st op (qs4 j) W0 hp hrl2 HRD.out
      clear hA0 hX0 hR0
      by_cases hq : p.data.toList[r.2]? = some (qs4 j)
      · rw [if_pos hq, decide_eq_true hq] at S0
        have S1 := Lib.hid S0
        obtain ⟨hq1, hq2⟩ := quant_at hj4 hq
        have HQ1 := Lib.hid hq1
        have HQ2 := Lib.hid hq2
        clear S0 hq hq1 hq2
        go_upto_region 9 with (go_at_call 43; (with_reducible refine (S1.out).mono ?_); rintro e w2 ⟨rfl, h2, hg2⟩)
        have hX2 := HX0.out.ch (Ch.of_grown hg2 (S := [b]) (by simp)) hXb2
        have x0 := hX2.cell 0
        have x1 := hX2.cell 1
        have x2 := hX2.cell 2
        have x3 := hX2.cell 3
        have x4 := hX2.cell 4
        have x5 := hX2.cell 5
        have xf := hX2.fz 2
        simp at x0 x1 x2 x3 x4 x5
        have hR2 := HR0.out.ch (Ch.of_grown hg2 (S := [b]) (by simp)) hRb2
        have r0 := hR2.cell 0
        have r1 := hR2.cell 1
        have r2 := hR2.cell 2
        have r3 := hR2.cell 3
        have r4 := hR2.cell 4
        have r5 := hR2.cell 5
        have rf := hR2.fz
        simp [it0] at r0 r1 r2 r3 r4 r5
        have f0 := rf 0
        have f1 := rf 1
        have f2 := rf 2
        have f3 := rf 3
        have f4 := rf 4
        have f5 := rf 5
        have HR2 := Lib.hid hR2
        have H2 := Lib.hid h2
        have HG2 : Hid (Ch [b] V w2) := Lib.hid (HCH.out.trans (Ch.of_grown hg2 (by simp)))
        clear hX2 hR2 rf h2 hg2
        go_wp2
        show bodyPost _ _ _ Exit.ret _ (st6 (w2.setCell ⟨X, 2, none⟩ (.int .u8 ((qs4 j).toNat : Int))) R (.int .i64 0) (.func (.func F) fst caps) (.int .u8 ((qs4 j).toNat : Int)) (.int .u8 0) (.int .u8 0) (.int .i64 0))
        have hI : Itb R #[.int .i64 0, .func (.func F) fst caps, (.int .u8 ((qs4 j).toNat : Int)), .int .u8 0, .int .u8 0, .int .i64 0] (st6 (w2.setCell ⟨X, 2, none⟩ (.int .u8 ((qs4 j).toNat : Int))) R (.int .i64 0) (.func (.func F) fst caps) (.int .u8 ((qs4 j).toNat : Int)) (.int .u8 0) (.int .u8 0) (.int .i64 0)) := st6_it (HR2.out.other X 2 _ hXR)
        have hS : Ch [R] (w2.setCell ⟨X, 2, none⟩ (.int .u8 ((qs4 j).toNat : Int))) (st6 (w2.setCell ⟨X, 2, none⟩ (.int .u8 ((qs4 j).toNat : Int))) R (.int .i64 0) (.func (.func F) fst caps) (.int .u8 ((qs4 j).toNat : Int)) (.int .u8 0) (.int .u8 0) (.int .i64 0)) := st6_ch
        have hc3 : Ch [b, X, R] V (st6 (w2.setCell ⟨X, 2, none⟩ (.int .u8 ((qs4 j).toNat : Int))) R (.int .i64 0) (.func (.func F) fst caps) (.int .u8 ((qs4 j).toNat : Int)) (.int .u8 0) (.int .u8 0) (.int .i64 0)) := ((HG2.out.mono (by simp)).set X 2 _ (Or.inl (by simp))).trans (hS.mono (by simp))
        have hr9 : Rd b p (r.2 + 1) st op (st6 (w2.setCell ⟨X, 2, none⟩ (.int .u8 ((qs4 j).toNat : Int))) R (.int .i64 0) (.func (.func F) fst caps) (.int .u8 ((qs4 j).toNat : Int)) (.int .u8 0) (.int .u8 0) (.int .i64 0)) := (H2.out.ch (Ch.set (Ch.refl [X] w2) X 2 _ (Or.inl (by simp))) (by simp; omega)).ch hS (by simp; omega)
        have d0 := hI.cell 0
        have d1 := hI.cell 1
        have d2 := hI.cell 2
        have d3 := hI.cell 3
        have d4 := hI.cell 4
        have d5 := hI.cell 5
        simp at d0 d1 d2 d3 d4 d5
        generalize (st6 (w2.setCell ⟨X, 2, none⟩ (.int .u8 ((qs4 j).toNat : Int))) R (.int .i64 0) (.func (.func F) fst caps) (.int .u8 ((qs4 j).toNat : Int)) (.int .u8 0) (.int .u8 0) (.int .i64 0)) = W9 at *
        have hc9 : Ch [b] w W9 := by
          have h1 := HCV.out
          refine ⟨hc3.os.trans h1.os, hc3.tape.trans h1.tape, hc3.output.trans h1.output, Nat.le_trans h1.size hc3.size, fun g hg1 hg2 => (hc3.block g (Nat.lt_of_lt_of_le hg1 h1.size) ?_).trans (h1.block g hg1 hg2)⟩
          have := HRE.out
          simp at hg2 ⊢
          omega
        have hT9 : TV w.heap.size W9.heap.size W9 (.func (.func F) fst caps) r.1 := by
          have h2 : Ch [b, X, R] w1 W9 := (HC1.out.mono (by simp)).trans hc3
          have h3 := HRE.out
          have h4 := HXE.out
          refine (HT.out.kept (h2.kp (Nat.le_refl _) ?_)).wide (by simp) h2.size (Nat.le_refl _)
          intro g hg
          simp at hg ⊢
          omega
        refine bodyPost_ret (v := .tuple #[.agg #[.int .i64 0, .func (.func F) fst caps, (.int .u8 ((qs4 j).toNat : Int)), .int .u8 0, .int .u8 0, .int .i64 0], .int .i64 0]) ?_ rfl ⟨⟨_, ?_, hr9, hT9⟩, hc9⟩
        · simp [results, Tryd.results60, go_sem, d0, d1, d2, d3, d4, d5]
        · first | rfl | (rw [HQ1.out]; rfl)
      · rw [if_neg hq, decide_eq_false hq] at S0
        have S1 := Lib.hid S0
        have HQ := Lib.hid hq
        clear S0 hq
        go_wp2_with (go_at_call 43; (with_reducible refine (S1.out).mono ?_); rintro e w2 ⟨rfl, h2, hg2⟩)
        go_roundw
        case rel => exact ⟨j + 1, by omega, by go_num, Lib.hid h2, Lib.hid (HCH.out.trans (Ch.of_grown hg2 (by simp))), Lib.hid (fun i hi => by
          by_cases e : i = j
          · rw [e]; exact HQ.out
          · exact HNO.out i (by omega))⟩
        case measure => simp [intOf]; omega
    · have hj4' : ¬ (j : Int) < 4 := by omega
      have HQ1 := Lib.hid (quant_no (fun i hi => HNO.out i (by omega)))
      have x0 := hX0.cell 0
      have x1 := hX0.cell 1
      have x2 := hX0.cell 2
      have x3 := hX0.cell 3
      have x4 := hX0.cell 4
      have x5 := hX0.cell 5
      simp at x0 x1 x2 x3 x4 x5
      have r0 := hR0.cell 0
      have r1 := hR0.cell 1
      have r2 := hR0.cell 2
      have r3 := hR0.cell 3
      have r4 := hR0.cell 4
      have r5 := hR0.cell 5
      have f0 := hR0.fz 0
      have f1 := hR0.fz 1
      have f2 := hR0.fz 2
      have f3 := hR0.fz 3
      have f4 := hR0.fz 4
      have f5 := hR0.fz 5
      simp [it0] at r0 r1 r2 r3 r4 r5
      clear hA0 hX0 hR0
      go_wp2
      show bodyPost _ _ _ Exit.ret _ (st6 W0 R (.int .i64 0) (.func (.func F) fst caps) (.int .u8 0) (.int .u8 0) (.int .u8 0) (.int .i64 0))
      have hI : Itb R #[.int .i64 0, .func (.func F) fst caps, (.int .u8 0), .int .u8 0, .int .u8 0, .int .i64 0] (st6 W0 R (.int .i64 0) (.func (.func F) fst caps) (.int .u8 0) (.int .u8 0) (.int .u8 0) (.int .i64 0)) := st6_it HR0.out
      have hS : Ch [R] W0 (st6 W0 R (.int .i64 0) (.func (.func F) fst caps) (.int .u8 0) (.int .u8 0) (.int .u8 0) (.int .i64 0)) := st6_ch
      have hc3 : Ch [b, X, R] V (st6 W0 R (.int .i64 0) (.func (.func F) fst caps) (.int .u8 0) (.int .u8 0) (.int .u8 0) (.int .i64 0)) := ((HCH.out.mono (by simp) : Ch [b, X, R] V W0)).trans (hS.mono (by simp))
      have hr9 : Rd b p r.2 st op (st6 W0 R (.int .i64 0) (.func (.func F) fst caps) (.int .u8 0) (.int .u8 0) (.int .u8 0) (.int .i64 0)) := HRD.out.ch hS (by simp; omega)
      have d0 := hI.cell 0
      have d1 := hI.cell 1
      have d2 := hI.cell 2
      have d3 := hI.cell 3
      have d4 := hI.cell 4
      have d5 := hI.cell 5
      simp at d0 d1 d2 d3 d4 d5
      generalize (st6 W0 R (.int .i64 0) (.func (.func F) fst caps) (.int .u8 0) (.int .u8 0) (.int .u8 0) (.int .i64 0)) = W9 at *
      have hc9 : Ch [b] w W9 := by
        have h1 := HCV.out
        refine ⟨hc3.os.trans h1.os, hc3.tape.trans h1.tape, hc3.output.trans h1.output, Nat.le_trans h1.size hc3.size, fun g hg1 hg2 => (hc3.block g (Nat.lt_of_lt_of_le hg1 h1.size) ?_).trans (h1.block g hg1 hg2)⟩
        have := HRE.out
        simp at hg2 ⊢
        omega
      have hT9 : TV w.heap.size W9.heap.size W9 (.func (.func F) fst caps) r.1 := by
        have h2 : Ch [b, X, R] w1 W9 := (HC1.out.mono (by simp)).trans hc3
        have h3 := HRE.out
        have h4 := HXE.out
        refine (HT.out.kept (h2.kp (Nat.le_refl _) ?_)).wide (by simp) h2.size (Nat.le_refl _)
        intro g hg
        simp at hg ⊢
        omega
      refine bodyPost_ret (v := .tuple #[.agg #[.int .i64 0, .func (.func F) fst caps, (.int .u8 0), .int .u8 0, .int .u8 0, .int .i64 0], .int .i64 0]) ?_ rfl ⟨⟨_, ?_, hr9, hT9⟩, hc9⟩
      · simp [results, Tryd.results60, go_sem, d0, d1, d2, d3, d4, d5]
      · first | rfl | (rw [HQ1.out]; rfl)

set_option maxHeartbeats 4000000 in
set_option maxRecDepth 100000 in
theorem single_err (b : Nat) (p : ByteArray) (k : Nat) (st op : Value) (w : World) (hp : p.size ≤ 1000000) (hk : k < p.size) (h : Rd b p k st op w) (hr : testF p.data.toList k = none) :
    Calls Tryd.prog 60 #[.pointer (some ⟨b, 0, none⟩)] w fun e w' => SingleSaid b p k st op w.heap.size e w' ∧ Ch [b] w w' := by
  have hbl := h.lt
  have hR1 : Rd b p k st op (w.alloc (.cells #[.int .i64 0, .nilFunc, .int .u8 0, .int .u8 0, .int .u8 0, .int .i64 0] 88)) := h.ch ((Ch.refl [] _).alloc _) (by simp)
  have T1 := Lib.hid ((test_any b p k st op _ hp hk hR1).mono fun e w' (h : _ ∧ _) => (by
    obtain ⟨h1, h2⟩ := h
    unfold TestSaid at h1; rw [hr] at h1
    exact ⟨h1.1, h2⟩ : e = .returned (.tuple #[.nilFunc, .int .i64 4]) ∧ Ch [b] _ w'))
  have hsg : singleF p.data.toList k = .error 4 := by unfold singleF; rw [hr]
  unfold SingleSaid
  rw [hsg]
  simp only []
  have HR0 : Hid (Itb w.heap.size it0 (w.alloc (.cells #[.int .i64 0, .nilFunc, .int .u8 0, .int .u8 0, .int .u8 0, .int .i64 0] 88))) := Lib.hid (itb_new w it0 _ rfl)
  clear h hR1 hr hsg
  go_enter Tryd.func60, Tryd.ntmps60
  go_upto_region 3 with (go_at_call 72; (with_reducible refine (T1.out).mono ?_); rintro e w1 ⟨rfl, hc1⟩)
  have hR := HR0.out.ch hc1 (by simp; omega)
  have HC : Hid (Ch [b] w w1) := Lib.hid (((Ch.refl [b] w).alloc _).trans hc1)
  obtain ⟨R, hRe⟩ : ∃ R, w.heap.size = R := ⟨_, rfl⟩
  rw [hRe] at hR
  (try simp only [hRe])
  have HRE := Lib.hid hRe
  clear hRe
  have r0 := hR.cell 0
  have r1 := hR.cell 1
  have r2 := hR.cell 2
  have r3 := hR.cell 3
  have r4 := hR.cell 4
  have r5 := hR.cell 5
  have f0 := hR.fz 0
  have f1 := hR.fz 1
  have f2 := hR.fz 2
  have f3 := hR.fz 3
  have f4 := hR.fz 4
  have f5 := hR.fz 5
  simp [it0] at r0 r1 r2 r3 r4 r5
  have HR := Lib.hid hR
  clear hR hc1
  go_wp2
  show bodyPost _ _ _ Exit.ret _ (st6 w1 R (.int .i64 0) .nilFunc (.int .u8 0) (.int .u8 0) (.int .u8 0) (.int .i64 0))
  have hI : Itb R #[.int .i64 0, .nilFunc, .int .u8 0, .int .u8 0, .int .u8 0, .int .i64 0] (st6 w1 R (.int .i64 0) .nilFunc (.int .u8 0) (.int .u8 0) (.int .u8 0) (.int .i64 0)) := st6_it HR.out
  have hS : Ch [R] w1 (st6 w1 R (.int .i64 0) .nilFunc (.int .u8 0) (.int .u8 0) (.int .u8 0) (.int .i64 0)) := st6_ch
  have d0 := hI.cell 0
  have d1 := hI.cell 1
  have d2 := hI.cell 2
  have d3 := hI.cell 3
  have d4 := hI.cell 4
  have d5 := hI.cell 5
  simp at d0 d1 d2 d3 d4 d5
  generalize (st6 w1 R (.int .i64 0) .nilFunc (.int .u8 0) (.int .u8 0) (.int .u8 0) (.int .i64 0)) = W9 at *
  have hc9 : Ch [b] w W9 := Ch.new HC.out (Nat.le_of_eq HRE.out) (hS.mono (by simp))
  refine bodyPost_ret (v := .tuple #[.agg #[.int .i64 0, .nilFunc, .int .u8 0, .int .u8 0, .int .u8 0, .int .i64 0], .int .i64 4]) ?_ rfl ⟨rfl, hc9⟩
  simp [results, Tryd.results60, go_sem, d0, d1, d2, d3, d4, d5]
end Go.Proofs.YtkbcaklleiapdaaDoor
