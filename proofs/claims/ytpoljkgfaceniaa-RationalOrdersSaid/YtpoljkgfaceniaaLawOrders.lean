/- For all triples of pairs of integers that are numbers, Cmp is a total order, sums preserve it where they exist, and Floor and Ceil are the integers around a number. No condition. -/
import Derived.Test.YtpoljkgfaceniaaOrdC
import Derived.Test.YtpoljkgfaceniaaOrdD
import Derived.ProofKit
import Derived.OpenShut
import Derived.ChangeOld
import Derived.Below
import Derived.Lib.SmallJoins
namespace Go.Proofs.Ytpoljkgfaceniaa.rationalOrdersLaw
open Go.ChangeShapes Go.WideShapes Go.ChangeAt Go.RowKit Go.Joins M1
set_option linter.unusedVariables false

theorem vld_int {n : Int} (h1 : -2147483647 ≤ n) (h2 : n ≤ 2147483647) : vld n 1 = true := vld_iff.2 ⟨by omega, by omega, h1, h2, by simp⟩
theorem vq {p q : Int} (h : vld p q = true) : q ≠ 0 := by have := (vld_iff.1 h).1; omega
theorem add_o {s r : Rat} (hs : fit s = true) (hr : fit r = true) : addR (oP s) (oQ s) (oP r) (oQ r) = out (s + r) := by
  rw [addR_yes (vld_o hs) (vld_o hr), ← rat_add (vq (vld_o hs)) (vq (vld_o hr)), rat_o hs, rat_o hr]
theorem r3_fit {r : Rat} (h : fit r = true) : (out r).P = oP r ∧ (out r).Q = oQ r ∧ (out r).E = 0 := ⟨rfl, rfl, oE_fit h⟩
theorem r3_not {r : Rat} (h : fit r = false) : (out r).P = 0 ∧ (out r).Q = 0 ∧ (out r).E = 6 := ⟨oP_not h, oQ_not h, oE_not h⟩
theorem hidc {P : Program} {f : FuncId} {args : Array Value} {x : R3} {a b c : Int} (h : ∀ w, Calls P f args w fun e w' => e = .returned (.tuple #[.agg #[.int .i64 x.P, .int .i64 x.Q], .int .i64 x.E]) ∧ Below w.heap.size w w')
    (hx : x.P = a ∧ x.Q = b ∧ x.E = c) : Hid (∀ w, Calls P f args w fun e w' => e = .returned (.tuple #[.agg #[.int .i64 a, .int .i64 b], .int .i64 c]) ∧ Below w.heap.size w w') := by
  obtain ⟨h1, h2, h3⟩ := hx
  rw [h1, h2, h3] at h
  exact Lib.hid h
theorem hidn {P : Program} {f : FuncId} {args : Array Value} {x a : Int} (h : ∀ w, Calls P f args w fun e w' => e = .returned (.int .i64 x) ∧ Below w.heap.size w w')
    (hx : x = a) : Hid (∀ w, Calls P f args w fun e w' => e = .returned (.int .i64 a) ∧ Below w.heap.size w w') := by
  rw [hx] at h
  exact Lib.hid h
theorem intR_yes {n : Int} (h1 : -2147483647 ≤ n) (h2 : n ≤ 2147483647) : (intR n).P = n ∧ (intR n).Q = 1 ∧ (intR n).E = 0 := by unfold intR; rw [if_pos ⟨h1, h2⟩]; exact ⟨rfl, rfl, rfl⟩
theorem intR_no {n : Int} (h : ¬ (-2147483647 ≤ n ∧ n ≤ 2147483647)) : (intR n).P = 0 ∧ (intR n).Q = 0 ∧ (intR n).E = 6 := by unfold intR; rw [if_neg h]; exact ⟨rfl, rfl, rfl⟩

theorem pq_no {p q p' q' : Int} (h : ¬ (p = p' ∧ q = q')) : (p == p') = false ∨ (p = p' ∧ (q == q') = false) := by
  by_cases hp : p = p'
  · exact .inr ⟨hp, by simpa using fun e => h ⟨hp, e⟩⟩
  · exact .inl (by simpa using hp)
theorem ratCmp_refl {p q : Int} (h : vld p q = true) : ratCmp p q p q = 0 := by rw [ratCmp_yes h h]; exact cmp_eq rfl
theorem hidg {P : Program} {f : FuncId} {args : Array Value} {x : R3} (h : ∀ w, Calls P f args w fun e w' => e = .returned (.tuple #[.agg #[.int .i64 x.P, .int .i64 x.Q], .int .i64 x.E]) ∧ Below w.heap.size w w') :
    Hid (∀ w, Calls P f args w fun e w' => e = .returned (.tuple #[.agg #[.int .i64 x.P, .int .i64 x.Q], .int .i64 x.E]) ∧ Below w.heap.size w w') := Lib.hid h

theorem own : ownKnob Try.prog.godebug = none := by kernel_rfl
theorem cellsNum : Try.prog.cellsOf 23 = 2 := by kernel_rfl
theorem numReads {H : Type} {enc : TypeId × Value → H} (W' : World) (sp : Nat → Bool) (p q : Int) (wp : (Lit.int .i64 p).wf = true) (wq : (Lit.int .i64 q).wf = true) :
    DataW.Trod enc Try.prog W' 0 sp true 23 (.agg #[.int .i64 p, .int .i64 q]) (.agg [.lit (.int .i64 p), .lit (.int .i64 q)]) [] :=
  shut_agg2 (y0 := (.lit (.int .i64 p), [])) (y1 := (.lit (.int .i64 q), [])) Try.underlying23 (by kernel_rfl) cellsNum ⟨1, by simp [DataW.trod, Try.underlying3, wp]⟩ ⟨1, by simp [DataW.trod, Try.underlying3, wq]⟩

set_option maxHeartbeats 4000000 in
theorem walk (p0 q0 : Int) (p1 q1 : Int) (p2 q2 : Int) (wp0 : (Lit.int .i64 p0).wf = true) (wq0 : (Lit.int .i64 q0).wf = true) (wp1 : (Lit.int .i64 p1).wf = true) (wq1 : (Lit.int .i64 q1).wf = true) (wp2 : (Lit.int .i64 p2).wf = true) (wq2 : (Lit.int .i64 q2).wf = true) (w : World) :
    Calls Try.prog 13 #[.agg #[.int .i64 p0, .int .i64 q0], .agg #[.int .i64 p1, .int .i64 q1], .agg #[.int .i64 p2, .int .i64 q2]] w fun e w' => e = .returned (.bool true) ∧ Below w.heap.size w w' := by
  by_cases h0 : vld p0 q0 = true
  · by_cases h1 : vld p1 q1 = true
    · by_cases h2 : vld p2 q2 = true
      · have zb := fl_in h0
        have yb := fl_in (vld_negP h0)
        have ub1 : -2147483647 ≤ -(fl (-p0) q0) := by omega
        have ub2 : -(fl (-p0) q0) ≤ 2147483647 := by omega
        have cf := ceil_floor h0
        have FA := fun w => floorR_any p0 q0 w
        have CA := fun w => ceilR_any p0 q0 w
        rw [show floorR p0 q0 = intR (fl p0 q0) from if_pos h0] at FA
        rw [show ceilR p0 q0 = intR (-(fl (-p0) q0)) from if_pos h0] at CA
        have FAY := hidc FA (intR_yes zb.1 zb.2)
        have CAY := hidc CA (intR_yes ub1 ub2)
        have vz := vld_int zb.1 zb.2
        have vu := vld_int ub1 ub2
        have s1 : ratCmp (fl p0 q0) 1 p0 q0 ≤ 0 := by
          rw [ratCmp_yes vz h0, cmp_le0]; have := (fl_le h0).1; omega
        have t1 : 0 ≤ ratCmp (-(fl (-p0) q0)) 1 p0 q0 := by
          rw [ratCmp_yes vu h0, cmp_ge0, Int.neg_mul]; have := (fl_le (vld_negP h0)).1; omega
        have CZY := hidn (fun w => cmp_any (fl p0 q0) 1 p0 q0 w) rfl
        have CUY := hidn (fun w => cmp_any (-(fl (-p0) q0)) 1 p0 q0 w) rfl
        have hq : ((-(fl (-p0) q0) == fl p0 q0) == (q0 == 1)) = true := by
          rw [beq_iff_eq, Bool.eq_iff_iff, beq_iff_eq, beq_iff_eq]; exact cf.2.2
        have AAC := fun w => add_any p0 q0 p2 q2 w
        have ABC := fun w => add_any p1 q1 p2 q2 w
        rw [addR_yes h0 h2, ← rat_add (vq h0) (vq h2)] at AAC
        rw [addR_yes h1 h2, ← rat_add (vq h1) (vq h2)] at ABC
        rcases tri (rat p0 q0) (rat p1 q1) with hlt | heq | hlt
        · have CAB := hidn (fun w => cmp_any p0 q0 p1 q1 w) (ratCmp_lt' h0 h1 hlt)
          have hne : ¬ (p0 = p1 ∧ q0 = q1) := fun h => by rw [h.1, h.2] at hlt; exact Rat.lt_irrefl hlt
          rcases pq_no hne with hpq | ⟨rfl, hpq⟩
          · by_cases hk : ratCmp p1 q1 p2 q2 ≤ 0
            · by_cases f1 : fit (rat p0 q0 + rat p2 q2) = true
              · by_cases f2 : fit (rat p1 q1 + rat p2 q2) = true
                · have CXY := hidn (fun w => cmp_any (oP (rat p0 q0 + rat p2 q2)) (oQ (rat p0 q0 + rat p2 q2)) (oP (rat p1 q1 + rat p2 q2)) (oQ (rat p1 q1 + rat p2 q2)) w) (ratCmp_lt f1 f2 (Rat.add_lt_add_right.2 hlt))
                  exact or_ltaleboth (w := w) (h0 := h0) (h2 := h2) (CAB := CAB) (h1 := h1) (hpq := hpq) (hk := hk) (CBC := hidn (fun w => cmp_any p1 q1 p2 q2 w) rfl) (hl := (ratCmp_le0 h0 h2).2 (Rat.le_trans (Rat.le_of_lt hlt) ((ratCmp_le0 h1 h2).1 hk))) (CAC := hidn (fun w => cmp_any p0 q0 p2 q2 w) rfl) (AAC := hidc AAC (r3_fit f1)) (ABC := hidc ABC (r3_fit f2)) (CXY := CXY) (FA := FAY) (CA := CAY) (CZ := CZY) (CU := CUY) (hs := s1) (ht := t1) (hz1 := zb.1) (hz2 := zb.2) (hu1 := ub1) (hu2 := ub2) (huz := cf.1) (hq := hq)
                · exact or_ltalesecond (w := w) (h0 := h0) (h2 := h2) (CAB := CAB) (h1 := h1) (hpq := hpq) (hk := hk) (CBC := hidn (fun w => cmp_any p1 q1 p2 q2 w) rfl) (hl := (ratCmp_le0 h0 h2).2 (Rat.le_trans (Rat.le_of_lt hlt) ((ratCmp_le0 h1 h2).1 hk))) (CAC := hidn (fun w => cmp_any p0 q0 p2 q2 w) rfl) (AAC := hidc AAC (r3_fit f1)) (ABC := hidc ABC (r3_not (by simpa using f2))) (FA := FAY) (CA := CAY) (CZ := CZY) (CU := CUY) (hs := s1) (ht := t1) (hz1 := zb.1) (hz2 := zb.2) (hu1 := ub1) (hu2 := ub2) (huz := cf.1) (hq := hq)
              · exact or_ltalefirst (w := w) (h0 := h0) (h2 := h2) (CAB := CAB) (h1 := h1) (hpq := hpq) (hk := hk) (CBC := hidn (fun w => cmp_any p1 q1 p2 q2 w) rfl) (hl := (ratCmp_le0 h0 h2).2 (Rat.le_trans (Rat.le_of_lt hlt) ((ratCmp_le0 h1 h2).1 hk))) (CAC := hidn (fun w => cmp_any p0 q0 p2 q2 w) rfl) (AAC := hidc AAC (r3_not (by simpa using f1))) (ABC := hidg ABC) (FA := FAY) (CA := CAY) (CZ := CZY) (CU := CUY) (hs := s1) (ht := t1) (hz1 := zb.1) (hz2 := zb.2) (hu1 := ub1) (hu2 := ub2) (huz := cf.1) (hq := hq)
            · by_cases f1 : fit (rat p0 q0 + rat p2 q2) = true
              · by_cases f2 : fit (rat p1 q1 + rat p2 q2) = true
                · have CXY := hidn (fun w => cmp_any (oP (rat p0 q0 + rat p2 q2)) (oQ (rat p0 q0 + rat p2 q2)) (oP (rat p1 q1 + rat p2 q2)) (oQ (rat p1 q1 + rat p2 q2)) w) (ratCmp_lt f1 f2 (Rat.add_lt_add_right.2 hlt))
                  exact or_ltanoboth (w := w) (h0 := h0) (h2 := h2) (CAB := CAB) (h1 := h1) (hpq := hpq) (hk := by omega) (CBC := hidn (fun w => cmp_any p1 q1 p2 q2 w) rfl) (AAC := hidc AAC (r3_fit f1)) (ABC := hidc ABC (r3_fit f2)) (CXY := CXY) (FA := FAY) (CA := CAY) (CZ := CZY) (CU := CUY) (hs := s1) (ht := t1) (hz1 := zb.1) (hz2 := zb.2) (hu1 := ub1) (hu2 := ub2) (huz := cf.1) (hq := hq)
                · exact or_ltanosecond (w := w) (h0 := h0) (h2 := h2) (CAB := CAB) (h1 := h1) (hpq := hpq) (hk := by omega) (CBC := hidn (fun w => cmp_any p1 q1 p2 q2 w) rfl) (AAC := hidc AAC (r3_fit f1)) (ABC := hidc ABC (r3_not (by simpa using f2))) (FA := FAY) (CA := CAY) (CZ := CZY) (CU := CUY) (hs := s1) (ht := t1) (hz1 := zb.1) (hz2 := zb.2) (hu1 := ub1) (hu2 := ub2) (huz := cf.1) (hq := hq)
              · exact or_ltanofirst (w := w) (h0 := h0) (h2 := h2) (CAB := CAB) (h1 := h1) (hpq := hpq) (hk := by omega) (CBC := hidn (fun w => cmp_any p1 q1 p2 q2 w) rfl) (AAC := hidc AAC (r3_not (by simpa using f1))) (ABC := hidg ABC) (FA := FAY) (CA := CAY) (CZ := CZY) (CU := CUY) (hs := s1) (ht := t1) (hz1 := zb.1) (hz2 := zb.2) (hu1 := ub1) (hu2 := ub2) (huz := cf.1) (hq := hq)
          · by_cases hk : ratCmp p0 q1 p2 q2 ≤ 0
            · by_cases f1 : fit (rat p0 q0 + rat p2 q2) = true
              · by_cases f2 : fit (rat p0 q1 + rat p2 q2) = true
                · have CXY := hidn (fun w => cmp_any (oP (rat p0 q0 + rat p2 q2)) (oQ (rat p0 q0 + rat p2 q2)) (oP (rat p0 q1 + rat p2 q2)) (oQ (rat p0 q1 + rat p2 q2)) w) (ratCmp_lt f1 f2 (Rat.add_lt_add_right.2 hlt))
                  exact or_ltbleboth (w := w) (h0 := h0) (h2 := h2) (CAB := CAB) (h1 := h1) (hpq := hpq) (hk := hk) (CBC := hidn (fun w => cmp_any p0 q1 p2 q2 w) rfl) (hl := (ratCmp_le0 h0 h2).2 (Rat.le_trans (Rat.le_of_lt hlt) ((ratCmp_le0 h1 h2).1 hk))) (CAC := hidn (fun w => cmp_any p0 q0 p2 q2 w) rfl) (AAC := hidc AAC (r3_fit f1)) (ABC := hidc ABC (r3_fit f2)) (CXY := CXY) (FA := FAY) (CA := CAY) (CZ := CZY) (CU := CUY) (hs := s1) (ht := t1) (hz1 := zb.1) (hz2 := zb.2) (hu1 := ub1) (hu2 := ub2) (huz := cf.1) (hq := hq)
                · exact or_ltblesecond (w := w) (h0 := h0) (h2 := h2) (CAB := CAB) (h1 := h1) (hpq := hpq) (hk := hk) (CBC := hidn (fun w => cmp_any p0 q1 p2 q2 w) rfl) (hl := (ratCmp_le0 h0 h2).2 (Rat.le_trans (Rat.le_of_lt hlt) ((ratCmp_le0 h1 h2).1 hk))) (CAC := hidn (fun w => cmp_any p0 q0 p2 q2 w) rfl) (AAC := hidc AAC (r3_fit f1)) (ABC := hidc ABC (r3_not (by simpa using f2))) (FA := FAY) (CA := CAY) (CZ := CZY) (CU := CUY) (hs := s1) (ht := t1) (hz1 := zb.1) (hz2 := zb.2) (hu1 := ub1) (hu2 := ub2) (huz := cf.1) (hq := hq)
              · exact or_ltblefirst (w := w) (h0 := h0) (h2 := h2) (CAB := CAB) (h1 := h1) (hpq := hpq) (hk := hk) (CBC := hidn (fun w => cmp_any p0 q1 p2 q2 w) rfl) (hl := (ratCmp_le0 h0 h2).2 (Rat.le_trans (Rat.le_of_lt hlt) ((ratCmp_le0 h1 h2).1 hk))) (CAC := hidn (fun w => cmp_any p0 q0 p2 q2 w) rfl) (AAC := hidc AAC (r3_not (by simpa using f1))) (ABC := hidg ABC) (FA := FAY) (CA := CAY) (CZ := CZY) (CU := CUY) (hs := s1) (ht := t1) (hz1 := zb.1) (hz2 := zb.2) (hu1 := ub1) (hu2 := ub2) (huz := cf.1) (hq := hq)
            · by_cases f1 : fit (rat p0 q0 + rat p2 q2) = true
              · by_cases f2 : fit (rat p0 q1 + rat p2 q2) = true
                · have CXY := hidn (fun w => cmp_any (oP (rat p0 q0 + rat p2 q2)) (oQ (rat p0 q0 + rat p2 q2)) (oP (rat p0 q1 + rat p2 q2)) (oQ (rat p0 q1 + rat p2 q2)) w) (ratCmp_lt f1 f2 (Rat.add_lt_add_right.2 hlt))
                  exact or_ltbnoboth (w := w) (h0 := h0) (h2 := h2) (CAB := CAB) (h1 := h1) (hpq := hpq) (hk := by omega) (CBC := hidn (fun w => cmp_any p0 q1 p2 q2 w) rfl) (AAC := hidc AAC (r3_fit f1)) (ABC := hidc ABC (r3_fit f2)) (CXY := CXY) (FA := FAY) (CA := CAY) (CZ := CZY) (CU := CUY) (hs := s1) (ht := t1) (hz1 := zb.1) (hz2 := zb.2) (hu1 := ub1) (hu2 := ub2) (huz := cf.1) (hq := hq)
                · exact or_ltbnosecond (w := w) (h0 := h0) (h2 := h2) (CAB := CAB) (h1 := h1) (hpq := hpq) (hk := by omega) (CBC := hidn (fun w => cmp_any p0 q1 p2 q2 w) rfl) (AAC := hidc AAC (r3_fit f1)) (ABC := hidc ABC (r3_not (by simpa using f2))) (FA := FAY) (CA := CAY) (CZ := CZY) (CU := CUY) (hs := s1) (ht := t1) (hz1 := zb.1) (hz2 := zb.2) (hu1 := ub1) (hu2 := ub2) (huz := cf.1) (hq := hq)
              · exact or_ltbnofirst (w := w) (h0 := h0) (h2 := h2) (CAB := CAB) (h1 := h1) (hpq := hpq) (hk := by omega) (CBC := hidn (fun w => cmp_any p0 q1 p2 q2 w) rfl) (AAC := hidc AAC (r3_not (by simpa using f1))) (ABC := hidg ABC) (FA := FAY) (CA := CAY) (CZ := CZY) (CU := CUY) (hs := s1) (ht := t1) (hz1 := zb.1) (hz2 := zb.2) (hu1 := ub1) (hu2 := ub2) (huz := cf.1) (hq := hq)
        · obtain ⟨rfl, rfl⟩ := rat_inj h0 h1 heq
          have CAB := hidn (fun w => cmp_any p0 q0 p0 q0 w) (ratCmp_refl h0)
          by_cases hk : ratCmp p0 q0 p2 q2 ≤ 0
          · by_cases f1 : fit (rat p0 q0 + rat p2 q2) = true
            · have CXY := hidn (fun w => cmp_any (oP (rat p0 q0 + rat p2 q2)) (oQ (rat p0 q0 + rat p2 q2)) (oP (rat p0 q0 + rat p2 q2)) (oQ (rat p0 q0 + rat p2 q2)) w) (ratCmp_eq f1)
              exact or_eqleboth (w := w) (h0 := h0) (h2 := h2) (CAB := CAB) (hk := hk) (CBC := hidn (fun w => cmp_any p0 q0 p2 q2 w) rfl) (AAC := hidc AAC (r3_fit f1)) (ABC := hidc AAC (r3_fit f1)) (CXY := CXY) (FA := FAY) (CA := CAY) (CZ := CZY) (CU := CUY) (hs := s1) (ht := t1) (hz1 := zb.1) (hz2 := zb.2) (hu1 := ub1) (hu2 := ub2) (huz := cf.1) (hq := hq)
            · exact or_eqlenone (w := w) (h0 := h0) (h2 := h2) (CAB := CAB) (hk := hk) (CBC := hidn (fun w => cmp_any p0 q0 p2 q2 w) rfl) (AAC := hidc AAC (r3_not (by simpa using f1))) (ABC := hidc AAC (r3_not (by simpa using f1))) (FA := FAY) (CA := CAY) (CZ := CZY) (CU := CUY) (hs := s1) (ht := t1) (hz1 := zb.1) (hz2 := zb.2) (hu1 := ub1) (hu2 := ub2) (huz := cf.1) (hq := hq)
          · by_cases f1 : fit (rat p0 q0 + rat p2 q2) = true
            · have CXY := hidn (fun w => cmp_any (oP (rat p0 q0 + rat p2 q2)) (oQ (rat p0 q0 + rat p2 q2)) (oP (rat p0 q0 + rat p2 q2)) (oQ (rat p0 q0 + rat p2 q2)) w) (ratCmp_eq f1)
              exact or_eqnoboth (w := w) (h0 := h0) (h2 := h2) (CAB := CAB) (hk := by omega) (CBC := hidn (fun w => cmp_any p0 q0 p2 q2 w) rfl) (AAC := hidc AAC (r3_fit f1)) (ABC := hidc AAC (r3_fit f1)) (CXY := CXY) (FA := FAY) (CA := CAY) (CZ := CZY) (CU := CUY) (hs := s1) (ht := t1) (hz1 := zb.1) (hz2 := zb.2) (hu1 := ub1) (hu2 := ub2) (huz := cf.1) (hq := hq)
            · exact or_eqnonone (w := w) (h0 := h0) (h2 := h2) (CAB := CAB) (hk := by omega) (CBC := hidn (fun w => cmp_any p0 q0 p2 q2 w) rfl) (AAC := hidc AAC (r3_not (by simpa using f1))) (ABC := hidc AAC (r3_not (by simpa using f1))) (FA := FAY) (CA := CAY) (CZ := CZY) (CU := CUY) (hs := s1) (ht := t1) (hz1 := zb.1) (hz2 := zb.2) (hu1 := ub1) (hu2 := ub2) (huz := cf.1) (hq := hq)
        · have CAB := hidn (fun w => cmp_any p0 q0 p1 q1 w) (ratCmp_gt' h0 h1 hlt)
          have hne : ¬ (p0 = p1 ∧ q0 = q1) := fun h => by rw [h.1, h.2] at hlt; exact Rat.lt_irrefl hlt
          rcases pq_no hne with hpq | ⟨rfl, hpq⟩
          · by_cases f1 : fit (rat p0 q0 + rat p2 q2) = true
            · by_cases f2 : fit (rat p1 q1 + rat p2 q2) = true
              · have CXY := hidn (fun w => cmp_any (oP (rat p0 q0 + rat p2 q2)) (oQ (rat p0 q0 + rat p2 q2)) (oP (rat p1 q1 + rat p2 q2)) (oQ (rat p1 q1 + rat p2 q2)) w) (ratCmp_gt f1 f2 (Rat.add_lt_add_right.2 hlt))
                exact or_gtaboth (w := w) (h0 := h0) (h2 := h2) (CAB := CAB) (h1 := h1) (hpq := hpq) (AAC := hidc AAC (r3_fit f1)) (ABC := hidc ABC (r3_fit f2)) (CXY := CXY) (FA := FAY) (CA := CAY) (CZ := CZY) (CU := CUY) (hs := s1) (ht := t1) (hz1 := zb.1) (hz2 := zb.2) (hu1 := ub1) (hu2 := ub2) (huz := cf.1) (hq := hq)
              · exact or_gtasecond (w := w) (h0 := h0) (h2 := h2) (CAB := CAB) (h1 := h1) (hpq := hpq) (AAC := hidc AAC (r3_fit f1)) (ABC := hidc ABC (r3_not (by simpa using f2))) (FA := FAY) (CA := CAY) (CZ := CZY) (CU := CUY) (hs := s1) (ht := t1) (hz1 := zb.1) (hz2 := zb.2) (hu1 := ub1) (hu2 := ub2) (huz := cf.1) (hq := hq)
            · exact or_gtafirst (w := w) (h0 := h0) (h2 := h2) (CAB := CAB) (h1 := h1) (hpq := hpq) (AAC := hidc AAC (r3_not (by simpa using f1))) (ABC := hidg ABC) (FA := FAY) (CA := CAY) (CZ := CZY) (CU := CUY) (hs := s1) (ht := t1) (hz1 := zb.1) (hz2 := zb.2) (hu1 := ub1) (hu2 := ub2) (huz := cf.1) (hq := hq)
          · by_cases f1 : fit (rat p0 q0 + rat p2 q2) = true
            · by_cases f2 : fit (rat p0 q1 + rat p2 q2) = true
              · have CXY := hidn (fun w => cmp_any (oP (rat p0 q0 + rat p2 q2)) (oQ (rat p0 q0 + rat p2 q2)) (oP (rat p0 q1 + rat p2 q2)) (oQ (rat p0 q1 + rat p2 q2)) w) (ratCmp_gt f1 f2 (Rat.add_lt_add_right.2 hlt))
                exact or_gtbboth (w := w) (h0 := h0) (h2 := h2) (CAB := CAB) (h1 := h1) (hpq := hpq) (AAC := hidc AAC (r3_fit f1)) (ABC := hidc ABC (r3_fit f2)) (CXY := CXY) (FA := FAY) (CA := CAY) (CZ := CZY) (CU := CUY) (hs := s1) (ht := t1) (hz1 := zb.1) (hz2 := zb.2) (hu1 := ub1) (hu2 := ub2) (huz := cf.1) (hq := hq)
              · exact or_gtbsecond (w := w) (h0 := h0) (h2 := h2) (CAB := CAB) (h1 := h1) (hpq := hpq) (AAC := hidc AAC (r3_fit f1)) (ABC := hidc ABC (r3_not (by simpa using f2))) (FA := FAY) (CA := CAY) (CZ := CZY) (CU := CUY) (hs := s1) (ht := t1) (hz1 := zb.1) (hz2 := zb.2) (hu1 := ub1) (hu2 := ub2) (huz := cf.1) (hq := hq)
            · exact or_gtbfirst (w := w) (h0 := h0) (h2 := h2) (CAB := CAB) (h1 := h1) (hpq := hpq) (AAC := hidc AAC (r3_not (by simpa using f1))) (ABC := hidg ABC) (FA := FAY) (CA := CAY) (CZ := CZY) (CU := CUY) (hs := s1) (ht := t1) (hz1 := zb.1) (hz2 := zb.2) (hu1 := ub1) (hu2 := ub2) (huz := cf.1) (hq := hq)
      · exact or_bad3 p0 q0 p1 q1 p2 q2 w h0 h1 (by simpa using h2)
    · exact or_bad2 p0 q0 p1 q1 p2 q2 w h0 (by simpa using h1)
  · exact or_bad1 p0 q0 p1 q1 p2 q2 w (by simpa using h0)

set_option maxRecDepth 100000 in
theorem lifted (os : Os) (started : os.Started) (H : Type) (enc : TypeId × Value → H) :
    ReturnsInHanded {} Try.checked os 13 .any (Rows.rationalOrdersSpec.pre6 enc Try.prog Try.f13 Rows.rationalOrdersRow.domain false) (Rows.rationalOrdersSpec.post enc Try.prog Try.f13 false true false false) := by
  refine returnsInHanded_of_change (C := Try.checked) own started (by kernel_rfl) Try.func13
    (ChangeSpec.witness6 (enc := enc) (C := Try.checked) false ⟨#[], #[.agg #[.int .i64 0, .int .i64 0], .agg #[.int .i64 0, .int .i64 0], .agg #[.int .i64 0, .int .i64 0]], []⟩ 8 (by kernel_rfl) (by kernel_rfl) (by kernel_rfl) (by kernel_rfl)) ?_
  intro W base args ds gs before hval0 hW hcnd _
  have hval : ∀ (j : Nat) t v, Try.f13.params[j]? = some t → args[j]? = some v → Value.okWide Try.prog W .any base t v := hval0
  have hW' := hW
  obtain ⟨p, q, hA0, hV, rfl, hfz, hnd⟩ := hW
  have hA : DataW.TrodAll enc Try.prog W 0 (fun _ => true) true Try.f13.params.toList args.toList ds p := hA0
  rw [Try.params13] at hA hval
  obtain ⟨v0, vs0, d0, ds0, p_0, q_0, hargs, rfl, rfl, h0, r0⟩ := trodAll_cons hA
  obtain ⟨v1, vs1, d1, ds1, p_1, q_1, rfl, rfl, rfl, h1, r1⟩ := trodAll_cons r0
  obtain ⟨v2, vs2, d2, ds2, p_2, q_2, rfl, rfl, rfl, h2, r2⟩ := trodAll_cons r1
  obtain ⟨rfl, rfl, rfl⟩ := trodAll_nil r2
  obtain rfl : args = #[v0, v1, v2] := by cases args; simp_all
  obtain ⟨rfl, rfl⟩ := trodVars_none hV
  obtain ⟨c00, c01, y00, y01, m0, rfl, rfl, rfl, hy00, hy01⟩ := open_agg2 Try.underlying23 (by kernel_rfl) cellsNum (hval 0 23 v0 rfl rfl) h0
  obtain ⟨p0, ep0, rfl, wp0⟩ := DataW.trod_int Try.underlying3 hy00
  obtain ⟨q0, eq0, rfl, wq0⟩ := DataW.trod_int Try.underlying3 hy01
  simp at ep0 eq0
  subst ep0 eq0
  obtain ⟨c10, c11, y10, y11, m1, rfl, rfl, rfl, hy10, hy11⟩ := open_agg2 Try.underlying23 (by kernel_rfl) cellsNum (hval 1 23 v1 rfl rfl) h1
  obtain ⟨p1, ep1, rfl, wp1⟩ := DataW.trod_int Try.underlying3 hy10
  obtain ⟨q1, eq1, rfl, wq1⟩ := DataW.trod_int Try.underlying3 hy11
  simp at ep1 eq1
  subst ep1 eq1
  obtain ⟨c20, c21, y20, y21, m2, rfl, rfl, rfl, hy20, hy21⟩ := open_agg2 Try.underlying23 (by kernel_rfl) cellsNum (hval 2 23 v2 rfl rfl) h2
  obtain ⟨p2, ep2, rfl, wp2⟩ := DataW.trod_int Try.underlying3 hy20
  obtain ⟨q2, eq2, rfl, wq2⟩ := DataW.trod_int Try.underlying3 hy21
  simp at ep2 eq2
  subst ep2 eq2
  clear hA0 hval0
  simp only [List.append_nil] at hW'
  refine (walk p0 q0 p1 q1 p2 q2 wp0 wq0 wp1 wq1 wp2 wq2 W).mono fun e W' ⟨he, bel⟩ => ?_
  subst he
  exact ⟨_, rfl, _, _, _, [], [], [], hW', trodAll_mk1 (shut_bool Try.underlying4 _), (trodAll_cons_mk (numReads W' _ p0 q0 wp0 wq0) (trodAll_cons_mk (numReads W' _ p1 q1 wp1 wq1) (trodAll_cons_mk (numReads W' _ p2 q2 wp2 wq2) trodAll_mk0))), rfl, bel.frame _, fun h => by cases h⟩

theorem over : Rows.rationalOrdersRow.holds Try.pinned (OpenSpec.ofChange Rows.rationalOrdersSpec) :=
  OpenClaim.holds_of_wide 13 Try.f13 rfl rfl rfl rfl rfl rfl rfl ⟨rfl, rfl, rfl, rfl, rfl⟩ rfl rfl rfl rfl rfl (by kernel_rfl) Try.func13 (by kernel_rfl)
    (of_decide_eq_true (by kernel_rfl)) (by unfold Func.isWrapper; first | (rw [if_pos (by decide +kernel)]; kernel_rfl) | (rw [if_neg (by decide +kernel)]; exact ⟨rfl, rfl⟩))
    (fun os started H enc _ => lifted os started H enc)

/-- The given statement. -/
theorem proved : Rows.RationalOrdersSaid := over
#print axioms proved
end Go.Proofs.Ytpoljkgfaceniaa.rationalOrdersLaw
