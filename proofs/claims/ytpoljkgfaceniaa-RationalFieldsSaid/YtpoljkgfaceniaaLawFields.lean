/- For all triples of pairs of integers that are numbers, sums and products are commutative, and associative and distributive where the results exist; a difference is the sum with the negative number, a quotient inverts a product, and Make of the parts of a number is the number. No condition. -/
import Derived.Test.YtpoljkgfaceniaaFldA
import Derived.Test.YtpoljkgfaceniaaFldB
import Derived.Test.YtpoljkgfaceniaaFldC
import Derived.Test.YtpoljkgfaceniaaFldD
import Derived.ProofKit
import Derived.OpenShut
import Derived.ChangeOld
import Derived.Below
import Derived.Lib.SmallJoins
namespace Go.Proofs.Ytpoljkgfaceniaa.rationalFieldsLaw
open Go.ChangeShapes Go.WideShapes Go.ChangeAt Go.RowKit Go.Joins M1
set_option linter.unusedVariables false

theorem vld_int {n : Int} (h1 : -2147483647 ≤ n) (h2 : n ≤ 2147483647) : vld n 1 = true := vld_iff.2 ⟨by omega, by omega, h1, h2, by simp⟩
theorem vq {p q : Int} (h : vld p q = true) : q ≠ 0 := by have := (vld_iff.1 h).1; omega
theorem add_o {s r : Rat} (hs : fit s = true) (hr : fit r = true) : addR (oP s) (oQ s) (oP r) (oQ r) = out (s + r) := by
  rw [addR_yes (vld_o hs) (vld_o hr), ← rat_add (vq (vld_o hs)) (vq (vld_o hr)), rat_o hs, rat_o hr]
theorem r3_fit {r : Rat} (h : fit r = true) : (out r).P = oP r ∧ (out r).Q = oQ r ∧ (out r).E = 0 := ⟨rfl, rfl, oE_fit h⟩
theorem r3_not {r : Rat} (h : fit r = false) : (out r).P = 0 ∧ (out r).Q = 0 ∧ (out r).E = 6 := ⟨oP_not h, oQ_not h, oE_not h⟩
theorem hidc {P : Program} {f : FuncId} {args : Array Value} {x : R3} {a b c : Int} (h : ∀ w, Calls P f args w fun e w' => e = .returned (.tuple #[.agg #[.int .i64 x.P, .int .i64 x.Q], .int .i64 x.E]) ∧ Below w.heap.size w w')
    (hx : x.P = a ∧ x.Q = b ∧ x.E = c) : Hid (∀ w, Calls P f args w fun e w' => e = .returned (.tuple #[.agg #[.int .i64 a, .int .i64 b], .int .i64 c]) ∧ Below w.heap.size w w') := by
  obtain ⟨h1, h2, h3⟩ := hx
  rw [h1, h2, h3] at h
  exact Lib.hid h
theorem hidn {P : Program} {f : FuncId} {args : Array Value} {x a : Int} (h : ∀ w, Calls P f args w fun e w' => e = .returned (.int .i64 x) ∧ Below w.heap.size w w')
    (hx : x = a) : Hid (∀ w, Calls P f args w fun e w' => e = .returned (.int .i64 a) ∧ Below w.heap.size w w') := by
  rw [hx] at h
  exact Lib.hid h
theorem intR_yes {n : Int} (h1 : -2147483647 ≤ n) (h2 : n ≤ 2147483647) : (intR n).P = n ∧ (intR n).Q = 1 ∧ (intR n).E = 0 := by unfold intR; rw [if_pos ⟨h1, h2⟩]; exact ⟨rfl, rfl, rfl⟩
theorem intR_no {n : Int} (h : ¬ (-2147483647 ≤ n ∧ n ≤ 2147483647)) : (intR n).P = 0 ∧ (intR n).Q = 0 ∧ (intR n).E = 6 := by unfold intR; rw [if_neg h]; exact ⟨rfl, rfl, rfl⟩

theorem hidg {P : Program} {f : FuncId} {args : Array Value} {x : R3} (h : ∀ w, Calls P f args w fun e w' => e = .returned (.tuple #[.agg #[.int .i64 x.P, .int .i64 x.Q], .int .i64 x.E]) ∧ Below w.heap.size w w') :
    Hid (∀ w, Calls P f args w fun e w' => e = .returned (.tuple #[.agg #[.int .i64 x.P, .int .i64 x.Q], .int .i64 x.E]) ∧ Below w.heap.size w w') := Lib.hid h
theorem hidb {P : Program} {f : FuncId} {args : Array Value} {x b : Bool} (h : ∀ w, Calls P f args w fun e w' => e = .returned (.bool x) ∧ Below w.heap.size w w')
    (hx : x = b) : Hid (∀ w, Calls P f args w fun e w' => e = .returned (.bool b) ∧ Below w.heap.size w w') := by
  rw [hx] at h
  exact Lib.hid h
theorem add_vv {p q p' q' : Int} (h : vld p q = true) (h' : vld p' q' = true) : addR p q p' q' = out (rat p q + rat p' q') := by
  rw [addR_yes h h', ← rat_add (vq h) (vq h')]
theorem add_or {s : Rat} {p q : Int} (hs : fit s = true) (h : vld p q = true) : addR (oP s) (oQ s) p q = out (s + rat p q) := by
  rw [add_vv (vld_o hs) h, rat_o hs]
theorem add_ro {s : Rat} {p q : Int} (hs : fit s = true) (h : vld p q = true) : addR p q (oP s) (oQ s) = out (rat p q + s) := by
  rw [add_vv h (vld_o hs), rat_o hs]
theorem mul_vv {p q p' q' : Int} (h : vld p q = true) (h' : vld p' q' = true) : mulR p q p' q' = out (rat p q * rat p' q') := by
  rw [mulR_yes h h', ← rat_mul]
theorem mul_ro {s : Rat} {p q : Int} (hs : fit s = true) (h : vld p q = true) : mulR p q (oP s) (oQ s) = out (rat p q * s) := by
  rw [mul_vv h (vld_o hs), rat_o hs]
theorem sub_vv {p q p' q' : Int} (h : vld p q = true) (h' : vld p' q' = true) : subR p q p' q' = out (rat p q - rat p' q') := by
  rw [subR_yes h h', ← rat_sub (vq h) (vq h')]
theorem div_or {s : Rat} {p q : Int} (hs : fit s = true) (h : vld p q = true) (hp : p ≠ 0) : divR (oP s) (oQ s) p q = out (s / rat p q) := by
  unfold divR
  rw [if_pos (dvE_0 (vld_o hs) h hp), ← rat_div, rat_o hs]
theorem mul_div (r s : Rat) (hs : s ≠ 0) : r * s / s = r := by
  rw [Rat.div_def, Rat.mul_assoc, Rat.mul_inv_cancel s hs, Rat.mul_one]
theorem out_rat {p q : Int} (h : vld p q = true) : (out (rat p q)).P = p ∧ (out (rat p q)).Q = q ∧ (out (rat p q)).E = 0 := ⟨oP_rat h, oQ_rat h, oE_fit (rat_fit h)⟩
theorem make_rat {p q : Int} (h : vld p q = true) : makeR p q = out (rat p q) := by
  obtain ⟨h1, h2, h3, h4, _⟩ := vld_iff.1 h
  unfold makeR; rw [if_neg (by omega), if_pos (by omega)]

theorem not_fit {r : Rat} (h : ¬ fit r = true) : fit r = false := by simpa using h

theorem own : ownKnob Try.prog.godebug = none := by kernel_rfl
theorem cellsNum : Try.prog.cellsOf 23 = 2 := by kernel_rfl
theorem numReads {H : Type} {enc : TypeId × Value → H} (W' : World) (sp : Nat → Bool) (p q : Int) (wp : (Lit.int .i64 p).wf = true) (wq : (Lit.int .i64 q).wf = true) :
    DataW.Trod enc Try.prog W' 0 sp true 23 (.agg #[.int .i64 p, .int .i64 q]) (.agg [.lit (.int .i64 p), .lit (.int .i64 q)]) [] :=
  shut_agg2 (y0 := (.lit (.int .i64 p), [])) (y1 := (.lit (.int .i64 q), [])) Try.underlying23 (by kernel_rfl) cellsNum ⟨1, by simp [DataW.trod, Try.underlying3, wp]⟩ ⟨1, by simp [DataW.trod, Try.underlying3, wq]⟩

set_option maxHeartbeats 4000000 in
theorem walk (p0 q0 : Int) (p1 q1 : Int) (p2 q2 : Int) (wp0 : (Lit.int .i64 p0).wf = true) (wq0 : (Lit.int .i64 q0).wf = true) (wp1 : (Lit.int .i64 p1).wf = true) (wq1 : (Lit.int .i64 q1).wf = true) (wp2 : (Lit.int .i64 p2).wf = true) (wq2 : (Lit.int .i64 q2).wf = true) (w : World) :
    Calls Try.prog 11 #[.agg #[.int .i64 p0, .int .i64 q0], .agg #[.int .i64 p1, .int .i64 q1], .agg #[.int .i64 p2, .int .i64 q2]] w fun e w' => e = .returned (.bool true) ∧ Below w.heap.size w w' := by
  have V00 := hidb (fun w => valid_any 0 0 w) (show vld 0 0 = false by decide +kernel)
  by_cases h0 : vld p0 q0 = true
  · by_cases h1 : vld p1 q1 = true
    · by_cases h2 : vld p2 q2 = true
      · have AB := fun w => add_any p0 q0 p1 q1 w
        have BA := fun w => add_any p1 q1 p0 q0 w
        have BC := fun w => add_any p1 q1 p2 q2 w
        have MAB := fun w => mul_any p0 q0 p1 q1 w
        have MBA := fun w => mul_any p1 q1 p0 q0 w
        have MAC := fun w => mul_any p0 q0 p2 q2 w
        have NG := fun w => neg_any p1 q1 w
        have SB := fun w => sub_any p0 q0 p1 q1 w
        have AM := fun w => add_any p0 q0 (-p1) q1 w
        have MK := fun w => make_any p0 q0 w
        rw [add_vv h0 h1] at AB
        rw [add_vv h1 h0, Rat.add_comm] at BA
        rw [add_vv h1 h2] at BC
        rw [mul_vv h0 h1] at MAB
        rw [mul_vv h1 h0, Rat.mul_comm] at MBA
        rw [mul_vv h0 h2] at MAC
        rw [show negR p1 q1 = ⟨-p1, q1, 0⟩ from if_pos h1] at NG
        rw [sub_vv h0 h1] at SB
        rw [add_vv h0 (vld_negP h1), ← rat_neg, ← Rat.sub_eq_add_neg] at AM
        rw [make_rat h0] at MK
        by_cases f1 : fit (rat p0 q0 + rat p1 q1) = true
        · by_cases f2 : fit (rat p1 q1 + rat p2 q2) = true
          · by_cases f3 : fit (rat p0 q0 * rat p1 q1) = true
            · by_cases f4 : fit (rat p0 q0 * rat p2 q2) = true
              · by_cases hz : p1 = 0
                · have X1 := fun w => add_any (oP (rat p0 q0 + rat p1 q1)) (oQ (rat p0 q0 + rat p1 q1)) p2 q2 w
                  have X2 := fun w => add_any p0 q0 (oP (rat p1 q1 + rat p2 q2)) (oQ (rat p1 q1 + rat p2 q2)) w
                  rw [add_or f1 h2] at X1
                  rw [add_ro f2 h0, ← Rat.add_assoc] at X2
                  have Y1 := fun w => mul_any p0 q0 (oP (rat p1 q1 + rat p2 q2)) (oQ (rat p1 q1 + rat p2 q2)) w
                  have Y2 := fun w => add_any (oP (rat p0 q0 * rat p1 q1)) (oQ (rat p0 q0 * rat p1 q1)) (oP (rat p0 q0 * rat p2 q2)) (oQ (rat p0 q0 * rat p2 q2)) w
                  rw [mul_ro f2 h0] at Y1
                  rw [add_o f3 f4, ← Rat.mul_add] at Y2
                  exact fd_00001 (w := w) (h0 := h0) (h1 := h1) (h2 := h2) (AB := hidc AB (r3_fit f1)) (BA := hidc BA (r3_fit f1)) (BC := hidc BC (r3_fit f2)) (MAB := hidc MAB (r3_fit f3)) (MBA := hidc MBA (r3_fit f3)) (MAC := hidc MAC (r3_fit f4)) (VA := hidb (fun w => valid_any _ _ w) (vld_o f1)) (VM := hidb (fun w => valid_any _ _ w) (vld_o f3)) (X1 := hidg X1) (X2 := hidg X2) (Y1 := hidg Y1) (Y2 := hidg Y2) (hb := by simpa using hz) (NG := hidc NG ⟨rfl, rfl, rfl⟩) (SB := hidg SB) (AM := hidg AM) (MK := hidc MK (out_rat h0))
                · have X1 := fun w => add_any (oP (rat p0 q0 + rat p1 q1)) (oQ (rat p0 q0 + rat p1 q1)) p2 q2 w
                  have X2 := fun w => add_any p0 q0 (oP (rat p1 q1 + rat p2 q2)) (oQ (rat p1 q1 + rat p2 q2)) w
                  rw [add_or f1 h2] at X1
                  rw [add_ro f2 h0, ← Rat.add_assoc] at X2
                  have Y1 := fun w => mul_any p0 q0 (oP (rat p1 q1 + rat p2 q2)) (oQ (rat p1 q1 + rat p2 q2)) w
                  have Y2 := fun w => add_any (oP (rat p0 q0 * rat p1 q1)) (oQ (rat p0 q0 * rat p1 q1)) (oP (rat p0 q0 * rat p2 q2)) (oQ (rat p0 q0 * rat p2 q2)) w
                  rw [mul_ro f2 h0] at Y1
                  rw [add_o f3 f4, ← Rat.mul_add] at Y2
                  have DV := fun w => div_any (oP (rat p0 q0 * rat p1 q1)) (oQ (rat p0 q0 * rat p1 q1)) p1 q1 w
                  rw [div_or f3 h1 hz, mul_div _ _ (fun h => hz ((rat_zero h1).1 h))] at DV
                  exact fd_00000 (w := w) (h0 := h0) (h1 := h1) (h2 := h2) (AB := hidc AB (r3_fit f1)) (BA := hidc BA (r3_fit f1)) (BC := hidc BC (r3_fit f2)) (MAB := hidc MAB (r3_fit f3)) (MBA := hidc MBA (r3_fit f3)) (MAC := hidc MAC (r3_fit f4)) (VA := hidb (fun w => valid_any _ _ w) (vld_o f1)) (VM := hidb (fun w => valid_any _ _ w) (vld_o f3)) (X1 := hidg X1) (X2 := hidg X2) (Y1 := hidg Y1) (Y2 := hidg Y2) (hb := by simpa using hz) (DV := hidc DV (out_rat h0)) (NG := hidc NG ⟨rfl, rfl, rfl⟩) (SB := hidg SB) (AM := hidg AM) (MK := hidc MK (out_rat h0))
              · have f4 := not_fit f4
                by_cases hz : p1 = 0
                · have X1 := fun w => add_any (oP (rat p0 q0 + rat p1 q1)) (oQ (rat p0 q0 + rat p1 q1)) p2 q2 w
                  have X2 := fun w => add_any p0 q0 (oP (rat p1 q1 + rat p2 q2)) (oQ (rat p1 q1 + rat p2 q2)) w
                  rw [add_or f1 h2] at X1
                  rw [add_ro f2 h0, ← Rat.add_assoc] at X2
                  exact fd_00061 (w := w) (h0 := h0) (h1 := h1) (h2 := h2) (AB := hidc AB (r3_fit f1)) (BA := hidc BA (r3_fit f1)) (BC := hidc BC (r3_fit f2)) (MAB := hidc MAB (r3_fit f3)) (MBA := hidc MBA (r3_fit f3)) (MAC := hidc MAC (r3_not f4)) (VA := hidb (fun w => valid_any _ _ w) (vld_o f1)) (VM := hidb (fun w => valid_any _ _ w) (vld_o f3)) (X1 := hidg X1) (X2 := hidg X2) (hb := by simpa using hz) (NG := hidc NG ⟨rfl, rfl, rfl⟩) (SB := hidg SB) (AM := hidg AM) (MK := hidc MK (out_rat h0))
                · have X1 := fun w => add_any (oP (rat p0 q0 + rat p1 q1)) (oQ (rat p0 q0 + rat p1 q1)) p2 q2 w
                  have X2 := fun w => add_any p0 q0 (oP (rat p1 q1 + rat p2 q2)) (oQ (rat p1 q1 + rat p2 q2)) w
                  rw [add_or f1 h2] at X1
                  rw [add_ro f2 h0, ← Rat.add_assoc] at X2
                  have DV := fun w => div_any (oP (rat p0 q0 * rat p1 q1)) (oQ (rat p0 q0 * rat p1 q1)) p1 q1 w
                  rw [div_or f3 h1 hz, mul_div _ _ (fun h => hz ((rat_zero h1).1 h))] at DV
                  exact fd_00060 (w := w) (h0 := h0) (h1 := h1) (h2 := h2) (AB := hidc AB (r3_fit f1)) (BA := hidc BA (r3_fit f1)) (BC := hidc BC (r3_fit f2)) (MAB := hidc MAB (r3_fit f3)) (MBA := hidc MBA (r3_fit f3)) (MAC := hidc MAC (r3_not f4)) (VA := hidb (fun w => valid_any _ _ w) (vld_o f1)) (VM := hidb (fun w => valid_any _ _ w) (vld_o f3)) (X1 := hidg X1) (X2 := hidg X2) (hb := by simpa using hz) (DV := hidc DV (out_rat h0)) (NG := hidc NG ⟨rfl, rfl, rfl⟩) (SB := hidg SB) (AM := hidg AM) (MK := hidc MK (out_rat h0))
            · have f3 := not_fit f3
              have X1 := fun w => add_any (oP (rat p0 q0 + rat p1 q1)) (oQ (rat p0 q0 + rat p1 q1)) p2 q2 w
              have X2 := fun w => add_any p0 q0 (oP (rat p1 q1 + rat p2 q2)) (oQ (rat p1 q1 + rat p2 q2)) w
              rw [add_or f1 h2] at X1
              rw [add_ro f2 h0, ← Rat.add_assoc] at X2
              exact fd_006xx (w := w) (h0 := h0) (h1 := h1) (h2 := h2) (AB := hidc AB (r3_fit f1)) (BA := hidc BA (r3_fit f1)) (BC := hidc BC (r3_fit f2)) (MAB := hidc MAB (r3_not f3)) (MBA := hidc MBA (r3_not f3)) (MAC := hidg MAC) (VA := hidb (fun w => valid_any _ _ w) (vld_o f1)) (X1 := hidg X1) (X2 := hidg X2) (NG := hidc NG ⟨rfl, rfl, rfl⟩) (SB := hidg SB) (AM := hidg AM) (MK := hidc MK (out_rat h0))
          · have f2 := not_fit f2
            by_cases f3 : fit (rat p0 q0 * rat p1 q1) = true
            · by_cases hz : p1 = 0
              · exact fd_060x1 (w := w) (h0 := h0) (h1 := h1) (h2 := h2) (AB := hidc AB (r3_fit f1)) (BA := hidc BA (r3_fit f1)) (BC := hidc BC (r3_not f2)) (MAB := hidc MAB (r3_fit f3)) (MBA := hidc MBA (r3_fit f3)) (MAC := hidg MAC) (VA := hidb (fun w => valid_any _ _ w) (vld_o f1)) (VM := hidb (fun w => valid_any _ _ w) (vld_o f3)) (hb := by simpa using hz) (NG := hidc NG ⟨rfl, rfl, rfl⟩) (SB := hidg SB) (AM := hidg AM) (MK := hidc MK (out_rat h0))
              · have DV := fun w => div_any (oP (rat p0 q0 * rat p1 q1)) (oQ (rat p0 q0 * rat p1 q1)) p1 q1 w
                rw [div_or f3 h1 hz, mul_div _ _ (fun h => hz ((rat_zero h1).1 h))] at DV
                exact fd_060x0 (w := w) (h0 := h0) (h1 := h1) (h2 := h2) (AB := hidc AB (r3_fit f1)) (BA := hidc BA (r3_fit f1)) (BC := hidc BC (r3_not f2)) (MAB := hidc MAB (r3_fit f3)) (MBA := hidc MBA (r3_fit f3)) (MAC := hidg MAC) (VA := hidb (fun w => valid_any _ _ w) (vld_o f1)) (VM := hidb (fun w => valid_any _ _ w) (vld_o f3)) (hb := by simpa using hz) (DV := hidc DV (out_rat h0)) (NG := hidc NG ⟨rfl, rfl, rfl⟩) (SB := hidg SB) (AM := hidg AM) (MK := hidc MK (out_rat h0))
            · have f3 := not_fit f3
              exact fd_066xx (w := w) (h0 := h0) (h1 := h1) (h2 := h2) (AB := hidc AB (r3_fit f1)) (BA := hidc BA (r3_fit f1)) (BC := hidc BC (r3_not f2)) (MAB := hidc MAB (r3_not f3)) (MBA := hidc MBA (r3_not f3)) (MAC := hidg MAC) (VA := hidb (fun w => valid_any _ _ w) (vld_o f1)) (NG := hidc NG ⟨rfl, rfl, rfl⟩) (SB := hidg SB) (AM := hidg AM) (MK := hidc MK (out_rat h0))
        · have f1 := not_fit f1
          by_cases f2 : fit (rat p1 q1 + rat p2 q2) = true
          · by_cases f3 : fit (rat p0 q0 * rat p1 q1) = true
            · by_cases f4 : fit (rat p0 q0 * rat p2 q2) = true
              · by_cases hz : p1 = 0
                · have Y1 := fun w => mul_any p0 q0 (oP (rat p1 q1 + rat p2 q2)) (oQ (rat p1 q1 + rat p2 q2)) w
                  have Y2 := fun w => add_any (oP (rat p0 q0 * rat p1 q1)) (oQ (rat p0 q0 * rat p1 q1)) (oP (rat p0 q0 * rat p2 q2)) (oQ (rat p0 q0 * rat p2 q2)) w
                  rw [mul_ro f2 h0] at Y1
                  rw [add_o f3 f4, ← Rat.mul_add] at Y2
                  exact fd_60001 (w := w) (h0 := h0) (h1 := h1) (h2 := h2) (AB := hidc AB (r3_not f1)) (BA := hidc BA (r3_not f1)) (BC := hidc BC (r3_fit f2)) (MAB := hidc MAB (r3_fit f3)) (MBA := hidc MBA (r3_fit f3)) (MAC := hidc MAC (r3_fit f4)) (VM := hidb (fun w => valid_any _ _ w) (vld_o f3)) (Y1 := hidg Y1) (Y2 := hidg Y2) (hb := by simpa using hz) (NG := hidc NG ⟨rfl, rfl, rfl⟩) (SB := hidg SB) (AM := hidg AM) (MK := hidc MK (out_rat h0))
                · have Y1 := fun w => mul_any p0 q0 (oP (rat p1 q1 + rat p2 q2)) (oQ (rat p1 q1 + rat p2 q2)) w
                  have Y2 := fun w => add_any (oP (rat p0 q0 * rat p1 q1)) (oQ (rat p0 q0 * rat p1 q1)) (oP (rat p0 q0 * rat p2 q2)) (oQ (rat p0 q0 * rat p2 q2)) w
                  rw [mul_ro f2 h0] at Y1
                  rw [add_o f3 f4, ← Rat.mul_add] at Y2
                  have DV := fun w => div_any (oP (rat p0 q0 * rat p1 q1)) (oQ (rat p0 q0 * rat p1 q1)) p1 q1 w
                  rw [div_or f3 h1 hz, mul_div _ _ (fun h => hz ((rat_zero h1).1 h))] at DV
                  exact fd_60000 (w := w) (h0 := h0) (h1 := h1) (h2 := h2) (AB := hidc AB (r3_not f1)) (BA := hidc BA (r3_not f1)) (BC := hidc BC (r3_fit f2)) (MAB := hidc MAB (r3_fit f3)) (MBA := hidc MBA (r3_fit f3)) (MAC := hidc MAC (r3_fit f4)) (VM := hidb (fun w => valid_any _ _ w) (vld_o f3)) (Y1 := hidg Y1) (Y2 := hidg Y2) (hb := by simpa using hz) (DV := hidc DV (out_rat h0)) (NG := hidc NG ⟨rfl, rfl, rfl⟩) (SB := hidg SB) (AM := hidg AM) (MK := hidc MK (out_rat h0))
              · have f4 := not_fit f4
                by_cases hz : p1 = 0
                · exact fd_60061 (w := w) (h0 := h0) (h1 := h1) (h2 := h2) (AB := hidc AB (r3_not f1)) (BA := hidc BA (r3_not f1)) (BC := hidc BC (r3_fit f2)) (MAB := hidc MAB (r3_fit f3)) (MBA := hidc MBA (r3_fit f3)) (MAC := hidc MAC (r3_not f4)) (VM := hidb (fun w => valid_any _ _ w) (vld_o f3)) (hb := by simpa using hz) (NG := hidc NG ⟨rfl, rfl, rfl⟩) (SB := hidg SB) (AM := hidg AM) (MK := hidc MK (out_rat h0))
                · have DV := fun w => div_any (oP (rat p0 q0 * rat p1 q1)) (oQ (rat p0 q0 * rat p1 q1)) p1 q1 w
                  rw [div_or f3 h1 hz, mul_div _ _ (fun h => hz ((rat_zero h1).1 h))] at DV
                  exact fd_60060 (w := w) (h0 := h0) (h1 := h1) (h2 := h2) (AB := hidc AB (r3_not f1)) (BA := hidc BA (r3_not f1)) (BC := hidc BC (r3_fit f2)) (MAB := hidc MAB (r3_fit f3)) (MBA := hidc MBA (r3_fit f3)) (MAC := hidc MAC (r3_not f4)) (VM := hidb (fun w => valid_any _ _ w) (vld_o f3)) (hb := by simpa using hz) (DV := hidc DV (out_rat h0)) (NG := hidc NG ⟨rfl, rfl, rfl⟩) (SB := hidg SB) (AM := hidg AM) (MK := hidc MK (out_rat h0))
            · have f3 := not_fit f3
              exact fd_606xx (w := w) (h0 := h0) (h1 := h1) (h2 := h2) (AB := hidc AB (r3_not f1)) (BA := hidc BA (r3_not f1)) (BC := hidc BC (r3_fit f2)) (MAB := hidc MAB (r3_not f3)) (MBA := hidc MBA (r3_not f3)) (MAC := hidg MAC) (NG := hidc NG ⟨rfl, rfl, rfl⟩) (SB := hidg SB) (AM := hidg AM) (MK := hidc MK (out_rat h0))
          · have f2 := not_fit f2
            by_cases f3 : fit (rat p0 q0 * rat p1 q1) = true
            · by_cases hz : p1 = 0
              · exact fd_660x1 (w := w) (h0 := h0) (h1 := h1) (h2 := h2) (AB := hidc AB (r3_not f1)) (BA := hidc BA (r3_not f1)) (BC := hidc BC (r3_not f2)) (MAB := hidc MAB (r3_fit f3)) (MBA := hidc MBA (r3_fit f3)) (MAC := hidg MAC) (VM := hidb (fun w => valid_any _ _ w) (vld_o f3)) (hb := by simpa using hz) (NG := hidc NG ⟨rfl, rfl, rfl⟩) (SB := hidg SB) (AM := hidg AM) (MK := hidc MK (out_rat h0))
              · have DV := fun w => div_any (oP (rat p0 q0 * rat p1 q1)) (oQ (rat p0 q0 * rat p1 q1)) p1 q1 w
                rw [div_or f3 h1 hz, mul_div _ _ (fun h => hz ((rat_zero h1).1 h))] at DV
                exact fd_660x0 (w := w) (h0 := h0) (h1 := h1) (h2 := h2) (AB := hidc AB (r3_not f1)) (BA := hidc BA (r3_not f1)) (BC := hidc BC (r3_not f2)) (MAB := hidc MAB (r3_fit f3)) (MBA := hidc MBA (r3_fit f3)) (MAC := hidg MAC) (VM := hidb (fun w => valid_any _ _ w) (vld_o f3)) (hb := by simpa using hz) (DV := hidc DV (out_rat h0)) (NG := hidc NG ⟨rfl, rfl, rfl⟩) (SB := hidg SB) (AM := hidg AM) (MK := hidc MK (out_rat h0))
            · have f3 := not_fit f3
              exact fd_666xx (w := w) (h0 := h0) (h1 := h1) (h2 := h2) (AB := hidc AB (r3_not f1)) (BA := hidc BA (r3_not f1)) (BC := hidc BC (r3_not f2)) (MAB := hidc MAB (r3_not f3)) (MBA := hidc MBA (r3_not f3)) (MAC := hidg MAC) (NG := hidc NG ⟨rfl, rfl, rfl⟩) (SB := hidg SB) (AM := hidg AM) (MK := hidc MK (out_rat h0))
      · exact fd_bad3 p0 q0 p1 q1 p2 q2 w h0 h1 (by simpa using h2) V00
    · exact fd_bad2 p0 q0 p1 q1 p2 q2 w h0 (by simpa using h1) V00
  · exact fd_bad1 p0 q0 p1 q1 p2 q2 w (by simpa using h0) V00

set_option maxRecDepth 100000 in
theorem lifted (os : Os) (started : os.Started) (H : Type) (enc : TypeId × Value → H) :
    ReturnsInHanded {} Try.checked os 11 .any (Rows.rationalFieldsSpec.pre6 enc Try.prog Try.f11 Rows.rationalFieldsRow.domain false) (Rows.rationalFieldsSpec.post enc Try.prog Try.f11 false true false false) := by
  refine returnsInHanded_of_change (C := Try.checked) own started (by kernel_rfl) Try.func11
    (ChangeSpec.witness6 (enc := enc) (C := Try.checked) false ⟨#[], #[.agg #[.int .i64 0, .int .i64 0], .agg #[.int .i64 0, .int .i64 0], .agg #[.int .i64 0, .int .i64 0]], []⟩ 8 (by kernel_rfl) (by kernel_rfl) (by kernel_rfl) (by kernel_rfl)) ?_
  intro W base args ds gs before hval0 hW hcnd _
  have hval : ∀ (j : Nat) t v, Try.f11.params[j]? = some t → args[j]? = some v → Value.okWide Try.prog W .any base t v := hval0
  have hW' := hW
  obtain ⟨p, q, hA0, hV, rfl, hfz, hnd⟩ := hW
  have hA : DataW.TrodAll enc Try.prog W 0 (fun _ => true) true Try.f11.params.toList args.toList ds p := hA0
  rw [Try.params11] at hA hval
  obtain ⟨v0, vs0, d0, ds0, p_0, q_0, hargs, rfl, rfl, h0, r0⟩ := trodAll_cons hA
  obtain ⟨v1, vs1, d1, ds1, p_1, q_1, rfl, rfl, rfl, h1, r1⟩ := trodAll_cons r0
  obtain ⟨v2, vs2, d2, ds2, p_2, q_2, rfl, rfl, rfl, h2, r2⟩ := trodAll_cons r1
  obtain ⟨rfl, rfl, rfl⟩ := trodAll_nil r2
  obtain rfl : args = #[v0, v1, v2] := by cases args; simp_all
  obtain ⟨rfl, rfl⟩ := trodVars_none hV
  obtain ⟨c00, c01, y00, y01, m0, rfl, rfl, rfl, hy00, hy01⟩ := open_agg2 Try.underlying23 (by kernel_rfl) cellsNum (hval 0 23 v0 rfl rfl) h0
  obtain ⟨p0, ep0, rfl, wp0⟩ := DataW.trod_int Try.underlying3 hy00
  obtain ⟨q0, eq0, rfl, wq0⟩ := DataW.trod_int Try.underlying3 hy01
  simp at ep0 eq0
  subst ep0 eq0
  obtain ⟨c10, c11, y10, y11, m1, rfl, rfl, rfl, hy10, hy11⟩ := open_agg2 Try.underlying23 (by kernel_rfl) cellsNum (hval 1 23 v1 rfl rfl) h1
  obtain ⟨p1, ep1, rfl, wp1⟩ := DataW.trod_int Try.underlying3 hy10
  obtain ⟨q1, eq1, rfl, wq1⟩ := DataW.trod_int Try.underlying3 hy11
  simp at ep1 eq1
  subst ep1 eq1
  obtain ⟨c20, c21, y20, y21, m2, rfl, rfl, rfl, hy20, hy21⟩ := open_agg2 Try.underlying23 (by kernel_rfl) cellsNum (hval 2 23 v2 rfl rfl) h2
  obtain ⟨p2, ep2, rfl, wp2⟩ := DataW.trod_int Try.underlying3 hy20
  obtain ⟨q2, eq2, rfl, wq2⟩ := DataW.trod_int Try.underlying3 hy21
  simp at ep2 eq2
  subst ep2 eq2
  clear hA0 hval0
  simp only [List.append_nil] at hW'
  refine (walk p0 q0 p1 q1 p2 q2 wp0 wq0 wp1 wq1 wp2 wq2 W).mono fun e W' ⟨he, bel⟩ => ?_
  subst he
  exact ⟨_, rfl, _, _, _, [], [], [], hW', trodAll_mk1 (shut_bool Try.underlying4 _), (trodAll_cons_mk (numReads W' _ p0 q0 wp0 wq0) (trodAll_cons_mk (numReads W' _ p1 q1 wp1 wq1) (trodAll_cons_mk (numReads W' _ p2 q2 wp2 wq2) trodAll_mk0))), rfl, bel.frame _, fun h => by cases h⟩

theorem over : Rows.rationalFieldsRow.holds Try.pinned (OpenSpec.ofChange Rows.rationalFieldsSpec) :=
  OpenClaim.holds_of_wide 11 Try.f11 rfl rfl rfl rfl rfl rfl rfl ⟨rfl, rfl, rfl, rfl, rfl⟩ rfl rfl rfl rfl rfl (by kernel_rfl) Try.func11 (by kernel_rfl)
    (of_decide_eq_true (by kernel_rfl)) (by unfold Func.isWrapper; first | (rw [if_pos (by decide +kernel)]; kernel_rfl) | (rw [if_neg (by decide +kernel)]; exact ⟨rfl, rfl⟩))
    (fun os started H enc _ => lifted os started H enc)

/-- The given statement. -/
theorem proved : Rows.RationalFieldsSaid := over
#print axioms proved
end Go.Proofs.Ytpoljkgfaceniaa.rationalFieldsLaw
