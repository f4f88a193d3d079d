/- For all pairs of integers, the divisor times the quotient plus the remainder is the dividend, and the remainder is 0 or has the sign of the divisor and is closer to 0, where these numbers exist. No condition. -/
import Derived.Test.YtpoljkgfaceniaaDivC
import Derived.ProofKit
import Derived.OpenShut
import Derived.ChangeOld
import Derived.Below
import Derived.Lib.SmallJoins
namespace Go.Proofs.Ytpoljkgfaceniaa.rationalDividesLaw
open Go.ChangeShapes Go.WideShapes Go.ChangeAt Go.RowKit Go.Joins M1
set_option linter.unusedVariables false

theorem vld_int {n : Int} (h1 : -2147483647 ≤ n) (h2 : n ≤ 2147483647) : vld n 1 = true := vld_iff.2 ⟨by omega, by omega, h1, h2, by simp⟩
theorem vq {p q : Int} (h : vld p q = true) : q ≠ 0 := by have := (vld_iff.1 h).1; omega
theorem add_o {s r : Rat} (hs : fit s = true) (hr : fit r = true) : addR (oP s) (oQ s) (oP r) (oQ r) = out (s + r) := by
  rw [addR_yes (vld_o hs) (vld_o hr), ← rat_add (vq (vld_o hs)) (vq (vld_o hr)), rat_o hs, rat_o hr]
theorem r3_fit {r : Rat} (h : fit r = true) : (out r).P = oP r ∧ (out r).Q = oQ r ∧ (out r).E = 0 := ⟨rfl, rfl, oE_fit h⟩
theorem r3_not {r : Rat} (h : fit r = false) : (out r).P = 0 ∧ (out r).Q = 0 ∧ (out r).E = 6 := ⟨oP_not h, oQ_not h, oE_not h⟩
theorem hidc {P : Program} {f : FuncId} {args : Array Value} {x : R3} {a b c : Int} (h : ∀ w, Calls P f args w fun e w' => e = .returned (.tuple #[.agg #[.int .i64 x.P, .int .i64 x.Q], .int .i64 x.E]) ∧ Below w.heap.size w w')
    (hx : x.P = a ∧ x.Q = b ∧ x.E = c) : Hid (∀ w, Calls P f args w fun e w' => e = .returned (.tuple #[.agg #[.int .i64 a, .int .i64 b], .int .i64 c]) ∧ Below w.heap.size w w') := by
  obtain ⟨h1, h2, h3⟩ := hx
  rw [h1, h2, h3] at h
  exact Lib.hid h
theorem hidn {P : Program} {f : FuncId} {args : Array Value} {x a : Int} (h : ∀ w, Calls P f args w fun e w' => e = .returned (.int .i64 x) ∧ Below w.heap.size w w')
    (hx : x = a) : Hid (∀ w, Calls P f args w fun e w' => e = .returned (.int .i64 a) ∧ Below w.heap.size w w') := by
  rw [hx] at h
  exact Lib.hid h
theorem intR_yes {n : Int} (h1 : -2147483647 ≤ n) (h2 : n ≤ 2147483647) : (intR n).P = n ∧ (intR n).Q = 1 ∧ (intR n).E = 0 := by unfold intR; rw [if_pos ⟨h1, h2⟩]; exact ⟨rfl, rfl, rfl⟩
theorem intR_no {n : Int} (h : ¬ (-2147483647 ≤ n ∧ n ≤ 2147483647)) : (intR n).P = 0 ∧ (intR n).Q = 0 ∧ (intR n).E = 6 := by unfold intR; rw [if_neg h]; exact ⟨rfl, rfl, rfl⟩

theorem own : ownKnob Try.prog.godebug = none := by kernel_rfl
theorem cellsNum : Try.prog.cellsOf 23 = 2 := by kernel_rfl
theorem numReads {H : Type} {enc : TypeId × Value → H} (W' : World) (sp : Nat → Bool) (p q : Int) (wp : (Lit.int .i64 p).wf = true) (wq : (Lit.int .i64 q).wf = true) :
    DataW.Trod enc Try.prog W' 0 sp true 23 (.agg #[.int .i64 p, .int .i64 q]) (.agg [.lit (.int .i64 p), .lit (.int .i64 q)]) [] :=
  shut_agg2 (y0 := (.lit (.int .i64 p), [])) (y1 := (.lit (.int .i64 q), [])) Try.underlying23 (by kernel_rfl) cellsNum ⟨1, by simp [DataW.trod, Try.underlying3, wp]⟩ ⟨1, by simp [DataW.trod, Try.underlying3, wq]⟩

set_option maxHeartbeats 4000000 in
theorem walk (p0 q0 : Int) (p1 q1 : Int) (wp0 : (Lit.int .i64 p0).wf = true) (wq0 : (Lit.int .i64 q0).wf = true) (wp1 : (Lit.int .i64 p1).wf = true) (wq1 : (Lit.int .i64 q1).wf = true) (w : World) :
    Calls Try.prog 12 #[.agg #[.int .i64 p0, .int .i64 q0], .agg #[.int .i64 p1, .int .i64 q1]] w fun e w' => e = .returned (.bool true) ∧ Below w.heap.size w w' := by
  by_cases h0 : vld p0 q0 = true
  · by_cases h1 : vld p1 q1 = true
    · have QH := fun w => quot_any p0 q0 p1 q1 w
      have MH := fun w => mod_any p0 q0 p1 q1 w
      by_cases hz : p1 = 0
      · have e1 : quotR p0 q0 p1 q1 = err 7 := by unfold quotR; rw [dvE_7 h0 h1 hz]; rfl
        have e2 : modR p0 q0 p1 q1 = err 7 := by unfold modR; rw [dvE_7 h0 h1 hz]; rfl
        rw [e1] at QH
        rw [e2] at MH
        exact dv_zero p0 q0 p1 q1 w h0 h1 (by simpa using hz) (Lib.hid QH) (Lib.hid MH)
      · rw [quotR_yes h0 h1 hz] at QH
        rw [modR_yes h0 h1 hz] at MH
        have hnz : (p1 == 0) = false := by simpa using hz
        generalize hN : fl (p0 * q1) (q0 * p1) = N at *
        generalize hm : md p0 q0 p1 q1 = m at *
        by_cases hp : 0 < p1
        · have hs : 0 < p1 := by omega
          have d2 : decide (p1 < 0) = false := by simp; omega
          by_cases fm : fit m = true
          · have MY := hidc MH (r3_fit fm)
            have mb := md_pos h0 h1 hs
            rw [hm] at mb
            have hc : ratCmp (oP m) (oQ m) p1 q1 = -1 := by
              have := ratCmp_lt fm (rat_fit h1) mb.2
              rwa [oP_rat h1, oQ_rat h1] at this
            have CY := hidn (fun w => cmp_any (oP m) (oQ m) p1 q1 w) hc
            by_cases mz : oP m = 0
            · rw [mz] at MY CY
              by_cases fe : -2147483647 ≤ N ∧ N ≤ 2147483647
              · have QY := hidc QH (intR_yes fe.1 fe.2)
                have ve := vld_int fe.1 fe.2
                have UH := fun w => mul_any p1 q1 N 1 w
                rw [mulR_yes h1 ve, ← rat_mul] at UH
                by_cases fx : fit (rat p1 q1 * rat N 1) = true
                · have UY := hidc UH (r3_fit fx)
                  have XH := fun w => add_any (oP (rat p1 q1 * rat N 1)) (oQ (rat p1 q1 * rat N 1)) (oP m) (oQ m) w
                  rw [add_o fx fm, ← hN, ← hm, divides h0 h1, hN, hm] at XH
                  have XY := hidc XH ⟨oP_rat h0, oQ_rat h0, oE_fit (rat_fit h0)⟩
                  rw [mz] at XY
                  exact dv_pza (w := w) (h0 := h0) (h1 := h1) (hs := hs) (d2 := d2) (hnz := hnz) (QH := QY) (MH := MY) (CH := CY) (UH := UY) (XH := XY)
                · have UN := hidc UH (r3_not (by simpa using fx))
                  exact dv_pzb (w := w) (h0 := h0) (h1 := h1) (hs := hs) (d2 := d2) (hnz := hnz) (QH := QY) (MH := MY) (CH := CY) (UH := UN)
              · have QN := hidc QH (intR_no fe)
                exact dv_pzc (w := w) (h0 := h0) (h1 := h1) (hs := hs) (d2 := d2) (hnz := hnz) (QH := QN) (MH := MY) (CH := CY)
            · have hm0 : (oP m != 0) = true := by simpa using mz
              have d1 : decide (oP m < 0) = false := by
                have := (oP_nonneg fm).2 mb.1
                simp; omega
              by_cases fe : -2147483647 ≤ N ∧ N ≤ 2147483647
              · have QY := hidc QH (intR_yes fe.1 fe.2)
                have ve := vld_int fe.1 fe.2
                have UH := fun w => mul_any p1 q1 N 1 w
                rw [mulR_yes h1 ve, ← rat_mul] at UH
                by_cases fx : fit (rat p1 q1 * rat N 1) = true
                · have UY := hidc UH (r3_fit fx)
                  have XH := fun w => add_any (oP (rat p1 q1 * rat N 1)) (oQ (rat p1 q1 * rat N 1)) (oP m) (oQ m) w
                  rw [add_o fx fm, ← hN, ← hm, divides h0 h1, hN, hm] at XH
                  have XY := hidc XH ⟨oP_rat h0, oQ_rat h0, oE_fit (rat_fit h0)⟩
                  exact dv_pya (w := w) (h0 := h0) (h1 := h1) (hs := hs) (d2 := d2) (hnz := hnz) (hm0 := hm0) (d1 := d1) (QH := QY) (MH := MY) (CH := CY) (UH := UY) (XH := XY)
                · have UN := hidc UH (r3_not (by simpa using fx))
                  exact dv_pyb (w := w) (h0 := h0) (h1 := h1) (hs := hs) (d2 := d2) (hnz := hnz) (hm0 := hm0) (d1 := d1) (QH := QY) (MH := MY) (CH := CY) (UH := UN)
              · have QN := hidc QH (intR_no fe)
                exact dv_pyc (w := w) (h0 := h0) (h1 := h1) (hs := hs) (d2 := d2) (hnz := hnz) (hm0 := hm0) (d1 := d1) (QH := QN) (MH := MY) (CH := CY)
          · have MN := hidc MH (r3_not (by simpa using fm))
            by_cases fe : -2147483647 ≤ N ∧ N ≤ 2147483647
            · exact dv_pxd (w := w) (h0 := h0) (h1 := h1) (hs := hs) (d2 := d2) (hnz := hnz) (QH := hidc QH (intR_yes fe.1 fe.2)) (MH := MN)
            · exact dv_pxc (w := w) (h0 := h0) (h1 := h1) (hs := hs) (d2 := d2) (hnz := hnz) (QH := hidc QH (intR_no fe)) (MH := MN)
        · have hs : p1 < 0 := by omega
          have d2 : decide (0 < p1) = false := by simp; omega
          by_cases fm : fit m = true
          · have MY := hidc MH (r3_fit fm)
            have mb := md_neg h0 h1 hs
            rw [hm] at mb
            have hc : ratCmp (oP m) (oQ m) p1 q1 = 1 := by
              have := ratCmp_gt fm (rat_fit h1) mb.2
              rwa [oP_rat h1, oQ_rat h1] at this
            have CY := hidn (fun w => cmp_any (oP m) (oQ m) p1 q1 w) hc
            by_cases mz : oP m = 0
            · rw [mz] at MY CY
              by_cases fe : -2147483647 ≤ N ∧ N ≤ 2147483647
              · have QY := hidc QH (intR_yes fe.1 fe.2)
                have ve := vld_int fe.1 fe.2
                have UH := fun w => mul_any p1 q1 N 1 w
                rw [mulR_yes h1 ve, ← rat_mul] at UH
                by_cases fx : fit (rat p1 q1 * rat N 1) = true
                · have UY := hidc UH (r3_fit fx)
                  have XH := fun w => add_any (oP (rat p1 q1 * rat N 1)) (oQ (rat p1 q1 * rat N 1)) (oP m) (oQ m) w
                  rw [add_o fx fm, ← hN, ← hm, divides h0 h1, hN, hm] at XH
                  have XY := hidc XH ⟨oP_rat h0, oQ_rat h0, oE_fit (rat_fit h0)⟩
                  rw [mz] at XY
                  exact dv_nza (w := w) (h0 := h0) (h1 := h1) (hs := hs) (d2 := d2) (hnz := hnz) (QH := QY) (MH := MY) (CH := CY) (UH := UY) (XH := XY)
                · have UN := hidc UH (r3_not (by simpa using fx))
                  exact dv_nzb (w := w) (h0 := h0) (h1 := h1) (hs := hs) (d2 := d2) (hnz := hnz) (QH := QY) (MH := MY) (CH := CY) (UH := UN)
              · have QN := hidc QH (intR_no fe)
                exact dv_nzc (w := w) (h0 := h0) (h1 := h1) (hs := hs) (d2 := d2) (hnz := hnz) (QH := QN) (MH := MY) (CH := CY)
            · have hm0 : (oP m != 0) = true := by simpa using mz
              have d1 : decide (oP m < 0) = true := by
                have := oP_nonpos fm mb.1
                simp; omega
              by_cases fe : -2147483647 ≤ N ∧ N ≤ 2147483647
              · have QY := hidc QH (intR_yes fe.1 fe.2)
                have ve := vld_int fe.1 fe.2
                have UH := fun w => mul_any p1 q1 N 1 w
                rw [mulR_yes h1 ve, ← rat_mul] at UH
                by_cases fx : fit (rat p1 q1 * rat N 1) = true
                · have UY := hidc UH (r3_fit fx)
                  have XH := fun w => add_any (oP (rat p1 q1 * rat N 1)) (oQ (rat p1 q1 * rat N 1)) (oP m) (oQ m) w
                  rw [add_o fx fm, ← hN, ← hm, divides h0 h1, hN, hm] at XH
                  have XY := hidc XH ⟨oP_rat h0, oQ_rat h0, oE_fit (rat_fit h0)⟩
                  exact dv_nya (w := w) (h0 := h0) (h1 := h1) (hs := hs) (d2 := d2) (hnz := hnz) (hm0 := hm0) (d1 := d1) (QH := QY) (MH := MY) (CH := CY) (UH := UY) (XH := XY)
                · have UN := hidc UH (r3_not (by simpa using fx))
                  exact dv_nyb (w := w) (h0 := h0) (h1 := h1) (hs := hs) (d2 := d2) (hnz := hnz) (hm0 := hm0) (d1 := d1) (QH := QY) (MH := MY) (CH := CY) (UH := UN)
              · have QN := hidc QH (intR_no fe)
                exact dv_nyc (w := w) (h0 := h0) (h1 := h1) (hs := hs) (d2 := d2) (hnz := hnz) (hm0 := hm0) (d1 := d1) (QH := QN) (MH := MY) (CH := CY)
          · have MN := hidc MH (r3_not (by simpa using fm))
            by_cases fe : -2147483647 ≤ N ∧ N ≤ 2147483647
            · exact dv_nxd (w := w) (h0 := h0) (h1 := h1) (hs := hs) (d2 := d2) (hnz := hnz) (QH := hidc QH (intR_yes fe.1 fe.2)) (MH := MN)
            · exact dv_nxc (w := w) (h0 := h0) (h1 := h1) (hs := hs) (d2 := d2) (hnz := hnz) (QH := hidc QH (intR_no fe)) (MH := MN)
    · exact dv_bad2 p0 q0 p1 q1 w h0 (by simpa using h1)
  · exact dv_bad1 p0 q0 p1 q1 w (by simpa using h0)

set_option maxRecDepth 100000 in
theorem lifted (os : Os) (started : os.Started) (H : Type) (enc : TypeId × Value → H) :
    ReturnsInHanded {} Try.checked os 12 .any (Rows.rationalDividesSpec.pre6 enc Try.prog Try.f12 Rows.rationalDividesRow.domain false) (Rows.rationalDividesSpec.post enc Try.prog Try.f12 false true false false) := by
  refine returnsInHanded_of_change (C := Try.checked) own started (by kernel_rfl) Try.func12
    (ChangeSpec.witness6 (enc := enc) (C := Try.checked) false ⟨#[], #[.agg #[.int .i64 0, .int .i64 0], .agg #[.int .i64 0, .int .i64 0]], []⟩ 8 (by kernel_rfl) (by kernel_rfl) (by kernel_rfl) (by kernel_rfl)) ?_
  intro W base args ds gs before hval0 hW hcnd _
  have hval : ∀ (j : Nat) t v, Try.f12.params[j]? = some t → args[j]? = some v → Value.okWide Try.prog W .any base t v := hval0
  have hW' := hW
  obtain ⟨p, q, hA0, hV, rfl, hfz, hnd⟩ := hW
  have hA : DataW.TrodAll enc Try.prog W 0 (fun _ => true) true Try.f12.params.toList args.toList ds p := hA0
  rw [Try.params12] at hA hval
  obtain ⟨v0, vs0, d0, ds0, p_0, q_0, hargs, rfl, rfl, h0, r0⟩ := trodAll_cons hA
  obtain ⟨v1, vs1, d1, ds1, p_1, q_1, rfl, rfl, rfl, h1, r1⟩ := trodAll_cons r0
  obtain ⟨rfl, rfl, rfl⟩ := trodAll_nil r1
  obtain rfl : args = #[v0, v1] := by cases args; simp_all
  obtain ⟨rfl, rfl⟩ := trodVars_none hV
  obtain ⟨c00, c01, y00, y01, m0, rfl, rfl, rfl, hy00, hy01⟩ := open_agg2 Try.underlying23 (by kernel_rfl) cellsNum (hval 0 23 v0 rfl rfl) h0
  obtain ⟨p0, ep0, rfl, wp0⟩ := DataW.trod_int Try.underlying3 hy00
  obtain ⟨q0, eq0, rfl, wq0⟩ := DataW.trod_int Try.underlying3 hy01
  simp at ep0 eq0
  subst ep0 eq0
  obtain ⟨c10, c11, y10, y11, m1, rfl, rfl, rfl, hy10, hy11⟩ := open_agg2 Try.underlying23 (by kernel_rfl) cellsNum (hval 1 23 v1 rfl rfl) h1
  obtain ⟨p1, ep1, rfl, wp1⟩ := DataW.trod_int Try.underlying3 hy10
  obtain ⟨q1, eq1, rfl, wq1⟩ := DataW.trod_int Try.underlying3 hy11
  simp at ep1 eq1
  subst ep1 eq1
  clear hA0 hval0
  simp only [List.append_nil] at hW'
  refine (walk p0 q0 p1 q1 wp0 wq0 wp1 wq1 W).mono fun e W' ⟨he, bel⟩ => ?_
  subst he
  exact ⟨_, rfl, _, _, _, [], [], [], hW', trodAll_mk1 (shut_bool Try.underlying4 _), (trodAll_cons_mk (numReads W' _ p0 q0 wp0 wq0) (trodAll_cons_mk (numReads W' _ p1 q1 wp1 wq1) trodAll_mk0)), rfl, bel.frame _, fun h => by cases h⟩

theorem over : Rows.rationalDividesRow.holds Try.pinned (OpenSpec.ofChange Rows.rationalDividesSpec) :=
  OpenClaim.holds_of_wide 12 Try.f12 rfl rfl rfl rfl rfl rfl rfl ⟨rfl, rfl, rfl, rfl, rfl⟩ rfl rfl rfl rfl rfl (by kernel_rfl) Try.func12 (by kernel_rfl)
    (of_decide_eq_true (by kernel_rfl)) (by unfold Func.isWrapper; first | (rw [if_pos (by decide +kernel)]; kernel_rfl) | (rw [if_neg (by decide +kernel)]; exact ⟨rfl, rfl⟩))
    (fun os started H enc _ => lifted os started H enc)

/-- The given statement. -/
theorem proved : Rows.RationalDividesSaid := over
#print axioms proved
end Go.Proofs.Ytpoljkgfaceniaa.rationalDividesLaw
