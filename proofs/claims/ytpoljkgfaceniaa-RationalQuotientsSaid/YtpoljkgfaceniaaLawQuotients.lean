/- For all pairs of integers, Quot and Mod return the defined number, or the error that is defined. No condition. -/
import Derived.Test.YtpoljkgfaceniaaRatJ
import Derived.ProofKit
import Derived.OpenShut
import Derived.ChangeOld
import Derived.Below
import Derived.Lib.SmallJoins
namespace Go.Proofs.Ytpoljkgfaceniaa.rationalQuotientsLaw
open Go.ChangeShapes Go.WideShapes Go.ChangeAt Go.RowKit Go.Joins M1
set_option linter.unusedVariables false

theorem own : ownKnob Try.prog.godebug = none := by kernel_rfl
theorem cellsNum : Try.prog.cellsOf 23 = 2 := by kernel_rfl
theorem numReads {H : Type} {enc : TypeId × Value → H} (W' : World) (sp : Nat → Bool) (p q : Int) (wp : (Lit.int .i64 p).wf = true) (wq : (Lit.int .i64 q).wf = true) :
    DataW.Trod enc Try.prog W' 0 sp true 23 (.agg #[.int .i64 p, .int .i64 q]) (.agg [.lit (.int .i64 p), .lit (.int .i64 q)]) [] :=
  shut_agg2 (y0 := (.lit (.int .i64 p), [])) (y1 := (.lit (.int .i64 q), [])) Try.underlying23 (by kernel_rfl) cellsNum ⟨1, by simp [DataW.trod, Try.underlying3, wp]⟩ ⟨1, by simp [DataW.trod, Try.underlying3, wq]⟩

set_option maxHeartbeats 4000000 in
theorem walk (p0 q0 : Int) (p1 q1 : Int) (wp0 : (Lit.int .i64 p0).wf = true) (wq0 : (Lit.int .i64 q0).wf = true) (wp1 : (Lit.int .i64 p1).wf = true) (wq1 : (Lit.int .i64 q1).wf = true) (w : World) :
    Calls Try.prog 7 #[.agg #[.int .i64 p0, .int .i64 q0], .agg #[.int .i64 p1, .int .i64 q1]] w fun e w' => e = .returned (.bool true) ∧ Below w.heap.size w w' := by
  go_enter Try.func7, Try.ntmps7
  go_wp2_with (first | (go_at_call 37; refine (quot_any _ _ _ _ _).mono ?_; rintro e wA ⟨rfl, hbA⟩; obtain ⟨hcA, hfA⟩ := bcell hbA; have hzA := hbA.size; (try simp at hzA); have zA0 : w.heap.size < wA.heap.size := (by omega); have zA1 : w.heap.size + 1 < wA.heap.size := (by omega)) | (go_at_call 38; refine (rquot_any _ _ _ _ _).mono ?_; rintro e wB ⟨rfl, hbB⟩; obtain ⟨hcB, hfB⟩ := bcell hbB; have hzB := hbB.size; (try simp at hzB); have zB0 : w.heap.size < wB.heap.size := (by omega); have zB1 : w.heap.size + 1 < wB.heap.size := (by omega); (try (have yBA : wA.heap.size < wB.heap.size := (by omega)))) | (go_at_call 39; refine (mod_any _ _ _ _ _).mono ?_; rintro e wC ⟨rfl, hbC⟩; obtain ⟨hcC, hfC⟩ := bcell hbC; have hzC := hbC.size; (try simp at hzC); have zC0 : w.heap.size < wC.heap.size := (by omega); have zC1 : w.heap.size + 1 < wC.heap.size := (by omega); (try (have yCA : wA.heap.size < wC.heap.size := (by omega))); (try (have yCB : wB.heap.size < wC.heap.size := (by omega))); have kC0 : wC.cell? ⟨wA.heap.size, 0, none⟩ = some (.int .i64 (quotR p0 q0 p1 q1).P) := (by go_simp); have kC1 : wC.cell? ⟨wA.heap.size, 1, none⟩ = some (.int .i64 (quotR p0 q0 p1 q1).Q) := (by go_simp)) | (go_at_call 40; refine (rmod_any _ _ _ _ _).mono ?_; rintro e wD ⟨rfl, hbD⟩; obtain ⟨hcD, hfD⟩ := bcell hbD; have hzD := hbD.size; (try simp at hzD); have zD0 : w.heap.size < wD.heap.size := (by omega); have zD1 : w.heap.size + 1 < wD.heap.size := (by omega); (try (have yDA : wA.heap.size < wD.heap.size := (by omega))); (try (have yDB : wB.heap.size < wD.heap.size := (by omega))); (try (have yDC : wC.heap.size < wD.heap.size := (by omega))); have kD0 : wD.cell? ⟨wB.heap.size, 0, none⟩ = some (.int .i64 (quotR p0 q0 p1 q1).P) := (by go_simp); have kD1 : wD.cell? ⟨wB.heap.size, 1, none⟩ = some (.int .i64 (quotR p0 q0 p1 q1).Q) := (by go_simp)) | (go_at_call 18; refine (awake_any _).mono ?_; rintro e wZ ⟨rfl, hbZ⟩; obtain ⟨hcZ, hfZ⟩ := bcell hbZ; have hzZ := hbZ.size; (try simp at hzZ); have zZ0 : w.heap.size < wZ.heap.size := (by omega); have zZ1 : w.heap.size + 1 < wZ.heap.size := (by omega); (try (have yZA : wA.heap.size < wZ.heap.size := (by omega))); (try (have yZB : wB.heap.size < wZ.heap.size := (by omega))); (try (have yZC : wC.heap.size < wZ.heap.size := (by omega))); (try (have yZD : wD.heap.size < wZ.heap.size := (by omega)))))
  go_ret
  refine ⟨rfl, ?_⟩
  repeat (first | exact Below.refl _ _ | refine below_drewN ?_ _ | refine Below.setCell ?_ (by first | omega | (simp; done) | (simp; omega)) _ | refine Below.alloc ?_ (by first | omega | (simp; done) | (simp; omega)) _ | refine below_step (by assumption) (by first | omega | (simp; done) | (simp; omega)) ?_)

set_option maxRecDepth 100000 in
theorem lifted (os : Os) (started : os.Started) (H : Type) (enc : TypeId × Value → H) :
    ReturnsInHanded {} Try.checked os 7 .any (Rows.rationalQuotientsSpec.pre6 enc Try.prog Try.f7 Rows.rationalQuotientsRow.domain false) (Rows.rationalQuotientsSpec.post enc Try.prog Try.f7 false true false false) := by
  refine returnsInHanded_of_change (C := Try.checked) own started (by kernel_rfl) Try.func7
    (ChangeSpec.witness6 (enc := enc) (C := Try.checked) false ⟨#[], #[.agg #[.int .i64 0, .int .i64 0], .agg #[.int .i64 0, .int .i64 0]], []⟩ 8 (by kernel_rfl) (by kernel_rfl) (by kernel_rfl) (by kernel_rfl)) ?_
  intro W base args ds gs before hval0 hW hcnd _
  have hval : ∀ (j : Nat) t v, Try.f7.params[j]? = some t → args[j]? = some v → Value.okWide Try.prog W .any base t v := hval0
  have hW' := hW
  obtain ⟨p, q, hA0, hV, rfl, hfz, hnd⟩ := hW
  have hA : DataW.TrodAll enc Try.prog W 0 (fun _ => true) true Try.f7.params.toList args.toList ds p := hA0
  rw [Try.params7] at hA hval
  obtain ⟨v0, vs0, d0, ds0, p_0, q_0, hargs, rfl, rfl, h0, r0⟩ := trodAll_cons hA
  obtain ⟨v1, vs1, d1, ds1, p_1, q_1, rfl, rfl, rfl, h1, r1⟩ := trodAll_cons r0
  obtain ⟨rfl, rfl, rfl⟩ := trodAll_nil r1
  obtain rfl : args = #[v0, v1] := by cases args; simp_all
  obtain ⟨rfl, rfl⟩ := trodVars_none hV
  obtain ⟨c00, c01, y00, y01, m0, rfl, rfl, rfl, hy00, hy01⟩ := open_agg2 Try.underlying23 (by kernel_rfl) cellsNum (hval 0 23 v0 rfl rfl) h0
  obtain ⟨p0, ep0, rfl, wp0⟩ := DataW.trod_int Try.underlying3 hy00
  obtain ⟨q0, eq0, rfl, wq0⟩ := DataW.trod_int Try.underlying3 hy01
  simp at ep0 eq0
  subst ep0 eq0
  obtain ⟨c10, c11, y10, y11, m1, rfl, rfl, rfl, hy10, hy11⟩ := open_agg2 Try.underlying23 (by kernel_rfl) cellsNum (hval 1 23 v1 rfl rfl) h1
  obtain ⟨p1, ep1, rfl, wp1⟩ := DataW.trod_int Try.underlying3 hy10
  obtain ⟨q1, eq1, rfl, wq1⟩ := DataW.trod_int Try.underlying3 hy11
  simp at ep1 eq1
  subst ep1 eq1
  clear hA0 hval0
  simp only [List.append_nil] at hW'
  refine (walk p0 q0 p1 q1 wp0 wq0 wp1 wq1 W).mono fun e W' ⟨he, bel⟩ => ?_
  subst he
  exact ⟨_, rfl, _, _, _, [], [], [], hW', trodAll_mk1 (shut_bool Try.underlying4 _), (trodAll_cons_mk (numReads W' _ p0 q0 wp0 wq0) (trodAll_cons_mk (numReads W' _ p1 q1 wp1 wq1) trodAll_mk0)), rfl, bel.frame _, fun h => by cases h⟩

theorem over : Rows.rationalQuotientsRow.holds Try.pinned (OpenSpec.ofChange Rows.rationalQuotientsSpec) :=
  OpenClaim.holds_of_wide 7 Try.f7 rfl rfl rfl rfl rfl rfl rfl ⟨rfl, rfl, rfl, rfl, rfl⟩ rfl rfl rfl rfl rfl (by kernel_rfl) Try.func7 (by kernel_rfl)
    (of_decide_eq_true (by kernel_rfl)) (by unfold Func.isWrapper; first | (rw [if_pos (by decide +kernel)]; kernel_rfl) | (rw [if_neg (by decide +kernel)]; exact ⟨rfl, rfl⟩))
    (fun os started H enc _ => lifted os started H enc)

/-- The given statement. -/
theorem proved : Rows.RationalQuotientsSaid := over
#print axioms proved
end Go.Proofs.Ytpoljkgfaceniaa.rationalQuotientsLaw
