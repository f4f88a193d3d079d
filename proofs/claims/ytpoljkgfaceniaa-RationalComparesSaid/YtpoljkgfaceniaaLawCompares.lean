/- For all pairs of integers, Cmp returns the defined order; it is 0 for equal arguments and changes its sign when they are exchanged. No condition. -/
import Derived.Test.YtpoljkgfaceniaaRatJ
import Derived.Deep.RegionHeld3
import Derived.ProofKit
import Derived.OpenShut
import Derived.ChangeOld
import Derived.Below
import Derived.Lib.SmallJoins
namespace Go.Proofs.Ytpoljkgfaceniaa.rationalComparesLaw
open Go.ChangeShapes Go.WideShapes Go.ChangeAt Go.RowKit Go.Joins M1
set_option linter.unusedVariables false

theorem ratCmp_self (p q : Int) : ratCmp p q p q = 0 := by
  unfold ratCmp cmp; split <;> simp
theorem ratCmp_neg (p q p' q' : Int) : ratCmp p' q' p q = - ratCmp p q p' q' := by
  unfold ratCmp
  by_cases h : vld p q = true ∧ vld p' q' = true
  · rw [if_pos h, if_pos ⟨h.2, h.1⟩, cmp_neg]
  · rw [if_neg h, if_neg (fun g => h ⟨g.2, g.1⟩)]
    by_cases e : p = p'
    · rw [if_pos e, if_pos e.symm, cmp_neg]
    · rw [if_neg e, if_neg (fun g => e g.symm), cmp_neg]
theorem ratCmp_in (p q p' q' : Int) : -1 ≤ ratCmp p q p' q' ∧ ratCmp p q p' q' ≤ 1 := by
  unfold ratCmp cmp; repeat' split
  all_goals omega
theorem keepC {w W V V' : World} {p0 q0 p1 q1 : Int} (hs : w.heap.size + 2 ≤ W.heap.size) (h : V.cell? ⟨w.heap.size, 0, none⟩ = some (.int .i64 p0) ∧ V.cell? ⟨w.heap.size, 1, none⟩ = some (.int .i64 q0) ∧ V.cell? ⟨w.heap.size + 1, 0, none⟩ = some (.int .i64 p1) ∧ V.cell? ⟨w.heap.size + 1, 1, none⟩ = some (.int .i64 q1) ∧ Below (w.heap.size + 2) W V) (hb : Below V.heap.size V V') : V'.cell? ⟨w.heap.size, 0, none⟩ = some (.int .i64 p0) ∧ V'.cell? ⟨w.heap.size, 1, none⟩ = some (.int .i64 q0) ∧ V'.cell? ⟨w.heap.size + 1, 0, none⟩ = some (.int .i64 p1) ∧ V'.cell? ⟨w.heap.size + 1, 1, none⟩ = some (.int .i64 q1) ∧ Below (w.heap.size + 2) W V' := by
  obtain ⟨h1, h2, h3, h4, h5⟩ := h
  have hz := h5.size
  have C : ∀ b o v, b < w.heap.size + 2 → V.cell? ⟨b, o, none⟩ = some v → V'.cell? ⟨b, o, none⟩ = some v := by
    intro b o v hl he
    rw [hb.cell (p := ⟨b, o, none⟩) (by show b < _; omega)]; exact he
  exact ⟨C _ _ _ (by omega) h1, C _ _ _ (by omega) h2, C _ _ _ (by omega) h3, C _ _ _ (by omega) h4, h5.trans (hb.mono (by omega))⟩
theorem ofC {w W V : World} {p0 q0 p1 q1 : Int} (h : V.cell? ⟨w.heap.size, 0, none⟩ = some (.int .i64 p0) ∧ V.cell? ⟨w.heap.size, 1, none⟩ = some (.int .i64 q0) ∧ V.cell? ⟨w.heap.size + 1, 0, none⟩ = some (.int .i64 p1) ∧ V.cell? ⟨w.heap.size + 1, 1, none⟩ = some (.int .i64 q1) ∧ Below (w.heap.size + 2) W V) : Below (w.heap.size + 2) W V := h.2.2.2.2

theorem own : ownKnob Try.prog.godebug = none := by kernel_rfl
theorem cellsNum : Try.prog.cellsOf 23 = 2 := by kernel_rfl
theorem numReads {H : Type} {enc : TypeId × Value → H} (W' : World) (sp : Nat → Bool) (p q : Int) (wp : (Lit.int .i64 p).wf = true) (wq : (Lit.int .i64 q).wf = true) :
    DataW.Trod enc Try.prog W' 0 sp true 23 (.agg #[.int .i64 p, .int .i64 q]) (.agg [.lit (.int .i64 p), .lit (.int .i64 q)]) [] :=
  shut_agg2 (y0 := (.lit (.int .i64 p), [])) (y1 := (.lit (.int .i64 q), [])) Try.underlying23 (by kernel_rfl) cellsNum ⟨1, by simp [DataW.trod, Try.underlying3, wp]⟩ ⟨1, by simp [DataW.trod, Try.underlying3, wq]⟩

set_option maxRecDepth 100000 in
set_option maxHeartbeats 4000000 in
theorem walk (p0 q0 : Int) (p1 q1 : Int) (wp0 : (Lit.int .i64 p0).wf = true) (wq0 : (Lit.int .i64 q0).wf = true) (wp1 : (Lit.int .i64 p1).wf = true) (wq1 : (Lit.int .i64 q1).wf = true) (w : World) :
    Calls Try.prog 9 #[.agg #[.int .i64 p0, .int .i64 q0], .agg #[.int .i64 p1, .int .i64 q1]] w fun e w' => e = .returned (.bool true) ∧ Below w.heap.size w w' := by
  have k01 := fun w => cmp_any p0 q0 p1 q1 w
  have k10 := fun w => cmp_any p1 q1 p0 q0 w
  have k00 := fun w => cmp_any p0 q0 p0 q0 w
  have r01 := fun w => rcmp_any p0 q0 p1 q1 w
  have hin := ratCmp_in p0 q0 p1 q1
  rw [ratCmp_neg p0 q0 p1 q1] at k10
  rw [ratCmp_self] at k00
  obtain ⟨hi1, hi2⟩ := hin
  generalize ratCmp p0 q0 p1 q1 = c at *
  have sw : IntKind.i64.wrap (-c) = -c := IntWalk.i64_in _ (by omega)
  have K01 := Lib.hid k01
  have K10 := Lib.hid k10
  have K00 := Lib.hid k00
  have R01 := Lib.hid r01
  clear k01 k10 k00 r01 hi1 hi2
  go_enter Try.func9, Try.ntmps9
  go_wp2
  have c00 : ((w.alloc (.cells #[.int .i64 p0, .int .i64 q0] 23)).alloc (.cells #[.int .i64 p1, .int .i64 q1] 23)).cell? ⟨w.heap.size, 0, none⟩ = some (.int .i64 p0) := by go_simp
  have c01 : ((w.alloc (.cells #[.int .i64 p0, .int .i64 q0] 23)).alloc (.cells #[.int .i64 p1, .int .i64 q1] 23)).cell? ⟨w.heap.size, 1, none⟩ = some (.int .i64 q0) := by go_simp
  have c10 : ((w.alloc (.cells #[.int .i64 p0, .int .i64 q0] 23)).alloc (.cells #[.int .i64 p1, .int .i64 q1] 23)).cell? ⟨w.heap.size + 1, 0, none⟩ = some (.int .i64 p1) := by go_simp
  have c11 : ((w.alloc (.cells #[.int .i64 p0, .int .i64 q0] 23)).alloc (.cells #[.int .i64 p1, .int .i64 q1] 23)).cell? ⟨w.heap.size + 1, 1, none⟩ = some (.int .i64 q1) := by go_simp
  have k0 : Below w.heap.size w ((w.alloc (.cells #[.int .i64 p0, .int .i64 q0] 23)).alloc (.cells #[.int .i64 p1, .int .i64 q1] 23)) := by
    repeat (first | exact Below.refl _ _ | refine below_drewN ?_ _ | refine Below.setCell ?_ (by first | omega | (simp; done) | (simp; omega)) _ | refine Below.alloc ?_ (by first | omega | (simp; done) | (simp; omega)) _ | refine below_step (by assumption) (by first | omega | (simp; done) | (simp; omega)) ?_)
  have hs : w.heap.size + 2 ≤ ((w.alloc (.cells #[.int .i64 p0, .int .i64 q0] 23)).alloc (.cells #[.int .i64 p1, .int .i64 q1] 23)).heap.size := by simp
  generalize (w.alloc (.cells #[.int .i64 p0, .int .i64 q0] 23)).alloc (.cells #[.int .i64 p1, .int .i64 q1] 23) = W at *
  have hW := Below.refl (w.heap.size + 2) W
  have HS := Lib.hid hs
  have K0 := Lib.hid k0
  clear hs k0
  go_region_held3 (fun w' => w'.cell? ⟨w.heap.size, 0, none⟩ = some (.int .i64 p0) ∧ w'.cell? ⟨w.heap.size, 1, none⟩ = some (.int .i64 q0) ∧ w'.cell? ⟨w.heap.size + 1, 0, none⟩ = some (.int .i64 p1) ∧ w'.cell? ⟨w.heap.size + 1, 1, none⟩ = some (.int .i64 q1) ∧ Below (w.heap.size + 2) W w') (first | exact ⟨c00, c01, c10, c11, hW.drew⟩ | exact keepC HS.out (by assumption) hb1) ((first | (go_at_call 43; first | ((with_reducible refine (K01.out _).mono ?_); rintro e w1 ⟨rfl, hb1⟩) | ((with_reducible refine (K10.out _).mono ?_); rintro e w1 ⟨rfl, hb1⟩) | ((with_reducible refine (K00.out _).mono ?_); rintro e w1 ⟨rfl, hb1⟩)) | (go_at_call 44; refine (R01.out _).mono ?_; rintro e w1 ⟨rfl, hb1⟩) | (go_at_call 18; refine (awake_any _).mono ?_; rintro e w1 ⟨rfl, hb1⟩)))
  all_goals (
    go_wp2
    go_ret
    exact ⟨rfl, K0.out.trans ((ofC (by assumption)).mono (Nat.le_add_right _ _))⟩)

set_option maxRecDepth 100000 in
theorem lifted (os : Os) (started : os.Started) (H : Type) (enc : TypeId × Value → H) :
    ReturnsInHanded {} Try.checked os 9 .any (Rows.rationalComparesSpec.pre6 enc Try.prog Try.f9 Rows.rationalComparesRow.domain false) (Rows.rationalComparesSpec.post enc Try.prog Try.f9 false true false false) := by
  refine returnsInHanded_of_change (C := Try.checked) own started (by kernel_rfl) Try.func9
    (ChangeSpec.witness6 (enc := enc) (C := Try.checked) false ⟨#[], #[.agg #[.int .i64 0, .int .i64 0], .agg #[.int .i64 0, .int .i64 0]], []⟩ 8 (by kernel_rfl) (by kernel_rfl) (by kernel_rfl) (by kernel_rfl)) ?_
  intro W base args ds gs before hval0 hW hcnd _
  have hval : ∀ (j : Nat) t v, Try.f9.params[j]? = some t → args[j]? = some v → Value.okWide Try.prog W .any base t v := hval0
  have hW' := hW
  obtain ⟨p, q, hA0, hV, rfl, hfz, hnd⟩ := hW
  have hA : DataW.TrodAll enc Try.prog W 0 (fun _ => true) true Try.f9.params.toList args.toList ds p := hA0
  rw [Try.params9] at hA hval
  obtain ⟨v0, vs0, d0, ds0, p_0, q_0, hargs, rfl, rfl, h0, r0⟩ := trodAll_cons hA
  obtain ⟨v1, vs1, d1, ds1, p_1, q_1, rfl, rfl, rfl, h1, r1⟩ := trodAll_cons r0
  obtain ⟨rfl, rfl, rfl⟩ := trodAll_nil r1
  obtain rfl : args = #[v0, v1] := by cases args; simp_all
  obtain ⟨rfl, rfl⟩ := trodVars_none hV
  obtain ⟨c00, c01, y00, y01, m0, rfl, rfl, rfl, hy00, hy01⟩ := open_agg2 Try.underlying23 (by kernel_rfl) cellsNum (hval 0 23 v0 rfl rfl) h0
  obtain ⟨p0, ep0, rfl, wp0⟩ := DataW.trod_int Try.underlying3 hy00
  obtain ⟨q0, eq0, rfl, wq0⟩ := DataW.trod_int Try.underlying3 hy01
  simp at ep0 eq0
  subst ep0 eq0
  obtain ⟨c10, c11, y10, y11, m1, rfl, rfl, rfl, hy10, hy11⟩ := open_agg2 Try.underlying23 (by kernel_rfl) cellsNum (hval 1 23 v1 rfl rfl) h1
  obtain ⟨p1, ep1, rfl, wp1⟩ := DataW.trod_int Try.underlying3 hy10
  obtain ⟨q1, eq1, rfl, wq1⟩ := DataW.trod_int Try.underlying3 hy11
  simp at ep1 eq1
  subst ep1 eq1
  clear hA0 hval0
  simp only [List.append_nil] at hW'
  refine (walk p0 q0 p1 q1 wp0 wq0 wp1 wq1 W).mono fun e W' ⟨he, bel⟩ => ?_
  subst he
  exact ⟨_, rfl, _, _, _, [], [], [], hW', trodAll_mk1 (shut_bool Try.underlying4 _), (trodAll_cons_mk (numReads W' _ p0 q0 wp0 wq0) (trodAll_cons_mk (numReads W' _ p1 q1 wp1 wq1) trodAll_mk0)), rfl, bel.frame _, fun h => by cases h⟩

theorem over : Rows.rationalComparesRow.holds Try.pinned (OpenSpec.ofChange Rows.rationalComparesSpec) :=
  OpenClaim.holds_of_wide 9 Try.f9 rfl rfl rfl rfl rfl rfl rfl ⟨rfl, rfl, rfl, rfl, rfl⟩ rfl rfl rfl rfl rfl (by kernel_rfl) Try.func9 (by kernel_rfl)
    (of_decide_eq_true (by kernel_rfl)) (by unfold Func.isWrapper; first | (rw [if_pos (by decide +kernel)]; kernel_rfl) | (rw [if_neg (by decide +kernel)]; exact ⟨rfl, rfl⟩))
    (fun os started H enc _ => lifted os started H enc)

/-- The given statement. -/
theorem proved : Rows.RationalComparesSaid := over
#print axioms proved
end Go.Proofs.Ytpoljkgfaceniaa.rationalComparesLaw
