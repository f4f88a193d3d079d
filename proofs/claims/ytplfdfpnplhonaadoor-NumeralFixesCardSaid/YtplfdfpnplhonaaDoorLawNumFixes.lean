/- NumeralFixes. No condition. -/
import Derived.Test.YtplfdfpnplhonaaDoorNumR
namespace Go.Proofs.YtplfdfpnplhonaaDoor.numeralFixesLaw
open Go.ChangeMaps (open_string shut_string)
open Go.ChangeShapes Go.WideShapes Go.ChangeAt Go.RowKit Go.Joins M1 M2
set_option linter.unusedVariables false


set_option maxHeartbeats 4000000 in
theorem walk (p0 q0 : Int) (wp0 : (Lit.int .i64 p0).wf = true) (wq0 : (Lit.int .i64 q0).wf = true) (n1 : Int) (wn1 : (Lit.int .i64 n1).wf = true) (w : World) (he : Env w) :
    Calls Tryd.prog 6 #[.agg #[.int .i64 p0, .int .i64 q0], .int .i64 n1] w fun e w' => e = .returned (.bool true) ∧ Below w.heap.size w w' := by
  have B1 : Hid (∀ w, Env w → Calls Tryd.prog 20 #[.agg #[.int .i64 p0, .int .i64 q0], .int .i64 n1] w fun e w' => e = .returned (.tuple #[.string (mkB (fixS p0 q0 n1)), .int .i64 (fixE p0 q0 n1)]) ∧ Below w.heap.size w w') := Lib.hid fun w he => fix_any p0 q0 n1 w he
  have B2 : Hid (∀ w, Calls Tryd.prog 21 #[.agg #[.int .i64 p0, .int .i64 q0], .int .i64 n1] w fun e w' => e = .returned (.tuple #[.string (mkB (fixS p0 q0 n1)), .int .i64 (fixE p0 q0 n1)]) ∧ Below w.heap.size w w') := Lib.hid fun w => rfix_any p0 q0 n1 w
  generalize mkB (fixS p0 q0 n1) = t at *
  generalize fixE p0 q0 n1 = ee at *
  have HE := Lib.hid (he.alloc (.cells #[.int .i64 p0, .int .i64 q0] 23))
  clear he
  go_enter Tryd.func6, Tryd.ntmps6
  go_wp2_with (first | (go_at_call 20; (with_reducible refine (B1.out _ HE.out).mono ?_); rintro e w1 ⟨rfl, hb1⟩; obtain ⟨hc1, hf1⟩ := bcell hb1; have hz1 := hb1.size; (try simp at hz1); have y10 : w.heap.size < w1.heap.size := (by omega); have k10 : w1.cell? ⟨w.heap.size, 0, none⟩ = some (.int .i64 p0) := (by go_simp); have k11 : w1.cell? ⟨w.heap.size, 1, none⟩ = some (.int .i64 q0) := (by go_simp); have HE1 := Lib.hid (HE.out.on hb1)) | (go_at_call 21; (with_reducible refine (B2.out _).mono ?_); rintro e w2 ⟨rfl, hb2⟩; obtain ⟨hc2, hf2⟩ := bcell hb2; have hz2 := hb2.size; (try simp at hz2); have HE2 := Lib.hid (HE1.out.on hb2)) | (go_at_call 14; (with_reducible refine (awake_any _ HE2.out).mono ?_); rintro e w3 ⟨rfl, hb3⟩; obtain ⟨hc3, hf3⟩ := bcell hb3; have hz3 := hb3.size; (try simp at hz3); ))
  go_ret
  refine ⟨rfl, ?_⟩
  repeat (first | exact Below.refl _ _ | refine below_drewN ?_ _ | refine Below.drew ?_ | refine Below.setCell ?_ (by first | omega | (simp; done) | (simp; omega)) _ | refine Below.alloc ?_ (by first | omega | (simp; done) | (simp; omega)) _ | refine below_step (by assumption) (by first | omega | (simp; done) | (simp; omega)) ?_)

theorem reads (os : Os) {H : Type} (enc : TypeId × Value → H) : ∃ places, DataW.whole enc Tryd.prog ((World.laidAll Tryd.prog os L5).forCall (fun _ _ => 0) ⟨#[], #[.agg #[.int .i64 1, .int .i64 1], .int .i64 1], []⟩).memory Tryd.f6.params.toList Rows.numeralFixesSpec.vars false #[Value.agg #[.int .i64 1, .int .i64 1], .int .i64 1].toList 8 = some ([.agg [.lit (.int .i64 1), .lit (.int .i64 1)], .lit (.int .i64 1)], [], places) :=
  ⟨[], by kernel_rfl⟩
set_option maxRecDepth 100000 in
theorem lifted (os : Os) (started : os.Started) (H : Type) (enc : TypeId × Value → H) (F : Stop.Interp) :
    ReturnsInHanded {} Tryd.checked os 6 .any ((OpenSpec.ofChange Rows.numeralFixesSpec).preRow enc Tryd.prog Tryd.f6 Rows.numeralFixesRow.domain false L5) (((OpenSpec.ofChange Rows.numeralFixesSpec).at F).post enc Tryd.prog Tryd.f6 false true false false) := by
  obtain ⟨places, hx⟩ := reads os enc
  refine returnsInHanded_of_row (C := Tryd.checked) (s := OpenSpec.ofChange Rows.numeralFixesSpec) own started (by kernel_rfl) Tryd.func6
    ⟨World.laidAll Tryd.prog os L5, fun _ _ => 0, ⟨#[], #[.agg #[.int .i64 1, .int .i64 1], .int .i64 1], []⟩, World.laidAll_os _ _ _, wit_shaped os _, rfl, (Input.okWide_of_okWideB (by kernel_rfl)).2,
      OpenSpec.preRow_of_cond 8 hx (by kernel_rfl) (fun k hk => by cases hk) (by kernel_rfl) (laid_met os _), by
        simp only [Assume.holds]
        exact ⟨by simp, by simp, fun _ => Modest.zero, by simp, by simp⟩⟩ ?_
  intro W base args ds gs before hval0 hW _ _ _ hL hsh _
  have hE := env hL hsh
  have hval : ∀ (j : Nat) t v, Tryd.f6.params[j]? = some t → args[j]? = some v → Value.okWide Tryd.prog W .any base t v := hval0
  have hW' := hW
  obtain ⟨p, q, hA0, hV, rfl, hfz, hnd⟩ := hW
  have hA : DataW.TrodAll enc Tryd.prog W 0 (fun _ => true) true Tryd.f6.params.toList args.toList ds p := hA0
  rw [Tryd.params6] at hA hval
  obtain ⟨v0, vs0, d0, ds0, p_0, q_0, hargs, rfl, rfl, h0, r0⟩ := trodAll_cons hA
  obtain ⟨v1, vs1, d1, ds1, p_1, q_1, rfl, rfl, rfl, h1, r1⟩ := trodAll_cons r0
  obtain ⟨rfl, rfl, rfl⟩ := trodAll_nil r1
  obtain rfl : args = #[v0, v1] := by cases args; simp_all
  obtain ⟨rfl, rfl⟩ := trodVars_none hV
  obtain ⟨c00, c01, y00, y01, m0, rfl, rfl, rfl, hy00, hy01⟩ := open_agg2 Tryd.underlying23 (by kernel_rfl) cellsNum (hval 0 23 v0 rfl rfl) h0
  obtain ⟨p0, ep0, rfl, wp0⟩ := DataW.trod_int Tryd.underlying3 hy00
  obtain ⟨q0, eq0, rfl, wq0⟩ := DataW.trod_int Tryd.underlying3 hy01
  simp at ep0 eq0
  subst ep0 eq0
  obtain ⟨n1, rfl, rfl, rfl, wn1⟩ := open_int Tryd.underlying3 (hval 1 3 v1 rfl rfl) h1
  clear hA0 hval0
  simp only [List.append_nil] at hW'
  refine (walk p0 q0 wp0 wq0 n1 wn1 W hE).mono fun e W' ⟨he, bel⟩ => ?_
  subst he
  exact ⟨_, rfl, _, _, _, [], [], [], hW', trodAll_mk1 (shut_bool Tryd.underlying4 _), (trodAll_cons_mk (numReads W' _ p0 q0 wp0 wq0) (trodAll_cons_mk (shut_int Tryd.underlying3 wn1) trodAll_mk0)), rfl, bel.frame _, fun h => by cases h⟩

theorem said : Rows.NumeralFixesSaid :=
  OpenClaim.holds_of_cond 6 Tryd.f6 rfl rfl rfl rfl rfl rfl rfl ⟨rfl, rfl, rfl, rfl, rfl⟩ rfl rfl rfl rfl rfl (by kernel_rfl) Tryd.func6 (by kernel_rfl)
    (of_decide_eq_true (by kernel_rfl)) (by unfold Func.isWrapper; first | (rw [if_pos (by decide +kernel)]; kernel_rfl) | (rw [if_neg (by decide +kernel)]; exact ⟨rfl, rfl⟩))
    (fun os started H enc _ F => by rw [OpenClaim.pre_eq_preRow]; exact lifted os started H enc F)
theorem plain (f : FuncId) (fn : Func) (hf : Tryd.pinned.checked.prog.funcNamed "scripting/scriptinglaw02.NumeralFixes" = some f) (hfn : Tryd.pinned.checked.prog.funcs[f]? = some fn) :
    false = Tryd.pinned.checked.prog.looks [] ∧ ∀ (j : Nat) t, fn.params[j]? = some t → Tryd.pinned.checked.prog.wantsStandIn t = false := by
  obtain rfl : f = 6 := Option.some.inj ((show Tryd.prog.funcNamed "scripting/scriptinglaw02.NumeralFixes" = some 6 by kernel_rfl).symm.trans hf) |>.symm
  obtain rfl : fn = Tryd.f6 := (Option.some.inj (Tryd.func6.symm.trans hfn)).symm
  refine ⟨by kernel_rfl, fun j t ht => ?_⟩
  rw [Tryd.params6] at ht
  have hm : t ∈ [23, 3] := by simpa using Array.mem_of_getElem? ht
  have hall : ([23, 3].all fun u => !Tryd.prog.wantsStandIn u) = true := by kernel_rfl
  exact (show Tryd.prog.wantsStandIn t = false by simpa using List.all_eq_true.1 hall t hm)

/-- The given statement. -/
theorem proved : Rows.NumeralFixesCardSaid :=
  Claim7.holds_tied_plain_at .later [] _ _ _ _ said (fun _ h => by cases h) (by kernel_rfl) (fun _ h => by cases h) numeralFixes_row_tie rfl ⟨rfl, rfl⟩ (by kernel_rfl) rfl plain (by kernel_rfl)
#print axioms proved
end Go.Proofs.YtplfdfpnplhonaaDoor.numeralFixesLaw
