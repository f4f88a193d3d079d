/- NumeralScans. No condition. -/
import Derived.Test.YtplfdfpnplhonaaDoorNumY
namespace Go.Proofs.YtplfdfpnplhonaaDoor.numeralScansLaw
open Go.ChangeMaps (open_string shut_string)
open Go.ChangeShapes Go.WideShapes Go.ChangeAt Go.RowKit Go.Joins M1 M2
set_option linter.unusedVariables false


set_option maxHeartbeats 4000000 in
theorem walk (s0 : ByteArray) (hm0 : s0.size ≤ maxLen) (n1 : Int) (wn1 : (Lit.int .i64 n1).wf = true) (w : World) (he : Env w) :
    Calls Tryd.prog 5 #[.string s0, .int .i64 n1] w fun e w' => e = .returned (.bool true) ∧ Below w.heap.size w w' := by
  have hls : ∀ w, Calls Tryd.prog 15 #[.string s0] w fun e w' => e = .returned (.bool (decide ((s0.size : Int) > 2000))) ∧ w = w' := fun w => long_any s0 w
  cases hl : decide ((s0.size : Int) > 2000) with
  | true =>
    rw [hl] at hls
    have HL := Lib.hid hls
    have HE := Lib.hid he
    clear he hl hls
    go_enter Tryd.func5, Tryd.ntmps5
    go_wp2_with (first | (go_at_call 15; (with_reducible refine (HL.out _).mono ?_); rintro e w0 ⟨rfl, rfl⟩) | (go_at_call 14; (with_reducible refine (awake_any _ HE.out).mono ?_); rintro e w3 ⟨rfl, hb3⟩; obtain ⟨hc3, hf3⟩ := bcell hb3; have hz3 := hb3.size; (try simp at hz3); ))
    go_ret
    refine ⟨rfl, ?_⟩
    repeat (first | exact Below.refl _ _ | refine below_drewN ?_ _ | refine Below.drew ?_ | refine Below.setCell ?_ (by first | omega | (simp; done) | (simp; omega)) _ | refine Below.alloc ?_ (by first | omega | (simp; done) | (simp; omega)) _ | refine below_step (by assumption) (by first | omega | (simp; done) | (simp; omega)) ?_)
  | false =>
    have hs : s0.size ≤ 4000000000 := by have := of_decide_eq_false hl; omega
    rw [hl] at hls
    have HL := Lib.hid hls
    have HE := Lib.hid he
    have B1 : Hid (∀ w, Env w → Calls Tryd.prog 18 #[.string s0, .int .i64 n1] w fun e w' => e = .returned (.tuple #[.agg #[.int .i64 (scanR s0.data.toList n1).P, .int .i64 (scanR s0.data.toList n1).Q], .int .i64 (scanR s0.data.toList n1).N, .int .i64 (scanR s0.data.toList n1).E]) ∧ Below w.heap.size w w') := Lib.hid fun w he => scan_any s0 n1 w hs
    have B2 : Hid (∀ w, Env w → Calls Tryd.prog 19 #[.string s0, .int .i64 n1] w fun e w' => e = .returned (.tuple #[.agg #[.int .i64 (scanR s0.data.toList n1).P, .int .i64 (scanR s0.data.toList n1).Q], .int .i64 (scanR s0.data.toList n1).N, .int .i64 (scanR s0.data.toList n1).E]) ∧ Below w.heap.size w w') := Lib.hid fun w he => rscan_any s0 n1 w hs
    clear he hl hls hs
    generalize scanR s0.data.toList n1 = R at *
    go_enter Tryd.func5, Tryd.ntmps5
    go_wp2_with (first | (go_at_call 15; (with_reducible refine (HL.out _).mono ?_); rintro e w0 ⟨rfl, rfl⟩) | (go_at_call 18; (with_reducible refine (B1.out _ HE.out).mono ?_); rintro e w1 ⟨rfl, hb1⟩; obtain ⟨hc1, hf1⟩ := bcell hb1; have hz1 := hb1.size; (try simp at hz1); have HE1 := Lib.hid ((HE.out.on hb1).alloc (.cells #[.int .i64 R.P, .int .i64 R.Q] 23))) | (go_at_call 19; (with_reducible refine (B2.out _ HE1.out).mono ?_); rintro e w2 ⟨rfl, hb2⟩; obtain ⟨hc2, hf2⟩ := bcell hb2; have hz2 := hb2.size; (try simp at hz2); have y21 : w1.heap.size < w2.heap.size := (by omega); have k20 : w2.cell? ⟨w1.heap.size, 0, none⟩ = some (.int .i64 R.P) := (by go_simp); have k21 : w2.cell? ⟨w1.heap.size, 1, none⟩ = some (.int .i64 R.Q) := (by go_simp); have HE2 := Lib.hid ((HE1.out.on hb2).alloc (.cells #[.int .i64 R.P, .int .i64 R.Q] 23))) | (go_at_call 14; (with_reducible refine (awake_any _ HE2.out).mono ?_); rintro e w3 ⟨rfl, hb3⟩; obtain ⟨hc3, hf3⟩ := bcell hb3; have hz3 := hb3.size; (try simp at hz3); ))
    go_ret
    refine ⟨rfl, ?_⟩
    repeat (first | exact Below.refl _ _ | refine below_drewN ?_ _ | refine Below.drew ?_ | refine Below.setCell ?_ (by first | omega | (simp; done) | (simp; omega)) _ | refine Below.alloc ?_ (by first | omega | (simp; done) | (simp; omega)) _ | refine below_step (by assumption) (by first | omega | (simp; done) | (simp; omega)) ?_)

theorem reads (os : Os) {H : Type} (enc : TypeId × Value → H) : ∃ places, DataW.whole enc Tryd.prog ((World.laidAll Tryd.prog os L5).forCall (fun _ _ => 0) ⟨#[], #[.string ⟨#[49]⟩, .int .i64 1], []⟩).memory Tryd.f5.params.toList Rows.numeralScansSpec.vars false #[Value.string ⟨#[49]⟩, .int .i64 1].toList 8 = some ([.lit (.string [49]), .lit (.int .i64 1)], [], places) :=
  ⟨[], by kernel_rfl⟩
set_option maxRecDepth 100000 in
theorem lifted (os : Os) (started : os.Started) (H : Type) (enc : TypeId × Value → H) (F : Stop.Interp) :
    ReturnsInHanded {} Tryd.checked os 5 .any ((OpenSpec.ofChange Rows.numeralScansSpec).preRow enc Tryd.prog Tryd.f5 Rows.numeralScansRow.domain false L5) (((OpenSpec.ofChange Rows.numeralScansSpec).at F).post enc Tryd.prog Tryd.f5 false true false false) := by
  obtain ⟨places, hx⟩ := reads os enc
  refine returnsInHanded_of_row (C := Tryd.checked) (s := OpenSpec.ofChange Rows.numeralScansSpec) own started (by kernel_rfl) Tryd.func5
    ⟨World.laidAll Tryd.prog os L5, fun _ _ => 0, ⟨#[], #[.string ⟨#[49]⟩, .int .i64 1], []⟩, World.laidAll_os _ _ _, wit_shaped os _, rfl, (Input.okWide_of_okWideB (by kernel_rfl)).2,
      OpenSpec.preRow_of_cond 8 hx (by kernel_rfl) (fun k hk => by cases hk) (by kernel_rfl) (laid_met os _), by
        simp only [Assume.holds]
        exact ⟨by simp, by simp, fun _ => Modest.zero, by simp, by simp⟩⟩ ?_
  intro W base args ds gs before hval0 hW _ _ _ hL hsh _
  have hE := env hL hsh
  have hval : ∀ (j : Nat) t v, Tryd.f5.params[j]? = some t → args[j]? = some v → Value.okWide Tryd.prog W .any base t v := hval0
  have hW' := hW
  obtain ⟨p, q, hA0, hV, rfl, hfz, hnd⟩ := hW
  have hA : DataW.TrodAll enc Tryd.prog W 0 (fun _ => true) true Tryd.f5.params.toList args.toList ds p := hA0
  rw [Tryd.params5] at hA hval
  obtain ⟨v0, vs0, d0, ds0, p_0, q_0, hargs, rfl, rfl, h0, r0⟩ := trodAll_cons hA
  obtain ⟨v1, vs1, d1, ds1, p_1, q_1, rfl, rfl, rfl, h1, r1⟩ := trodAll_cons r0
  obtain ⟨rfl, rfl, rfl⟩ := trodAll_nil r1
  obtain rfl : args = #[v0, v1] := by cases args; simp_all
  obtain ⟨rfl, rfl⟩ := trodVars_none hV
  obtain ⟨s0, rfl, rfl, rfl, hm0⟩ := open_string Tryd.underlying9 (hval 0 9 v0 rfl rfl) h0
  obtain ⟨n1, rfl, rfl, rfl, wn1⟩ := open_int Tryd.underlying3 (hval 1 3 v1 rfl rfl) h1
  clear hA0 hval0
  simp only [List.append_nil] at hW'
  refine (walk s0 hm0 n1 wn1 W hE).mono fun e W' ⟨he, bel⟩ => ?_
  subst he
  exact ⟨_, rfl, _, _, _, [], [], [], hW', trodAll_mk1 (shut_bool Tryd.underlying4 _), (trodAll_cons_mk (shut_string Tryd.underlying9 hm0) (trodAll_cons_mk (shut_int Tryd.underlying3 wn1) trodAll_mk0)), rfl, bel.frame _, fun h => by cases h⟩

theorem said : Rows.NumeralScansSaid :=
  OpenClaim.holds_of_cond 5 Tryd.f5 rfl rfl rfl rfl rfl rfl rfl ⟨rfl, rfl, rfl, rfl, rfl⟩ rfl rfl rfl rfl rfl (by kernel_rfl) Tryd.func5 (by kernel_rfl)
    (of_decide_eq_true (by kernel_rfl)) (by unfold Func.isWrapper; first | (rw [if_pos (by decide +kernel)]; kernel_rfl) | (rw [if_neg (by decide +kernel)]; exact ⟨rfl, rfl⟩))
    (fun os started H enc _ F => by rw [OpenClaim.pre_eq_preRow]; exact lifted os started H enc F)
theorem plain (f : FuncId) (fn : Func) (hf : Tryd.pinned.checked.prog.funcNamed "scripting/scriptinglaw02.NumeralScans" = some f) (hfn : Tryd.pinned.checked.prog.funcs[f]? = some fn) :
    false = Tryd.pinned.checked.prog.looks [] ∧ ∀ (j : Nat) t, fn.params[j]? = some t → Tryd.pinned.checked.prog.wantsStandIn t = false := by
  obtain rfl : f = 5 := Option.some.inj ((show Tryd.prog.funcNamed "scripting/scriptinglaw02.NumeralScans" = some 5 by kernel_rfl).symm.trans hf) |>.symm
  obtain rfl : fn = Tryd.f5 := (Option.some.inj (Tryd.func5.symm.trans hfn)).symm
  refine ⟨by kernel_rfl, fun j t ht => ?_⟩
  rw [Tryd.params5] at ht
  have hm : t ∈ [9, 3] := by simpa using Array.mem_of_getElem? ht
  have hall : ([9, 3].all fun u => !Tryd.prog.wantsStandIn u) = true := by kernel_rfl
  exact (show Tryd.prog.wantsStandIn t = false by simpa using List.all_eq_true.1 hall t hm)

/-- The given statement. -/
theorem proved : Rows.NumeralScansCardSaid :=
  Claim7.holds_tied_plain_at .later [] _ _ _ _ said (fun _ h => by cases h) (by kernel_rfl) (fun _ h => by cases h) numeralScans_row_tie rfl ⟨rfl, rfl⟩ (by kernel_rfl) rfl plain (by kernel_rfl)
#print axioms proved
end Go.Proofs.YtplfdfpnplhonaaDoor.numeralScansLaw
