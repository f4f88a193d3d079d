/- NumeralWholes. No condition. -/
import Derived.Test.YtplfdfpnplhonaaDoorNumY
namespace Go.Proofs.YtplfdfpnplhonaaDoor.numeralWholesLaw
open Go.ChangeMaps (open_string shut_string)
open Go.ChangeShapes Go.WideShapes Go.ChangeAt Go.RowKit Go.Joins M1 M2
set_option linter.unusedVariables false


set_option maxHeartbeats 4000000 in
theorem E0 (n P Q E : Int) (hE : (E == 0) = false) (w : World) (he : Env w)
    (I1 : Hid (∀ w, Calls Tryd.prog 26 #[.int .i64 n] w fun e w' => e = .returned (.tuple #[.agg #[.int .i64 P, .int .i64 Q], .int .i64 E]) ∧ Below w.heap.size w w')) :
    Calls Tryd.prog 10 #[.int .i64 n] w fun e w' => e = .returned (.bool true) ∧ Below w.heap.size w w' := by
  have HE := Lib.hid he
  clear he
  go_enter Tryd.func10, Tryd.ntmps10
  go_wp2_with (first | (go_at_call 26; (with_reducible refine (I1.out _).mono ?_); rintro e w1 ⟨rfl, hb1⟩; obtain ⟨hc1, hf1⟩ := bcell hb1; have hz1 := hb1.size; (try simp at hz1); have HE1 := Lib.hid ((HE.out.on hb1).alloc (.cells #[.int .i64 P, .int .i64 Q] 23))) | (go_at_call 14; (with_reducible refine (awake_any _ HE1.out).mono ?_); rintro e w2 ⟨rfl, hb2⟩; obtain ⟨hc2, hf2⟩ := bcell hb2; have hz2 := hb2.size; (try simp at hz2); ))
  go_ret
  refine ⟨rfl, ?_⟩
  repeat (first | exact Below.refl _ _ | refine below_drewN ?_ _ | refine Below.drew ?_ | refine Below.setCell ?_ (by first | omega | (simp; done) | (simp; omega)) _ | refine Below.alloc ?_ (by first | omega | (simp; done) | (simp; omega)) _ | refine below_step (by assumption) (by first | omega | (simp; done) | (simp; omega)) ?_)

set_option maxHeartbeats 4000000 in
theorem E1 (n : Int) (h1 : -2147483647 ≤ n) (h2 : n ≤ 2147483647) (hn : n < 0) (t : ByteArray)  (w : World) (he : Env w)
    (I1 : Hid (∀ w, Calls Tryd.prog 26 #[.int .i64 n] w fun e w' => e = .returned (.tuple #[.agg #[.int .i64 n, .int .i64 1], .int .i64 0]) ∧ Below w.heap.size w w'))
    (F1 : Hid (∀ w, Env w → Calls Tryd.prog 20 #[.agg #[.int .i64 n, .int .i64 1], .int .i64 0] w fun e w' => e = .returned (.tuple #[.string t, .int .i64 0]) ∧ Below w.heap.size w w'))
    (B1 : Hid (∀ w, Calls Tryd.prog 22 #[.int .i64 n, .int .i64 10] w fun e w' => e = .returned (.tuple #[.string t, .int .i64 0]) ∧ Below w.heap.size w w'))
    (T1 : Hid (∀ w, Env w → Calls Tryd.prog 12 #[.agg #[.int .i64 n, .int .i64 1]] w fun e w' => e = .returned (.string t) ∧ Below w.heap.size w w'))
    : Calls Tryd.prog 10 #[.int .i64 n] w fun e w' => e = .returned (.bool true) ∧ Below w.heap.size w w' := by
  have HE := Lib.hid he
  clear he
  go_enter Tryd.func10, Tryd.ntmps10
  go_wp2_with (first | (go_at_call 26; (with_reducible refine (I1.out _).mono ?_); rintro e w1 ⟨rfl, hb1⟩; obtain ⟨hc1, hf1⟩ := bcell hb1; have hz1 := hb1.size; (try simp at hz1); have HE1 := Lib.hid ((HE.out.on hb1).alloc (.cells #[.int .i64 n, .int .i64 1] 23))) | (go_at_call 20; (with_reducible refine (F1.out _ HE1.out).mono ?_); rintro e w2 ⟨rfl, hb2⟩; obtain ⟨hc2, hf2⟩ := bcell hb2; have hz2 := hb2.size; (try simp at hz2); have y2_1 : w1.heap.size < w2.heap.size := (by omega); have k20 : w2.cell? ⟨w1.heap.size, 0, none⟩ = some (.int .i64 n) := (by go_simp); have k21 : w2.cell? ⟨w1.heap.size, 1, none⟩ = some (.int .i64 1) := (by go_simp); have HE2 := Lib.hid (HE1.out.on hb2)) | (go_at_call 22; (with_reducible refine (B1.out _).mono ?_); rintro e w3 ⟨rfl, hb3⟩; obtain ⟨hc3, hf3⟩ := bcell hb3; have hz3 := hb3.size; (try simp at hz3); have y3_1 : w1.heap.size < w3.heap.size := (by omega); have k30 : w3.cell? ⟨w1.heap.size, 0, none⟩ = some (.int .i64 n) := (by go_simp); have k31 : w3.cell? ⟨w1.heap.size, 1, none⟩ = some (.int .i64 1) := (by go_simp); have HE3 := Lib.hid (HE2.out.on hb3)) | (go_at_call 12; (with_reducible refine (T1.out _ HE3.out).mono ?_); rintro e w4 ⟨rfl, hb4⟩; obtain ⟨hc4, hf4⟩ := bcell hb4; have hz4 := hb4.size; (try simp at hz4); have y4_1 : w1.heap.size < w4.heap.size := (by omega); have k40 : w4.cell? ⟨w1.heap.size, 0, none⟩ = some (.int .i64 n) := (by go_simp); have k41 : w4.cell? ⟨w1.heap.size, 1, none⟩ = some (.int .i64 1) := (by go_simp); have HE4 := Lib.hid (HE3.out.on hb4)) | (go_at_call 14; (with_reducible refine (awake_any _ HE4.out).mono ?_); rintro e w7 ⟨rfl, hb7⟩; obtain ⟨hc7, hf7⟩ := bcell hb7; have hz7 := hb7.size; (try simp at hz7); ))
  go_ret
  refine ⟨rfl, ?_⟩
  repeat (first | exact Below.refl _ _ | refine below_drewN ?_ _ | refine Below.drew ?_ | refine Below.setCell ?_ (by first | omega | (simp; done) | (simp; omega)) _ | refine Below.alloc ?_ (by first | omega | (simp; done) | (simp; omega)) _ | refine below_step (by assumption) (by first | omega | (simp; done) | (simp; omega)) ?_)

set_option maxHeartbeats 4000000 in
theorem E2 (n : Int) (h1 : -2147483647 ≤ n) (h2 : n ≤ 2147483647) (hn : 0 ≤ n) (t : ByteArray) (u : ByteArray) (hu : u.size ≤ 100) (w : World) (he : Env w)
    (I1 : Hid (∀ w, Calls Tryd.prog 26 #[.int .i64 n] w fun e w' => e = .returned (.tuple #[.agg #[.int .i64 n, .int .i64 1], .int .i64 0]) ∧ Below w.heap.size w w'))
    (F1 : Hid (∀ w, Env w → Calls Tryd.prog 20 #[.agg #[.int .i64 n, .int .i64 1], .int .i64 0] w fun e w' => e = .returned (.tuple #[.string t, .int .i64 0]) ∧ Below w.heap.size w w'))
    (B1 : Hid (∀ w, Calls Tryd.prog 22 #[.int .i64 n, .int .i64 10] w fun e w' => e = .returned (.tuple #[.string t, .int .i64 0]) ∧ Below w.heap.size w w'))
    (T1 : Hid (∀ w, Env w → Calls Tryd.prog 12 #[.agg #[.int .i64 n, .int .i64 1]] w fun e w' => e = .returned (.string t) ∧ Below w.heap.size w w'))
    (B2 : Hid (∀ w, Calls Tryd.prog 22 #[.int .i64 n, .int .i64 16] w fun e w' => e = .returned (.tuple #[.string u, .int .i64 0]) ∧ Below w.heap.size w w'))
    (P1 : Hid (∀ w, Env w → Calls Tryd.prog 16 #[.string (⟨#[48, 120]⟩ ++ u)] w fun e w' => e = .returned (.tuple #[.agg #[.int .i64 n, .int .i64 1], .int .i64 0]) ∧ Below w.heap.size w w'))
    : Calls Tryd.prog 10 #[.int .i64 n] w fun e w' => e = .returned (.bool true) ∧ Below w.heap.size w w' := by
  have HE := Lib.hid he
  have a1 : ∀ W, (Op.stringOp .add ⟨#[48, 120]⟩ u).run Tryd.prog W = .ok (.string (⟨#[48, 120]⟩ ++ u)) W := fun W => run_string_add_sum (w := W) _ _ (by show 2 + u.size ≤ _; omega)
  clear he
  go_enter Tryd.func10, Tryd.ntmps10
  go_wp2_with (first | (go_at_call 26; (with_reducible refine (I1.out _).mono ?_); rintro e w1 ⟨rfl, hb1⟩; obtain ⟨hc1, hf1⟩ := bcell hb1; have hz1 := hb1.size; (try simp at hz1); have HE1 := Lib.hid ((HE.out.on hb1).alloc (.cells #[.int .i64 n, .int .i64 1] 23))) | (go_at_call 20; (with_reducible refine (F1.out _ HE1.out).mono ?_); rintro e w2 ⟨rfl, hb2⟩; obtain ⟨hc2, hf2⟩ := bcell hb2; have hz2 := hb2.size; (try simp at hz2); have y2_1 : w1.heap.size < w2.heap.size := (by omega); have k20 : w2.cell? ⟨w1.heap.size, 0, none⟩ = some (.int .i64 n) := (by go_simp); have k21 : w2.cell? ⟨w1.heap.size, 1, none⟩ = some (.int .i64 1) := (by go_simp); have HE2 := Lib.hid (HE1.out.on hb2)) | (go_at_call 22; (with_reducible refine (B1.out _).mono ?_); rintro e w3 ⟨rfl, hb3⟩; obtain ⟨hc3, hf3⟩ := bcell hb3; have hz3 := hb3.size; (try simp at hz3); have y3_1 : w1.heap.size < w3.heap.size := (by omega); have k30 : w3.cell? ⟨w1.heap.size, 0, none⟩ = some (.int .i64 n) := (by go_simp); have k31 : w3.cell? ⟨w1.heap.size, 1, none⟩ = some (.int .i64 1) := (by go_simp); have HE3 := Lib.hid (HE2.out.on hb3)) | (go_at_call 12; (with_reducible refine (T1.out _ HE3.out).mono ?_); rintro e w4 ⟨rfl, hb4⟩; obtain ⟨hc4, hf4⟩ := bcell hb4; have hz4 := hb4.size; (try simp at hz4); have y4_1 : w1.heap.size < w4.heap.size := (by omega); have k40 : w4.cell? ⟨w1.heap.size, 0, none⟩ = some (.int .i64 n) := (by go_simp); have k41 : w4.cell? ⟨w1.heap.size, 1, none⟩ = some (.int .i64 1) := (by go_simp); have HE4 := Lib.hid (HE3.out.on hb4)) | (go_at_call 22; (with_reducible refine (B2.out _).mono ?_); rintro e w5 ⟨rfl, hb5⟩; obtain ⟨hc5, hf5⟩ := bcell hb5; have hz5 := hb5.size; (try simp at hz5); have y5_1 : w1.heap.size < w5.heap.size := (by omega); have k50 : w5.cell? ⟨w1.heap.size, 0, none⟩ = some (.int .i64 n) := (by go_simp); have k51 : w5.cell? ⟨w1.heap.size, 1, none⟩ = some (.int .i64 1) := (by go_simp); have HE5 := Lib.hid (HE4.out.on hb5)) | (go_at_call 16; (with_reducible refine (P1.out _ HE5.out).mono ?_); rintro e w6 ⟨rfl, hb6⟩; obtain ⟨hc6, hf6⟩ := bcell hb6; have hz6 := hb6.size; (try simp at hz6); have y6_1 : w1.heap.size < w6.heap.size := (by omega); have k60 : w6.cell? ⟨w1.heap.size, 0, none⟩ = some (.int .i64 n) := (by go_simp); have k61 : w6.cell? ⟨w1.heap.size, 1, none⟩ = some (.int .i64 1) := (by go_simp); have HE6 := Lib.hid ((HE5.out.on hb6).alloc (.cells #[.int .i64 n, .int .i64 1] 23))) | (go_at_call 14; (with_reducible refine (awake_any _ HE6.out).mono ?_); rintro e w7 ⟨rfl, hb7⟩; obtain ⟨hc7, hf7⟩ := bcell hb7; have hz7 := hb7.size; (try simp at hz7); ))
  go_ret
  refine ⟨rfl, ?_⟩
  repeat (first | exact Below.refl _ _ | refine below_drewN ?_ _ | refine Below.drew ?_ | refine Below.setCell ?_ (by first | omega | (simp; done) | (simp; omega)) _ | refine Below.alloc ?_ (by first | omega | (simp; done) | (simp; omega)) _ | refine below_step (by assumption) (by first | omega | (simp; done) | (simp; omega)) ?_)

set_option maxHeartbeats 4000000 in
theorem walk (n0 : Int) (wn0 : (Lit.int .i64 n0).wf = true) (w : World) (he : Env w) :
    Calls Tryd.prog 10 #[.int .i64 n0] w fun e w' => e = .returned (.bool true) ∧ Below w.heap.size w w' := by
  have I1 := fun w => int_any n0 w
  by_cases hr : -2147483647 ≤ n0 ∧ n0 ≤ 2147483647
  · obtain ⟨h1, h2⟩ := hr
    rw [show intR n0 = ⟨n0, 1, 0⟩ from if_pos ⟨h1, h2⟩] at I1
    have hv := vld_one h1 h2
    have F1 : ∀ w, Env w → _ := fun w he => fix_any n0 1 0 w he
    rw [show fixS n0 1 0 = Lib.itoa n0 by unfold fixS; rw [if_pos ⟨hv, by omega, by omega⟩]; exact fix_whole n0, show fixE n0 1 0 = 0 by unfold fixE; rw [if_pos ⟨hv, by omega, by omega⟩]] at F1
    have B1 := fun w => base_any n0 10 w (by omega) (by omega)
    rw [show baseT n0 10 = Lib.itoa n0 from base_ten n0 (by omega), show baseE 10 = 0 from rfl] at B1
    have T1 : ∀ w, Env w → _ := fun w he => text_any n0 1 w he
    rw [text_whole h1 h2] at T1
    by_cases hn : n0 < 0
    · exact E1 n0 h1 h2 hn _ w he (Lib.hid I1) (Lib.hid F1) (Lib.hid B1) (Lib.hid T1)
    · obtain ⟨m, rfl⟩ := Int.eq_ofNat_of_zero_le (show 0 ≤ n0 by omega)
      have B2 := fun w => base_any (m : Int) 16 w (by omega) (by omega)
      rw [show baseT (m : Int) 16 = bd 16 m by unfold baseT; rw [if_pos (by omega)]; unfold baseL; rw [if_neg (by omega)]; simp, show baseE 16 = 0 from rfl] at B2
      have hu := (bd_len (b := 16) (u := m) (by omega) (by omega)).2
      have e1 : (⟨#[48, 120]⟩ ++ mkB (bd 16 m) : ByteArray).data.toList = [48, 120] ++ bd 16 m := by
        rw [ByteArray.data_append, Array.toList_append, mkB_list]
      have P1 : ∀ w, Env w → _ := fun w he => parse_any (⟨#[48, 120]⟩ ++ mkB (bd 16 m)) w (by rw [ByteArray.size_append, mkB_size]; show 2 + _ ≤ _; omega) he
      rw [e1, parse_hex (by omega)] at P1
      exact E2 m h1 h2 (by omega) _ _ (by rw [mkB_size]; omega) w he (Lib.hid I1) (Lib.hid F1) (Lib.hid B1) (Lib.hid T1) (Lib.hid B2) (Lib.hid P1)
  · have hE : (intR n0).E ≠ 0 := by unfold intR; rw [if_neg hr]; decide
    exact E0 n0 _ _ _ (beq_eq_false_iff_ne.2 hE) w he (Lib.hid I1)

theorem reads (os : Os) {H : Type} (enc : TypeId × Value → H) : ∃ places, DataW.whole enc Tryd.prog ((World.laidAll Tryd.prog os L5).forCall (fun _ _ => 0) ⟨#[], #[.int .i64 1], []⟩).memory Tryd.f10.params.toList Rows.numeralWholesSpec.vars false #[Value.int .i64 1].toList 8 = some ([.lit (.int .i64 1)], [], places) :=
  ⟨[], by kernel_rfl⟩
set_option maxRecDepth 100000 in
theorem lifted (os : Os) (started : os.Started) (H : Type) (enc : TypeId × Value → H) (F : Stop.Interp) :
    ReturnsInHanded {} Tryd.checked os 10 .any ((OpenSpec.ofChange Rows.numeralWholesSpec).preRow enc Tryd.prog Tryd.f10 Rows.numeralWholesRow.domain false L5) (((OpenSpec.ofChange Rows.numeralWholesSpec).at F).post enc Tryd.prog Tryd.f10 false true false false) := by
  obtain ⟨places, hx⟩ := reads os enc
  refine returnsInHanded_of_row (C := Tryd.checked) (s := OpenSpec.ofChange Rows.numeralWholesSpec) own started (by kernel_rfl) Tryd.func10
    ⟨World.laidAll Tryd.prog os L5, fun _ _ => 0, ⟨#[], #[.int .i64 1], []⟩, World.laidAll_os _ _ _, wit_shaped os _, rfl, (Input.okWide_of_okWideB (by kernel_rfl)).2,
      OpenSpec.preRow_of_cond 8 hx (by kernel_rfl) (fun k hk => by cases hk) (by kernel_rfl) (laid_met os _), by
        simp only [Assume.holds]
        exact ⟨by simp, by simp, fun _ => Modest.zero, by simp, by simp⟩⟩ ?_
  intro W base args ds gs before hval0 hW _ _ _ hL hsh _
  have hE := env hL hsh
  have hval : ∀ (j : Nat) t v, Tryd.f10.params[j]? = some t → args[j]? = some v → Value.okWide Tryd.prog W .any base t v := hval0
  have hW' := hW
  obtain ⟨p, q, hA0, hV, rfl, hfz, hnd⟩ := hW
  have hA : DataW.TrodAll enc Tryd.prog W 0 (fun _ => true) true Tryd.f10.params.toList args.toList ds p := hA0
  rw [Tryd.params10] at hA hval
  obtain ⟨v0, vs0, d0, ds0, p_0, q_0, hargs, rfl, rfl, h0, r0⟩ := trodAll_cons hA
  obtain ⟨rfl, rfl, rfl⟩ := trodAll_nil r0
  obtain rfl : args = #[v0] := by cases args; simp_all
  obtain ⟨rfl, rfl⟩ := trodVars_none hV
  obtain ⟨n0, rfl, rfl, rfl, wn0⟩ := open_int Tryd.underlying3 (hval 0 3 v0 rfl rfl) h0
  clear hA0 hval0
  simp only [List.append_nil] at hW'
  refine (walk n0 wn0 W hE).mono fun e W' ⟨he, bel⟩ => ?_
  subst he
  exact ⟨_, rfl, _, _, _, [], [], [], hW', trodAll_mk1 (shut_bool Tryd.underlying4 _), (trodAll_cons_mk (shut_int Tryd.underlying3 wn0) trodAll_mk0), rfl, bel.frame _, fun h => by cases h⟩

theorem said : Rows.NumeralWholesSaid :=
  OpenClaim.holds_of_cond 10 Tryd.f10 rfl rfl rfl rfl rfl rfl rfl ⟨rfl, rfl, rfl, rfl, rfl⟩ rfl rfl rfl rfl rfl (by kernel_rfl) Tryd.func10 (by kernel_rfl)
    (of_decide_eq_true (by kernel_rfl)) (by unfold Func.isWrapper; first | (rw [if_pos (by decide +kernel)]; kernel_rfl) | (rw [if_neg (by decide +kernel)]; exact ⟨rfl, rfl⟩))
    (fun os started H enc _ F => by rw [OpenClaim.pre_eq_preRow]; exact lifted os started H enc F)
theorem plain (f : FuncId) (fn : Func) (hf : Tryd.pinned.checked.prog.funcNamed "scripting/scriptinglaw02.NumeralWholes" = some f) (hfn : Tryd.pinned.checked.prog.funcs[f]? = some fn) :
    false = Tryd.pinned.checked.prog.looks [] ∧ ∀ (j : Nat) t, fn.params[j]? = some t → Tryd.pinned.checked.prog.wantsStandIn t = false := by
  obtain rfl : f = 10 := Option.some.inj ((show Tryd.prog.funcNamed "scripting/scriptinglaw02.NumeralWholes" = some 10 by kernel_rfl).symm.trans hf) |>.symm
  obtain rfl : fn = Tryd.f10 := (Option.some.inj (Tryd.func10.symm.trans hfn)).symm
  refine ⟨by kernel_rfl, fun j t ht => ?_⟩
  rw [Tryd.params10] at ht
  have hm : t ∈ [3] := by simpa using Array.mem_of_getElem? ht
  have hall : ([3].all fun u => !Tryd.prog.wantsStandIn u) = true := by kernel_rfl
  exact (show Tryd.prog.wantsStandIn t = false by simpa using List.all_eq_true.1 hall t hm)

/-- The given statement. -/
theorem proved : Rows.NumeralWholesCardSaid :=
  Claim7.holds_tied_plain_at .later [] _ _ _ _ said (fun _ h => by cases h) (by kernel_rfl) (fun _ h => by cases h) numeralWholes_row_tie rfl ⟨rfl, rfl⟩ (by kernel_rfl) rfl plain (by kernel_rfl)
#print axioms proved
end Go.Proofs.YtplfdfpnplhonaaDoor.numeralWholesLaw
