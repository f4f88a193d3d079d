/- PatternKeeps. No condition. -/
import Derived.Test.YtnobmmboojebjaaDoorPatTb
namespace Go.Proofs.YtnobmmboojebjaaDoor.patternKeepsLaw
open Go.ChangeMaps (open_string shut_string)
open Go.ChangeShapes Go.WideShapes Go.ChangeAt Go.RowKit Go.Joins M4
set_option linter.unusedVariables false

theorem said_ok {s : ByteArray} {n : Nat} {e : Ending} (h : ReplSaid (.ok s.data.toList) n e) : e = .returned (.tuple #[.string s, .int .i64 (n : Int), .int .i64 0]) := by
  have h3 : e = .returned (.tuple #[.string (bs s.data.toList), .int .i64 (n : Int), .int .i64 0]) := h
  rw [bs_of] at h3; exact h3

set_option maxHeartbeats 16000000 in
set_option maxRecDepth 100000 in
theorem walk (s0 : ByteArray) (hm0 : s0.size ≤ maxLen) (s1 : ByteArray) (hm1 : s1.size ≤ maxLen) (s2 : ByteArray) (hm2 : s2.size ≤ maxLen) (w : World) (he : Tab w) :
    Calls Tryd.prog 8 #[.string s0, .string s1, .string s2] w fun e w' => e = .returned (.bool true) ∧ Below w.heap.size w w' := by
  have AW := Lib.hid fun W (hb : Below w.heap.size w W) => awake_any W (tab_below he hb)
  by_cases hbig : 4096 < s0.size
  · have hbig' : 4096 < (s0.size : Int) := by omega
    go_enter Tryd.func8, Tryd.ntmps8
    go_wp2_with (go_at_call 10; (with_reducible refine (AW.out _ (Below.refl _ _)).mono ?_); rintro e w9 ⟨rfl, hb9⟩)
    go_ret
    exact ⟨rfl, hb9⟩
  have hbig' : ¬ 4096 < (s0.size : Int) := by omega
  by_cases hbig1 : 200 < s1.size
  · have hbig1' : 200 < (s1.size : Int) := by omega
    go_enter Tryd.func8, Tryd.ntmps8
    go_wp2_with (go_at_call 10; (with_reducible refine (AW.out _ (Below.refl _ _)).mono ?_); rintro e w9 ⟨rfl, hb9⟩)
    go_ret
    exact ⟨rfl, hb9⟩
  have hbig1' : ¬ 200 < (s1.size : Int) := by omega
  rcases all_two s0 s1 (by omega) (by omega) with ⟨c, hc, hA⟩ | ⟨g, ms, hr, hall, hasc, hg, hml, hA⟩
  · have QA := Lib.hid hA
    have QR := Lib.hid fun W rp most => replace_bad s0 s1 rp most W c hc (hA W)
    have y1 : ((c : Int) != 0) = true := by rw [bne_iff_ne]; omega
    clear hA he
    go_enter Tryd.func8, Tryd.ntmps8
    go_upto_region 4 with (go_at_call 21; (with_reducible refine (QA.out _).mono ?_); rintro e w1 ⟨rfl, hb1⟩)
    go_upto_region 5 with (go_at_call 22; (with_reducible refine (QR.out _ _ _).mono ?_); rintro e w2 ⟨rfl, hb2⟩)
    go_upto_region 6 with (go_at_call 22; (with_reducible refine (QR.out _ _ _).mono ?_); rintro e w3 ⟨rfl, hb3⟩)
    have HBX := Lib.hid (hb1.trans ((hb2.mono hb1.size).trans (hb3.mono (Nat.le_trans hb1.size hb2.size))))
    clear hb1 hb2 hb3
    go_wp2_with (go_at_call 10; (with_reducible refine (AW.out _ HBX.out).mono ?_); rintro e w9 ⟨rfl, hb9⟩)
    go_ret
    exact ⟨rfl, HBX.out.trans (hb9.mono HBX.out.size)⟩
  · have QA := Lib.hid hA
    have hsl : s0.data.toList.length = s0.size := by simp
    have hr0 : replE s0.data.toList s2.data.toList (ms.take 0) 0 [] = .ok s0.data.toList := by
      rw [List.take_zero, replE_nil, List.drop_zero, List.nil_append, if_neg (by omega)]
    have hr1 : replE s0.data.toList (⟨#[37, 48]⟩ : ByteArray).data.toList (ms.take ms.length) 0 [] = .ok s0.data.toList := by
      rw [List.take_length]
      exact repl_keeps s0.data.toList g hg (by omega) ms none 0 hasc (Nat.zero_le _)
    have QR : Hid (∀ W, Below w.heap.size w W → Calls Tryd.prog 22 #[.string s0, .string s1, .string s2, .int .i64 0] W fun e w' => e = .returned (.tuple #[.string s0, .int .i64 0, .int .i64 0]) ∧ Below W.heap.size W w') := Lib.hid fun W hb => by
      rcases Nat.eq_zero_or_pos ms.length with h0 | h0
      · have h := replace_ok s0 s1 s2 0 W (by omega) (by omega) 0 (fun h => absurd h (by decide)) g hr hg ms hall hasc (by omega) (tab_below he hb) (.inr (.inl ⟨by decide, by omega, h0.symm⟩))
        rw [hr0] at h
        exact h.mono fun e w' ⟨h1, h2⟩ => ⟨said_ok h1, h2⟩
      · have h := replace_ok s0 s1 s2 0 W (by omega) (by omega) 0 (fun h => absurd h (by decide)) g hr hg ms hall hasc (by omega) (tab_below he hb) (.inr (.inr ⟨rfl, h0⟩))
        rw [hr0] at h
        exact h.mono fun e w' ⟨h1, h2⟩ => ⟨said_ok h1, h2⟩
    have QS : Hid (∀ W, Below w.heap.size w W → Calls Tryd.prog 22 #[.string s0, .string s1, .string ⟨#[37, 48]⟩, .int .i64 (-1)] W fun e w' => e = .returned (.tuple #[.string s0, .int .i64 (ms.length : Int), .int .i64 0]) ∧ Below W.heap.size W w') := Lib.hid fun W hb => by
      have h := replace_ok s0 s1 ⟨#[37, 48]⟩ (-1) W (by omega) (by omega) ms.length (fun _ => by decide) g hr hg ms hall hasc (by omega) (tab_below he hb) (.inl ⟨by decide, rfl⟩)
      rw [hr1] at h
      exact h.mono fun e w' ⟨h1, h2⟩ => ⟨said_ok h1, h2⟩
    clear hA he hr hall hasc hr0 hr1 hsl
    generalize ms.length = n at *
    go_enter Tryd.func8, Tryd.ntmps8
    go_upto_region 4 with (go_at_call 21; (with_reducible refine (QA.out _).mono ?_); rintro e w1 ⟨⟨q, c, vs, rfl, -⟩, hb1⟩)
    go_upto_region 5 with (go_at_call 22; (with_reducible refine (QR.out _ hb1).mono ?_); rintro e w2 ⟨rfl, hb2⟩)
    have hb12 := hb1.trans (hb2.mono hb1.size)
    go_upto_region 6 with (go_at_call 22; (with_reducible refine (QS.out _ hb12).mono ?_); rintro e w3 ⟨rfl, hb3⟩)
    have HBX := Lib.hid (hb12.trans (hb3.mono hb12.size))
    clear hb1 hb2 hb3 hb12
    go_wp2_with (go_at_call 10; (with_reducible refine (AW.out _ HBX.out).mono ?_); rintro e w9 ⟨rfl, hb9⟩)
    go_ret
    exact ⟨rfl, HBX.out.trans (hb9.mono HBX.out.size)⟩

theorem reads (os : Os) {H : Type} (enc : TypeId × Value → H) : ∃ places, DataW.whole enc Tryd.prog ((World.laidAll Tryd.prog os L5).forCall (fun _ _ => 0) ⟨#[], #[.string ⟨#[49]⟩, .string ⟨#[49]⟩, .string ⟨#[49]⟩], []⟩).memory Tryd.f8.params.toList Rows.patternKeepsSpec.vars false #[Value.string ⟨#[49]⟩, .string ⟨#[49]⟩, .string ⟨#[49]⟩].toList 8 = some ([.lit (.string [49]), .lit (.string [49]), .lit (.string [49])], [], places) :=
  ⟨[], by kernel_rfl⟩
set_option maxRecDepth 100000 in
theorem lifted (os : Os) (started : os.Started) (H : Type) (enc : TypeId × Value → H) (F : Stop.Interp) :
    ReturnsInHanded {} Tryd.checked os 8 .any ((OpenSpec.ofChange Rows.patternKeepsSpec).preRow enc Tryd.prog Tryd.f8 Rows.patternKeepsRow.domain false L5) (((OpenSpec.ofChange Rows.patternKeepsSpec).at F).post enc Tryd.prog Tryd.f8 false true false false) := by
  obtain ⟨places, hx⟩ := reads os enc
  refine returnsInHanded_of_row (C := Tryd.checked) (s := OpenSpec.ofChange Rows.patternKeepsSpec) own started (by kernel_rfl) Tryd.func8
    ⟨World.laidAll Tryd.prog os L5, fun _ _ => 0, ⟨#[], #[.string ⟨#[49]⟩, .string ⟨#[49]⟩, .string ⟨#[49]⟩], []⟩, World.laidAll_os _ _ _, wit_shaped os _, rfl, (Input.okWide_of_okWideB (by kernel_rfl)).2,
      OpenSpec.preRow_of_cond 8 hx (by kernel_rfl) (fun k hk => by cases hk) (by kernel_rfl) (laid_met os _), by
        simp only [Assume.holds]
        exact ⟨by simp, by simp, fun _ => Modest.zero, by simp, by simp⟩⟩ ?_
  intro W base args ds gs before hval0 hW _ _ _ hL hsh _
  have hE := env hL
  have hval : ∀ (j : Nat) t v, Tryd.f8.params[j]? = some t → args[j]? = some v → Value.okWide Tryd.prog W .any base t v := hval0
  have hW' := hW
  obtain ⟨p, q, hA0, hV, rfl, hfz, hnd⟩ := hW
  have hA : DataW.TrodAll enc Tryd.prog W 0 (fun _ => true) true Tryd.f8.params.toList args.toList ds p := hA0
  rw [Tryd.params8] at hA hval
  obtain ⟨v0, vs0, d0, ds0, p_0, q_0, hargs, rfl, rfl, h0, r0⟩ := trodAll_cons hA
  obtain ⟨v1, vs1, d1, ds1, p_1, q_1, rfl, rfl, rfl, h1, r1⟩ := trodAll_cons r0
  obtain ⟨v2, vs2, d2, ds2, p_2, q_2, rfl, rfl, rfl, h2, r2⟩ := trodAll_cons r1
  obtain ⟨rfl, rfl, rfl⟩ := trodAll_nil r2
  obtain rfl : args = #[v0, v1, v2] := by cases args; simp_all
  obtain ⟨rfl, rfl⟩ := trodVars_none hV
  obtain ⟨s0, rfl, rfl, rfl, hm0⟩ := open_string Tryd.underlying9 (hval 0 9 v0 rfl rfl) h0
  obtain ⟨s1, rfl, rfl, rfl, hm1⟩ := open_string Tryd.underlying9 (hval 1 9 v1 rfl rfl) h1
  obtain ⟨s2, rfl, rfl, rfl, hm2⟩ := open_string Tryd.underlying9 (hval 2 9 v2 rfl rfl) h2
  clear hA0 hval0
  simp only [List.append_nil] at hW'
  refine (walk s0 hm0 s1 hm1 s2 hm2 W hE).mono fun e W' ⟨he, bel⟩ => ?_
  subst he
  exact ⟨_, rfl, _, _, _, [], [], [], hW', trodAll_mk1 (shut_bool Tryd.underlying4 _), (trodAll_cons_mk (shut_string Tryd.underlying9 hm0) (trodAll_cons_mk (shut_string Tryd.underlying9 hm1) (trodAll_cons_mk (shut_string Tryd.underlying9 hm2) trodAll_mk0))), rfl, bel.frame _, fun h => by cases h⟩

theorem said : Rows.PatternKeepsSaid :=
  OpenClaim.holds_of_cond 8 Tryd.f8 rfl rfl rfl rfl rfl rfl rfl ⟨rfl, rfl, rfl, rfl, rfl⟩ rfl rfl rfl rfl rfl (by kernel_rfl) Tryd.func8 (by kernel_rfl)
    (of_decide_eq_true (by kernel_rfl)) (by unfold Func.isWrapper; first | (rw [if_pos (by decide +kernel)]; kernel_rfl) | (rw [if_neg (by decide +kernel)]; exact ⟨rfl, rfl⟩))
    (fun os started H enc _ F => by rw [OpenClaim.pre_eq_preRow]; exact lifted os started H enc F)
theorem plain (f : FuncId) (fn : Func) (hf : Tryd.pinned.checked.prog.funcNamed "scripting/scriptinglaw04.PatternKeeps" = some f) (hfn : Tryd.pinned.checked.prog.funcs[f]? = some fn) :
    false = Tryd.pinned.checked.prog.looks [] ∧ ∀ (j : Nat) t, fn.params[j]? = some t → Tryd.pinned.checked.prog.wantsStandIn t = false := by
  obtain rfl : f = 8 := Option.some.inj ((show Tryd.prog.funcNamed "scripting/scriptinglaw04.PatternKeeps" = some 8 by kernel_rfl).symm.trans hf) |>.symm
  obtain rfl : fn = Tryd.f8 := (Option.some.inj (Tryd.func8.symm.trans hfn)).symm
  refine ⟨by kernel_rfl, fun j t ht => ?_⟩
  rw [Tryd.params8] at ht
  have hm : t ∈ [9, 9, 9] := by simpa using Array.mem_of_getElem? ht
  have hall : ([9, 9, 9].all fun u => !Tryd.prog.wantsStandIn u) = true := by kernel_rfl
  exact (show Tryd.prog.wantsStandIn t = false by simpa using List.all_eq_true.1 hall t hm)

/-- The given statement. -/
theorem proved : Rows.PatternKeepsCardSaid :=
  Claim7.holds_tied_plain_at .later [] _ _ _ _ said (fun _ h => by cases h) (by kernel_rfl) (fun _ h => by cases h) patternKeeps_row_tie rfl ⟨rfl, rfl⟩ (by kernel_rfl) rfl plain (by kernel_rfl)
#print axioms proved
end Go.Proofs.YtnobmmboojebjaaDoor.patternKeepsLaw
