/- For every string, width and side, Pad answers what the chapter says and cuts nothing (strings of more than 1000 bytes are not padded: the chapter's small case holds) No condition. -/
import Derived.Test.YtbdcmnhfmkefdaaGreatDoorFmtR
namespace Go.Proofs.YtbdcmnhfmkefdaaGreatDoor.formattingPadLaw
open Go.ChangeMaps (open_string shut_string)
open Go.ChangeShapes Go.WideShapes Go.ChangeAt Go.RowKit Go.Joins M1 M2 M9
set_option linter.unusedVariables false

theorem padF_size (s : ByteArray) (n : Int) (mi : Bool) : ((bq (padF s.data.toList n mi)).size : Int) = max (s.size : Int) (min (max n 0) 99) := by
  rw [bq_size]
  unfold padF
  have hl : s.data.toList.length = s.size := by simp
  rw [hl]
  have hm : (missF s.size n : Int) = max 0 (min (max n 0) 99 - (s.size : Int)) := by unfold missF; omega
  split
  · rw [List.length_append, List.length_replicate, hl]; push_cast; omega
  · rw [List.length_append, List.length_replicate, hl]; push_cast; omega
theorem pre_app : ∀ (a b : List UInt8), Lib.hasPrefix (a ++ b) a = true
  | [], b => by simp [Lib.hasPrefix]
  | c :: a, b => by
    have := pre_app a b
    unfold Lib.hasPrefix at *
    simp
theorem suf_app (a b : List UInt8) : Lib.hasSuffix (b ++ a) a = true := by
  unfold Lib.hasSuffix
  simp
theorem hp_any (s p : ByteArray) (b : Bool) (w : World) (h : Lib.hasPrefix s.data.toList p.data.toList = b) :
    Calls Tryz.prog 19 #[.string s, .string p] w fun e w' => e = .returned (.bool b) ∧ w = w' := by
  subst h; exact (Tryz.strings_HasPrefix s p w).mono fun _ _ ⟨h1, h2⟩ => ⟨h1, h2.symm⟩
theorem hs_any (s p : ByteArray) (b : Bool) (w : World) (hs : s.size ≤ 9223372036854775807) (h : Lib.hasSuffix s.data.toList p.data.toList = b) :
    Calls Tryz.prog 20 #[.string s, .string p] w fun e w' => e = .returned (.bool b) ∧ w = w' := by
  subst h; exact (Tryz.strings_HasSuffix s p w hs).mono fun _ _ ⟨h1, h2⟩ => ⟨h1, h2.symm⟩

set_option maxHeartbeats 8000000 in
set_option maxRecDepth 100000 in
theorem walk (s0 : ByteArray) (hm0 : s0.size ≤ maxLen) (n1 : Int) (wn1 : (Lit.int .i64 n1).wf = true) (b2 : Bool) (w : World) (he : E9 w)  :
    Calls Tryz.prog 5 #[.string s0, .int .i64 n1, .bool b2] w fun e w' => e = .returned (.bool true) ∧ Below w.heap.size w w' := by
  have hL := Lib.hid fun W (hb : Below w.heap.size w W) => lives9 W (he.on hb)
  by_cases hs : 1000 < s0.size
  · have d0 : (1000 : Int) < (s0.size : Int) := by omega
    clear he
    go_enter Tryz.func5, Tryz.ntmps5
    go_wp2_with (go_at_call 11; (with_reducible refine (hL.out _ (Below.refl _ _)).mono ?_); rintro e w1 ⟨rfl, hb1⟩)
    go_ret
    exact ⟨rfl, hb1⟩
  · have d0 : ¬ (1000 : Int) < (s0.size : Int) := by omega
    have QP := Lib.hid fun w => pad9 s0 n1 b2 w (by omega)
    have QR := Lib.hid fun w => rpad9 s0 n1 b2 w (by omega)
    have hz := padF_size s0 n1 b2
    have hzl := bq_list (padF s0.data.toList n1 b2)
    have hzs : (bq (padF s0.data.toList n1 b2)).size ≤ 1100 := by omega
    have hpf : padF s0.data.toList n1 b2 = if b2 = true then s0.data.toList ++ List.replicate (missF s0.data.toList.length n1) 32 else List.replicate (missF s0.data.toList.length n1) 32 ++ s0.data.toList := rfl
    generalize bq (padF s0.data.toList n1 b2) = z at *
    rw [← hzl] at hpf
    clear hzl hs
    cases b2 with
    | true =>
      have hX := (show Lib.hasPrefix z.data.toList s0.data.toList = true by rw [hpf, if_pos rfl]; exact pre_app _ _)
      have QX : Hid (∀ w, Calls Tryz.prog 19 #[.string z, .string s0] w fun e w' => e = .returned (.bool true) ∧ w = w') := Lib.hid fun w => hp_any z s0 true w hX
      clear hX he hm0
      go_enter Tryz.func5, Tryz.ntmps5
      go_wp2_with (first | (go_at_call 17; (with_reducible refine (QP.out _).mono ?_); rintro e w1 ⟨rfl, hb1⟩) | (go_at_call 18; (with_reducible refine (QR.out _).mono ?_); rintro e w2 ⟨rfl, hb2⟩; have H2 := Lib.hid (hb1.trans (hb2.mono hb1.size))) | (go_at_call 19; (with_reducible refine (QX.out _).mono ?_); rintro e w' ⟨rfl, rfl⟩) | (go_at_call 11; (with_reducible refine (hL.out _ H2.out).mono ?_); rintro e w3 ⟨rfl, hb3⟩))
      go_ret
      exact ⟨rfl, H2.out.trans (hb3.mono H2.out.size)⟩
    | false =>
      have hX := (show Lib.hasSuffix z.data.toList s0.data.toList = true by rw [hpf, if_neg (by decide)]; exact suf_app _ _)
      have QX : Hid (∀ w, Calls Tryz.prog 20 #[.string z, .string s0] w fun e w' => e = .returned (.bool true) ∧ w = w') := Lib.hid fun w => hs_any z s0 true w (by omega) hX
      clear hX he hm0
      go_enter Tryz.func5, Tryz.ntmps5
      go_wp2_with (first | (go_at_call 17; (with_reducible refine (QP.out _).mono ?_); rintro e w1 ⟨rfl, hb1⟩) | (go_at_call 18; (with_reducible refine (QR.out _).mono ?_); rintro e w2 ⟨rfl, hb2⟩; have H2 := Lib.hid (hb1.trans (hb2.mono hb1.size))) | (go_at_call 20; (with_reducible refine (QX.out _).mono ?_); rintro e w' ⟨rfl, rfl⟩) | (go_at_call 11; (with_reducible refine (hL.out _ H2.out).mono ?_); rintro e w3 ⟨rfl, hb3⟩))
      go_ret
      exact ⟨rfl, H2.out.trans (hb3.mono H2.out.size)⟩


theorem reads (os : Os) {H : Type} (enc : TypeId × Value → H) : ∃ places, DataW.whole enc Tryz.prog ((World.laidAll Tryz.prog os L5).forCall (fun _ _ => 0) ⟨#[], #[.string ⟨#[49]⟩, .int .i64 1, .bool false], []⟩).memory Tryz.f5.params.toList Rows.formattingPadSpec.vars false #[Value.string ⟨#[49]⟩, .int .i64 1, .bool false].toList 8 = some ([.lit (.string [49]), .lit (.int .i64 1), .lit (.bool false)], [], places) :=
  ⟨[], by kernel_rfl⟩
set_option maxRecDepth 100000 in
theorem lifted (os : Os) (started : os.Started) (H : Type) (enc : TypeId × Value → H) (F : Stop.Interp) :
    ReturnsInHanded {} Tryz.checked os 5 .any ((OpenSpec.ofChange Rows.formattingPadSpec).preRow enc Tryz.prog Tryz.f5 Rows.formattingPadRow.domain false L5) (((OpenSpec.ofChange Rows.formattingPadSpec).at F).post enc Tryz.prog Tryz.f5 false true false false) := by
  obtain ⟨places, hx⟩ := reads os enc
  refine returnsInHanded_of_row (C := Tryz.checked) (s := OpenSpec.ofChange Rows.formattingPadSpec) own started (by kernel_rfl) Tryz.func5
    ⟨World.laidAll Tryz.prog os L5, fun _ _ => 0, ⟨#[], #[.string ⟨#[49]⟩, .int .i64 1, .bool false], []⟩, World.laidAll_os _ _ _, wit_shaped os _, rfl, (Input.okWide_of_okWideB (by kernel_rfl)).2,
      OpenSpec.preRow_of_cond 8 hx (by kernel_rfl) (fun k hk => by cases hk) (by kernel_rfl) (laid_met os _), by
        simp only [Assume.holds]
        exact ⟨by simp, by simp, fun _ => Modest.zero, by simp, by simp⟩⟩ ?_
  intro W base args ds gs before hval0 hW _ _ _ hL hsh _
  have hE := env hL hsh
  have hval : ∀ (j : Nat) t v, Tryz.f5.params[j]? = some t → args[j]? = some v → Value.okWide Tryz.prog W .any base t v := hval0
  have hW' := hW
  obtain ⟨p, q, hA0, hV, rfl, hfz, hnd⟩ := hW
  have hA : DataW.TrodAll enc Tryz.prog W 0 (fun _ => true) true Tryz.f5.params.toList args.toList ds p := hA0
  rw [Tryz.params5] at hA hval
  obtain ⟨v0, vs0, d0, ds0, p_0, q_0, hargs, rfl, rfl, h0, r0⟩ := trodAll_cons hA
  obtain ⟨v1, vs1, d1, ds1, p_1, q_1, rfl, rfl, rfl, h1, r1⟩ := trodAll_cons r0
  obtain ⟨v2, vs2, d2, ds2, p_2, q_2, rfl, rfl, rfl, h2, r2⟩ := trodAll_cons r1
  obtain ⟨rfl, rfl, rfl⟩ := trodAll_nil r2
  obtain rfl : args = #[v0, v1, v2] := by cases args; simp_all
  obtain ⟨rfl, rfl⟩ := trodVars_none hV
  obtain ⟨s0, rfl, rfl, rfl, hm0⟩ := open_string Tryz.underlying9 (hval 0 9 v0 rfl rfl) h0
  obtain ⟨n1, rfl, rfl, rfl, wn1⟩ := open_int Tryz.underlying3 (hval 1 3 v1 rfl rfl) h1
  obtain ⟨b2, rfl, rfl, rfl⟩ := open_bool Tryz.underlying4 (hval 2 4 v2 rfl rfl) h2
  clear hA0 hval0
  simp only [List.append_nil] at hW'
  refine (walk s0 hm0 n1 wn1 b2 W hE ).mono fun e W' ⟨he, bel⟩ => ?_
  subst he
  exact ⟨_, rfl, _, _, _, [], [], [], hW', trodAll_mk1 (shut_bool Tryz.underlying4 _), (trodAll_cons_mk (shut_string Tryz.underlying9 hm0) (trodAll_cons_mk (shut_int Tryz.underlying3 wn1) (trodAll_cons_mk (shut_bool Tryz.underlying4 b2) trodAll_mk0))), rfl, bel.frame _, fun h => by cases h⟩

theorem said : Rows.FormattingPadSaid :=
  OpenClaim.holds_of_cond 5 Tryz.f5 rfl rfl rfl rfl rfl rfl rfl ⟨rfl, rfl, rfl, rfl, rfl⟩ rfl rfl rfl rfl rfl (by kernel_rfl) Tryz.func5 (by kernel_rfl)
    (of_decide_eq_true (by kernel_rfl)) (by unfold Func.isWrapper; first | (rw [if_pos (by decide +kernel)]; kernel_rfl) | (rw [if_neg (by decide +kernel)]; exact ⟨rfl, rfl⟩))
    (fun os started H enc _ F => by rw [OpenClaim.pre_eq_preRow]; exact lifted os started H enc F)
theorem plain (f : FuncId) (fn : Func) (hf : Tryz.pinned.checked.prog.funcNamed "scripting/scriptinglaw09.FormattingPad" = some f) (hfn : Tryz.pinned.checked.prog.funcs[f]? = some fn) :
    false = Tryz.pinned.checked.prog.looks [] ∧ ∀ (j : Nat) t, fn.params[j]? = some t → Tryz.pinned.checked.prog.wantsStandIn t = false := by
  obtain rfl : f = 5 := Option.some.inj ((show Tryz.prog.funcNamed "scripting/scriptinglaw09.FormattingPad" = some 5 by kernel_rfl).symm.trans hf) |>.symm
  obtain rfl : fn = Tryz.f5 := (Option.some.inj (Tryz.func5.symm.trans hfn)).symm
  refine ⟨by kernel_rfl, fun j t ht => ?_⟩
  rw [Tryz.params5] at ht
  have hm : t ∈ [9, 3, 4] := by simpa using Array.mem_of_getElem? ht
  have hall : ([9, 3, 4].all fun u => !Tryz.prog.wantsStandIn u) = true := by kernel_rfl
  exact (show Tryz.prog.wantsStandIn t = false by simpa using List.all_eq_true.1 hall t hm)

/-- The given statement. -/
theorem proved : Rows.FormattingPadCardSaid :=
  Claim7.holds_tied_plain_at .later [] _ _ _ _ said (fun _ h => by cases h) (by kernel_rfl) (fun _ h => by cases h) formattingPad_row_tie rfl ⟨rfl, rfl⟩ (by kernel_rfl) rfl plain (by kernel_rfl)
#print axioms proved
end Go.Proofs.YtbdcmnhfmkefdaaGreatDoor.formattingPadLaw
