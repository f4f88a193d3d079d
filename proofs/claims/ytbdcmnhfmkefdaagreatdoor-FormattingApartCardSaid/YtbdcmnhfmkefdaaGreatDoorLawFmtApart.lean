/- For every two formats and their arguments, the one behind the other gives the texts of both (large inputs are not formatted: the chapter's small case holds) No condition. -/
import Derived.Test.YtbdcmnhfmkefdaaGreatDoorFmtAr
namespace Go.Proofs.YtbdcmnhfmkefdaaGreatDoor.formattingApartLaw
open Go.ChangeMaps (open_string shut_string)
open Go.ChangeShapes Go.WideShapes Go.ChangeAt Go.RowKit Go.Joins M1 M2 M9
open Go.Deep
set_option linter.unusedVariables false


set_option maxHeartbeats 8000000 in
set_option maxRecDepth 100000 in
theorem walk (s0 : ByteArray) (hm0 : s0.size ≤ maxLen) (s1 : ByteArray) (hm1 : s1.size ≤ maxLen) (v2 : Value) (l2 : List Ar) (hl2 : l2.length ≤ maxLen) (v3 : Value) (l3 : List Ar) (hl3 : l3.length ≤ maxLen) (w : World) (he : E9 w) (ha2 : Args w v2 l2) (hk2 : Caps v2) (ha3 : Args w v3 l3) (hk3 : Caps v3) :
    Calls Tryz.prog 8 #[.string s0, .string s1, v2, v3] w fun e w' => e = .returned (.bool true) ∧ Below w.heap.size w w' := by
  exact apart_walk s0 s1 v2 v3 l2 l3 hl2 hl3 w he ha2 ha3 hk2 hk3

theorem out : laidOutB Tryz.prog = true := by kernel_rfl
theorem reads (os : Os) {H : Type} (enc : TypeId × Value → H) : ∃ places, DataW.whole enc Tryz.prog ((World.laidAll Tryz.prog os L5).forCall (fun _ _ => 0) ⟨#[], #[.string ⟨#[49]⟩, .string ⟨#[49]⟩, .slice none 0 0, .slice none 0 0], []⟩).memory Tryz.f8.params.toList Rows.formattingApartSpec.vars false #[Value.string ⟨#[49]⟩, .string ⟨#[49]⟩, .slice none 0 0, .slice none 0 0].toList 8 = some ([.lit (.string [49]), .lit (.string [49]), .nil, .nil], [], places) :=
  ⟨[], by kernel_rfl⟩
set_option maxRecDepth 100000 in
theorem lifted (os : Os) (started : os.Started) (H : Type) (enc : TypeId × Value → H) (F : Stop.Interp) :
    ReturnsInHanded {} Tryz.checked os 8 .any ((OpenSpec.ofChange Rows.formattingApartSpec).preRow enc Tryz.prog Tryz.f8 Rows.formattingApartRow.domain false L5) (((OpenSpec.ofChange Rows.formattingApartSpec).at F).post enc Tryz.prog Tryz.f8 false true false false) := by
  obtain ⟨places, hx⟩ := reads os enc
  refine returnsInHanded_of_row (C := Tryz.checked) (s := OpenSpec.ofChange Rows.formattingApartSpec) own started (by kernel_rfl) Tryz.func8
    ⟨World.laidAll Tryz.prog os L5, fun _ _ => 0, ⟨#[], #[.string ⟨#[49]⟩, .string ⟨#[49]⟩, .slice none 0 0, .slice none 0 0], []⟩, World.laidAll_os _ _ _, wit_shaped os _, rfl, (Input.okWide_of_okWideB (by kernel_rfl)).2,
      OpenSpec.preRow_of_cond 8 hx (by kernel_rfl) (fun k hk => by cases hk) (by kernel_rfl) (laid_met os _), by
        simp only [Assume.holds]
        exact ⟨by simp, by simp, fun _ => Modest.zero, by simp, by simp⟩⟩ ?_
  intro W base args ds gs before hval0 hW _ _ _ hL hsh _
  have hE := env hL hsh
  have hval : ∀ (j : Nat) t v, Tryz.f8.params[j]? = some t → args[j]? = some v → Value.okWide Tryz.prog W .any base t v := hval0
  have hW' := hW
  obtain ⟨p, q, hA0, hV, rfl, hfz, hnd⟩ := hW
  have hA : DataW.TrodAll enc Tryz.prog W 0 (fun _ => true) true Tryz.f8.params.toList args.toList ds p := hA0
  rw [Tryz.params8] at hA hval
  obtain ⟨v0, vs0, d0, ds0, p_0, q_0, hargs, rfl, rfl, h0, r0⟩ := trodAll_cons hA
  obtain ⟨v1, vs1, d1, ds1, p_1, q_1, rfl, rfl, rfl, h1, r1⟩ := trodAll_cons r0
  obtain ⟨v2, vs2, d2, ds2, p_2, q_2, rfl, rfl, rfl, h2, r2⟩ := trodAll_cons r1
  obtain ⟨v3, vs3, d3, ds3, p_3, q_3, rfl, rfl, rfl, h3, r3⟩ := trodAll_cons r2
  obtain ⟨rfl, rfl, rfl⟩ := trodAll_nil r3
  obtain rfl : args = #[v0, v1, v2, v3] := by cases args; simp_all
  obtain ⟨rfl, rfl⟩ := trodVars_none hV
  obtain ⟨s0, rfl, rfl, rfl, hm0⟩ := open_string Tryz.underlying9 (hval 0 9 v0 rfl rfl) h0
  obtain ⟨s1, rfl, rfl, rfl, hm1⟩ := open_string Tryz.underlying9 (hval 1 9 v1 rfl rfl) h1
  obtain ⟨a2, len2, cap2, rfl⟩ := okWide_slice Tryz.underlying34 (hval 2 34 v2 rfl rfl)
  have hk2 := caps_of (hval 2 34 _ rfl rfl)
  have h2k := h2
  obtain ⟨fuel2, hf2⟩ := h2
  obtain ⟨l2, ha2, hlen2, hmx2⟩ := open_args hf2
  have hl2 : l2.length ≤ maxLen := by rw [hlen2]; exact hmx2
  obtain ⟨a3, len3, cap3, rfl⟩ := okWide_slice Tryz.underlying34 (hval 3 34 v3 rfl rfl)
  have hk3 := caps_of (hval 3 34 _ rfl rfl)
  have h3k := h3
  obtain ⟨fuel3, hf3⟩ := h3
  obtain ⟨l3, ha3, hlen3, hmx3⟩ := open_args hf3
  have hl3 : l3.length ≤ maxLen := by rw [hlen3]; exact hmx3
  clear hA0 hval0
  simp only [List.append_nil] at hW'
  refine (walk s0 hm0 s1 hm1 _ l2 hl2 _ l3 hl3 W hE ha2 hk2 ha3 hk3).mono fun e W' ⟨he, bel⟩ => ?_
  subst he
  exact ⟨_, rfl, _, _, _, [], _, [], hW', trodAll_mk1 (shut_bool Tryz.underlying4 _), (trodAll_cons_mk (shut_string Tryz.underlying9 hm0) (trodAll_cons_mk (shut_string Tryz.underlying9 hm1) (trodAll_cons_mk (Below.trod out (by kernel_rfl) (of_decide_eq_true (by kernel_rfl)) h2k bel (fun x hx => hW'.lt x (by simp [hx]))) (trodAll_cons_mk (Below.trod out (by kernel_rfl) (of_decide_eq_true (by kernel_rfl)) h3k bel (fun x hx => hW'.lt x (by simp [hx]))) trodAll_mk0)))), rfl, bel.frame _, fun h => by cases h⟩

theorem said : Rows.FormattingApartSaid :=
  OpenClaim.holds_of_cond 8 Tryz.f8 rfl rfl rfl rfl rfl rfl rfl ⟨rfl, rfl, rfl, rfl, rfl⟩ rfl rfl rfl rfl rfl (by kernel_rfl) Tryz.func8 (by kernel_rfl)
    (of_decide_eq_true (by kernel_rfl)) (by unfold Func.isWrapper; first | (rw [if_pos (by decide +kernel)]; kernel_rfl) | (rw [if_neg (by decide +kernel)]; exact ⟨rfl, rfl⟩))
    (fun os started H enc _ F => by rw [OpenClaim.pre_eq_preRow]; exact lifted os started H enc F)
theorem plain (f : FuncId) (fn : Func) (hf : Tryz.pinned.checked.prog.funcNamed "scripting/scriptinglaw09.FormattingApart" = some f) (hfn : Tryz.pinned.checked.prog.funcs[f]? = some fn) :
    false = Tryz.pinned.checked.prog.looks [] ∧ ∀ (j : Nat) t, fn.params[j]? = some t → Tryz.pinned.checked.prog.wantsStandIn t = false := by
  obtain rfl : f = 8 := Option.some.inj ((show Tryz.prog.funcNamed "scripting/scriptinglaw09.FormattingApart" = some 8 by kernel_rfl).symm.trans hf) |>.symm
  obtain rfl : fn = Tryz.f8 := (Option.some.inj (Tryz.func8.symm.trans hfn)).symm
  refine ⟨by kernel_rfl, fun j t ht => ?_⟩
  rw [Tryz.params8] at ht
  have hm : t ∈ [9, 9, 34, 34] := by simpa using Array.mem_of_getElem? ht
  have hall : ([9, 9, 34, 34].all fun u => !Tryz.prog.wantsStandIn u) = true := by kernel_rfl
  exact (show Tryz.prog.wantsStandIn t = false by simpa using List.all_eq_true.1 hall t hm)

/-- The given statement. -/
theorem proved : Rows.FormattingApartCardSaid :=
  Claim7.holds_tied_plain_at .later [] _ _ _ _ said (fun _ h => by cases h) (by kernel_rfl) (fun _ h => by cases h) formattingApart_row_tie rfl ⟨rfl, rfl⟩ (by kernel_rfl) rfl plain (by kernel_rfl)
#print axioms proved
end Go.Proofs.YtbdcmnhfmkefdaaGreatDoor.formattingApartLaw
