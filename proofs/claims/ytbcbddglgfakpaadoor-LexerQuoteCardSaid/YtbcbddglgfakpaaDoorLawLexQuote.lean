/- LexerQuote. No condition. -/
import Derived.Test.YtbcbddglgfakpaaDoorLexUc
namespace Go.Proofs.YtbcbddglgfakpaaDoor.lexerQuoteLaw
open Go.ChangeMaps (open_string shut_string)
open Go.ChangeShapes Go.WideShapes Go.ChangeAt Go.RowKit Go.Joins M1 M2 M3
set_option linter.unusedVariables false


set_option maxHeartbeats 4000000 in
theorem walk (s0 : ByteArray) (hm0 : s0.size ≤ maxLen) (w : World) (he : Vrs w) :
    Calls Tryd.prog 5 #[.string s0] w fun e w' => e = .returned (.bool true) ∧ Below w.heap.size w w' := by
  have L1 := Lib.hid lives_any
  have hll : s0.data.toList.length = s0.size := by simp
  by_cases hbig : 1000 < s0.size
  · have hbig' : 1000 < (s0.size : Int) := by omega
    go_enter Tryd.func5, Tryd.ntmps5
    go_wp2_with (go_at_call 10; (with_reducible refine (L1.out _).mono ?_); rintro e w9 ⟨rfl, hb9⟩)
    go_ret
    exact ⟨rfl, hb9⟩
  have hbig' : ¬ 1000 < (s0.size : Int) := by omega
  have q1 := fun w => quote_any s0 w (by omega)
  have q2 := fun w => rquote_any s0 w (by omega)
  have hql := qt_len s0.data.toList
  have hys : (bs (qt s0.data.toList)).size ≤ 65536 := by
    rw [bs_size]; unfold qt; rw [List.length_cons, List.length_append, List.length_singleton]; omega
  have s1 := fun (W : World) (hb : Below w.heap.size w W) => scan3_any (bs (qt s0.data.toList)) W hys (he.below hb he.lt)
  rw [bs_list, lex_quote _ (by omega)] at s1
  generalize bs (qt s0.data.toList) = y at *
  have Q1 := Lib.hid q1
  have Q2 := Lib.hid q2
  have S1 := Lib.hid s1
  clear q1 q2 s1 hql hys
  go_enter Tryd.func5, Tryd.ntmps5
  go_upto_region 5 with (first | (go_at_call 17; (with_reducible refine (Q1.out _).mono ?_); rintro e w1 ⟨rfl, hb1⟩) | (go_at_call 12; (with_reducible refine (S1.out _ hb1).mono ?_); rintro e w4 ⟨v, rfl, hO, hb4⟩))
  have hO3 : w4.ownsRow (w1.heap.size + 1) 29 4 v 1 [.int .i64 4, .string (bs s0.data.toList), .int .i64 1, .int .i64 0] := hO
  obtain ⟨g, cap, rfl⟩ := ownsRow_form hO3 (by decide)
  have c0 : w4.cell? ⟨g, 0, none⟩ = some (.int .i64 4) := World.ownsRow.cellAt hO3 0 (by decide)
  have c1 : w4.cell? ⟨g, 1, none⟩ = some (.string (bs s0.data.toList)) := World.ownsRow.cellAt hO3 1 (by decide)
  have c2 : w4.cell? ⟨g, 2, none⟩ = some (.int .i64 1) := World.ownsRow.cellAt hO3 2 (by decide)
  have c3 : w4.cell? ⟨g, 3, none⟩ = some (.int .i64 0) := World.ownsRow.cellAt hO3 3 (by decide)
  have hz4 := hb4.size
  have hz1 := hb1.size
  clear hO hO3
  rw [bs_of] at c1
  go_wp2_with (first | (go_at_call 18; (with_reducible refine (Q2.out _).mono ?_); rintro e w5 ⟨rfl, hb5⟩; have d0 := (grow_below hb5 none).cell c0 (by simp); have d1 := (grow_below hb5 none).cell c1 (by simp); have d2 := (grow_below hb5 none).cell c2 (by simp); have d3 := (grow_below hb5 none).cell c3 (by simp)) | (go_at_call 10; (with_reducible refine (L1.out _).mono ?_); rintro e w9 ⟨rfl, hb9⟩))
  go_ret
  exact ⟨rfl, hb1.trans ((hb4.mono hz1).trans ((hb5.mono (by omega)).trans (hb9.mono (by have := hb5.size; omega))))⟩

theorem reads (os : Os) {H : Type} (enc : TypeId × Value → H) : ∃ places, DataW.whole enc Tryd.prog ((World.laidAll Tryd.prog os L5).forCall (fun _ _ => 0) ⟨#[], #[.string ⟨#[49]⟩], []⟩).memory Tryd.f5.params.toList Rows.lexerQuoteSpec.vars false #[Value.string ⟨#[49]⟩].toList 8 = some ([.lit (.string [49])], [], places) :=
  ⟨[], by kernel_rfl⟩
set_option maxRecDepth 100000 in
theorem lifted (os : Os) (started : os.Started) (H : Type) (enc : TypeId × Value → H) (F : Stop.Interp) :
    ReturnsInHanded {} Tryd.checked os 5 .any ((OpenSpec.ofChange Rows.lexerQuoteSpec).preRow enc Tryd.prog Tryd.f5 Rows.lexerQuoteRow.domain false L5) (((OpenSpec.ofChange Rows.lexerQuoteSpec).at F).post enc Tryd.prog Tryd.f5 false true false false) := by
  obtain ⟨places, hx⟩ := reads os enc
  refine returnsInHanded_of_row (C := Tryd.checked) (s := OpenSpec.ofChange Rows.lexerQuoteSpec) own started (by kernel_rfl) Tryd.func5
    ⟨World.laidAll Tryd.prog os L5, fun _ _ => 0, ⟨#[], #[.string ⟨#[49]⟩], []⟩, World.laidAll_os _ _ _, wit_shaped os _, rfl, (Input.okWide_of_okWideB (by kernel_rfl)).2,
      OpenSpec.preRow_of_cond 8 hx (by kernel_rfl) (fun k hk => by cases hk) (by kernel_rfl) (laid_met os _), by
        simp only [Assume.holds]
        exact ⟨by simp, by simp, fun _ => Modest.zero, by simp, by simp⟩⟩ ?_
  intro W base args ds gs before hval0 hW _ _ _ hL hsh _
  have hE := env hL
  have hval : ∀ (j : Nat) t v, Tryd.f5.params[j]? = some t → args[j]? = some v → Value.okWide Tryd.prog W .any base t v := hval0
  have hW' := hW
  obtain ⟨p, q, hA0, hV, rfl, hfz, hnd⟩ := hW
  have hA : DataW.TrodAll enc Tryd.prog W 0 (fun _ => true) true Tryd.f5.params.toList args.toList ds p := hA0
  rw [Tryd.params5] at hA hval
  obtain ⟨v0, vs0, d0, ds0, p_0, q_0, hargs, rfl, rfl, h0, r0⟩ := trodAll_cons hA
  obtain ⟨rfl, rfl, rfl⟩ := trodAll_nil r0
  obtain rfl : args = #[v0] := by cases args; simp_all
  obtain ⟨rfl, rfl⟩ := trodVars_none hV
  obtain ⟨s0, rfl, rfl, rfl, hm0⟩ := open_string Tryd.underlying9 (hval 0 9 v0 rfl rfl) h0
  clear hA0 hval0
  simp only [List.append_nil] at hW'
  refine (walk s0 hm0 W hE).mono fun e W' ⟨he, bel⟩ => ?_
  subst he
  exact ⟨_, rfl, _, _, _, [], [], [], hW', trodAll_mk1 (shut_bool Tryd.underlying4 _), (trodAll_cons_mk (shut_string Tryd.underlying9 hm0) trodAll_mk0), rfl, bel.frame _, fun h => by cases h⟩

theorem said : Rows.LexerQuoteSaid :=
  OpenClaim.holds_of_cond 5 Tryd.f5 rfl rfl rfl rfl rfl rfl rfl ⟨rfl, rfl, rfl, rfl, rfl⟩ rfl rfl rfl rfl rfl (by kernel_rfl) Tryd.func5 (by kernel_rfl)
    (of_decide_eq_true (by kernel_rfl)) (by unfold Func.isWrapper; first | (rw [if_pos (by decide +kernel)]; kernel_rfl) | (rw [if_neg (by decide +kernel)]; exact ⟨rfl, rfl⟩))
    (fun os started H enc _ F => by rw [OpenClaim.pre_eq_preRow]; exact lifted os started H enc F)
theorem plain (f : FuncId) (fn : Func) (hf : Tryd.pinned.checked.prog.funcNamed "scripting/scriptinglaw03.LexerQuote" = some f) (hfn : Tryd.pinned.checked.prog.funcs[f]? = some fn) :
    true = Tryd.pinned.checked.prog.looks [] ∧ ∀ (j : Nat) t, fn.params[j]? = some t → Tryd.pinned.checked.prog.wantsStandIn t = false := by
  obtain rfl : f = 5 := Option.some.inj ((show Tryd.prog.funcNamed "scripting/scriptinglaw03.LexerQuote" = some 5 by kernel_rfl).symm.trans hf) |>.symm
  obtain rfl : fn = Tryd.f5 := (Option.some.inj (Tryd.func5.symm.trans hfn)).symm
  refine ⟨by kernel_rfl, fun j t ht => ?_⟩
  rw [Tryd.params5] at ht
  have hm : t ∈ [9] := by simpa using Array.mem_of_getElem? ht
  have hall : ([9].all fun u => !Tryd.prog.wantsStandIn u) = true := by kernel_rfl
  exact (show Tryd.prog.wantsStandIn t = false by simpa using List.all_eq_true.1 hall t hm)

/-- The given statement. -/
theorem proved : Rows.LexerQuoteCardSaid :=
  Claim7.holds_tied_plain_at .later [] _ _ _ _ said (fun _ h => by cases h) (by kernel_rfl) (fun _ h => by cases h) lexerQuote_row_tie rfl ⟨rfl, rfl⟩ (by kernel_rfl) rfl plain (by kernel_rfl)
#print axioms proved
end Go.Proofs.YtbcbddglgfakpaaDoor.lexerQuoteLaw
