/- LexerScan. No condition. -/
import Derived.Test.YtbcbddglgfakpaaGreatDoorLexWg
namespace Go.Proofs.YtbcbddglgfakpaaGreatDoor.lexerScanLaw
open Go.ChangeMaps (open_string shut_string)
open Go.ChangeShapes Go.WideShapes Go.ChangeAt Go.RowKit Go.Joins M1 M2 M3
set_option linter.unusedVariables false

theorem scF_len (tk : Nat → TR) (l : List UInt8) (f : Nat) : ∀ (a ln : Nat) (acc : List Tok), (scF tk l f a ln acc).1.length ≤ acc.length + f := by
  induction f with
  | zero => intro a ln acc; exact Nat.le_refl _
  | succ f ih =>
    intro a ln acc
    rw [scF]
    split
    · split
      · have := ih ((tk a).nx + (sk (l.drop (tk a).nx)).1) (ln + (sk (l.drop (tk a).nx)).2) (acc ++ [⟨(tk a).K, (tk a).x, ln, a⟩])
        rw [List.length_append, List.length_singleton] at this
        omega
      · exact Nat.zero_le _
    · show acc.length ≤ _; omega
theorem lexR_lenz (l : List UInt8) : (lexR l).1.length ≤ l.length + 1 := by
  unfold lexR scT
  have := scF_len (tkR l) l (l.length + 1) (sk l).1 (1 + (sk l).2) []
  simpa using this

set_option maxHeartbeats 16000000 in
set_option maxRecDepth 100000 in
theorem walk (s0 : ByteArray) (hm0 : s0.size ≤ maxLen) (w : World) (he : Vrs w) :
    Calls Tryz.prog 3 #[.string s0] w fun e w' => e = .returned (.bool true) ∧ Below w.heap.size w w' := by
  have L1 := Lib.hid lives_any
  have hll : s0.data.toList.length = s0.size := by simp
  by_cases hbig : 3000 < s0.size
  · have hbig' : 3000 < (s0.size : Int) := by omega
    go_enter Tryz.func3, Tryz.ntmps3
    go_wp2_with (go_at_call 4; (with_reducible refine (L1.out _).mono ?_); rintro e w9 ⟨rfl, hb9⟩)
    go_ret
    exact ⟨rfl, hb9⟩
  have hbig' : ¬ 3000 < (s0.size : Int) := by omega
  have sA := fun (W : World) (hb : Below w.heap.size w W) => scan3_any s0 W (by omega) (he.below hb he.lt)
  have sB := fun (W : World) => rscan3_any s0 W (by omega)
  have hcn := lexR_lenz s0.data.toList
  rw [hll] at hcn
  generalize lexR s0.data.toList = R at *
  obtain ⟨ts, ln, E⟩ := R
  simp only [] at sA sB hcn
  obtain ⟨n, hn⟩ : ∃ n, ts.length = n := ⟨_, rfl⟩
  have SA := Lib.hid sA
  have SB := Lib.hid sB
  clear sA sB
  go_enter Tryz.func3, Tryz.ntmps3
  go_upto_region 5 with (first | (go_at_call 5; (with_reducible refine (SA.out _ ?_).mono ?_); exact Below.refl _ _; rintro e wa ⟨va, rfl, hOa, hba⟩) | (go_at_call 6; (with_reducible refine (SB.out _).mono ?_); rintro e wb ⟨vb, rfl, hOb, hbb⟩))
  obtain ⟨pA, capA, gA, oA, hvA, hPA, hGA, hAA⟩ := own_arg hOa
  obtain ⟨pB, capB, gB, oB, hvB, hPB, hGB, hAB⟩ := own_arg hOb
  have hza := hba.size
  have hzb := hbb.size
  have hAA2 : ArgT wb gA oA (ts.map tiO) := fun j hj => hAA.kept hbb (hGA (by simp at hj; omega)) j hj
  have hs1 := same_any pA pB gA oA capA gB oB capB (ts.map tiO) wb (by rw [List.length_map]; exact hPA) (by rw [List.length_map]; exact hPB) hAA2 hAB (by rw [List.length_map]; intro h; have := hGA h; omega) (by rw [List.length_map]; exact hGB) (by rw [List.length_map]; omega)
  rw [List.length_map, hn] at hs1
  rw [hn] at hvA hvB
  subst hvA hvB
  have SM1 := Lib.hid hs1
  clear hs1 hAA hAB hAA2 hOa hOb SA SB hPA hPB hGA hGB
  go_wp2_with (first | (go_at_call 7; (with_reducible refine (SM1.out).mono ?_); rintro e w5 ⟨rfl, hb5⟩) | (go_at_call 4; (with_reducible refine (L1.out _).mono ?_); rintro e w9 ⟨rfl, hb9⟩))
  go_ret
  exact ⟨rfl, hba.trans ((hbb.mono hza).trans ((hb5.mono (by omega)).trans (hb9.mono (by have := hb5.size; omega))))⟩

theorem reads (os : Os) {H : Type} (enc : TypeId × Value → H) : ∃ places, DataW.whole enc Tryz.prog ((World.laidAll Tryz.prog os L5).forCall (fun _ _ => 0) ⟨#[], #[.string ⟨#[49]⟩], []⟩).memory Tryz.f3.params.toList Rows.lexerScanSpec.vars false #[Value.string ⟨#[49]⟩].toList 8 = some ([.lit (.string [49])], [], places) :=
  ⟨[], by kernel_rfl⟩
set_option maxRecDepth 100000 in
theorem lifted (os : Os) (started : os.Started) (H : Type) (enc : TypeId × Value → H) (F : Stop.Interp) :
    ReturnsInHanded {} Tryz.checked os 3 .any ((OpenSpec.ofChange Rows.lexerScanSpec).preRow enc Tryz.prog Tryz.f3 Rows.lexerScanRow.domain false L5) (((OpenSpec.ofChange Rows.lexerScanSpec).at F).post enc Tryz.prog Tryz.f3 false true false false) := by
  obtain ⟨places, hx⟩ := reads os enc
  refine returnsInHanded_of_row (C := Tryz.checked) (s := OpenSpec.ofChange Rows.lexerScanSpec) own started (by kernel_rfl) Tryz.func3
    ⟨World.laidAll Tryz.prog os L5, fun _ _ => 0, ⟨#[], #[.string ⟨#[49]⟩], []⟩, World.laidAll_os _ _ _, wit_shaped os _, rfl, (Input.okWide_of_okWideB (by kernel_rfl)).2,
      OpenSpec.preRow_of_cond 8 hx (by kernel_rfl) (fun k hk => by cases hk) (by kernel_rfl) (laid_met os _), by
        simp only [Assume.holds]
        exact ⟨by simp, by simp, fun _ => Modest.zero, by simp, by simp⟩⟩ ?_
  intro W base args ds gs before hval0 hW _ _ _ hL hsh _
  have hE := env hL
  have hval : ∀ (j : Nat) t v, Tryz.f3.params[j]? = some t → args[j]? = some v → Value.okWide Tryz.prog W .any base t v := hval0
  have hW' := hW
  obtain ⟨p, q, hA0, hV, rfl, hfz, hnd⟩ := hW
  have hA : DataW.TrodAll enc Tryz.prog W 0 (fun _ => true) true Tryz.f3.params.toList args.toList ds p := hA0
  rw [Tryz.params3] at hA hval
  obtain ⟨v0, vs0, d0, ds0, p_0, q_0, hargs, rfl, rfl, h0, r0⟩ := trodAll_cons hA
  obtain ⟨rfl, rfl, rfl⟩ := trodAll_nil r0
  obtain rfl : args = #[v0] := by cases args; simp_all
  obtain ⟨rfl, rfl⟩ := trodVars_none hV
  obtain ⟨s0, rfl, rfl, rfl, hm0⟩ := open_string Tryz.underlying9 (hval 0 9 v0 rfl rfl) h0
  clear hA0 hval0
  simp only [List.append_nil] at hW'
  refine (walk s0 hm0 W hE).mono fun e W' ⟨he, bel⟩ => ?_
  subst he
  exact ⟨_, rfl, _, _, _, [], [], [], hW', trodAll_mk1 (shut_bool Tryz.underlying4 _), (trodAll_cons_mk (shut_string Tryz.underlying9 hm0) trodAll_mk0), rfl, bel.frame _, fun h => by cases h⟩

theorem said : Rows.LexerScanSaid :=
  OpenClaim.holds_of_cond 3 Tryz.f3 rfl rfl rfl rfl rfl rfl rfl ⟨rfl, rfl, rfl, rfl, rfl⟩ rfl rfl rfl rfl rfl (by kernel_rfl) Tryz.func3 (by kernel_rfl)
    (of_decide_eq_true (by kernel_rfl)) (by unfold Func.isWrapper; first | (rw [if_pos (by decide +kernel)]; kernel_rfl) | (rw [if_neg (by decide +kernel)]; exact ⟨rfl, rfl⟩))
    (fun os started H enc _ F => by rw [OpenClaim.pre_eq_preRow]; exact lifted os started H enc F)
theorem plain (f : FuncId) (fn : Func) (hf : Tryz.pinned.checked.prog.funcNamed "scripting/scriptinglaw03.LexerScan" = some f) (hfn : Tryz.pinned.checked.prog.funcs[f]? = some fn) :
    true = Tryz.pinned.checked.prog.looks [] ∧ ∀ (j : Nat) t, fn.params[j]? = some t → Tryz.pinned.checked.prog.wantsStandIn t = false := by
  obtain rfl : f = 3 := Option.some.inj ((show Tryz.prog.funcNamed "scripting/scriptinglaw03.LexerScan" = some 3 by kernel_rfl).symm.trans hf) |>.symm
  obtain rfl : fn = Tryz.f3 := (Option.some.inj (Tryz.func3.symm.trans hfn)).symm
  refine ⟨by kernel_rfl, fun j t ht => ?_⟩
  rw [Tryz.params3] at ht
  have hm : t ∈ [9] := by simpa using Array.mem_of_getElem? ht
  have hall : ([9].all fun u => !Tryz.prog.wantsStandIn u) = true := by kernel_rfl
  exact (show Tryz.prog.wantsStandIn t = false by simpa using List.all_eq_true.1 hall t hm)

/-- The given statement. -/
theorem proved : Rows.LexerScanCardSaid :=
  Claim7.holds_tied_plain_at .later [] _ _ _ _ said (fun _ h => by cases h) (by kernel_rfl) (fun _ h => by cases h) lexerScan_row_tie rfl ⟨rfl, rfl⟩ (by kernel_rfl) rfl plain (by kernel_rfl)
#print axioms proved
end Go.Proofs.YtbcbddglgfakpaaGreatDoor.lexerScanLaw
