/- LexerLimit. No condition. -/
import Derived.Test.YtbcbddglgfakpaaDoorLexRa
namespace Go.Proofs.YtbcbddglgfakpaaDoor.lexerLimitLaw
open Go.ChangeMaps (open_string shut_string)
open Go.ChangeShapes Go.WideShapes Go.ChangeAt Go.RowKit Go.Joins M1 M2 M3
set_option linter.unusedVariables false

theorem own_argL {base : Nat} {w : World} {v : Value} {ts : List Tok} (h : OwnT base w v ts) : ∃ (p : Option Addr) (cap g o : Nat), v = .slice p ts.length cap ∧ True ∧ True ∧ True := by
  rcases ownsRow_forms h with ⟨e, h0⟩ | ⟨g, cap, rfl⟩
  · exact ⟨none, 0, 0, 0, by rw [e, h0], trivial, trivial, trivial⟩
  · exact ⟨_, cap, 0, 0, rfl, trivial, trivial, trivial⟩
theorem wrapN (a : Int) (n : Nat) (h : a = (n : Int)) (hn : n ≤ 1000000) : IntKind.i64.wrap a = (n : Int) := by
  subst h; simp only [IntKind.wrap]; simp [IntKind.signed, IntKind.bits]; omega
theorem size_list (s : ByteArray) : s.data.toList.length = s.size := Array.length_toList
theorem app_list (a b : ByteArray) : (a ++ b).data.toList = a.data.toList ++ b.data.toList := by simp [ByteArray.data_append]
theorem app_size (a b : ByteArray) : (a ++ b).size = a.size + b.size := by
  rw [← size_list, app_list, List.length_append, size_list, size_list]

set_option maxHeartbeats 16000000 in
set_option maxRecDepth 100000 in
theorem walk (s0 : ByteArray) (hm0 : s0.size ≤ maxLen) (n1 : Int) (wn1 : (Lit.int .u8 n1).wf = true) (w : World) (he : Vrs w) :
    Calls Tryd.prog 3 #[.string s0, .int .u8 n1] w fun e w' => e = .returned (.bool true) ∧ Below w.heap.size w w' := by
  have L1 := Lib.hid lives_any
  by_cases hbig : 100 < s0.size
  · have hbig' : 100 < (s0.size : Int) := by omega
    go_enter Tryd.func3, Tryd.ntmps3
    go_wp2_with (go_at_call 10; (with_reducible refine (L1.out _).mono ?_); rintro e w9 ⟨rfl, hb9⟩)
    go_ret
    exact ⟨rfl, hb9⟩
  have hbig' : ¬ 100 < (s0.size : Int) := by omega
  have hn1 : 0 ≤ n1 ∧ n1 ≤ 255 := by simpa [Lit.wf, IntKind.min, IntKind.max, IntKind.signed, IntKind.bits] using wn1
  obtain ⟨mo, rfl⟩ : ∃ mo : Nat, n1 = (mo : Int) := ⟨n1.toNat, by omega⟩
  have hmo : mo ≤ 255 := by omega
  have hmo0 : 0 ≤ (mo : Int) := by omega
  have hmo1 : (mo : Int) ≤ 255 := by omega
  obtain ⟨nb, hnb⟩ : ∃ nb, 65536 - s0.size = nb := ⟨_, rfl⟩
  obtain ⟨n2, hn2⟩ : ∃ n2, 1 + mo = n2 := ⟨_, rfl⟩
  obtain ⟨n4, hn4⟩ : ∃ n4, 4097 + mo = n4 := ⟨_, rfl⟩
  have p1e : (65536 : Int) - (s0.size : Int) = (nb : Int) := by omega
  have p1w : IntKind.i64.wrap ((65536 : Int) - (s0.size : Int)) = (nb : Int) := wrapN _ _ p1e (by omega)
  have p1v : IntKind.i64.wrap (nb : Int) = (nb : Int) := wrapN _ _ rfl (by omega)
  have p2e : (1 : Int) + (mo : Int) = (n2 : Int) := by omega
  have p2w : IntKind.i64.wrap ((1 : Int) + (mo : Int)) = (n2 : Int) := wrapN _ _ p2e (by omega)
  have p2v : IntKind.i64.wrap (n2 : Int) = (n2 : Int) := wrapN _ _ rfl (by omega)
  have p3e : (4097 : Int) + (mo : Int) = (n4 : Int) := by omega
  have p3w : IntKind.i64.wrap ((4097 : Int) + (mo : Int)) = (n4 : Int) := wrapN _ _ p3e (by omega)
  have p3v : IntKind.i64.wrap (n4 : Int) = (n4 : Int) := wrapN _ _ rfl (by omega)
  have R1 := Lib.hid fun W => rep_sp nb W (by omega) (by omega)
  have R2 := Lib.hid fun W => rep_sp n2 W (by omega) (by omega)
  have R3 := Lib.hid fun W => (show Calls Tryd.prog 11 #[.string ⟨#[120]⟩, .int .i64 4096] W fun e w' => e = .returned (.string (bs (List.replicate 4096 120))) ∧ Below W.heap.size W w' from rep_x 4096 W (by decide) (by decide))
  have R4 := Lib.hid fun W => rep_x n4 W (by omega) (by omega)
  have R5 := Lib.hid fun W => (show Calls Tryd.prog 11 #[.string ⟨#[110]⟩, .int .i64 40] W fun e w' => e = .returned (.string (bs (List.replicate 40 110))) ∧ Below W.heap.size W w' from rep_n 40 W (by decide) (by decide))
  have S1 := Lib.hid fun (y1 y2 : ByteArray) (h1 : y1.size = nb) (h2 : y2.size = n2) W => scan_big (s0 ++ y1 ++ y2) W (by rw [app_size, app_size]; omega)
  obtain ⟨y3, hy3⟩ : ∃ y3, bs (List.replicate 4096 120) = y3 := ⟨_, rfl⟩
  obtain ⟨y4, hy4⟩ : ∃ y4, bs (List.replicate n4 120) = y4 := ⟨_, rfl⟩
  obtain ⟨y5, hy5⟩ : ∃ y5, bs (List.replicate 40 110) = y5 := ⟨_, rfl⟩
  have l3 : (⟨#[34]⟩ ++ y3 ++ ⟨#[34]⟩ : ByteArray).data.toList = 34 :: (List.replicate 4096 120 ++ [34]) := by rw [app_list, app_list, ← hy3, bs_list]; rfl
  have l4 : (⟨#[34]⟩ ++ y4 ++ ⟨#[34]⟩ : ByteArray).data.toList = 34 :: (List.replicate n4 120 ++ [34]) := by rw [app_list, app_list, ← hy4, bs_list]; rfl
  have l5 : y5.data.toList = List.replicate 40 110 := by rw [← hy5, bs_list]
  have l6 : (⟨#[32]⟩ ++ y5 ++ ⟨#[110]⟩ : ByteArray).data.toList = 32 :: List.replicate 41 110 := by rw [app_list, app_list, ← hy5, bs_list]; rfl
  have z3 : (⟨#[34]⟩ ++ y3 ++ ⟨#[34]⟩ : ByteArray).size ≤ 65536 := by rw [← size_list, l3]; simp
  have z4 : (⟨#[34]⟩ ++ y4 ++ ⟨#[34]⟩ : ByteArray).size ≤ 65536 := by rw [← size_list, l4]; simp; omega
  have z5 : y5.size ≤ 65536 := by rw [← size_list, l5]; simp
  have z6 : (⟨#[32]⟩ ++ y5 ++ ⟨#[110]⟩ : ByteArray).size ≤ 65536 := by rw [← size_list, l6]; simp
  have c3 := fun (W : World) (hb : Below w.heap.size w W) => scan3_any (⟨#[34]⟩ ++ y3 ++ ⟨#[34]⟩) W z3 (he.below hb he.lt)
  have c4 := fun (W : World) (hb : Below w.heap.size w W) => scan3_any (⟨#[34]⟩ ++ y4 ++ ⟨#[34]⟩) W z4 (he.below hb he.lt)
  have c5 := fun (W : World) (hb : Below w.heap.size w W) => scan3_any y5 W z5 (he.below hb he.lt)
  have c6 := fun (W : World) (hb : Below w.heap.size w W) => scan3_any (⟨#[32]⟩ ++ y5 ++ ⟨#[110]⟩) W z6 (he.below hb he.lt)
  obtain ⟨K, hK⟩ := lex_n
  rw [l3, lex_x] at c3
  rw [l4, lex_long n4 (by omega)] at c4
  rw [l5, hK] at c5
  rw [l6, lex_nn] at c6
  rw [hy3] at R3
  rw [hy4] at R4
  rw [hy5] at R5
  have hx4 : (bs (List.replicate 4096 120)).size = 4096 := by rw [bs_size, List.length_replicate]
  rw [hy3] at hx4
  have hx5 : y4.size = n4 := by rw [← hy4, bs_size, List.length_replicate]
  have hx6 : y5.size = 40 := by rw [← hy5, bs_size, List.length_replicate]
  have C3 := Lib.hid (fun (W : World) (hb : Below w.heap.size w W) => (c3 W hb).mono fun e w' (h : ∃ v, e = .returned (.tuple #[v, .int .i64 0, .int .i64 0]) ∧ w'.ownsRow (W.heap.size + 1) 29 4 v 1 [.int .i64 4, .string (bs (List.replicate 4096 120)), .int .i64 1, .int .i64 0] ∧ Below W.heap.size W w') => h)
  rw [hy3] at C3
  have C4 := Lib.hid c4
  have C5 := Lib.hid c5
  have C6 := Lib.hid c6
  clear c3 c4 c5 c6 l3 l4 l5 l6 z3 z4 z5 z6 hy3 hy4 hy5 hK hnb hn2 hn4 wn1 hn1
  go_enter Tryd.func3, Tryd.ntmps3
  go_upto_region 4 with (go_at_call 11; (with_reducible refine (R1.out _).mono ?_); rintro e w1 ⟨y1, rfl, hs1, hb1⟩)
  have HB1 := Lib.hid hb1
  go_upto_region 5 with (first | (go_at_call 11; (with_reducible refine (R2.out _).mono ?_); rintro e w2 ⟨y2, rfl, hs2, hb2⟩) | (go_at_call 12; (with_reducible refine (S1.out y1 y2 hs1 hs2 _).mono ?_); rintro e w3 ⟨rfl, h3⟩; subst w3))
  have HB2 : Hid (Below w.heap.size w w2) := Lib.hid (HB1.out.trans (hb2.mono HB1.out.size))
  clear hb1 hb2 R1 R2 S1
  go_upto_region 6 with (first | (go_at_call 11; (with_reducible refine (R3.out _).mono ?_); rintro e w4 ⟨rfl, hb4⟩) | (go_at_call 12; (with_reducible refine (C3.out _ ?_).mono ?_); exact HB2.out.trans (hb4.mono HB2.out.size); rintro e w5 ⟨v5, rfl, hO5, hb5⟩))
  obtain ⟨g5, cap5, rfl⟩ := ownsRow_form hO5 (by decide)
  have d5 : w5.cell? ⟨g5, 1, none⟩ = some (.string y3) := World.ownsRow.cellAt hO5 1 (by decide)
  have hg5 : g5 < w5.heap.size := (World.ownsRow.lt hO5 g5 rfl).2
  have HD5 := Lib.hid d5
  have HB5 : Hid (Below w.heap.size w w5) := Lib.hid ((HB2.out.trans (hb4.mono HB2.out.size)).trans (hb5.mono (by have := HB2.out.size; have := hb4.size; omega)))
  clear hb4 hb5 d5 hO5 R3 C3
  go_upto_region 7 with (first | (go_at_call 11; (with_reducible refine (R4.out _).mono ?_); rintro e w6 ⟨rfl, hb6⟩) | (go_at_call 12; (with_reducible refine (C4.out _ ?_).mono ?_); exact HB5.out.trans (hb6.mono HB5.out.size); rintro e w7 ⟨v7, rfl, hO7, hb7⟩))
  have HB57 : Hid (Below w5.heap.size w5 w7) := Lib.hid (hb6.trans (hb7.mono hb6.size))
  have HB7 : Hid (Below w.heap.size w w7) := Lib.hid (HB5.out.trans (HB57.out.mono HB5.out.size))
  clear hb6 hb7 hO7 R4 C4
  go_upto_region 8 with (go_at_call 11; (with_reducible refine (R5.out _).mono ?_); rintro e w8 ⟨rfl, hb8⟩)
  have HB58 : Hid (Below w5.heap.size w5 w8) := Lib.hid (HB57.out.trans (hb8.mono HB57.out.size))
  have HB8 : Hid (Below w.heap.size w w8) := Lib.hid (HB5.out.trans (HB58.out.mono HB5.out.size))
  clear hb8 R5
  go_upto_region 9 with (go_at_call 12; (with_reducible refine (C5.out _ ?_).mono ?_); exact HB8.out; rintro e wa ⟨va, rfl, hOa, hba⟩)
  obtain ⟨pa, capa, ga, oa, rfl, -, -, -⟩ := own_argL hOa
  have HB5a : Hid (Below w5.heap.size w5 wa) := Lib.hid (HB58.out.trans (hba.mono HB58.out.size))
  have HBa : Hid (Below w.heap.size w wa) := Lib.hid (HB5.out.trans (HB5a.out.mono HB5.out.size))
  clear hba hOa C5
  go_upto_region 10 with (go_at_call 12; (with_reducible refine (C6.out _ ?_).mono ?_); exact HBa.out; rintro e wb ⟨vb, rfl, hOb, hbb⟩)
  have HB5b : Hid (Below w5.heap.size w5 wb) := Lib.hid (HB5a.out.trans (hbb.mono HB5a.out.size))
  have HBb : Hid (Below w.heap.size w wb) := Lib.hid (HB5.out.trans (HB5b.out.mono HB5.out.size))
  have d6 : wb.cell? ⟨g5, 1, none⟩ = some (.string y3) := by rw [HB5b.out.cell hg5]; exact HD5.out
  have hx4i : (y3.size : Int) = 4096 := by omega
  clear hbb hOb C6 HD5
  go_wp2_with (go_at_call 10; (with_reducible refine (L1.out _).mono ?_); rintro e w9 ⟨rfl, hb9⟩)
  go_ret
  exact ⟨rfl, HBb.out.trans (hb9.mono HBb.out.size)⟩

theorem reads (os : Os) {H : Type} (enc : TypeId × Value → H) : ∃ places, DataW.whole enc Tryd.prog ((World.laidAll Tryd.prog os L5).forCall (fun _ _ => 0) ⟨#[], #[.string ⟨#[49]⟩, .int .u8 0], []⟩).memory Tryd.f3.params.toList Rows.lexerLimitSpec.vars false #[Value.string ⟨#[49]⟩, .int .u8 0].toList 8 = some ([.lit (.string [49]), .lit (.int .u8 0)], [], places) :=
  ⟨[], by kernel_rfl⟩
set_option maxRecDepth 100000 in
theorem lifted (os : Os) (started : os.Started) (H : Type) (enc : TypeId × Value → H) (F : Stop.Interp) :
    ReturnsInHanded {} Tryd.checked os 3 .any ((OpenSpec.ofChange Rows.lexerLimitSpec).preRow enc Tryd.prog Tryd.f3 Rows.lexerLimitRow.domain false L5) (((OpenSpec.ofChange Rows.lexerLimitSpec).at F).post enc Tryd.prog Tryd.f3 false true false false) := by
  obtain ⟨places, hx⟩ := reads os enc
  refine returnsInHanded_of_row (C := Tryd.checked) (s := OpenSpec.ofChange Rows.lexerLimitSpec) own started (by kernel_rfl) Tryd.func3
    ⟨World.laidAll Tryd.prog os L5, fun _ _ => 0, ⟨#[], #[.string ⟨#[49]⟩, .int .u8 0], []⟩, World.laidAll_os _ _ _, wit_shaped os _, rfl, (Input.okWide_of_okWideB (by kernel_rfl)).2,
      OpenSpec.preRow_of_cond 8 hx (by kernel_rfl) (fun k hk => by cases hk) (by kernel_rfl) (laid_met os _), by
        simp only [Assume.holds]
        exact ⟨by simp, by simp, fun _ => Modest.zero, by simp, by simp⟩⟩ ?_
  intro W base args ds gs before hval0 hW _ _ _ hL hsh _
  have hE := env hL
  have hval : ∀ (j : Nat) t v, Tryd.f3.params[j]? = some t → args[j]? = some v → Value.okWide Tryd.prog W .any base t v := hval0
  have hW' := hW
  obtain ⟨p, q, hA0, hV, rfl, hfz, hnd⟩ := hW
  have hA : DataW.TrodAll enc Tryd.prog W 0 (fun _ => true) true Tryd.f3.params.toList args.toList ds p := hA0
  rw [Tryd.params3] at hA hval
  obtain ⟨v0, vs0, d0, ds0, p_0, q_0, hargs, rfl, rfl, h0, r0⟩ := trodAll_cons hA
  obtain ⟨v1, vs1, d1, ds1, p_1, q_1, rfl, rfl, rfl, h1, r1⟩ := trodAll_cons r0
  obtain ⟨rfl, rfl, rfl⟩ := trodAll_nil r1
  obtain rfl : args = #[v0, v1] := by cases args; simp_all
  obtain ⟨rfl, rfl⟩ := trodVars_none hV
  obtain ⟨s0, rfl, rfl, rfl, hm0⟩ := open_string Tryd.underlying9 (hval 0 9 v0 rfl rfl) h0
  obtain ⟨n1, rfl, rfl, rfl, wn1⟩ := open_int Tryd.underlying5 (hval 1 5 v1 rfl rfl) h1
  clear hA0 hval0
  simp only [List.append_nil] at hW'
  refine (walk s0 hm0 n1 wn1 W hE).mono fun e W' ⟨he, bel⟩ => ?_
  subst he
  exact ⟨_, rfl, _, _, _, [], [], [], hW', trodAll_mk1 (shut_bool Tryd.underlying4 _), (trodAll_cons_mk (shut_string Tryd.underlying9 hm0) (trodAll_cons_mk (shut_int Tryd.underlying5 wn1) trodAll_mk0)), rfl, bel.frame _, fun h => by cases h⟩

theorem said : Rows.LexerLimitSaid :=
  OpenClaim.holds_of_cond 3 Tryd.f3 rfl rfl rfl rfl rfl rfl rfl ⟨rfl, rfl, rfl, rfl, rfl⟩ rfl rfl rfl rfl rfl (by kernel_rfl) Tryd.func3 (by kernel_rfl)
    (of_decide_eq_true (by kernel_rfl)) (by unfold Func.isWrapper; first | (rw [if_pos (by decide +kernel)]; kernel_rfl) | (rw [if_neg (by decide +kernel)]; exact ⟨rfl, rfl⟩))
    (fun os started H enc _ F => by rw [OpenClaim.pre_eq_preRow]; exact lifted os started H enc F)
theorem plain (f : FuncId) (fn : Func) (hf : Tryd.pinned.checked.prog.funcNamed "scripting/scriptinglaw03.LexerLimit" = some f) (hfn : Tryd.pinned.checked.prog.funcs[f]? = some fn) :
    true = Tryd.pinned.checked.prog.looks [] ∧ ∀ (j : Nat) t, fn.params[j]? = some t → Tryd.pinned.checked.prog.wantsStandIn t = false := by
  obtain rfl : f = 3 := Option.some.inj ((show Tryd.prog.funcNamed "scripting/scriptinglaw03.LexerLimit" = some 3 by kernel_rfl).symm.trans hf) |>.symm
  obtain rfl : fn = Tryd.f3 := (Option.some.inj (Tryd.func3.symm.trans hfn)).symm
  refine ⟨by kernel_rfl, fun j t ht => ?_⟩
  rw [Tryd.params3] at ht
  have hm : t ∈ [9, 5] := by simpa using Array.mem_of_getElem? ht
  have hall : ([9, 5].all fun u => !Tryd.prog.wantsStandIn u) = true := by kernel_rfl
  exact (show Tryd.prog.wantsStandIn t = false by simpa using List.all_eq_true.1 hall t hm)

/-- The given statement. -/
theorem proved : Rows.LexerLimitCardSaid :=
  Claim7.holds_tied_plain_at .later [] _ _ _ _ said (fun _ h => by cases h) (by kernel_rfl) (fun _ h => by cases h) lexerLimit_row_tie rfl ⟨rfl, rfl⟩ (by kernel_rfl) rfl plain (by kernel_rfl)
#print axioms proved
end Go.Proofs.YtbcbddglgfakpaaDoor.lexerLimitLaw
