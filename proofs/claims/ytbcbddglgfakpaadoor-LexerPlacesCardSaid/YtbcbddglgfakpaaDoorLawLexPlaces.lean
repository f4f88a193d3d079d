/- LexerPlaces. No condition. -/
import Derived.Test.YtbcbddglgfakpaaDoorLexVe
namespace Go.Proofs.YtbcbddglgfakpaaDoor.lexerPlacesLaw
open Go.ChangeMaps (open_string shut_string)
open Go.ChangeShapes Go.WideShapes Go.ChangeAt Go.RowKit Go.Joins M1 M2 M3
set_option linter.unusedVariables false


set_option maxHeartbeats 16000000 in
set_option maxRecDepth 100000 in
theorem walk (s0 : ByteArray) (hm0 : s0.size ≤ maxLen) (w : World) (he : Vrs w) :
    Calls Tryd.prog 8 #[.string s0] w fun e w' => e = .returned (.bool true) ∧ Below w.heap.size w w' := by
  have L1 := Lib.hid lives_any
  have hll : s0.data.toList.length = s0.size := by simp
  by_cases hbig : 3000 < s0.size
  · have hbig' : 3000 < (s0.size : Int) := by omega
    go_enter Tryd.func8, Tryd.ntmps8
    go_wp2_with (go_at_call 10; (with_reducible refine (L1.out _).mono ?_); rintro e w9 ⟨rfl, hb9⟩)
    go_ret
    exact ⟨rfl, hb9⟩
  have hbig' : ¬ 3000 < (s0.size : Int) := by omega
  have s1 := fun (W : World) (hb : Below w.heap.size w W) => scan3_any s0 W (by omega) (he.below hb he.lt)
  have hcn := lexR_count s0.data.toList
  have hpl := lexR_placed s0.data.toList
  have hE1 := lexR_E1 s0.data.toList
  generalize lexR s0.data.toList = R at *
  obtain ⟨ts, ln, E⟩ := R
  simp only [] at s1 hpl hE1 hcn
  rw [hll] at hcn
  have S1 := Lib.hid s1
  have HPL := Lib.hid hpl
  clear s1 hpl
  by_cases hE : E = 0
  · have hE' : (E != 0) = false := by rw [bne_eq_false_iff_eq]; exact hE
    clear hE1
    go_enter Tryd.func8, Tryd.ntmps8
    go_upto_region 7 with (first | (go_at_call 12; (with_reducible refine (S1.out _ (Below.refl _ _)).mono ?_); rintro e w4 ⟨v, rfl, hO, hb4⟩))
    obtain ⟨p, cap, g, o, rfl, hP, hG, hA⟩ := own_arg hO
    have hz4 := hb4.size
    have HA := Lib.hid hA
    have HB4 := Lib.hid hb4
    clear hO hA hb4 hE S1
    go_wp2
    go_loopw [6, 7] (fun v6 v7 wr => ∃ (e i : Nat), i ≤ ts.length ∧ v6 = .int .i64 (e : Int) ∧ v7 = .int .i64 (i : Int) ∧ Hid (Placed s0.data.toList e (ts.drop i)) ∧ Hid (Below w.heap.size w wr) ∧ Hid (Below w4.heap.size w4 wr)) (fun _ v7 _ => ts.length - (intOf v7).toNat)
    case atStart => exact ⟨0, 0, Nat.zero_le _, rfl, rfl, HPL, HB4, Lib.hid (Below.refl _ _)⟩
    case round =>
      obtain ⟨e, i, hi, rfl, rfl, HP, HB, HB2⟩ := hrel
      rename World => W0
      have hz0 := HB.out.size
      have hz2 := HB2.out.size
      by_cases hlt : i < ts.length
      · have hlt' : (i : Int) < (ts.length : Int) := by omega
        have hpp := hP (by omega)
        subst hpp
        have hg := hG (by omega)
        have hA' := HA.out.kept HB2.out hg i (by simpa using hlt)
        have hpl := HP.out
        rw [List.drop_eq_getElem_cons hlt] at hpl
        rw [List.getElem_map] at hA'
        obtain ⟨t, ht⟩ : ∃ t, ts[i] = t := ⟨_, rfl⟩
        rw [ht] at hA' hpl
        obtain ⟨b1, b2, b3, b4, b5⟩ := hpl
        obtain ⟨K, x, l2, a2⟩ := t
        simp only [] at b1 b2 b3 b4 b5
        obtain ⟨a0, a1, a3, a4⟩ := hA'
        simp only [tiO] at a0 a1 a3 a4
        rw [hll] at b2
        have HB3 := Lib.hid b3
        clear b3
        go_upto_region 11 with fail
        go_name_world V hV
        have HTk : Hid (Tk W0.heap.size K (bs x) (l2 : Int) (a2 : Int) V) := Lib.hid (by rw [← hV]; exact heap_alloc_new W0 _)
        have HBV : Hid (Below w.heap.size w V) := Lib.hid (by rw [← hV]; exact HB.out.alloc hz0 _)
        have HBV2 : Hid (Below w4.heap.size w4 V) := Lib.hid (by rw [← hV]; exact HB2.out.alloc hz2 _)
        clear hV a0 a1 a3 a4 HA HB HB2 HP ht hG
        have c0 := HTk.out.c0
        have c1 := HTk.out.c1
        have c2 := HTk.out.c2
        have c3 := HTk.out.c3
        have q1 : ¬ ((a2 : Int) < (e : Int)) := by omega
        have q2 : ¬ ((s0.size : Int) ≤ (a2 : Int)) := by omega
        have q2b : (a2 : Int) ≤ (s0.size : Int) := by omega
        have q0 : 0 ≤ (a2 : Int) := by omega
        have hcnt : ((1 : Int) + (Lib.countByte (s0.data.toList.take a2) 10 : Nat)) = (l2 : Int) := by have := HB3.out; omega
        have hcle := count_le (s0.data.toList.take a2)
        rw [List.length_take] at hcle
        have hw1 : IntKind.i64.wrap ((1 : Int) + ((Lib.countByte (s0.data.toList.take a2) 10 : Nat) : Int)) = (l2 : Int) := by rw [hcnt]; simp only [IntKind.wrap]; simp [IntKind.signed, IntKind.bits]; omega
        have q1n : decide (a2 < e) = false := decide_eq_false (by omega)
        have q2n : decide (s0.size ≤ a2) = false := decide_eq_false (by omega)
        have hwl : IntKind.i64.wrap (l2 : Int) = (l2 : Int) := by rw [← hcnt]; simp only [IntKind.wrap]; simp [IntKind.signed, IntKind.bits]; omega
        have hll2 : ((l2 : Int) != (l2 : Int)) = false := by simp
        have C0 := fun (W : World) => count_nl (s0.extract 0 a2) W
        rw [show (s0.extract 0 a2).data.toList = s0.data.toList.take a2 by rw [ext_bs, bs_list]; simp] at C0
        have C1 := Lib.hid fun j => (C0 (V.drewN j)).mono (fun e w' (h : _ ∧ _) => (⟨h.1, j, h.2⟩ : _ ∧ ∃ m, w' = V.drewN m))
        clear C0
        have HV := Lib.hid fun n => belowD HBV.out n
        have HV2 := Lib.hid fun n => belowD HBV2.out n
        go_wp2
        go_quiet (first | (go_at_call 21; with_reducible exact C1.out _))
        by_cases hK : K = 4
        · have hK' : (K != 4) = false := by rw [bne_eq_false_iff_eq]; exact hK
          have hw2 : IntKind.i64.wrap ((a2 : Int) + 1) = ((a2 + 1 : Nat) : Int) := by simp only [IntKind.wrap]; simp [IntKind.signed, IntKind.bits]; omega
          rw [if_pos hK] at b5
          have HP5 := Lib.hid b5
          clear b4 b5 hK C1
          go_wp2
          go_roundw
          case rel => exact ⟨a2 + 1, i + 1, by omega, by first | rfl | go_num, by go_num, HP5, Lib.hid (HV.out _), Lib.hid (HV2.out _)⟩
          case measure => simp [intOf]; omega
        · have hK' : (K != 4) = true := by rw [bne_iff_ne]; exact hK
          rw [if_neg hK] at b5
          obtain ⟨d1, d2⟩ := b4 hK
          have HP5 := Lib.hid b5
          have hxl : (bs x).size = x.length := bs_size x
          have hxp : 0 < x.length := List.length_pos_iff.2 d1
          have hpre : x <+: s0.data.toList.drop a2 := by unfold Lib.hasPrefix at d2; exact List.isPrefixOf_iff_prefix.1 d2
          have hxle := hpre.length_le
          rw [List.length_drop, hll] at hxle
          have hxz : (((bs x).size : Int) == 0) = false := by rw [beq_eq_false_iff_ne]; omega
          have hw2 : IntKind.i64.wrap ((a2 : Int) + ((bs x).size : Int)) = ((a2 + x.length : Nat) : Int) := by rw [hxl]; simp only [IntKind.wrap]; simp [IntKind.signed, IntKind.bits]; omega
          have hw3 : IntKind.i64.wrap ((a2 : Int) + 1) = ((a2 + 1 : Nat) : Int) := by simp only [IntKind.wrap]; simp [IntKind.signed, IntKind.bits]; omega
          have P0 := fun (W : World) => Tryd.strings_HasPrefix (s0.extract a2 s0.size) (bs x) W
          rw [show (s0.extract a2 s0.size).data.toList = s0.data.toList.drop a2 by rw [ext_bs, bs_list, List.take_of_length_le (by rw [List.length_drop, hll]; exact Nat.le_refl _)], bs_list, d2] at P0
          have P1 := Lib.hid fun j => (P0 (V.drewN (nq + j))).mono (fun e w' (h : _ ∧ _) => (⟨h.1, j, h.2⟩ : _ ∧ ∃ m, w' = V.drewN (nq + m)))
          clear b4 b5 hK C1 P0 d1 d2 hpre
          generalize bs x = y at *
          go_wp2
          go_quiet (first | (go_at_call 22; with_reducible exact P1.out _))
          go_wp2
          go_roundw
          case rel => exact ⟨a2 + x.length, i + 1, by omega, by first | rfl | go_num, by go_num, HP5, Lib.hid (HV.out _), Lib.hid (HV2.out _)⟩
          case measure => simp [intOf]; omega
      · have hlt' : ¬ (i : Int) < (ts.length : Int) := by omega
        clear HA HP
        go_wp2_with (go_at_call 10; (with_reducible refine (L1.out _).mono ?_); rintro e w9 ⟨rfl, hb9⟩)
        go_ret
        exact ⟨rfl, HB.out.trans (hb9.mono hz0)⟩
  · have hE' : (E != 0) = true := by rw [bne_iff_ne]; exact hE
    have hE1' : (E != 1) = true := by rw [bne_iff_ne]; exact hE1
    clear hE1 HPL
    go_enter Tryd.func8, Tryd.ntmps8
    go_wp2_with (first | (go_at_call 12; (with_reducible refine (S1.out _ (Below.refl _ _)).mono ?_); rintro e w4 ⟨v, rfl, hO, hb4⟩) | (go_at_call 10; (with_reducible refine (L1.out _).mono ?_); rintro e w9 ⟨rfl, hb9⟩))
    go_ret
    exact ⟨rfl, hb4.trans (hb9.mono hb4.size)⟩

theorem reads (os : Os) {H : Type} (enc : TypeId × Value → H) : ∃ places, DataW.whole enc Tryd.prog ((World.laidAll Tryd.prog os L5).forCall (fun _ _ => 0) ⟨#[], #[.string ⟨#[49]⟩], []⟩).memory Tryd.f8.params.toList Rows.lexerPlacesSpec.vars false #[Value.string ⟨#[49]⟩].toList 8 = some ([.lit (.string [49])], [], places) :=
  ⟨[], by kernel_rfl⟩
set_option maxRecDepth 100000 in
theorem lifted (os : Os) (started : os.Started) (H : Type) (enc : TypeId × Value → H) (F : Stop.Interp) :
    ReturnsInHanded {} Tryd.checked os 8 .any ((OpenSpec.ofChange Rows.lexerPlacesSpec).preRow enc Tryd.prog Tryd.f8 Rows.lexerPlacesRow.domain false L5) (((OpenSpec.ofChange Rows.lexerPlacesSpec).at F).post enc Tryd.prog Tryd.f8 false true false false) := by
  obtain ⟨places, hx⟩ := reads os enc
  refine returnsInHanded_of_row (C := Tryd.checked) (s := OpenSpec.ofChange Rows.lexerPlacesSpec) own started (by kernel_rfl) Tryd.func8
    ⟨World.laidAll Tryd.prog os L5, fun _ _ => 0, ⟨#[], #[.string ⟨#[49]⟩], []⟩, World.laidAll_os _ _ _, wit_shaped os _, rfl, (Input.okWide_of_okWideB (by kernel_rfl)).2,
      OpenSpec.preRow_of_cond 8 hx (by kernel_rfl) (fun k hk => by cases hk) (by kernel_rfl) (laid_met os _), by
        simp only [Assume.holds]
        exact ⟨by simp, by simp, fun _ => Modest.zero, by simp, by simp⟩⟩ ?_
  intro W base args ds gs before hval0 hW _ _ _ hL hsh _
  have hE := env hL
  have hval : ∀ (j : Nat) t v, Tryd.f8.params[j]? = some t → args[j]? = some v → Value.okWide Tryd.prog W .any base t v := hval0
  have hW' := hW
  obtain ⟨p, q, hA0, hV, rfl, hfz, hnd⟩ := hW
  have hA : DataW.TrodAll enc Tryd.prog W 0 (fun _ => true) true Tryd.f8.params.toList args.toList ds p := hA0
  rw [Tryd.params8] at hA hval
  obtain ⟨v0, vs0, d0, ds0, p_0, q_0, hargs, rfl, rfl, h0, r0⟩ := trodAll_cons hA
  obtain ⟨rfl, rfl, rfl⟩ := trodAll_nil r0
  obtain rfl : args = #[v0] := by cases args; simp_all
  obtain ⟨rfl, rfl⟩ := trodVars_none hV
  obtain ⟨s0, rfl, rfl, rfl, hm0⟩ := open_string Tryd.underlying9 (hval 0 9 v0 rfl rfl) h0
  clear hA0 hval0
  simp only [List.append_nil] at hW'
  refine (walk s0 hm0 W hE).mono fun e W' ⟨he, bel⟩ => ?_
  subst he
  exact ⟨_, rfl, _, _, _, [], [], [], hW', trodAll_mk1 (shut_bool Tryd.underlying4 _), (trodAll_cons_mk (shut_string Tryd.underlying9 hm0) trodAll_mk0), rfl, bel.frame _, fun h => by cases h⟩

theorem said : Rows.LexerPlacesSaid :=
  OpenClaim.holds_of_cond 8 Tryd.f8 rfl rfl rfl rfl rfl rfl rfl ⟨rfl, rfl, rfl, rfl, rfl⟩ rfl rfl rfl rfl rfl (by kernel_rfl) Tryd.func8 (by kernel_rfl)
    (of_decide_eq_true (by kernel_rfl)) (by unfold Func.isWrapper; first | (rw [if_pos (by decide +kernel)]; kernel_rfl) | (rw [if_neg (by decide +kernel)]; exact ⟨rfl, rfl⟩))
    (fun os started H enc _ F => by rw [OpenClaim.pre_eq_preRow]; exact lifted os started H enc F)
theorem plain (f : FuncId) (fn : Func) (hf : Tryd.pinned.checked.prog.funcNamed "scripting/scriptinglaw03.LexerPlaces" = some f) (hfn : Tryd.pinned.checked.prog.funcs[f]? = some fn) :
    true = Tryd.pinned.checked.prog.looks [] ∧ ∀ (j : Nat) t, fn.params[j]? = some t → Tryd.pinned.checked.prog.wantsStandIn t = false := by
  obtain rfl : f = 8 := Option.some.inj ((show Tryd.prog.funcNamed "scripting/scriptinglaw03.LexerPlaces" = some 8 by kernel_rfl).symm.trans hf) |>.symm
  obtain rfl : fn = Tryd.f8 := (Option.some.inj (Tryd.func8.symm.trans hfn)).symm
  refine ⟨by kernel_rfl, fun j t ht => ?_⟩
  rw [Tryd.params8] at ht
  have hm : t ∈ [9] := by simpa using Array.mem_of_getElem? ht
  have hall : ([9].all fun u => !Tryd.prog.wantsStandIn u) = true := by kernel_rfl
  exact (show Tryd.prog.wantsStandIn t = false by simpa using List.all_eq_true.1 hall t hm)

/-- The given statement. -/
theorem proved : Rows.LexerPlacesCardSaid :=
  Claim7.holds_tied_plain_at .later [] _ _ _ _ said (fun _ h => by cases h) (by kernel_rfl) (fun _ h => by cases h) lexerPlaces_row_tie rfl ⟨rfl, rfl⟩ (by kernel_rfl) rfl plain (by kernel_rfl)
#print axioms proved
end Go.Proofs.YtbcbddglgfakpaaDoor.lexerPlacesLaw
