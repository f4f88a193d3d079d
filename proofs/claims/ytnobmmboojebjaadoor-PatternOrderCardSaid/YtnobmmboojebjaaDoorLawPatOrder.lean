/- PatternOrder. No condition. -/
import Derived.Test.YtnobmmboojebjaaDoorPatTc
namespace Go.Proofs.YtnobmmboojebjaaDoor.patternOrderLaw
open Go.ChangeMaps (open_string shut_string)
open Go.ChangeShapes Go.WideShapes Go.ChangeAt Go.RowKit Go.Joins M4
set_option linter.unusedVariables false


set_option maxHeartbeats 16000000 in
set_option maxRecDepth 100000 in
theorem walk (s0 : ByteArray) (hm0 : s0.size ≤ maxLen) (s1 : ByteArray) (hm1 : s1.size ≤ maxLen) (w : World) (he : Tab w) :
    Calls Tryd.prog 7 #[.string s0, .string s1] w fun e w' => e = .returned (.bool true) ∧ Below w.heap.size w w' := by
  have AW := Lib.hid fun W (hb : Below w.heap.size w W) => awake_any W (tab_below he hb)
  clear he
  by_cases hbig : 300 < s0.size
  · have hbig' : 300 < (s0.size : Int) := by omega
    go_enter Tryd.func7, Tryd.ntmps7
    go_wp2_with (go_at_call 10; (with_reducible refine (AW.out _ ?_).mono ?_); exact Below.refl _ _; rintro e w9 ⟨rfl, hb9⟩)
    go_ret
    exact ⟨rfl, hb9⟩
  have hbig' : ¬ 300 < (s0.size : Int) := by omega
  by_cases hbig1 : 100 < s1.size
  · have hbig1' : 100 < (s1.size : Int) := by omega
    go_enter Tryd.func7, Tryd.ntmps7
    go_wp2_with (go_at_call 10; (with_reducible refine (AW.out _ ?_).mono ?_); exact Below.refl _ _; rintro e w9 ⟨rfl, hb9⟩)
    go_ret
    exact ⟨rfl, hb9⟩
  have hbig1' : ¬ 100 < (s1.size : Int) := by omega
  have hsl : s0.data.toList.length = s0.size := by simp
  rcases all_two s0 s1 (by omega) (by omega) with ⟨c, hc, hA⟩ | ⟨g, ms, hr, hall, hasc, hg, hml, hA⟩
  · have QA := Lib.hid hA
    have y1 : ((c : Int) != 0) = true := by rw [bne_iff_ne]; omega
    clear hA
    go_enter Tryd.func7, Tryd.ntmps7
    go_upto_region 4 with (go_at_call 21; (with_reducible refine (QA.out _).mono ?_); rintro e w1 ⟨rfl, hb1⟩)
    have HB1 := Lib.hid hb1
    clear hb1
    go_wp2_with (go_at_call 10; (with_reducible refine (AW.out _ ?_).mono ?_); exact HB1.out; rintro e w9 ⟨rfl, hb9⟩)
    go_ret
    exact ⟨rfl, HB1.out.trans (hb9.mono HB1.out.size)⟩
  · have QA := Lib.hid hA
    obtain ⟨n, hn⟩ : ∃ n, ms.length = n := ⟨_, rfl⟩
    rw [hn] at QA hml
    have HN := Lib.hid hn
    have HMO := Lib.hid (asc_caps hg ms _ _ hasc)
    have HAS := Lib.hid hasc
    have HSL := Lib.hid hsl
    have QT := Lib.hid fun (m : Mt) (h1 : (atM s0.data.toList g m.fr).1 = some (m.to, m.caps)) (h2 : (atM s0.data.toList g m.fr).2 ≤ 100000) (h3 : m.fr ≤ s0.size) W => ata_yes s0 s1 m.fr W (by omega) (by omega) g hr h3 m.to m.caps ⟨h1, h2⟩
    have H16 := Lib.hid hg.2.2
    obtain ⟨nc, hnc⟩ : ∃ nc, g.caps = nc := ⟨_, rfl⟩
    rw [hnc] at QA QT H16
    have HNC : Hid (∀ m ∈ ms, m.caps.length = nc) := Lib.hid fun m hm => by rw [← hnc]; exact (HMO.out m hm).len
    clear hA hall hasc hr hn hsl hnc
    go_enter Tryd.func7, Tryd.ntmps7
    go_upto_region 6 with (go_at_call 21; (with_reducible refine (QA.out _).mono ?_); rintro e W5 ⟨⟨lp, lc, vs, rfl, hms⟩, hb5⟩; have HRD := Lib.hid (fun h0 => mts_read hms HN.out.symm HNC.out h0); have HB5 := Lib.hid hb5; clear hms hb5)
    go_wp2
    go_loopw [7, 8] (fun v7 v8 wr => ∃ (k : Nat) (ev : Int), k ≤ n ∧ v7 = .int .i64 ev ∧ v8 = .int .i64 (k : Int) ∧ Hid (Below W5.heap.size W5 wr) ∧ Hid (∃ last a, Asc s0.data.toList g last a (ms.drop k) ∧ ((last = none ∧ ev = -1) ∨ (last = some a ∧ ev = (a : Int))))) (fun _ v8 _ => n - (intOf v8).toNat)
    case atStart => exact ⟨0, -1, Nat.zero_le _, rfl, rfl, Lib.hid (Below.refl _ _), Lib.hid ⟨none, 0, HAS.out, .inl ⟨rfl, rfl⟩⟩⟩
    case round =>
      obtain ⟨k, ev, hk, rfl, rfl, HB, HI⟩ := hrel
      rename World => W0
      have hk1 := i64w ((k : Int) + 1) (by omega)
      by_cases hlt : k < n
      · have hlt' : (k : Int) < (n : Int) := by omega
        obtain ⟨last, a, has2, hev⟩ := HI.out
        obtain ⟨m, hmk⟩ : ∃ m, ms[k]? = some m := ⟨ms[k]'(by have := HN.out; omega), List.getElem?_eq_getElem _⟩
        obtain ⟨hkl, hke⟩ := List.getElem?_eq_some_iff.1 hmk
        rw [List.drop_eq_getElem_cons hkl, hke] at has2
        obtain ⟨h1, h2, h3, h4, h5, h6⟩ := has2
        have hok := HMO.out m (List.mem_of_getElem? hmk)
        have hcl := HNC.out m (List.mem_of_getElem? hmk)
        have QTm := QT.out m h3 h4 (by have := HSL.out; omega)
        obtain ⟨gg, hlp, hgl, hrd⟩ := HRD.out (by omega)
        obtain ⟨q, d, x0, x1, x2, x3, x4⟩ := hrd k m hmk
        subst hlp
        have e0 : W0.cell? ⟨gg, k * 3, none⟩ = some (.int .i64 (m.fr : Int)) := by rw [HB.out.cell hgl]; exact x0
        have e1 : W0.cell? ⟨gg, k * 3 + 1, none⟩ = some (.int .i64 (m.to : Int)) := by rw [HB.out.cell hgl]; exact x1
        have e2 : W0.cell? ⟨gg, k * 3 + 2, none⟩ = some (.slice q nc d) := by rw [HB.out.cell hgl]; exact x2
        have l1 := hok.le
        have l2 := hok.hi
        rw [HSL.out] at l2
        have l3 : ev ≤ (m.fr : Int) := by rcases hev with ⟨_, h⟩ | ⟨_, h⟩ <;> omega
        have l4 : ((m.to : Int) == ev) = false := by
          rw [beq_eq_false_iff_ne]
          rcases hev with ⟨_, h⟩ | ⟨h7, h⟩
          · omega
          · intro e; exact h2 (by rw [h7]; congr 1; omega)
        have HCP := Lib.hid hok.caps
        have H6 := Lib.hid h6
        have HM := Lib.hid hcl
        have QTM := Lib.hid QTm
        have hwz := HB.out.size
        have O5 := Lib.hid x4
        have C5 := Lib.hid x3
        clear x0 x1 x2 x3 x4 hrd hok hmk hkl hke h1 h2 h3 h4 h5 h6 hcl QTm hev HI
        obtain ⟨fr, tt, mc⟩ := m
        simp only [] at e0 e1 e2 l1 l2 l3 l4 QTM HM HCP H6 O5 C5
        have d1 : decide (tt < fr) = false := decide_eq_false (by omega)
        have d2 : decide (s0.size < tt) = false := decide_eq_false (by omega)
        have d3 : decide ((fr : Int) < ev) = false := decide_eq_false (by omega)
        have d4 : decide ((tt : Int) < (fr : Int)) = false := decide_eq_false (by omega)
        have d5 : decide ((s0.size : Int) < (tt : Int)) = false := decide_eq_false (by omega)
        go_upto_region 11 with fail
        obtain ⟨V1, hV1⟩ : ∃ V1, W0.alloc (.cells #[.int .i64 (fr : Int), .int .i64 (tt : Int), .slice q nc d] 29) = V1 := ⟨_, rfl⟩
        obtain ⟨X1, hX1⟩ : ∃ X1, W0.heap.size = X1 := ⟨_, rfl⟩
        have HMV1 : Hid (Mtb X1 #[.int .i64 (fr : Int), .int .i64 (tt : Int), .slice q nc d] V1) := Lib.hid (by rw [← hV1, ← hX1]; exact mtb_new _ _ _ rfl)
        have HCV1 : Hid (Ch [] W0 V1) := Lib.hid (by rw [← hV1]; exact (Ch.refl _ _).alloc _)
        rw [hV1]
        simp only [hX1]
        clear hV1 hX1
        have HB1 := Lib.hid (HB.out.trans (HCV1.out.below.mono hwz))
        have a0 := HMV1.out.cell 0
        have a1 := HMV1.out.cell 1
        have a2 := HMV1.out.cell 2
        simp at a0 a1 a2
        clear e0 e1 e2
        go_upto_region 12 with (go_at_call 17; (with_reducible refine (QTM.out _).mono ?_); rintro e w2 ⟨⟨q2, c2, rfl, ho2⟩, hb2⟩)
        obtain ⟨V2, hV2⟩ : ∃ V2, w2.alloc (.cells #[.int .i64 (fr : Int), .int .i64 (tt : Int), .slice q2 nc c2] 29) = V2 := ⟨_, rfl⟩
        obtain ⟨X2, hX2⟩ : ∃ X2, w2.heap.size = X2 := ⟨_, rfl⟩
        have HMV2 : Hid (Mtb X2 #[.int .i64 (fr : Int), .int .i64 (tt : Int), .slice q2 nc c2] V2) := Lib.hid (by rw [← hV2, ← hX2]; exact mtb_new _ _ _ rfl)
        have HCV2 : Hid (Ch [] w2 V2) := Lib.hid (by rw [← hV2]; exact (Ch.refl _ _).alloc _)
        rw [hV2]
        simp only [hX2]
        clear hV2 hX2
        have hC12 : Ch [] V1 V2 := (Ch.of_below hb2).trans HCV2.out
        have HB2 := Lib.hid (HB1.out.trans (hC12.below.mono HB1.out.size))
        have HMX := Lib.hid (HMV1.out.ch hC12 (by simp))
        have HMV2x := HMV2.out
        clear a0 a1 a2
        have a0 := HMX.out.cell 0
        have a1 := HMX.out.cell 1
        have a2 := HMX.out.cell 2
        simp at a0 a1 a2
        have b0 := HMV2x.cell 0
        have b1 := HMV2x.cell 1
        have b2 := HMV2x.cell 2
        simp at b0 b1 b2
        have QS := Lib.hid (same_an (fr := fr) (tt := tt) HM.out H16.out O5.out ho2 (Ch.of_below HB2.out) HCV2.out)
        clear ho2 hb2 hC12 HMV2x HMV2 HMV1 HCV1 HCV2 O5
        go_upto_region 14 with (go_at_call 18; (with_reducible refine (QS.out).mono ?_); rintro e w3 ⟨rfl, hb3⟩; have HC3 := Lib.hid ((Ch.of_below (S := []) hb3)); clear hb3; have HM3 := Lib.hid (HMX.out.ch HC3.out (by simp)); have f0 := HM3.out.cell 0; have f1 := HM3.out.cell 1; have f2 := HM3.out.cell 2; simp at f0 f1 f2)
        have HB3 := Lib.hid (HB2.out.trans (HC3.out.below.mono HB2.out.size))
        clear a0 a1 a2 b0 b1 b2
        go_wp2
        go_loopw [13] (fun v13 wr => ∃ j : Nat, j ≤ nc ∧ v13 = .int .i64 (j : Int) ∧ Hid (Ch [] w3 wr)) (fun v13 _ => nc - (intOf v13).toNat)
        case atStart => exact ⟨0, Nat.zero_le _, rfl, Lib.hid (Ch.refl _ _)⟩
        case round =>
          obtain ⟨j, hj, rfl, HCJ⟩ := hrel
          rename World => Wj
          have hj1 := i64w ((j : Int) + 1) (by have := H16.out; omega)
          have HMJ := Lib.hid (HM3.out.ch HCJ.out (by simp))
          have f0 := HMJ.out.cell 0
          have f1 := HMJ.out.cell 1
          have f2 := HMJ.out.cell 2
          simp at f0 f1 f2
          have HBJ := Lib.hid (HB3.out.trans (HCJ.out.below.mono HB3.out.size))
          by_cases hjl : j < nc
          · have hjl' : (j : Int) < (nc : Int) := by omega
            obtain ⟨p', n', c', hv, hn', hR'⟩ := C5.out.below HBJ.out
            obtain ⟨rfl, rfl, rfl⟩ : q = p' ∧ nc = n' ∧ d = c' := by injection hv with h1 h2 h3; exact ⟨h1, h2, h3⟩
            obtain ⟨gc, oc, rfl, hgc, hcell⟩ := hR' (by omega)
            obtain ⟨x, hx⟩ : ∃ x, mc[j]? = some x := ⟨mc[j]'(by have := HM.out; omega), List.getElem?_eq_getElem _⟩
            obtain ⟨y1, y2⟩ := hcell j x hx
            have hcp := HCP.out x (List.mem_of_getElem? hx)
            obtain ⟨xa, xb⟩ := x
            simp only [] at y1 y2 hcp
            clear hcell hR' hx hv hn'
            obtain ⟨z1, z2, z3⟩ := hcp
            go_upto_region 18 with fail
            obtain ⟨V3, hV3⟩ : ∃ V3, Wj.alloc (.cells #[.int .i64 xa, .int .i64 xb] 43) = V3 := ⟨_, rfl⟩
            obtain ⟨X3, hX3⟩ : ∃ X3, Wj.heap.size = X3 := ⟨_, rfl⟩
            have HH3 : Hid (V3.heap[X3]? = some (.cells #[.int .i64 xa, .int .i64 xb] 43 (0, 0))) := Lib.hid (by rw [← hV3, ← hX3]; exact heap_alloc_new _ _)
            have HC3J : Hid (Ch [] Wj V3) := Lib.hid (by rw [← hV3]; exact (Ch.refl _ _).alloc _)
            rw [hV3]
            simp only [hX3]
            clear hV3 hX3 f0 f1 f2 y1 y2
            have HMK := Lib.hid (HMJ.out.ch HC3J.out (by simp))
            have f0 := HMK.out.cell 0
            have f1 := HMK.out.cell 1
            have f2 := HMK.out.cell 2
            have u0 := cells_get HH3.out 0
            have u1 := cells_get HH3.out 1
            simp at f0 f1 f2 u0 u1
            have HCK := Lib.hid (HCJ.out.trans HC3J.out)
            by_cases hb1 : xb = -1
            · subst hb1
              clear z3
              go_wp2
              go_roundw
              case rel => exact ⟨j + 1, by omega, by go_num, HCK⟩
              case measure => simp [intOf]; omega
            · have hb2 : (xb != -1) = true := by rw [bne_iff_ne]; exact hb1
              have z4 : xa ≤ xb ∧ xb ≤ (tt : Int) := by rcases z3 with h | h; exact absurd h hb1; exact h
              obtain ⟨z5, z6⟩ := z4
              clear z3
              go_wp2
              go_roundw
              case rel => exact ⟨j + 1, by omega, by go_num, HCK⟩
              case measure => simp [intOf]; omega
          · have hjl' : ¬ (j : Int) < (nc : Int) := by omega
            go_wp2
            go_roundw
            case rel => exact ⟨k + 1, (tt : Int), by omega, rfl, by go_num, HBJ, Lib.hid ⟨some tt, tt, H6.out, .inr ⟨rfl, rfl⟩⟩⟩
            case measure => simp [intOf]; omega
      · have hlt' : ¬ (k : Int) < (n : Int) := by omega
        have HBW := Lib.hid (HB5.out.trans (HB.out.mono HB5.out.size))
        go_wp2_with (go_at_call 10; (with_reducible refine (AW.out _ ?_).mono ?_); exact HBW.out; rintro e w9 ⟨rfl, hb9⟩)
        go_ret
        exact ⟨rfl, HBW.out.trans (hb9.mono HBW.out.size)⟩

theorem reads (os : Os) {H : Type} (enc : TypeId × Value → H) : ∃ places, DataW.whole enc Tryd.prog ((World.laidAll Tryd.prog os L5).forCall (fun _ _ => 0) ⟨#[], #[.string ⟨#[49]⟩, .string ⟨#[49]⟩], []⟩).memory Tryd.f7.params.toList Rows.patternOrderSpec.vars false #[Value.string ⟨#[49]⟩, .string ⟨#[49]⟩].toList 8 = some ([.lit (.string [49]), .lit (.string [49])], [], places) :=
  ⟨[], by kernel_rfl⟩
set_option maxRecDepth 100000 in
theorem lifted (os : Os) (started : os.Started) (H : Type) (enc : TypeId × Value → H) (F : Stop.Interp) :
    ReturnsInHanded {} Tryd.checked os 7 .any ((OpenSpec.ofChange Rows.patternOrderSpec).preRow enc Tryd.prog Tryd.f7 Rows.patternOrderRow.domain false L5) (((OpenSpec.ofChange Rows.patternOrderSpec).at F).post enc Tryd.prog Tryd.f7 false true false false) := by
  obtain ⟨places, hx⟩ := reads os enc
  refine returnsInHanded_of_row (C := Tryd.checked) (s := OpenSpec.ofChange Rows.patternOrderSpec) own started (by kernel_rfl) Tryd.func7
    ⟨World.laidAll Tryd.prog os L5, fun _ _ => 0, ⟨#[], #[.string ⟨#[49]⟩, .string ⟨#[49]⟩], []⟩, World.laidAll_os _ _ _, wit_shaped os _, rfl, (Input.okWide_of_okWideB (by kernel_rfl)).2,
      OpenSpec.preRow_of_cond 8 hx (by kernel_rfl) (fun k hk => by cases hk) (by kernel_rfl) (laid_met os _), by
        simp only [Assume.holds]
        exact ⟨by simp, by simp, fun _ => Modest.zero, by simp, by simp⟩⟩ ?_
  intro W base args ds gs before hval0 hW _ _ _ hL hsh _
  have hE := env hL
  have hval : ∀ (j : Nat) t v, Tryd.f7.params[j]? = some t → args[j]? = some v → Value.okWide Tryd.prog W .any base t v := hval0
  have hW' := hW
  obtain ⟨p, q, hA0, hV, rfl, hfz, hnd⟩ := hW
  have hA : DataW.TrodAll enc Tryd.prog W 0 (fun _ => true) true Tryd.f7.params.toList args.toList ds p := hA0
  rw [Tryd.params7] at hA hval
  obtain ⟨v0, vs0, d0, ds0, p_0, q_0, hargs, rfl, rfl, h0, r0⟩ := trodAll_cons hA
  obtain ⟨v1, vs1, d1, ds1, p_1, q_1, rfl, rfl, rfl, h1, r1⟩ := trodAll_cons r0
  obtain ⟨rfl, rfl, rfl⟩ := trodAll_nil r1
  obtain rfl : args = #[v0, v1] := by cases args; simp_all
  obtain ⟨rfl, rfl⟩ := trodVars_none hV
  obtain ⟨s0, rfl, rfl, rfl, hm0⟩ := open_string Tryd.underlying9 (hval 0 9 v0 rfl rfl) h0
  obtain ⟨s1, rfl, rfl, rfl, hm1⟩ := open_string Tryd.underlying9 (hval 1 9 v1 rfl rfl) h1
  clear hA0 hval0
  simp only [List.append_nil] at hW'
  refine (walk s0 hm0 s1 hm1 W hE).mono fun e W' ⟨he, bel⟩ => ?_
  subst he
  exact ⟨_, rfl, _, _, _, [], [], [], hW', trodAll_mk1 (shut_bool Tryd.underlying4 _), (trodAll_cons_mk (shut_string Tryd.underlying9 hm0) (trodAll_cons_mk (shut_string Tryd.underlying9 hm1) trodAll_mk0)), rfl, bel.frame _, fun h => by cases h⟩

theorem said : Rows.PatternOrderSaid :=
  OpenClaim.holds_of_cond 7 Tryd.f7 rfl rfl rfl rfl rfl rfl rfl ⟨rfl, rfl, rfl, rfl, rfl⟩ rfl rfl rfl rfl rfl (by kernel_rfl) Tryd.func7 (by kernel_rfl)
    (of_decide_eq_true (by kernel_rfl)) (by unfold Func.isWrapper; first | (rw [if_pos (by decide +kernel)]; kernel_rfl) | (rw [if_neg (by decide +kernel)]; exact ⟨rfl, rfl⟩))
    (fun os started H enc _ F => by rw [OpenClaim.pre_eq_preRow]; exact lifted os started H enc F)
theorem plain (f : FuncId) (fn : Func) (hf : Tryd.pinned.checked.prog.funcNamed "scripting/scriptinglaw04.PatternOrder" = some f) (hfn : Tryd.pinned.checked.prog.funcs[f]? = some fn) :
    false = Tryd.pinned.checked.prog.looks [] ∧ ∀ (j : Nat) t, fn.params[j]? = some t → Tryd.pinned.checked.prog.wantsStandIn t = false := by
  obtain rfl : f = 7 := Option.some.inj ((show Tryd.prog.funcNamed "scripting/scriptinglaw04.PatternOrder" = some 7 by kernel_rfl).symm.trans hf) |>.symm
  obtain rfl : fn = Tryd.f7 := (Option.some.inj (Tryd.func7.symm.trans hfn)).symm
  refine ⟨by kernel_rfl, fun j t ht => ?_⟩
  rw [Tryd.params7] at ht
  have hm : t ∈ [9, 9] := by simpa using Array.mem_of_getElem? ht
  have hall : ([9, 9].all fun u => !Tryd.prog.wantsStandIn u) = true := by kernel_rfl
  exact (show Tryd.prog.wantsStandIn t = false by simpa using List.all_eq_true.1 hall t hm)

/-- The given statement. -/
theorem proved : Rows.PatternOrderCardSaid :=
  Claim7.holds_tied_plain_at .later [] _ _ _ _ said (fun _ h => by cases h) (by kernel_rfl) (fun _ h => by cases h) patternOrder_row_tie rfl ⟨rfl, rfl⟩ (by kernel_rfl) rfl plain (by kernel_rfl)
#print axioms proved
end Go.Proofs.YtnobmmboojebjaaDoor.patternOrderLaw
