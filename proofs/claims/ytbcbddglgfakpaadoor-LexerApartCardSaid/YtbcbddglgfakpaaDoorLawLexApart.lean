/- LexerApart. No condition. -/
import Derived.Test.YtbcbddglgfakpaaDoorLexVe
namespace Go.Proofs.YtbcbddglgfakpaaDoor.lexerApartLaw
open Go.ChangeMaps (open_string shut_string)
open Go.ChangeShapes Go.WideShapes Go.ChangeAt Go.RowKit Go.Joins M1 M2 M3
set_option linter.unusedVariables false

theorem own_cap {base : Nat} {w : World} {p : Option Addr} {n cap : Nat} {ts : List Tok} (h : OwnT base w (.slice p n cap) ts) : n ≤ cap := by
  rcases h.2 with ⟨e, h0⟩ | ⟨g, cap', cur, e, _, _, h5, _⟩
  · injection e with _ e2 e3; omega
  · injection e with _ e2 e3; omega
theorem arg_prefix {w : World} {g o : Nat} {a b : List TI} (h : ArgT w g o (a ++ b)) : ArgT w g o a := fun j hj => by
  have := h j (by simp; omega)
  rw [List.getElem_append_left hj] at this
  exact this
theorem wrapN (a : Int) (n : Nat) (h : a = (n : Int)) (hn : n ≤ 1000000) : IntKind.i64.wrap a = (n : Int) := by
  subst h; simp only [IntKind.wrap]; simp [IntKind.signed, IntKind.bits]; omega
theorem own_two {base : Nat} {w : World} {v : Value} {ts : List Tok} (h : OwnT base w v ts) :
    (v = .slice none 0 0 ∧ ts = []) ∨ ∃ g o cap, v = .slice (some ⟨g, o, none⟩) ts.length cap ∧ ts.length ≤ cap ∧ g < w.heap.size ∧ ArgT w g o (ts.map tiO) := by
  obtain ⟨p, cap, g, o, e, h1, h2, h3⟩ := own_arg h
  rcases ownsRow_forms h with ⟨e0, h0⟩ | ⟨g', cap', e0⟩
  · exact .inl ⟨e0, List.eq_nil_of_length_eq_zero h0⟩
  · subst e0
    have hc := own_cap h
    injection e with e1 e2 e3
    by_cases hp : 0 < ts.length
    · refine .inr ⟨g, o, cap', ?_, hc, h2 hp, h3⟩
      rw [e1, h1 hp]
    · refine .inr ⟨g', 0, cap', rfl, hc, (World.ownsRow.lt h g' rfl).2, fun j hj => ?_⟩
      simp at hj; omega
theorem argt_kept {w w' : World} {g o : Nat} {ts : List TI} (h : ArgT w g o ts) (hb : Below w.heap.size w w') (hg : 0 < ts.length → g < w.heap.size) : ArgT w' g o ts := fun j hj => h.kept hb (hg (by omega)) j hj

set_option maxHeartbeats 16000000 in
set_option maxRecDepth 100000 in
theorem walk (s0 : ByteArray) (hm0 : s0.size ≤ maxLen) (s1 : ByteArray) (hm1 : s1.size ≤ maxLen) (w : World) (he : Vrs w) :
    Calls Tryd.prog 9 #[.string s0, .string s1] w fun e w' => e = .returned (.bool true) ∧ Below w.heap.size w w' := by
  have L1 := Lib.hid lives_any
  have hll : s0.data.toList.length = s0.size := by simp
  have hll1 : s1.data.toList.length = s1.size := by simp
  by_cases hbig : 1000 < s0.size
  · have hbig' : 1000 < (s0.size : Int) := by omega
    go_enter Tryd.func9, Tryd.ntmps9
    go_wp2_with (go_at_call 10; (with_reducible refine (L1.out _).mono ?_); rintro e w9 ⟨rfl, hb9⟩)
    go_ret
    exact ⟨rfl, hb9⟩
  have hbig' : ¬ 1000 < (s0.size : Int) := by omega
  by_cases hbig1 : 1000 < s1.size
  · have hbig1' : 1000 < (s1.size : Int) := by omega
    go_enter Tryd.func9, Tryd.ntmps9
    go_wp2_with (go_at_call 10; (with_reducible refine (L1.out _).mono ?_); rintro e w9 ⟨rfl, hb9⟩)
    go_ret
    exact ⟨rfl, hb9⟩
  have hbig1' : ¬ 1000 < (s1.size : Int) := by omega
  have sA := fun (W : World) (hb : Below w.heap.size w W) => scan3_any s0 W (by omega) (he.below hb he.lt)
  have sB := fun (W : World) (hb : Below w.heap.size w W) => scan3_any s1 W (by omega) (he.below hb he.lt)
  have ely : (s0 ++ ⟨#[10]⟩ ++ s1).data.toList = s0.data.toList ++ 10 :: s1.data.toList := by simp [ByteArray.data_append]
  have esy : (s0 ++ ⟨#[10]⟩ ++ s1).size = s0.size + 1 + s1.size := by
    have h1 : (s0 ++ ⟨#[10]⟩ ++ s1).data.toList.length = (s0 ++ ⟨#[10]⟩ ++ s1).size := Array.length_toList
    rw [ely] at h1
    simp only [List.length_append, List.length_cons, hll, hll1] at h1
    omega
  have sC := fun (W : World) (hb : Below w.heap.size w W) => scan3_any (s0 ++ ⟨#[10]⟩ ++ s1) W (by omega) (he.below hb he.lt)
  rw [ely, lexR_apart] at sC
  have hcA := lexR_count s0.data.toList
  have hcB := lexR_count s1.data.toList
  have hlA := lexR_line s0.data.toList
  have hlB := lexR_line s1.data.toList
  have h0A := lexR_line0 s0.data.toList
  have hbA := lexR_bad s0.data.toList
  have hbB := lexR_bad s1.data.toList
  have hpB := Placed.mem _ _ (lexR_placed s1.data.toList)
  have hc10 := count_le s0.data.toList
  have C0 := fun (W : World) => count_nl s0 W
  rw [hll] at sC hcA hlA hc10
  rw [hll1] at hcB hlB hpB
  generalize lexR s0.data.toList = RA at *
  generalize lexR s1.data.toList = RB at *
  generalize Lib.countByte s0.data.toList 10 = nd at *
  generalize hy : s0 ++ ⟨#[10]⟩ ++ s1 = y at *
  obtain ⟨tsA, lnA, EA⟩ := RA
  obtain ⟨tsB, lnB, EB⟩ := RB
  simp only [] at sA sB sC hcA hcB hlA hlB h0A hbA hbB hpB
  have hdn := wrapN (1 + (nd : Int)) (1 + nd) (by omega) (by omega)
  have C1 := Lib.hid C0
  clear C0
  by_cases hEA : EA = 0
  · have hEA' : (EA != 0) = false := by rw [bne_eq_false_iff_eq]; exact hEA
    rw [if_pos hEA] at sC
    by_cases hEB : EB = 0
    · have hEB' : (EB != 0) = false := by rw [bne_eq_false_iff_eq]; exact hEB
      rw [if_pos hEB] at sC
      simp only [] at sC
      obtain ⟨dn, hdd⟩ : ∃ dn, 1 + nd = dn := ⟨_, rfl⟩
      obtain ⟨off, hoff⟩ : ∃ off, s0.size + 1 = off := ⟨_, rfl⟩
      obtain ⟨nA, hnA⟩ : ∃ nA, tsA.length = nA := ⟨_, rfl⟩
      obtain ⟨nB, hnB⟩ : ∃ nB, tsB.length = nB := ⟨_, rfl⟩
      obtain ⟨nC, hnC⟩ : ∃ nC, nA + nB = nC := ⟨_, rfl⟩
      have hoff' : s0.data.toList.length + 1 = off := by rw [hll]; exact hoff
      rw [hdd] at sC
      have q1e : (1 : Int) + (nd : Int) = (dn : Int) := by omega
      have q1w : IntKind.i64.wrap ((1 : Int) + (nd : Int)) = (dn : Int) := wrapN _ _ q1e (by omega)
      have q1v : IntKind.i64.wrap (dn : Int) = (dn : Int) := wrapN _ _ rfl (by omega)
      have q2e : (s0.size : Int) + (1 : Int) = (off : Int) := by omega
      have q2w : IntKind.i64.wrap ((s0.size : Int) + (1 : Int)) = (off : Int) := wrapN _ _ q2e (by omega)
      have q2v : IntKind.i64.wrap (off : Int) = (off : Int) := wrapN _ _ rfl (by omega)
      have q3e : (nA : Int) + (nB : Int) = (nC : Int) := by omega
      have q3w : IntKind.i64.wrap ((nA : Int) + (nB : Int)) = (nC : Int) := wrapN _ _ q3e (by omega)
      have q3v : IntKind.i64.wrap (nC : Int) = (nC : Int) := wrapN _ _ rfl (by omega)
      obtain ⟨tsC, htC⟩ : ∃ tsC, tsA ++ tsB.map (down dn off) = tsC := ⟨_, rfl⟩
      have hlC : tsC.length = nC := by rw [← htC, List.length_append, List.length_map]; omega
      rw [hoff, htC] at sC
      have SA := Lib.hid sA
      have SB := Lib.hid sB
      have SC := Lib.hid sC
      clear sA sB sC
      go_enter Tryd.func9, Tryd.ntmps9
      go_upto_region 4 with (go_at_call 12; (with_reducible refine (SA.out _ ?_).mono ?_); exact Below.refl _ _; rintro e wa ⟨vwa, rfl, hOwa, hbwa⟩)
      go_upto_region 5 with (go_at_call 12; (with_reducible refine (SB.out _ ?_).mono ?_); exact hbwa; rintro e wb ⟨vwb, rfl, hOwb, hbwb⟩)
      go_upto_region 6 with (go_at_call 12; (with_reducible refine (SC.out _ ?_).mono ?_); exact hbwa.trans (hbwb.mono hbwa.size); rintro e wc ⟨vwc, rfl, hOwc, hbwc⟩)
      obtain ⟨pA, capA, gA, oA, hvA, hPA, hGA, hAA⟩ := own_arg hOwa
      obtain ⟨pB, capB, gB, oB, hvB, hPB, hGB, hAB⟩ := own_arg hOwb
      rw [hnA] at hvA hPA hGA
      rw [hnB] at hvB hPB hGB
      subst hvA hvB
      have hab := hbwb.size
      have hbc := hbwc.size
      have hwa := hbwa.size
      have hAA2 := argt_kept hAA (hbwb.trans (hbwc.mono hab)) (by rw [List.length_map, hnA]; exact hGA)
      have hAB2 := argt_kept hAB hbwc (by rw [List.length_map, hnB]; exact hGB)
      have HBW := Lib.hid (hbwa.trans ((hbwb.mono hwa).trans (hbwc.mono (by omega : w.heap.size ≤ wb.heap.size))))
      have hzw : w.heap.size ≤ wc.heap.size := by omega
      clear hdn
      rcases own_two hOwc with ⟨rfl, h0⟩ | ⟨gC, oC, capC, rfl, hcC, hgC, hAC⟩
      · have hC0 : nC = 0 := by rw [← hlC, h0]; rfl
        have hA0 : nA = 0 := by omega
        have hB0 : nB = 0 := by omega
        have hs0 : ∀ W : World, Calls Tryd.prog 23 #[.slice none 0 0, .slice pA 0 capA] W fun e w' => e = .returned (.bool true) ∧ Below W.heap.size W w' := fun W => same_any none pA 0 0 0 gA oA capA [] W (fun h => absurd h (by decide)) (fun h => absurd h (by decide)) (fun j hj => absurd hj (by simp)) (fun j hj => absurd hj (by simp)) (fun h => absurd h (by decide)) (fun h => absurd h (by decide)) (by decide)
        have SM0 := Lib.hid hs0
        subst hC0 hA0 hB0
        clear hs0 hAA hAB hAA2 hAB2 hOwa hOwb hOwc hbwa hbwb hbwc SA SB SC
        go_upto_region 13 with (first | (go_at_call 21; (with_reducible refine (C1.out _).mono ?_); rintro e w8 ⟨rfl, h8⟩; subst w8) | (go_at_call 23; (with_reducible refine (SM0.out _).mono ?_); rintro e w5 ⟨rfl, hb5⟩))
        have HB5 := Lib.hid (HBW.out.trans (hb5.mono hzw))
        go_wp2
        go_loopw [15] (fun v15 wr => v15 = .int .i64 0 ∧ Hid (Below w.heap.size w wr)) (fun _ _ => 0)
        case atStart => exact ⟨rfl, HB5⟩
        case round =>
          obtain ⟨rfl, HB⟩ := hrel
          go_wp2_with (go_at_call 10; (with_reducible refine (L1.out _).mono ?_); rintro e w9 ⟨rfl, hb9⟩)
          go_ret
          exact ⟨rfl, HB.out.trans (hb9.mono HB.out.size)⟩
      · rw [hlC] at hcC
        have hcap : (nA : Int) ≤ (capC : Int) := by omega
        have hAC' : ArgT wc gC oC (tsA.map tiO ++ (tsB.map (down dn off)).map tiO) := by rw [← List.map_append, htC]; exact hAC
        have hs1 := same_any (some ⟨gC, oC, none⟩) pA gC oC capC gA oA capA (tsA.map tiO) wc (fun _ => rfl) (by rw [List.length_map, hnA]; exact hPA) (arg_prefix hAC') hAA2 (fun _ => hgC) (by rw [List.length_map, hnA]; intro h; have := hGA h; omega) (by rw [List.length_map]; omega)
        rw [List.length_map, hnA] at hs1
        have SM0 := Lib.hid hs1
        have HACC := Lib.hid hAC
        have HABB := Lib.hid hAB2
        rw [hlC]
        clear hs1 hAA hAB hAA2 hAB2 hOwa hOwb hOwc hbwa hbwb hbwc SA SB SC hAC hAC'
        go_upto_region 13 with (first | (go_at_call 21; (with_reducible refine (C1.out _).mono ?_); rintro e w8 ⟨rfl, h8⟩; subst w8) | (go_at_call 23; (with_reducible refine (SM0.out).mono ?_); rintro e w5 ⟨rfl, hb5⟩))
        have HB5 := Lib.hid hb5
        clear hb5 SM0
        go_wp2
        go_loopw [15] (fun v15 wr => ∃ i : Nat, i ≤ nB ∧ v15 = .int .i64 (i : Int) ∧ Hid (Below wc.heap.size wc wr)) (fun v15 _ => nB - (intOf v15).toNat)
        case atStart => exact ⟨0, Nat.zero_le _, rfl, HB5⟩
        case round =>
          obtain ⟨i, hi, rfl, HB⟩ := hrel
          rename World => W0
          have hz0 := HB.out.size
          by_cases hlt : i < nB
          · have hlt' : (i : Int) < (nB : Int) := by omega
            have hpp := hPB (by omega)
            subst hpp
            have hgb := hGB (by omega)
            have hib : i < tsB.length := by omega
            have hB' := HABB.out.kept HB.out (by omega) i (by rw [List.length_map, hnB]; exact hlt)
            rw [List.getElem_map] at hB'
            obtain ⟨j, hj⟩ : ∃ j, nA + i = j := ⟨_, rfl⟩
            have hjC : j < nC := by omega
            have e1 : tsC[j]? = some (down dn off (tsB[i]'hib)) := by
              rw [← htC, List.getElem?_append_right (by omega), hnA, show j - nA = i by omega, List.getElem?_map, List.getElem?_eq_getElem (by omega)]; rfl
            have e2 : (tsC.map tiO)[j]? = some (tiO (down dn off (tsB[i]'hib))) := by rw [List.getElem?_map, e1]; rfl
            have e3 : (tsC.map tiO)[j]'(by rw [List.length_map, hlC]; exact hjC) = tiO (down dn off (tsB[i]'hib)) := by
              rw [List.getElem?_eq_getElem (by rw [List.length_map, hlC]; exact hjC)] at e2
              exact Option.some.inj e2
            have hbd := hpB _ (List.getElem_mem hib)
            obtain ⟨t, ht⟩ : ∃ t, tsB[i]'hib = t := ⟨_, rfl⟩
            rw [ht] at hB' e3 hbd
            obtain ⟨K, x, l2, a2⟩ := t
            obtain ⟨a0, a1, a3, a4⟩ := hB'
            simp only [tiO] at a0 a1 a3 a4
            simp only [] at hbd
            obtain ⟨l3, hl3⟩ : ∃ l3, l2 + dn = l3 := ⟨_, rfl⟩
            obtain ⟨a5, ha5⟩ : ∃ a5, a2 + off = a5 := ⟨_, rfl⟩
            have q4e : (l2 : Int) + (dn : Int) = (l3 : Int) := by omega
            have q4w : IntKind.i64.wrap ((l2 : Int) + (dn : Int)) = (l3 : Int) := wrapN _ _ q4e (by omega)
            have q4v : IntKind.i64.wrap (l3 : Int) = (l3 : Int) := wrapN _ _ rfl (by omega)
            have q5e : (a2 : Int) + (off : Int) = (a5 : Int) := by omega
            have q5w : IntKind.i64.wrap ((a2 : Int) + (off : Int)) = (a5 : Int) := wrapN _ _ q5e (by omega)
            have q5v : IntKind.i64.wrap (a5 : Int) = (a5 : Int) := wrapN _ _ rfl (by omega)
            have q6e : (nA : Int) + (i : Int) = (j : Int) := by omega
            have q6w : IntKind.i64.wrap ((nA : Int) + (i : Int)) = (j : Int) := wrapN _ _ q6e (by omega)
            have q6v : IntKind.i64.wrap (j : Int) = (j : Int) := wrapN _ _ rfl (by omega)
            go_upto_region 17 with fail
            go_name_world V hV
            have HTk : Hid (Tk W0.heap.size K (bs x) (l2 : Int) (a2 : Int) V) := Lib.hid (by rw [← hV]; exact heap_alloc_new W0 _)
            have HBV : Hid (Below wc.heap.size wc V) := Lib.hid (by rw [← hV]; exact HB.out.alloc hz0 _)
            clear hV a0 a1 a3 a4 e1 e2 ht
            have c0 := HTk.out.c0
            have c1 := HTk.out.c1
            have c2 := HTk.out.c2
            have c3 := HTk.out.c3
            have z2 := HTk.out.fz 2
            have z3 := HTk.out.fz 3
            go_upto_region 19 with fail
            go_name_world V2 hV2
            have HT2 : Hid (Tk W0.heap.size K (bs x) (l3 : Int) (a5 : Int) V2) := Lib.hid (by rw [← hV2]; exact (HTk.out.set2 _).set3 _)
            have HBV2 : Hid (Below wc.heap.size wc V2) := Lib.hid (by rw [← hV2]; exact (HBV.out.setCell hz0 _).setCell hz0 _)
            clear hV2 c0 c1 c2 c3 z2 z3 HTk HBV
            have c0 := HT2.out.c0
            have c1 := HT2.out.c1
            have c2 := HT2.out.c2
            have c3 := HT2.out.c3
            have hC' := HACC.out.kept HBV2.out hgC j (by rw [List.length_map, hlC]; exact hjC)
            rw [e3] at hC'
            obtain ⟨b0, b1, b2, b3⟩ := hC'
            simp only [tiO, down] at b0 b1 b2 b3
            rw [hl3] at b2
            rw [ha5] at b3
            have hjC' : (j : Int) < (nC : Int) := by omega
            have HBD := Lib.hid fun n => belowD HBV2.out n
            clear e3 HACC HABB
            go_wp2
            go_quiet (fail)
            go_wp2
            go_roundw
            case rel => exact ⟨i + 1, by omega, by go_num, Lib.hid (HBD.out _)⟩
            case measure => simp [intOf]; omega
          · have hlt' : ¬ (i : Int) < (nB : Int) := by omega
            clear HACC HABB
            go_wp2_with (go_at_call 10; (with_reducible refine (L1.out _).mono ?_); rintro e w9 ⟨rfl, hb9⟩)
            go_ret
            exact ⟨rfl, HBW.out.trans ((HB.out.mono hzw).trans (hb9.mono (by omega)))⟩
    · have hEB' : (EB != 0) = true := by rw [bne_iff_ne]; exact hEB
      rw [if_neg hEB] at sC
      simp only [] at sC
      obtain ⟨dn, hdd⟩ : ∃ dn, 1 + nd = dn := ⟨_, rfl⟩
      obtain ⟨m, hm⟩ : ∃ m, lnB + dn = m := ⟨_, rfl⟩
      rw [hdd, hm] at sC
      have q1e : (1 : Int) + (nd : Int) = (dn : Int) := by omega
      have q1w : IntKind.i64.wrap ((1 : Int) + (nd : Int)) = (dn : Int) := wrapN _ _ q1e (by omega)
      have q1v : IntKind.i64.wrap (dn : Int) = (dn : Int) := wrapN _ _ rfl (by omega)
      have q2e : (lnB : Int) + (dn : Int) = (m : Int) := by omega
      have q2w : IntKind.i64.wrap ((lnB : Int) + (dn : Int)) = (m : Int) := wrapN _ _ q2e (by omega)
      have q2v : IntKind.i64.wrap (m : Int) = (m : Int) := wrapN _ _ rfl (by omega)
      have SA := Lib.hid sA
      have SB := Lib.hid sB
      have SC := Lib.hid sC
      clear sA sB sC
      go_enter Tryd.func9, Tryd.ntmps9
      go_upto_region 4 with (go_at_call 12; (with_reducible refine (SA.out _ ?_).mono ?_); exact Below.refl _ _; rintro e wa ⟨vwa, rfl, hOwa, hbwa⟩)
      go_upto_region 5 with (go_at_call 12; (with_reducible refine (SB.out _ ?_).mono ?_); exact hbwa; rintro e wb ⟨vwb, rfl, hOwb, hbwb⟩)
      go_upto_region 6 with (go_at_call 12; (with_reducible refine (SC.out _ ?_).mono ?_); exact hbwa.trans (hbwb.mono hbwa.size); rintro e wc ⟨vwc, rfl, hOwc, hbwc⟩)
      obtain ⟨pC, capC, gC, oC, rfl, -, -, -⟩ := own_arg hOwc
      clear hdn
      go_wp2_with (first | (go_at_call 21; (with_reducible refine (C1.out _).mono ?_); rintro e w8 ⟨rfl, h8⟩; subst w8) | (go_at_call 10; (with_reducible refine (L1.out _).mono ?_); rintro e w9 ⟨rfl, hb9⟩))
      go_ret
      exact ⟨rfl, hbwa.trans ((hbwb.mono hbwa.size).trans ((hbwc.mono (by have := hbwa.size; have := hbwb.size; omega)).trans (hb9.mono (by have := hbwa.size; have := hbwb.size; have := hbwc.size; omega))))⟩
  · have hEA' : (EA != 0) = true := by rw [bne_iff_ne]; exact hEA
    rw [if_neg hEA] at sC
    have SA := Lib.hid sA
    have SB := Lib.hid sB
    have SC := Lib.hid sC
    clear sA sB sC
    go_enter Tryd.func9, Tryd.ntmps9
    go_upto_region 4 with (go_at_call 12; (with_reducible refine (SA.out _ ?_).mono ?_); exact Below.refl _ _; rintro e wa ⟨vwa, rfl, hOwa, hbwa⟩)
    go_upto_region 5 with (go_at_call 12; (with_reducible refine (SB.out _ ?_).mono ?_); exact hbwa; rintro e wb ⟨vwb, rfl, hOwb, hbwb⟩)
    go_upto_region 6 with (go_at_call 12; (with_reducible refine (SC.out _ ?_).mono ?_); exact hbwa.trans (hbwb.mono hbwa.size); rintro e wc ⟨vwc, rfl, hOwc, hbwc⟩)
    obtain ⟨pC, capC, gC, oC, rfl, -, -, -⟩ := own_arg hOwc
    go_wp2_with (first | (go_at_call 21; (with_reducible refine (C1.out _).mono ?_); rintro e w8 ⟨rfl, h8⟩; subst w8) | (go_at_call 10; (with_reducible refine (L1.out _).mono ?_); rintro e w9 ⟨rfl, hb9⟩))
    go_ret
    exact ⟨rfl, hbwa.trans ((hbwb.mono hbwa.size).trans ((hbwc.mono (by have := hbwa.size; have := hbwb.size; omega)).trans (hb9.mono (by have := hbwa.size; have := hbwb.size; have := hbwc.size; omega))))⟩

theorem reads (os : Os) {H : Type} (enc : TypeId × Value → H) : ∃ places, DataW.whole enc Tryd.prog ((World.laidAll Tryd.prog os L5).forCall (fun _ _ => 0) ⟨#[], #[.string ⟨#[49]⟩, .string ⟨#[49]⟩], []⟩).memory Tryd.f9.params.toList Rows.lexerApartSpec.vars false #[Value.string ⟨#[49]⟩, .string ⟨#[49]⟩].toList 8 = some ([.lit (.string [49]), .lit (.string [49])], [], places) :=
  ⟨[], by kernel_rfl⟩
set_option maxRecDepth 100000 in
theorem lifted (os : Os) (started : os.Started) (H : Type) (enc : TypeId × Value → H) (F : Stop.Interp) :
    ReturnsInHanded {} Tryd.checked os 9 .any ((OpenSpec.ofChange Rows.lexerApartSpec).preRow enc Tryd.prog Tryd.f9 Rows.lexerApartRow.domain false L5) (((OpenSpec.ofChange Rows.lexerApartSpec).at F).post enc Tryd.prog Tryd.f9 false true false false) := by
  obtain ⟨places, hx⟩ := reads os enc
  refine returnsInHanded_of_row (C := Tryd.checked) (s := OpenSpec.ofChange Rows.lexerApartSpec) own started (by kernel_rfl) Tryd.func9
    ⟨World.laidAll Tryd.prog os L5, fun _ _ => 0, ⟨#[], #[.string ⟨#[49]⟩, .string ⟨#[49]⟩], []⟩, World.laidAll_os _ _ _, wit_shaped os _, rfl, (Input.okWide_of_okWideB (by kernel_rfl)).2,
      OpenSpec.preRow_of_cond 8 hx (by kernel_rfl) (fun k hk => by cases hk) (by kernel_rfl) (laid_met os _), by
        simp only [Assume.holds]
        exact ⟨by simp, by simp, fun _ => Modest.zero, by simp, by simp⟩⟩ ?_
  intro W base args ds gs before hval0 hW _ _ _ hL hsh _
  have hE := env hL
  have hval : ∀ (j : Nat) t v, Tryd.f9.params[j]? = some t → args[j]? = some v → Value.okWide Tryd.prog W .any base t v := hval0
  have hW' := hW
  obtain ⟨p, q, hA0, hV, rfl, hfz, hnd⟩ := hW
  have hA : DataW.TrodAll enc Tryd.prog W 0 (fun _ => true) true Tryd.f9.params.toList args.toList ds p := hA0
  rw [Tryd.params9] at hA hval
  obtain ⟨v0, vs0, d0, ds0, p_0, q_0, hargs, rfl, rfl, h0, r0⟩ := trodAll_cons hA
  obtain ⟨v1, vs1, d1, ds1, p_1, q_1, rfl, rfl, rfl, h1, r1⟩ := trodAll_cons r0
  obtain ⟨rfl, rfl, rfl⟩ := trodAll_nil r1
  obtain rfl : args = #[v0, v1] := by cases args; simp_all
  obtain ⟨rfl, rfl⟩ := trodVars_none hV
  obtain ⟨s0, rfl, rfl, rfl, hm0⟩ := open_string Tryd.underlying9 (hval 0 9 v0 rfl rfl) h0
  obtain ⟨s1, rfl, rfl, rfl, hm1⟩ := open_string Tryd.underlying9 (hval 1 9 v1 rfl rfl) h1
  clear hA0 hval0
  simp only [List.append_nil] at hW'
  refine (walk s0 hm0 s1 hm1 W hE).mono fun e W' ⟨he, bel⟩ => ?_
  subst he
  exact ⟨_, rfl, _, _, _, [], [], [], hW', trodAll_mk1 (shut_bool Tryd.underlying4 _), (trodAll_cons_mk (shut_string Tryd.underlying9 hm0) (trodAll_cons_mk (shut_string Tryd.underlying9 hm1) trodAll_mk0)), rfl, bel.frame _, fun h => by cases h⟩

theorem said : Rows.LexerApartSaid :=
  OpenClaim.holds_of_cond 9 Tryd.f9 rfl rfl rfl rfl rfl rfl rfl ⟨rfl, rfl, rfl, rfl, rfl⟩ rfl rfl rfl rfl rfl (by kernel_rfl) Tryd.func9 (by kernel_rfl)
    (of_decide_eq_true (by kernel_rfl)) (by unfold Func.isWrapper; first | (rw [if_pos (by decide +kernel)]; kernel_rfl) | (rw [if_neg (by decide +kernel)]; exact ⟨rfl, rfl⟩))
    (fun os started H enc _ F => by rw [OpenClaim.pre_eq_preRow]; exact lifted os started H enc F)
theorem plain (f : FuncId) (fn : Func) (hf : Tryd.pinned.checked.prog.funcNamed "scripting/scriptinglaw03.LexerApart" = some f) (hfn : Tryd.pinned.checked.prog.funcs[f]? = some fn) :
    true = Tryd.pinned.checked.prog.looks [] ∧ ∀ (j : Nat) t, fn.params[j]? = some t → Tryd.pinned.checked.prog.wantsStandIn t = false := by
  obtain rfl : f = 9 := Option.some.inj ((show Tryd.prog.funcNamed "scripting/scriptinglaw03.LexerApart" = some 9 by kernel_rfl).symm.trans hf) |>.symm
  obtain rfl : fn = Tryd.f9 := (Option.some.inj (Tryd.func9.symm.trans hfn)).symm
  refine ⟨by kernel_rfl, fun j t ht => ?_⟩
  rw [Tryd.params9] at ht
  have hm : t ∈ [9, 9] := by simpa using Array.mem_of_getElem? ht
  have hall : ([9, 9].all fun u => !Tryd.prog.wantsStandIn u) = true := by kernel_rfl
  exact (show Tryd.prog.wantsStandIn t = false by simpa using List.all_eq_true.1 hall t hm)

/-- The given statement. -/
theorem proved : Rows.LexerApartCardSaid :=
  Claim7.holds_tied_plain_at .later [] _ _ _ _ said (fun _ h => by cases h) (by kernel_rfl) (fun _ h => by cases h) lexerApart_row_tie rfl ⟨rfl, rfl⟩ (by kernel_rfl) rfl plain (by kernel_rfl)
#print axioms proved
end Go.Proofs.YtbcbddglgfakpaaDoor.lexerApartLaw
