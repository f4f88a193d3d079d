/- LexerAgain. No condition. -/
import Derived.Test.YtbcbddglgfakpaaDoorLexVe
namespace Go.Proofs.YtbcbddglgfakpaaDoor.lexerAgainLaw
open Go.ChangeMaps (open_string shut_string)
open Go.ChangeShapes Go.WideShapes Go.ChangeAt Go.RowKit Go.Joins M1 M2 M3
set_option linter.unusedVariables false

theorem litF_cons (q : UInt8) (f : Nat) : ∀ (l acc : List UInt8) (k : Nat), (litF q f l acc k).2.2 = 0 → (litF q f l acc k).1.length + k + 1 ≤ acc.length + (litF q f l acc k).2.1 := by
  induction f with
  | zero => intro l acc k h; exact absurd h ne40
  | succ f ih =>
    intro l acc k h
    match l with
    | [] => exact absurd h ne40
    | c :: t =>
      rw [litF_step] at h ⊢
      by_cases h1 : c = 10
      · rw [if_pos h1] at h; exact absurd h ne40
      rw [if_neg h1] at h ⊢
      by_cases h2 : c = q
      · rw [if_pos h2]; show acc.length + k + 1 ≤ acc.length + (k + 1); omega
      rw [if_neg h2] at h ⊢
      by_cases h3 : c = 92
      · rw [if_pos h3] at h ⊢
        by_cases h4 : (escR t).2.2 ≠ 0
        · rw [if_pos h4] at h; exact absurd h h4
        rw [if_neg h4] at h ⊢
        by_cases h5 : 4096 ≤ acc.length
        · rw [if_pos h5] at h; exact absurd h ne30
        rw [if_neg h5] at h ⊢
        have := ih _ _ _ h
        rw [List.length_append, List.length_singleton] at this
        omega
      rw [if_neg h3] at h ⊢
      by_cases h5 : 4096 ≤ acc.length
      · rw [if_pos h5] at h; exact absurd h ne30
      rw [if_neg h5] at h ⊢
      have := ih _ _ _ h
      rw [List.length_append, List.length_singleton] at this
      omega
theorem txt_len {d : List UInt8} (hd : d ≠ []) (h : (tkD d).E = 0) : (txt (tkD d).K (tkD d).x).length ≤ 4 * (tkD d).nx := by
  have hb := tkD_nx hd h
  by_cases hq : d.getD 0 0 = 34 ∨ d.getD 0 0 = 39
  · have e : tkD d = ⟨4, (litR d 0 (d.getD 0 0)).1, (litR d 0 (d.getD 0 0)).2.2, (litR d 0 (d.getD 0 0)).2.1⟩ := by unfold tkD tkR; rw [if_pos hq]
    rw [e] at h ⊢
    have hc := litF_cons (d.getD 0 0) _ _ [] (0 + 1) h
    have hl := qt_len (litR d 0 (d.getD 0 0)).1
    show (txt 4 (litR d 0 (d.getD 0 0)).1).length ≤ 4 * (litR d 0 (d.getD 0 0)).2.1
    have ht : txt 4 (litR d 0 (d.getD 0 0)).1 = qt (litR d 0 (d.getD 0 0)).1 := if_pos rfl
    rw [ht]
    have hc' : (litR d 0 (d.getD 0 0)).1.length + (0 + 1) + 1 ≤ ([] : List UInt8).length + (litR d 0 (d.getD 0 0)).2.1 := hc
    rw [List.length_nil] at hc'
    unfold qt
    rw [List.length_cons, List.length_append, List.length_singleton]
    omega
  · have e : tkD d = tokP d 0 (d.getD 0 0) := by unfold tkD tkR; rw [if_neg hq]
    have hk : (tkD d).K ≠ 4 := by
      rw [e]; unfold tokP
      split
      · show (3 : Int) ≠ 4; decide
      split
      · unfold namR
        split
        · show (1 : Int) ≠ 4; decide
        · show (if _ then (2 : Int) else 1) ≠ 4; split <;> decide
      · show (5 : Int) ≠ 4; decide
    have hx := tkD_text h hk
    have ht : txt (tkD d).K (tkD d).x = (tkD d).x := if_neg hk
    rw [ht, hx, List.length_take]
    omega
theorem jnT_cons (t : Tok) (ts : List Tok) : (jnT (t :: ts)).length ≤ (txt t.k t.x).length + 1 + (jnT ts).length := by
  match ts with
  | [] => show (txt t.k t.x).length ≤ _; omega
  | u :: ts => show (txt t.k t.x ++ 32 :: jnT (u :: ts)).length ≤ _; rw [List.length_append, List.length_cons]; omega
theorem lx_jlen (n : Nat) : ∀ (d : List UInt8) (a ln : Nat), d.length < n → (jnT (lx d a ln).1).length ≤ 5 * d.length := by
  induction n with
  | zero => intro d a ln h; omega
  | succ n ih =>
    intro d a ln hn
    rw [lx_eq]
    by_cases h0 : (sk d).1 = d.length
    · rw [if_pos h0]; exact Nat.zero_le _
    rw [if_neg h0]
    by_cases h1 : (tkE d).E = 0
    · have hb := tkE_nx h0 h1
      have hs := (sk_le d).2
      have ht := txt_len (d := d.drop (sk d).1) (by intro e; have := congrArg List.length e; rw [List.length_drop, List.length_nil] at this; omega) h1
      have i := ih ((d.drop (sk d).1).drop (tkE d).nx) (a + (sk d).1 + (tkE d).nx) (ln + (sk d).2) (by simp only [List.length_drop]; omega)
      simp only [List.length_drop] at i
      have ht' : (txt (tkE d).K (tkE d).x).length ≤ 4 * (tkE d).nx := ht
      rw [if_pos h1]
      unfold cmb
      split
      · have hc := jnT_cons ⟨(tkE d).K, (tkE d).x, ln + (sk d).2, a + (sk d).1⟩ (lx ((d.drop (sk d).1).drop (tkE d).nx) (a + (sk d).1 + (tkE d).nx) (ln + (sk d).2)).1
        refine Nat.le_trans hc ?_
        show (txt (tkE d).K (tkE d).x).length + 1 + _ ≤ _
        omega
      · exact Nat.zero_le _
    · rw [if_neg h1]; exact Nat.zero_le _
theorem argt_kept {w w' : World} {g o : Nat} {ts : List TI} (h : ArgT w g o ts) (hb : Below w.heap.size w w') (hg : 0 < ts.length → g < w.heap.size) : ArgT w' g o ts := fun j hj => h.kept hb (hg (by omega)) j hj
theorem lexR_again (l : List UInt8) (h : (lexR l).2.2 = 0) : ∃ us, lexR (joinL ((lexR l).1.map tiO)) = (us, 0, 0) ∧ us.length = (lexR l).1.length ∧ ∀ i (hi : i < us.length) (hj : i < (lexR l).1.length), us[i].k = (lexR l).1[i].k ∧ us[i].x = (lexR l).1[i].x ∧ us[i].ln = 1 := by
  obtain ⟨us, e1, e2, e3⟩ := lx_join (lexR l).1 0 1 (lexR_VT l)
  rw [jn_join, ← lexR_lx] at e1
  have hlen : us.length = (lexR l).1.length := by
    have := congrArg List.length e2
    rwa [List.length_map, List.length_map] at this
  refine ⟨us, e1, hlen, fun i hi hj => ?_⟩
  have : (us.map kx)[i]? = ((lexR l).1.map kx)[i]? := by rw [e2]
  rw [List.getElem?_map, List.getElem?_map, List.getElem?_eq_getElem hi, List.getElem?_eq_getElem hj] at this
  have := Option.some.inj this
  exact ⟨congrArg Prod.fst this, congrArg Prod.snd this, e3 _ (List.getElem_mem hi)⟩

set_option maxHeartbeats 16000000 in
set_option maxRecDepth 100000 in
theorem walk (s0 : ByteArray) (hm0 : s0.size ≤ maxLen) (w : World) (he : Vrs w) :
    Calls Tryd.prog 7 #[.string s0] w fun e w' => e = .returned (.bool true) ∧ Below w.heap.size w w' := by
  have L1 := Lib.hid lives_any
  have hll : s0.data.toList.length = s0.size := by simp
  by_cases hbig : 3000 < s0.size
  · have hbig' : 3000 < (s0.size : Int) := by omega
    go_enter Tryd.func7, Tryd.ntmps7
    go_wp2_with (go_at_call 10; (with_reducible refine (L1.out _).mono ?_); rintro e w9 ⟨rfl, hb9⟩)
    go_ret
    exact ⟨rfl, hb9⟩
  have hbig' : ¬ 3000 < (s0.size : Int) := by omega
  have sA := fun (W : World) (hb : Below w.heap.size w W) => scan3_any s0 W (by omega) (he.below hb he.lt)
  have hcA := lexR_count s0.data.toList
  have hbA := lexR_bad s0.data.toList
  have hvA := lexR_VT s0.data.toList
  have hag := lexR_again s0.data.toList
  have hjl : (joinL ((lexR s0.data.toList).1.map tiO)).length ≤ 5 * s0.size := by
    rw [← jn_join, lexR_lx, ← hll]; exact lx_jlen _ _ _ _ (Nat.lt_succ_self _)
  have hxs : ∀ t ∈ (lexR s0.data.toList).1, t.x.length ≤ 4096 := fun t ht => by
    have h2 := (lx_count _ s0.data.toList 0 1 (Nat.lt_succ_self _)).2 t (by rw [← lexR_lx]; exact ht)
    rcases h2 with h | h
    · omega
    · rcases hvA t ht with ⟨_, h3⟩ | ⟨h3, _⟩
      · exact h3
      · exact absurd h h3
  have sJ := fun (W : World) (hb : Below w.heap.size w W) => scan3_any (bs (joinL ((lexR s0.data.toList).1.map tiO))) W (by rw [bs_size]; omega) (he.below hb he.lt)
  rw [bs_list] at sJ
  rw [hll] at hcA
  generalize lexR s0.data.toList = RA at *
  obtain ⟨tsA, lnA, EA⟩ := RA
  simp only [] at sA sJ hcA hbA hag hjl hxs
  by_cases hEA : EA = 0
  · have hEA' : (EA != 0) = false := by rw [bne_eq_false_iff_eq]; exact hEA
    obtain ⟨us, e1, e2, e3⟩ := hag hEA
    rw [e1] at sJ
    simp only [] at sJ
    obtain ⟨nA, hnA⟩ : ∃ nA, tsA.length = nA := ⟨_, rfl⟩
    rw [hnA] at e2
    have hxt : ∀ t ∈ tsA.map tiO, t.x.size ≤ 5000 := fun t ht => by
      obtain ⟨u, hu, rfl⟩ := List.mem_map.1 ht
      have := hxs u hu
      show (bs u.x).size ≤ 5000
      rw [bs_size]; omega
    have SA := Lib.hid sA
    have SM := Lib.hid sJ
    clear sA sJ e1 hjl hag hbA hvA
    go_enter Tryd.func7, Tryd.ntmps7
    go_upto_region 6 with (go_at_call 12; (with_reducible refine (SA.out _ ?_).mono ?_); exact Below.refl _ _; rintro e wa ⟨va, rfl, hOa, hba⟩)
    obtain ⟨pA, capA, gA, oA, rfl, hPA, hGA, hAA⟩ := own_arg hOa
    have J0 := join_any pA gA oA capA (tsA.map tiO) wa (by rw [List.length_map]; exact hPA) hAA (by rw [List.length_map]; exact hGA) (by rw [List.length_map]; omega) hxt
    rw [List.length_map] at J0
    rw [hnA] at J0 hPA hGA
    rw [hnA]
    have J1 := Lib.hid J0
    clear J0 hxt
    generalize bs (joinL (tsA.map tiO)) = y at *
    go_upto_region 7 with (first | (go_at_call 19; (with_reducible refine (J1.out).mono ?_); rintro e wj ⟨rfl, hbj⟩) | (go_at_call 12; (with_reducible refine (SM.out _ ?_).mono ?_); exact hba.trans (hbj.mono hba.size); rintro e wm ⟨vm, rfl, hOm, hbm⟩))
    obtain ⟨pM, capM, gM, oM, rfl, hPM, hGM, hAM⟩ := own_arg hOm
    rw [e2] at hPM hGM
    rw [e2]
    have hza := hba.size
    have hzj := hbj.size
    have hzm := hbm.size
    have HAA := Lib.hid (argt_kept hAA (hbj.trans (hbm.mono hzj)) (by rw [List.length_map, hnA]; exact hGA))
    have HAM := Lib.hid hAM
    have HBW := Lib.hid (hba.trans ((hbj.mono hza).trans (hbm.mono (by omega : w.heap.size ≤ wj.heap.size))))
    have hzw : w.heap.size ≤ wm.heap.size := by omega
    clear hOa hOm hAA hAM hba hbj hbm SA SM J1
    go_wp2
    go_loopw [9] (fun v9 wr => ∃ i : Nat, i ≤ nA ∧ v9 = .int .i64 (i : Int) ∧ Hid (Below wm.heap.size wm wr)) (fun v9 _ => nA - (intOf v9).toNat)
    case atStart => exact ⟨0, Nat.zero_le _, rfl, Lib.hid (Below.refl _ _)⟩
    case round =>
      obtain ⟨i, hi, rfl, HB⟩ := hrel
      rename World => W0
      have hz0 := HB.out.size
      by_cases hlt : i < nA
      · have hlt' : (i : Int) < (nA : Int) := by omega
        have hpp := hPA (by omega)
        have hpq := hPM (by omega)
        subst hpp hpq
        have hga := hGA (by omega)
        have hgm := hGM (by omega)
        have hia : i < tsA.length := by omega
        have him : i < us.length := by omega
        have hA' := HAA.out.kept HB.out (by omega) i (by rw [List.length_map]; exact hia)
        have hM' := HAM.out.kept HB.out (by omega) i (by rw [List.length_map]; exact him)
        obtain ⟨g1, g2, g3⟩ := e3 i him hia
        rw [List.getElem_map] at hA' hM'
        obtain ⟨a0, a1, a2, a3⟩ := hA'
        obtain ⟨b0, b1, b2, b3⟩ := hM'
        simp only [tiO] at a0 a1 a2 a3 b0 b1 b2 b3
        rw [g1] at b0
        rw [g2] at b1
        rw [g3] at b2
        generalize tsA[i] = t at *
        generalize us[i] = u at *
        clear g1 g2 g3 e3 a2 a3 b3
        have HBD := Lib.hid fun n => belowD HB.out n
        go_wp2
        go_quiet (fail)
        go_wp2
        go_roundw
        case rel => exact ⟨i + 1, by omega, by go_num, Lib.hid (HBD.out _)⟩
        case measure => simp [intOf]; omega
      · have hlt' : ¬ (i : Int) < (nA : Int) := by omega
        clear HAA HAM
        go_wp2_with (go_at_call 10; (with_reducible refine (L1.out _).mono ?_); rintro e w9 ⟨rfl, hb9⟩)
        go_ret
        exact ⟨rfl, HBW.out.trans ((HB.out.mono hzw).trans (hb9.mono (by omega)))⟩
  · have hEA' : (EA != 0) = true := by rw [bne_iff_ne]; exact hEA
    have h0 := hbA hEA
    subst h0
    have SA := Lib.hid sA
    clear sA sJ hjl hag hbA hvA
    go_enter Tryd.func7, Tryd.ntmps7
    go_upto_region 4 with (go_at_call 12; (with_reducible refine (SA.out _ ?_).mono ?_); exact Below.refl _ _; rintro e wa ⟨va, rfl, hOa, hba⟩)
    obtain ⟨pA, capA, gA, oA, rfl, hPA, hGA, hAA⟩ := own_arg hOa
    clear hAA hOa SA
    go_wp2_with (go_at_call 10; (with_reducible refine (L1.out _).mono ?_); rintro e w9 ⟨rfl, hb9⟩)
    go_ret
    exact ⟨rfl, hba.trans (hb9.mono hba.size)⟩

theorem reads (os : Os) {H : Type} (enc : TypeId × Value → H) : ∃ places, DataW.whole enc Tryd.prog ((World.laidAll Tryd.prog os L5).forCall (fun _ _ => 0) ⟨#[], #[.string ⟨#[49]⟩], []⟩).memory Tryd.f7.params.toList Rows.lexerAgainSpec.vars false #[Value.string ⟨#[49]⟩].toList 8 = some ([.lit (.string [49])], [], places) :=
  ⟨[], by kernel_rfl⟩
set_option maxRecDepth 100000 in
theorem lifted (os : Os) (started : os.Started) (H : Type) (enc : TypeId × Value → H) (F : Stop.Interp) :
    ReturnsInHanded {} Tryd.checked os 7 .any ((OpenSpec.ofChange Rows.lexerAgainSpec).preRow enc Tryd.prog Tryd.f7 Rows.lexerAgainRow.domain false L5) (((OpenSpec.ofChange Rows.lexerAgainSpec).at F).post enc Tryd.prog Tryd.f7 false true false false) := by
  obtain ⟨places, hx⟩ := reads os enc
  refine returnsInHanded_of_row (C := Tryd.checked) (s := OpenSpec.ofChange Rows.lexerAgainSpec) own started (by kernel_rfl) Tryd.func7
    ⟨World.laidAll Tryd.prog os L5, fun _ _ => 0, ⟨#[], #[.string ⟨#[49]⟩], []⟩, World.laidAll_os _ _ _, wit_shaped os _, rfl, (Input.okWide_of_okWideB (by kernel_rfl)).2,
      OpenSpec.preRow_of_cond 8 hx (by kernel_rfl) (fun k hk => by cases hk) (by kernel_rfl) (laid_met os _), by
        simp only [Assume.holds]
        exact ⟨by simp, by simp, fun _ => Modest.zero, by simp, by simp⟩⟩ ?_
  intro W base args ds gs before hval0 hW _ _ _ hL hsh _
  have hE := env hL
  have hval : ∀ (j : Nat) t v, Tryd.f7.params[j]? = some t → args[j]? = some v → Value.okWide Tryd.prog W .any base t v := hval0
  have hW' := hW
  obtain ⟨p, q, hA0, hV, rfl, hfz, hnd⟩ := hW
  have hA : DataW.TrodAll enc Tryd.prog W 0 (fun _ => true) true Tryd.f7.params.toList args.toList ds p := hA0
  rw [Tryd.params7] at hA hval
  obtain ⟨v0, vs0, d0, ds0, p_0, q_0, hargs, rfl, rfl, h0, r0⟩ := trodAll_cons hA
  obtain ⟨rfl, rfl, rfl⟩ := trodAll_nil r0
  obtain rfl : args = #[v0] := by cases args; simp_all
  obtain ⟨rfl, rfl⟩ := trodVars_none hV
  obtain ⟨s0, rfl, rfl, rfl, hm0⟩ := open_string Tryd.underlying9 (hval 0 9 v0 rfl rfl) h0
  clear hA0 hval0
  simp only [List.append_nil] at hW'
  refine (walk s0 hm0 W hE).mono fun e W' ⟨he, bel⟩ => ?_
  subst he
  exact ⟨_, rfl, _, _, _, [], [], [], hW', trodAll_mk1 (shut_bool Tryd.underlying4 _), (trodAll_cons_mk (shut_string Tryd.underlying9 hm0) trodAll_mk0), rfl, bel.frame _, fun h => by cases h⟩

theorem said : Rows.LexerAgainSaid :=
  OpenClaim.holds_of_cond 7 Tryd.f7 rfl rfl rfl rfl rfl rfl rfl ⟨rfl, rfl, rfl, rfl, rfl⟩ rfl rfl rfl rfl rfl (by kernel_rfl) Tryd.func7 (by kernel_rfl)
    (of_decide_eq_true (by kernel_rfl)) (by unfold Func.isWrapper; first | (rw [if_pos (by decide +kernel)]; kernel_rfl) | (rw [if_neg (by decide +kernel)]; exact ⟨rfl, rfl⟩))
    (fun os started H enc _ F => by rw [OpenClaim.pre_eq_preRow]; exact lifted os started H enc F)
theorem plain (f : FuncId) (fn : Func) (hf : Tryd.pinned.checked.prog.funcNamed "scripting/scriptinglaw03.LexerAgain" = some f) (hfn : Tryd.pinned.checked.prog.funcs[f]? = some fn) :
    true = Tryd.pinned.checked.prog.looks [] ∧ ∀ (j : Nat) t, fn.params[j]? = some t → Tryd.pinned.checked.prog.wantsStandIn t = false := by
  obtain rfl : f = 7 := Option.some.inj ((show Tryd.prog.funcNamed "scripting/scriptinglaw03.LexerAgain" = some 7 by kernel_rfl).symm.trans hf) |>.symm
  obtain rfl : fn = Tryd.f7 := (Option.some.inj (Tryd.func7.symm.trans hfn)).symm
  refine ⟨by kernel_rfl, fun j t ht => ?_⟩
  rw [Tryd.params7] at ht
  have hm : t ∈ [9] := by simpa using Array.mem_of_getElem? ht
  have hall : ([9].all fun u => !Tryd.prog.wantsStandIn u) = true := by kernel_rfl
  exact (show Tryd.prog.wantsStandIn t = false by simpa using List.all_eq_true.1 hall t hm)

/-- The given statement. -/
theorem proved : Rows.LexerAgainCardSaid :=
  Claim7.holds_tied_plain_at .later [] _ _ _ _ said (fun _ h => by cases h) (by kernel_rfl) (fun _ h => by cases h) lexerAgain_row_tie rfl ⟨rfl, rfl⟩ (by kernel_rfl) rfl plain (by kernel_rfl)
#print axioms proved
end Go.Proofs.YtbcbddglgfakpaaDoor.lexerAgainLaw
