/- For every number n and byte c, a result of MaxString bytes is permitted and one byte more is not (c is no percent sign) No condition. -/
import Derived.Test.YtbdcmnhfmkefdaaGreatDoorFmtY
namespace Go.Proofs.YtbdcmnhfmkefdaaGreatDoor.formattingLongLaw
open Go.ChangeMaps (open_string shut_string)
open Go.ChangeShapes Go.WideShapes Go.ChangeAt Go.RowKit Go.Joins M1 M2 M9
set_option linter.unusedVariables false

theorem long_format (c : UInt8) (N : Nat) (t : List UInt8) (z : ByteArray) (hc : c ≠ 37) (hN : 0 < N) (hz : z.data.toList = t) : formatF (List.replicate N c ++ [37, 115]) ([(⟨3, 0, 0, z, 0⟩ : Ar)].map Ar.vl) = if 4096 < N + t.length then .error (0, 14) else .ok (List.replicate N c ++ t) := by
  unfold formatF
  rw [pieces_texts _ _ _ (by intro d hd; rw [List.eq_of_mem_replicate hd]; exact hc)]
  have hd : dirF [115] = some (⟨[], 115, false, false, false, 0, -1⟩, []) := by decide
  rw [show ([37, 115] : List UInt8) = 37 :: [115] from rfl, pieces_dir (by decide) hd, pieces_nil]
  simp only [Option.map_some, List.nil_append]
  have hne : List.replicate N c ≠ [] := by intro e; have := congrArg List.length e; simp at this; omega
  unfold withText
  rw [if_neg hne]
  simp only []
  have hw : writtenF ⟨[], 115, false, false, false, 0, -1⟩ (Ar.vl ⟨3, 0, 0, z, 0⟩) = some t := by
    unfold writtenF bareF begF Ar.vl vlu
    simp [firstF, signF, signedV, fillF, zerosV, padF, missF, hz]
    omega
  rw [fmtF_text rfl, if_pos (by first | rfl | trivial), fmtF_ok (by decide) (a := Ar.vl ⟨3, 0, 0, z, 0⟩) rfl hw, fmtF_nil]
  simp [textPc]

set_option maxHeartbeats 8000000 in
set_option maxRecDepth 100000 in
theorem walk (n0 : Int) (wn0 : (Lit.int .u16 n0).wf = true) (n1 : Int) (wn1 : (Lit.int .u8 n1).wf = true) (w : World) (he : E9 w)  :
    Calls Tryz.prog 10 #[.int .u16 n0, .int .u8 n1] w fun e w' => e = .returned (.bool true) ∧ Below w.heap.size w w' := by
  have hL := Lib.hid fun W (hb : Below w.heap.size w W) => lives9 W (he.on hb)
  have hn0 : 0 ≤ n0 ∧ n0 ≤ 65535 := by simpa [Lit.wf, IntKind.min, IntKind.max, IntKind.signed, IntKind.bits] using wn0
  have hn1 : 0 ≤ n1 ∧ n1 ≤ 255 := by simpa [Lit.wf, IntKind.min, IntKind.max, IntKind.signed, IntKind.bits] using wn1
  obtain ⟨N, rfl⟩ := Int.eq_ofNat_of_zero_le hn0.1
  obtain ⟨c, rfl⟩ : ∃ c : UInt8, n1 = (c.toNat : Int) := ⟨UInt8.ofNat n1.toNat, by simp; omega⟩
  clear wn0 wn1
  by_cases hc : c = 37
  · have e0 : ((c.toNat : Int) == 37) = true := by rw [hc]; rfl
    clear he hc
    go_enter Tryz.func10, Tryz.ntmps10
    go_wp2_with (go_at_call 11; (with_reducible refine (hL.out _ (Below.refl _ _)).mono ?_); rintro e w1 ⟨rfl, hb1⟩)
    go_ret
    exact ⟨rfl, hb1⟩
  · have e0 : ((c.toNat : Int) == 37) = false := by
      rw [beq_eq_false_iff_ne]; intro e; exact hc (UInt8.toNat_inj.1 (by simpa using (by omega : c.toNat = 37)))
    obtain ⟨k, hk⟩ : ∃ k : Nat, N % 99 = k := ⟨_, rfl⟩
    have hk99 : k < 99 := by rw [← hk]; exact Nat.mod_lt _ (by omega)
    obtain ⟨M, hM⟩ : ∃ M : Nat, 4096 - k = M := ⟨_, rfl⟩
    have q1 : (N : Int) % 99 = (k : Int) := by omega
    have q2 : (4096 : Int) - (k : Int) = (M : Int) := by omega
    have q3 : IntKind.i64.wrap (M : Int) = (M : Int) := IntWalk.i64_in _ (by omega)
    have QR : Hid (∀ w, Calls Tryz.prog 25 #[.string ⟨#[c]⟩, .int .i64 (M : Int)] w fun e w' => e = .returned (.string (bq (List.replicate M c))) ∧ Below w.heap.size w w') := Lib.hid fun w => rep9 c M w (by omega)
    have QX : Hid (∀ w, Calls Tryz.prog 25 #[.string ⟨#[120]⟩, .int .i64 (k : Int)] w fun e w' => e = .returned (.string (bq (List.replicate k 120))) ∧ Below w.heap.size w w') := Lib.hid fun w => rep9 120 k w (by omega)
    have hxl := bq_list (List.replicate M c)
    have hyl := bq_list (List.replicate k (120 : UInt8))
    have hxs : (bq (List.replicate M c)).size = M := by rw [bq_size, List.length_replicate]
    have hys : (bq (List.replicate k (120 : UInt8))).size = k := by rw [bq_size, List.length_replicate]
    have hxy : bq (List.replicate M c ++ List.replicate k 120) = bq (List.replicate M c) ++ bq (List.replicate k 120) := (bq_app _ _).symm
    have QG : Hid (∀ (z : ByteArray) R, z.size ≤ 1000 → formatF (List.replicate M c ++ [37, 115]) ([(⟨3, 0, 0, z, 0⟩ : Ar)].map Ar.vl) = R → ∀ W, Below w.heap.size w W → Calls Tryz.prog 15 #[.string (bq (List.replicate M c) ++ ⟨#[37, 115]⟩), .slice (some ⟨W.heap.size, 0, none⟩) 1 1] (W.alloc (.cells #[.int .i64 3, .int .i64 0, .int .i64 0, .string z, .int .i64 0] 46)) fun e w' => FmSaid R e ∧ Below w.heap.size w w') := Lib.hid fun z R hz hR W hb => by
      have hB : Blk 46 W.heap.size ([(⟨3, 0, 0, z, 0⟩ : Ar)].flatMap arC).toArray (W.alloc (.cells ([(⟨3, 0, 0, z, 0⟩ : Ar)].flatMap arC).toArray 46)) := Blk.new _ _ _ _ rfl
      have h1 := format_any (bq (List.replicate M c) ++ ⟨#[37, 115]⟩) (.slice (some ⟨W.heap.size, 0, none⟩) 1 1) [(⟨3, 0, 0, z, 0⟩ : Ar)] (W.alloc (.cells ([(⟨3, 0, 0, z, 0⟩ : Ar)].flatMap arC).toArray 46)) ((he.on hb).alloc _) (by rw [ByteArray.size_append, bq_size, List.length_replicate]; show M + 2 ≤ _; omega) (args_blk hB rfl) (by simp) (by intro a ha; simp at ha; subst ha; simp only []; omega)
      rw [ByteArray.data_append, Array.toList_append, bq_list, show (⟨#[37, 115]⟩ : ByteArray).data.toList = [37, 115] from rfl, hR] at h1
      exact h1.mono fun e w' ⟨h2, h3⟩ => ⟨h2, (hb.alloc hb.size _).trans (h3.mono (by have := hb.size; simp; omega))⟩
    have QF1 : Hid (∀ W, Below w.heap.size w W → Calls Tryz.prog 15 #[.string (bq (List.replicate M c) ++ ⟨#[37, 115]⟩), .slice (some ⟨W.heap.size, 0, none⟩) 1 1] (W.alloc (.cells #[.int .i64 3, .int .i64 0, .int .i64 0, .string (bq (List.replicate k 120)), .int .i64 0] 46)) fun e w' => e = .returned (.tuple #[.string (bq (List.replicate M c) ++ bq (List.replicate k 120)), .int .i64 0, .int .i64 0]) ∧ Below w.heap.size w w') := Lib.hid fun W hb => by
      have := QG.out (bq (List.replicate k 120)) _ (by omega) ((long_format c M (List.replicate k 120) _ hc (by omega) hyl).trans (if_neg (by rw [List.length_replicate]; omega))) W hb
      rw [← hxy]; exact this
    have QF2 : Hid (∀ W, Below w.heap.size w W → Calls Tryz.prog 15 #[.string (bq (List.replicate M c) ++ ⟨#[37, 115]⟩), .slice (some ⟨W.heap.size, 0, none⟩) 1 1] (W.alloc (.cells #[.int .i64 3, .int .i64 0, .int .i64 0, .string (bq (List.replicate k 120) ++ ⟨#[120]⟩), .int .i64 0] 46)) fun e w' => e = .returned (.tuple #[.string ⟨#[]⟩, .int .i64 0, .int .i64 14]) ∧ Below w.heap.size w w') := Lib.hid fun W hb => by
      exact QG.out (bq (List.replicate k 120) ++ ⟨#[120]⟩) _ (by rw [ByteArray.size_append, hys]; show k + 1 ≤ _; omega) ((long_format c M (List.replicate k 120 ++ [120]) _ hc (by omega) (by rw [ByteArray.data_append, Array.toList_append, hyl])).trans (if_pos (by rw [List.length_append, List.length_replicate]; simp; omega))) W hb
    have hx := run_convert_bytes_back (P := Tryz.prog) (w.alloc (.cells #[.int .u8 (c.toNat : Int)] 5)) 56 9 5 ⟨w.heap.size, 0, none⟩ 1 [c] Tryz.underlying56 Tryz.underlying5 Tryz.underlying9 (fun j hj => by
      obtain rfl : j = 0 := by simp at hj; omega
      rw [show (⟨w.heap.size, 0, none⟩ : Addr).add 0 = ⟨w.heap.size, 0, none⟩ from rfl]; simp)
    simp only [List.length_cons, List.length_nil, Nat.zero_add] at hx
    generalize bq (List.replicate M c) = x at *
    generalize bq (List.replicate k (120 : UInt8)) = y at *
    have QS1 := Lib.hid fun W => str9 y W
    have QS2 := Lib.hid fun W => str9 (y ++ ⟨#[120]⟩) W
    clear hxl hyl hxy QG hc he hk
    have hM2 := Lib.hid hM
    clear hM
    have hb0 : Below w.heap.size w (w.alloc (.cells #[.int .u8 (c.toNat : Int)] 5)) := (Below.refl _ _).alloc (Nat.le_refl _) _
    have HB0 := Lib.hid hb0
    clear hb0
    go_enter Tryz.func10, Tryz.ntmps10
    go_wp2_with (first | (go_at_call 25; (with_reducible refine (QR.out _).mono ?_); rintro e w1 ⟨rfl, hb1⟩; have H1 := Lib.hid (HB0.out.trans (hb1.mono (by simp)))) | (go_at_call 25; (with_reducible refine (QX.out _).mono ?_); rintro e w2 ⟨rfl, hb2⟩; have H2 := Lib.hid (H1.out.trans (hb2.mono H1.out.size))) | (go_at_call 22; (with_reducible refine (QS1.out _).mono ?_); rintro e w3 ⟨rfl, hb3⟩; have H3 := Lib.hid (H2.out.trans (hb3.mono H2.out.size))) | (go_at_call 15; (with_reducible refine (QF1.out _ H3.out).mono ?_); rintro e w4 ⟨rfl, hb4⟩) | (go_at_call 22; (with_reducible refine (QS2.out _).mono ?_); rintro e w5 ⟨rfl, hb5⟩; have H5 := Lib.hid (hb4.trans (hb5.mono hb4.size))) | (go_at_call 15; (with_reducible refine (QF2.out _ H5.out).mono ?_); rintro e w6 ⟨rfl, hb6⟩) | (go_at_call 11; (with_reducible refine (hL.out _ hb6).mono ?_); rintro e w7 ⟨rfl, hb7⟩))
    go_ret
    exact ⟨rfl, hb6.trans (hb7.mono hb6.size)⟩


theorem reads (os : Os) {H : Type} (enc : TypeId × Value → H) : ∃ places, DataW.whole enc Tryz.prog ((World.laidAll Tryz.prog os L5).forCall (fun _ _ => 0) ⟨#[], #[.int .u16 0, .int .u8 0], []⟩).memory Tryz.f10.params.toList Rows.formattingLongSpec.vars false #[Value.int .u16 0, .int .u8 0].toList 8 = some ([.lit (.int .u16 0), .lit (.int .u8 0)], [], places) :=
  ⟨[], by kernel_rfl⟩
set_option maxRecDepth 100000 in
theorem lifted (os : Os) (started : os.Started) (H : Type) (enc : TypeId × Value → H) (F : Stop.Interp) :
    ReturnsInHanded {} Tryz.checked os 10 .any ((OpenSpec.ofChange Rows.formattingLongSpec).preRow enc Tryz.prog Tryz.f10 Rows.formattingLongRow.domain false L5) (((OpenSpec.ofChange Rows.formattingLongSpec).at F).post enc Tryz.prog Tryz.f10 false true false false) := by
  obtain ⟨places, hx⟩ := reads os enc
  refine returnsInHanded_of_row (C := Tryz.checked) (s := OpenSpec.ofChange Rows.formattingLongSpec) own started (by kernel_rfl) Tryz.func10
    ⟨World.laidAll Tryz.prog os L5, fun _ _ => 0, ⟨#[], #[.int .u16 0, .int .u8 0], []⟩, World.laidAll_os _ _ _, wit_shaped os _, rfl, (Input.okWide_of_okWideB (by kernel_rfl)).2,
      OpenSpec.preRow_of_cond 8 hx (by kernel_rfl) (fun k hk => by cases hk) (by kernel_rfl) (laid_met os _), by
        simp only [Assume.holds]
        exact ⟨by simp, by simp, fun _ => Modest.zero, by simp, by simp⟩⟩ ?_
  intro W base args ds gs before hval0 hW _ _ _ hL hsh _
  have hE := env hL hsh
  have hval : ∀ (j : Nat) t v, Tryz.f10.params[j]? = some t → args[j]? = some v → Value.okWide Tryz.prog W .any base t v := hval0
  have hW' := hW
  obtain ⟨p, q, hA0, hV, rfl, hfz, hnd⟩ := hW
  have hA : DataW.TrodAll enc Tryz.prog W 0 (fun _ => true) true Tryz.f10.params.toList args.toList ds p := hA0
  rw [Tryz.params10] at hA hval
  obtain ⟨v0, vs0, d0, ds0, p_0, q_0, hargs, rfl, rfl, h0, r0⟩ := trodAll_cons hA
  obtain ⟨v1, vs1, d1, ds1, p_1, q_1, rfl, rfl, rfl, h1, r1⟩ := trodAll_cons r0
  obtain ⟨rfl, rfl, rfl⟩ := trodAll_nil r1
  obtain rfl : args = #[v0, v1] := by cases args; simp_all
  obtain ⟨rfl, rfl⟩ := trodVars_none hV
  obtain ⟨n0, rfl, rfl, rfl, wn0⟩ := open_int Tryz.underlying54 (hval 0 54 v0 rfl rfl) h0
  obtain ⟨n1, rfl, rfl, rfl, wn1⟩ := open_int Tryz.underlying5 (hval 1 5 v1 rfl rfl) h1
  clear hA0 hval0
  simp only [List.append_nil] at hW'
  refine (walk n0 wn0 n1 wn1 W hE ).mono fun e W' ⟨he, bel⟩ => ?_
  subst he
  exact ⟨_, rfl, _, _, _, [], [], [], hW', trodAll_mk1 (shut_bool Tryz.underlying4 _), (trodAll_cons_mk (shut_int Tryz.underlying54 wn0) (trodAll_cons_mk (shut_int Tryz.underlying5 wn1) trodAll_mk0)), rfl, bel.frame _, fun h => by cases h⟩

theorem said : Rows.FormattingLongSaid :=
  OpenClaim.holds_of_cond 10 Tryz.f10 rfl rfl rfl rfl rfl rfl rfl ⟨rfl, rfl, rfl, rfl, rfl⟩ rfl rfl rfl rfl rfl (by kernel_rfl) Tryz.func10 (by kernel_rfl)
    (of_decide_eq_true (by kernel_rfl)) (by unfold Func.isWrapper; first | (rw [if_pos (by decide +kernel)]; kernel_rfl) | (rw [if_neg (by decide +kernel)]; exact ⟨rfl, rfl⟩))
    (fun os started H enc _ F => by rw [OpenClaim.pre_eq_preRow]; exact lifted os started H enc F)
theorem plain (f : FuncId) (fn : Func) (hf : Tryz.pinned.checked.prog.funcNamed "scripting/scriptinglaw09.FormattingLong" = some f) (hfn : Tryz.pinned.checked.prog.funcs[f]? = some fn) :
    false = Tryz.pinned.checked.prog.looks [] ∧ ∀ (j : Nat) t, fn.params[j]? = some t → Tryz.pinned.checked.prog.wantsStandIn t = false := by
  obtain rfl : f = 10 := Option.some.inj ((show Tryz.prog.funcNamed "scripting/scriptinglaw09.FormattingLong" = some 10 by kernel_rfl).symm.trans hf) |>.symm
  obtain rfl : fn = Tryz.f10 := (Option.some.inj (Tryz.func10.symm.trans hfn)).symm
  refine ⟨by kernel_rfl, fun j t ht => ?_⟩
  rw [Tryz.params10] at ht
  have hm : t ∈ [54, 5] := by simpa using Array.mem_of_getElem? ht
  have hall : ([54, 5].all fun u => !Tryz.prog.wantsStandIn u) = true := by kernel_rfl
  exact (show Tryz.prog.wantsStandIn t = false by simpa using List.all_eq_true.1 hall t hm)

/-- The given statement. -/
theorem proved : Rows.FormattingLongCardSaid :=
  Claim7.holds_tied_plain_at .later [] _ _ _ _ said (fun _ h => by cases h) (by kernel_rfl) (fun _ h => by cases h) formattingLong_row_tie rfl ⟨rfl, rfl⟩ (by kernel_rfl) rfl plain (by kernel_rfl)
#print axioms proved
end Go.Proofs.YtbdcmnhfmkefdaaGreatDoor.formattingLongLaw
