/- NumeralReturns. No condition. -/
import Derived.Test.YtplfdfpnplhonaaDoorNumY
namespace Go.Proofs.YtplfdfpnplhonaaDoor.numeralReturnsLaw
open Go.ChangeMaps (open_string shut_string)
open Go.ChangeShapes Go.WideShapes Go.ChangeAt Go.RowKit Go.Joins M1 M2
set_option linter.unusedVariables false


theorem text_len {p q : Int} (h : vld p q = true) : (textR p q).length ≤ 100 := by
  obtain ⟨h1, h2, h3, h4, _⟩ := vld_iff.1 h
  have hp := Lib.itoa_length_le p (by omega) (by omega)
  have hq := Lib.itoa_length_le q (by omega) (by omega)
  unfold textR
  rw [if_pos h]
  split
  · omega
  · rw [List.length_append, List.length_cons]; omega

set_option maxHeartbeats 4000000 in
theorem D0 (p q : Int) (hv : vld p q = false) (w : World) (he : Env w) :
    Calls Tryd.prog 8 #[.agg #[.int .i64 p, .int .i64 q]] w fun e w' => e = .returned (.bool true) ∧ Below w.heap.size w w' := by
  have HE := Lib.hid (he.alloc (.cells #[.int .i64 p, .int .i64 q] 23))
  have V1 : Hid (∀ w, Calls Tryd.prog 24 #[.agg #[.int .i64 p, .int .i64 q]] w fun e w' => e = .returned (.bool false) ∧ Below w.heap.size w w') := Lib.hid fun w => by have h := rvalid_any p q w; rw [hv] at h; exact h
  have T1 : Hid (∀ w, Env w → Calls Tryd.prog 12 #[.agg #[.int .i64 p, .int .i64 q]] w fun e w' => e = .returned (.string ⟨#[110, 97, 110]⟩) ∧ Below w.heap.size w w') := Lib.hid fun w he => by
    have h := text_any p q w he
    rw [show textR p q = [110, 97, 110] by unfold textR; rw [if_neg (by simp [hv])]] at h
    exact h
  clear he hv
  go_enter Tryd.func8, Tryd.ntmps8
  go_wp2_with (first | (go_at_call 24; (with_reducible refine (V1.out _).mono ?_); rintro e w1 ⟨rfl, hb1⟩; obtain ⟨hc1, hf1⟩ := bcell hb1; have hz1 := hb1.size; (try simp at hz1); have k10 : w1.cell? ⟨w.heap.size, 0, none⟩ = some (.int .i64 p) := (by go_simp); have k11 : w1.cell? ⟨w.heap.size, 1, none⟩ = some (.int .i64 q) := (by go_simp); have HE1 := Lib.hid (HE.out.on hb1)) | (go_at_call 12; (with_reducible refine (T1.out _ HE1.out).mono ?_); rintro e w2 ⟨rfl, hb2⟩; obtain ⟨hc2, hf2⟩ := bcell hb2; have hz2 := hb2.size; (try simp at hz2); have HE2 := Lib.hid (HE1.out.on hb2)) | (go_at_call 14; (with_reducible refine (awake_any _ HE2.out).mono ?_); rintro e w3 ⟨rfl, hb3⟩; obtain ⟨hc3, hf3⟩ := bcell hb3; have hz3 := hb3.size; (try simp at hz3); ))
  go_ret
  refine ⟨rfl, ?_⟩
  repeat (first | exact Below.refl _ _ | refine below_drewN ?_ _ | refine Below.drew ?_ | refine Below.setCell ?_ (by first | omega | (simp; done) | (simp; omega)) _ | refine Below.alloc ?_ (by first | omega | (simp; done) | (simp; omega)) _ | refine below_step (by assumption) (by first | omega | (simp; done) | (simp; omega)) ?_)

set_option maxHeartbeats 4000000 in
theorem D1 (p q : Int) (hp : p < 0) (h1 : -2147483647 ≤ p) (h2 : p ≤ 2147483647) (t : ByteArray) (ht : t.size ≤ 100) (w : World) (he : Env w)
    (V1 : Hid (∀ w, Calls Tryd.prog 24 #[.agg #[.int .i64 p, .int .i64 q]] w fun e w' => e = .returned (.bool true) ∧ Below w.heap.size w w'))
    (T1 : Hid (∀ w, Env w → Calls Tryd.prog 12 #[.agg #[.int .i64 p, .int .i64 q]] w fun e w' => e = .returned (.string t) ∧ Below w.heap.size w w'))
    (P1 : Hid (∀ w, Env w → Calls Tryd.prog 16 #[.string (⟨#[9]⟩ ++ t ++ ⟨#[32, 10]⟩)] w fun e w' => e = .returned (.tuple #[.agg #[.int .i64 p, .int .i64 q], .int .i64 0]) ∧ Below w.heap.size w w'))
    : Calls Tryd.prog 8 #[.agg #[.int .i64 p, .int .i64 q]] w fun e w' => e = .returned (.bool true) ∧ Below w.heap.size w w' := by
  have HE := Lib.hid (he.alloc (.cells #[.int .i64 p, .int .i64 q] 23))
  have a1 : ∀ W, (Op.stringOp .add ⟨#[9]⟩ t).run Tryd.prog W = .ok (.string (⟨#[9]⟩ ++ t)) W := fun W => run_string_add_sum (w := W) _ _ (by show 1 + t.size ≤ _; omega)
  have a2 : ∀ W, (Op.stringOp .add (⟨#[9]⟩ ++ t) ⟨#[32, 10]⟩).run Tryd.prog W = .ok (.string (⟨#[9]⟩ ++ t ++ ⟨#[32, 10]⟩)) W := fun W => run_string_add_sum (w := W) _ _ (by rw [ByteArray.size_append]; show 1 + t.size + 2 ≤ _; omega)
  have a3 : ∀ W, (Op.stringOp .add ⟨#[45]⟩ t).run Tryd.prog W = .ok (.string (⟨#[45]⟩ ++ t)) W := fun W => run_string_add_sum (w := W) _ _ (by show 1 + t.size ≤ _; omega)
  clear he
  go_enter Tryd.func8, Tryd.ntmps8
  go_wp2_with (first | (go_at_call 24; (with_reducible refine (V1.out _).mono ?_); rintro e w1 ⟨rfl, hb1⟩; obtain ⟨hc1, hf1⟩ := bcell hb1; have hz1 := hb1.size; (try simp at hz1); have y10 : w.heap.size < w1.heap.size := (by omega); have k10 : w1.cell? ⟨w.heap.size, 0, none⟩ = some (.int .i64 p) := (by go_simp); have k11 : w1.cell? ⟨w.heap.size, 1, none⟩ = some (.int .i64 q) := (by go_simp); have HE1 := Lib.hid (HE.out.on hb1)) | (go_at_call 12; (with_reducible refine (T1.out _ HE1.out).mono ?_); rintro e w2 ⟨rfl, hb2⟩; obtain ⟨hc2, hf2⟩ := bcell hb2; have hz2 := hb2.size; (try simp at hz2); have y21 : w.heap.size < w2.heap.size := (by omega); have k20 : w2.cell? ⟨w.heap.size, 0, none⟩ = some (.int .i64 p) := (by go_simp); have k21 : w2.cell? ⟨w.heap.size, 1, none⟩ = some (.int .i64 q) := (by go_simp); have HE2 := Lib.hid (HE1.out.on hb2)) | (go_at_call 16; (with_reducible refine (P1.out _ HE2.out).mono ?_); rintro e w3 ⟨rfl, hb3⟩; obtain ⟨hc3, hf3⟩ := bcell hb3; have hz3 := hb3.size; (try simp at hz3); have y31 : w.heap.size < w3.heap.size := (by omega); have k30 : w3.cell? ⟨w.heap.size, 0, none⟩ = some (.int .i64 p) := (by go_simp); have k31 : w3.cell? ⟨w.heap.size, 1, none⟩ = some (.int .i64 q) := (by go_simp); have HE3 := Lib.hid ((HE2.out.on hb3).alloc (.cells #[.int .i64 p, .int .i64 q] 23))) | (go_at_call 14; (with_reducible refine (awake_any _ HE3.out).mono ?_); rintro e w6 ⟨rfl, hb6⟩; obtain ⟨hc6, hf6⟩ := bcell hb6; have hz6 := hb6.size; (try simp at hz6); ))
  go_ret
  refine ⟨rfl, ?_⟩
  repeat (first | exact Below.refl _ _ | refine below_drewN ?_ _ | refine Below.drew ?_ | refine Below.setCell ?_ (by first | omega | (simp; done) | (simp; omega)) _ | refine Below.alloc ?_ (by first | omega | (simp; done) | (simp; omega)) _ | refine below_step (by assumption) (by first | omega | (simp; done) | (simp; omega)) ?_)

set_option maxHeartbeats 4000000 in
theorem D2 (p q : Int) (hp : 0 ≤ p) (h1 : -2147483647 ≤ p) (h2 : p ≤ 2147483647) (t : ByteArray) (ht : t.size ≤ 100) (w : World) (he : Env w)
    (V1 : Hid (∀ w, Calls Tryd.prog 24 #[.agg #[.int .i64 p, .int .i64 q]] w fun e w' => e = .returned (.bool true) ∧ Below w.heap.size w w'))
    (T1 : Hid (∀ w, Env w → Calls Tryd.prog 12 #[.agg #[.int .i64 p, .int .i64 q]] w fun e w' => e = .returned (.string t) ∧ Below w.heap.size w w'))
    (P1 : Hid (∀ w, Env w → Calls Tryd.prog 16 #[.string (⟨#[9]⟩ ++ t ++ ⟨#[32, 10]⟩)] w fun e w' => e = .returned (.tuple #[.agg #[.int .i64 p, .int .i64 q], .int .i64 0]) ∧ Below w.heap.size w w'))
    (P2 : Hid (∀ w, Env w → Calls Tryd.prog 16 #[.string (⟨#[45]⟩ ++ t)] w fun e w' => e = .returned (.tuple #[.agg #[.int .i64 (-p), .int .i64 q], .int .i64 0]) ∧ Below w.heap.size w w'))
    (N1 : Hid (∀ w, Calls Tryd.prog 25 #[.agg #[.int .i64 p, .int .i64 q]] w fun e w' => e = .returned (.tuple #[.agg #[.int .i64 (-p), .int .i64 q], .int .i64 0]) ∧ Below w.heap.size w w'))
    : Calls Tryd.prog 8 #[.agg #[.int .i64 p, .int .i64 q]] w fun e w' => e = .returned (.bool true) ∧ Below w.heap.size w w' := by
  have HE := Lib.hid (he.alloc (.cells #[.int .i64 p, .int .i64 q] 23))
  have a1 : ∀ W, (Op.stringOp .add ⟨#[9]⟩ t).run Tryd.prog W = .ok (.string (⟨#[9]⟩ ++ t)) W := fun W => run_string_add_sum (w := W) _ _ (by show 1 + t.size ≤ _; omega)
  have a2 : ∀ W, (Op.stringOp .add (⟨#[9]⟩ ++ t) ⟨#[32, 10]⟩).run Tryd.prog W = .ok (.string (⟨#[9]⟩ ++ t ++ ⟨#[32, 10]⟩)) W := fun W => run_string_add_sum (w := W) _ _ (by rw [ByteArray.size_append]; show 1 + t.size + 2 ≤ _; omega)
  have a3 : ∀ W, (Op.stringOp .add ⟨#[45]⟩ t).run Tryd.prog W = .ok (.string (⟨#[45]⟩ ++ t)) W := fun W => run_string_add_sum (w := W) _ _ (by show 1 + t.size ≤ _; omega)
  clear he
  go_enter Tryd.func8, Tryd.ntmps8
  go_wp2_with (first | (go_at_call 24; (with_reducible refine (V1.out _).mono ?_); rintro e w1 ⟨rfl, hb1⟩; obtain ⟨hc1, hf1⟩ := bcell hb1; have hz1 := hb1.size; (try simp at hz1); have y10 : w.heap.size < w1.heap.size := (by omega); have k10 : w1.cell? ⟨w.heap.size, 0, none⟩ = some (.int .i64 p) := (by go_simp); have k11 : w1.cell? ⟨w.heap.size, 1, none⟩ = some (.int .i64 q) := (by go_simp); have HE1 := Lib.hid (HE.out.on hb1)) | (go_at_call 12; (with_reducible refine (T1.out _ HE1.out).mono ?_); rintro e w2 ⟨rfl, hb2⟩; obtain ⟨hc2, hf2⟩ := bcell hb2; have hz2 := hb2.size; (try simp at hz2); have y21 : w.heap.size < w2.heap.size := (by omega); have k20 : w2.cell? ⟨w.heap.size, 0, none⟩ = some (.int .i64 p) := (by go_simp); have k21 : w2.cell? ⟨w.heap.size, 1, none⟩ = some (.int .i64 q) := (by go_simp); have HE2 := Lib.hid (HE1.out.on hb2)) | (go_at_call 16; (with_reducible refine (P1.out _ HE2.out).mono ?_); rintro e w3 ⟨rfl, hb3⟩; obtain ⟨hc3, hf3⟩ := bcell hb3; have hz3 := hb3.size; (try simp at hz3); have y31 : w.heap.size < w3.heap.size := (by omega); have k30 : w3.cell? ⟨w.heap.size, 0, none⟩ = some (.int .i64 p) := (by go_simp); have k31 : w3.cell? ⟨w.heap.size, 1, none⟩ = some (.int .i64 q) := (by go_simp); have HE3 := Lib.hid ((HE2.out.on hb3).alloc (.cells #[.int .i64 p, .int .i64 q] 23))) | (go_at_call 16; (with_reducible refine (P2.out _ HE3.out).mono ?_); rintro e w4 ⟨rfl, hb4⟩; obtain ⟨hc4, hf4⟩ := bcell hb4; have hz4 := hb4.size; (try simp at hz4); have y43 : w3.heap.size < w4.heap.size := (by omega); have y41 : w.heap.size < w4.heap.size := (by omega); have k40 : w4.cell? ⟨w.heap.size, 0, none⟩ = some (.int .i64 p) := (by go_simp); have k41 : w4.cell? ⟨w.heap.size, 1, none⟩ = some (.int .i64 q) := (by go_simp); have HE4 := Lib.hid ((HE3.out.on hb4).alloc (.cells #[.int .i64 (-p), .int .i64 q] 23))) | (go_at_call 25; (with_reducible refine (N1.out _).mono ?_); rintro e w5 ⟨rfl, hb5⟩; obtain ⟨hc5, hf5⟩ := bcell hb5; have hz5 := hb5.size; (try simp at hz5); have y54 : w4.heap.size < w5.heap.size := (by omega); have y51 : w.heap.size < w5.heap.size := (by omega); have k50 : w5.cell? ⟨w4.heap.size, 0, none⟩ = some (.int .i64 (-p)) := (by go_simp); have k51 : w5.cell? ⟨w4.heap.size, 1, none⟩ = some (.int .i64 q) := (by go_simp); have HE5 := Lib.hid ((HE4.out.on hb5).alloc (.cells #[.int .i64 (-p), .int .i64 q] 23))) | (go_at_call 14; (with_reducible refine (awake_any _ HE5.out).mono ?_); rintro e w6 ⟨rfl, hb6⟩; obtain ⟨hc6, hf6⟩ := bcell hb6; have hz6 := hb6.size; (try simp at hz6); ))
  go_ret
  refine ⟨rfl, ?_⟩
  repeat (first | exact Below.refl _ _ | refine below_drewN ?_ _ | refine Below.drew ?_ | refine Below.setCell ?_ (by first | omega | (simp; done) | (simp; omega)) _ | refine Below.alloc ?_ (by first | omega | (simp; done) | (simp; omega)) _ | refine below_step (by assumption) (by first | omega | (simp; done) | (simp; omega)) ?_)

set_option maxHeartbeats 4000000 in
theorem walk (p0 q0 : Int) (wp0 : (Lit.int .i64 p0).wf = true) (wq0 : (Lit.int .i64 q0).wf = true) (w : World) (he : Env w) :
    Calls Tryd.prog 8 #[.agg #[.int .i64 p0, .int .i64 q0]] w fun e w' => e = .returned (.bool true) ∧ Below w.heap.size w w' := by
  cases hv : vld p0 q0 with
  | false => exact D0 p0 q0 hv w he
  | true =>
    obtain ⟨b1, b2, b3, b4, _⟩ := vld_iff.1 hv
    have hl := text_len hv
    have r1 := returns1 hv
    have hs : (mkB (textR p0 q0)).size ≤ 100 := by rw [mkB_size]; exact hl
    have V1 := fun w => rvalid_any p0 q0 w
    rw [hv] at V1
    have T1 : ∀ w, Env w → _ := fun w he => text_any p0 q0 w he
    have e1 : (⟨#[9]⟩ ++ mkB (textR p0 q0) ++ ⟨#[32, 10]⟩ : ByteArray).data.toList = [9] ++ textR p0 q0 ++ [32, 10] := by
      rw [ByteArray.data_append, ByteArray.data_append, Array.toList_append, Array.toList_append, mkB_list]
    have P1 : ∀ w, Env w → _ := fun w he => parse_any (⟨#[9]⟩ ++ mkB (textR p0 q0) ++ ⟨#[32, 10]⟩) w (by rw [ByteArray.size_append, ByteArray.size_append]; show 1 + _ + 2 ≤ _; omega) he
    rw [e1, r1] at P1
    by_cases hp : p0 < 0
    · exact D1 p0 q0 hp b3 b4 _ hs w he (Lib.hid V1) (Lib.hid T1) (Lib.hid P1)
    · have r2 := returns2 hv (by omega)
      have e2 : (⟨#[45]⟩ ++ mkB (textR p0 q0) : ByteArray).data.toList = [45] ++ textR p0 q0 := by
        rw [ByteArray.data_append, Array.toList_append, mkB_list]
      have P2 : ∀ w, Env w → _ := fun w he => parse_any (⟨#[45]⟩ ++ mkB (textR p0 q0)) w (by rw [ByteArray.size_append]; show 1 + _ ≤ _; omega) he
      rw [e2, r2] at P2
      have N1 := fun w => neg_any p0 q0 w
      rw [show negR p0 q0 = ⟨-p0, q0, 0⟩ from if_pos hv] at N1
      exact D2 p0 q0 (by omega) b3 b4 _ hs w he (Lib.hid V1) (Lib.hid T1) (Lib.hid P1) (Lib.hid P2) (Lib.hid N1)

theorem reads (os : Os) {H : Type} (enc : TypeId × Value → H) : ∃ places, DataW.whole enc Tryd.prog ((World.laidAll Tryd.prog os L5).forCall (fun _ _ => 0) ⟨#[], #[.agg #[.int .i64 1, .int .i64 1]], []⟩).memory Tryd.f8.params.toList Rows.numeralReturnsSpec.vars false #[Value.agg #[.int .i64 1, .int .i64 1]].toList 8 = some ([.agg [.lit (.int .i64 1), .lit (.int .i64 1)]], [], places) :=
  ⟨[], by kernel_rfl⟩
set_option maxRecDepth 100000 in
theorem lifted (os : Os) (started : os.Started) (H : Type) (enc : TypeId × Value → H) (F : Stop.Interp) :
    ReturnsInHanded {} Tryd.checked os 8 .any ((OpenSpec.ofChange Rows.numeralReturnsSpec).preRow enc Tryd.prog Tryd.f8 Rows.numeralReturnsRow.domain false L5) (((OpenSpec.ofChange Rows.numeralReturnsSpec).at F).post enc Tryd.prog Tryd.f8 false true false false) := by
  obtain ⟨places, hx⟩ := reads os enc
  refine returnsInHanded_of_row (C := Tryd.checked) (s := OpenSpec.ofChange Rows.numeralReturnsSpec) own started (by kernel_rfl) Tryd.func8
    ⟨World.laidAll Tryd.prog os L5, fun _ _ => 0, ⟨#[], #[.agg #[.int .i64 1, .int .i64 1]], []⟩, World.laidAll_os _ _ _, wit_shaped os _, rfl, (Input.okWide_of_okWideB (by kernel_rfl)).2,
      OpenSpec.preRow_of_cond 8 hx (by kernel_rfl) (fun k hk => by cases hk) (by kernel_rfl) (laid_met os _), by
        simp only [Assume.holds]
        exact ⟨by simp, by simp, fun _ => Modest.zero, by simp, by simp⟩⟩ ?_
  intro W base args ds gs before hval0 hW _ _ _ hL hsh _
  have hE := env hL hsh
  have hval : ∀ (j : Nat) t v, Tryd.f8.params[j]? = some t → args[j]? = some v → Value.okWide Tryd.prog W .any base t v := hval0
  have hW' := hW
  obtain ⟨p, q, hA0, hV, rfl, hfz, hnd⟩ := hW
  have hA : DataW.TrodAll enc Tryd.prog W 0 (fun _ => true) true Tryd.f8.params.toList args.toList ds p := hA0
  rw [Tryd.params8] at hA hval
  obtain ⟨v0, vs0, d0, ds0, p_0, q_0, hargs, rfl, rfl, h0, r0⟩ := trodAll_cons hA
  obtain ⟨rfl, rfl, rfl⟩ := trodAll_nil r0
  obtain rfl : args = #[v0] := by cases args; simp_all
  obtain ⟨rfl, rfl⟩ := trodVars_none hV
  obtain ⟨c00, c01, y00, y01, m0, rfl, rfl, rfl, hy00, hy01⟩ := open_agg2 Tryd.underlying23 (by kernel_rfl) cellsNum (hval 0 23 v0 rfl rfl) h0
  obtain ⟨p0, ep0, rfl, wp0⟩ := DataW.trod_int Tryd.underlying3 hy00
  obtain ⟨q0, eq0, rfl, wq0⟩ := DataW.trod_int Tryd.underlying3 hy01
  simp at ep0 eq0
  subst ep0 eq0
  clear hA0 hval0
  simp only [List.append_nil] at hW'
  refine (walk p0 q0 wp0 wq0 W hE).mono fun e W' ⟨he, bel⟩ => ?_
  subst he
  exact ⟨_, rfl, _, _, _, [], [], [], hW', trodAll_mk1 (shut_bool Tryd.underlying4 _), (trodAll_cons_mk (numReads W' _ p0 q0 wp0 wq0) trodAll_mk0), rfl, bel.frame _, fun h => by cases h⟩

theorem said : Rows.NumeralReturnsSaid :=
  OpenClaim.holds_of_cond 8 Tryd.f8 rfl rfl rfl rfl rfl rfl rfl ⟨rfl, rfl, rfl, rfl, rfl⟩ rfl rfl rfl rfl rfl (by kernel_rfl) Tryd.func8 (by kernel_rfl)
    (of_decide_eq_true (by kernel_rfl)) (by unfold Func.isWrapper; first | (rw [if_pos (by decide +kernel)]; kernel_rfl) | (rw [if_neg (by decide +kernel)]; exact ⟨rfl, rfl⟩))
    (fun os started H enc _ F => by rw [OpenClaim.pre_eq_preRow]; exact lifted os started H enc F)
theorem plain (f : FuncId) (fn : Func) (hf : Tryd.pinned.checked.prog.funcNamed "scripting/scriptinglaw02.NumeralReturns" = some f) (hfn : Tryd.pinned.checked.prog.funcs[f]? = some fn) :
    false = Tryd.pinned.checked.prog.looks [] ∧ ∀ (j : Nat) t, fn.params[j]? = some t → Tryd.pinned.checked.prog.wantsStandIn t = false := by
  obtain rfl : f = 8 := Option.some.inj ((show Tryd.prog.funcNamed "scripting/scriptinglaw02.NumeralReturns" = some 8 by kernel_rfl).symm.trans hf) |>.symm
  obtain rfl : fn = Tryd.f8 := (Option.some.inj (Tryd.func8.symm.trans hfn)).symm
  refine ⟨by kernel_rfl, fun j t ht => ?_⟩
  rw [Tryd.params8] at ht
  have hm : t ∈ [23] := by simpa using Array.mem_of_getElem? ht
  have hall : ([23].all fun u => !Tryd.prog.wantsStandIn u) = true := by kernel_rfl
  exact (show Tryd.prog.wantsStandIn t = false by simpa using List.all_eq_true.1 hall t hm)

/-- The given statement. -/
theorem proved : Rows.NumeralReturnsCardSaid :=
  Claim7.holds_tied_plain_at .later [] _ _ _ _ said (fun _ h => by cases h) (by kernel_rfl) (fun _ h => by cases h) numeralReturns_row_tie rfl ⟨rfl, rfl⟩ (by kernel_rfl) rfl plain (by kernel_rfl)
#print axioms proved
end Go.Proofs.YtplfdfpnplhonaaDoor.numeralReturnsLaw
