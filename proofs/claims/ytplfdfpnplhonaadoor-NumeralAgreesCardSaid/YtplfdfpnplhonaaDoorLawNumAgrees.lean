/- NumeralAgrees. No condition. -/
import Derived.Test.YtplfdfpnplhonaaDoorNumY
namespace Go.Proofs.YtplfdfpnplhonaaDoor.numeralAgreesLaw
open Go.ChangeMaps (open_string shut_string)
open Go.ChangeShapes Go.WideShapes Go.ChangeAt Go.RowKit Go.Joins M1 M2
set_option linter.unusedVariables false


theorem scan_zero (l : List UInt8) : scanR l 0 = if (meas l).fin = 0 then ⟨0, 0, 0, 4⟩ else if (numR (meas l)).E = 0 then ⟨(numR (meas l)).P, (numR (meas l)).Q, ((meas l).fin : Int), 0⟩ else ⟨0, 0, 0, (numR (meas l)).E⟩ := by
  unfold scanR
  rw [if_neg (by omega)]
  simp
theorem scan_shift (b l : List UInt8) : scanR (b ++ l) (b.length : Int) = ⟨(scanR l 0).P, (scanR l 0).Q, if (scanR l 0).E = 0 then (scanR l 0).N + (b.length : Int) else 0, (scanR l 0).E⟩ := by
  have e : scanR (b ++ l) (b.length : Int) = if (meas l).fin = 0 then ⟨0, 0, 0, 4⟩ else if (numR (meas l)).E = 0 then ⟨(numR (meas l)).P, (numR (meas l)).Q, (b.length : Int) + ((meas l).fin : Int), 0⟩ else ⟨0, 0, 0, (numR (meas l)).E⟩ := by
    unfold scanR
    rw [if_neg (by rw [List.length_append]; omega)]
    simp
  rw [e, scan_zero]
  split
  · simp
  · split
    · simp; omega
    · rename_i h; simp
theorem scan_N {l : List UInt8} (h : (scanR l 0).E = 0) : 0 ≤ (scanR l 0).N ∧ (scanR l 0).N ≤ (l.length : Int) := by
  rw [scan_zero] at h ⊢
  have hf := (meas_wf l).2.2.2
  split
  · simp
  · split
    · simp; omega
    · simp
theorem scan_parse {l : List UInt8} (h : (scanR l 0).E = 0) (hN : (scanR l 0).N = (l.length : Int)) : parseR l = ⟨(scanR l 0).P, (scanR l 0).Q, 0⟩ := by
  rw [scan_zero] at h hN ⊢
  split at h
  · cases h
  · rename_i h0
    rw [if_neg h0] at hN ⊢
    split at h
    · rename_i h1
      rw [if_pos h1] at hN ⊢
      rw [agrees h0 (by have h2 : ((meas l).fin : Int) = (l.length : Int) := hN; omega)]
      cases hh : numR (meas l)
      rw [hh] at h1; simp at h1; simp [h1]
    · rename_i h1; exact absurd h h1
set_option maxHeartbeats 4000000 in
theorem C1 (s0 s1 : ByteArray) (P Q N M E : Int) (w : World) (he : Env w) (h0 : s0.size ≤ 2000) (h1 : s1.size ≤ 2000) (hE : (E == 0) = false)
    (hL1 : Hid (∀ w, Calls Tryd.prog 15 #[.string s1] w fun e w' => e = .returned (.bool false) ∧ w = w'))
    (hL0 : Hid (∀ w, Calls Tryd.prog 15 #[.string s0] w fun e w' => e = .returned (.bool false) ∧ w = w'))
    (B1 : Hid (∀ w, Calls Tryd.prog 18 #[.string s1, .int .i64 0] w fun e w' => e = .returned (.tuple #[.agg #[.int .i64 P, .int .i64 Q], .int .i64 N, .int .i64 E]) ∧ Below w.heap.size w w'))
    (B2 : Hid (∀ w, Calls Tryd.prog 18 #[.string (s0 ++ s1), .int .i64 (s0.size : Int)] w fun e w' => e = .returned (.tuple #[.agg #[.int .i64 P, .int .i64 Q], .int .i64 M, .int .i64 E]) ∧ Below w.heap.size w w'))
    : Calls Tryd.prog 9 #[.string s0, .string s1] w fun e w' => e = .returned (.bool true) ∧ Below w.heap.size w w' := by
  have HE := Lib.hid he
  clear he
  have a1 : ∀ W, (Op.stringOp .add s0 s1).run Tryd.prog W = .ok (.string (s0 ++ s1)) W := fun W => run_string_add_sum (w := W) _ _ (by omega)
  go_enter Tryd.func9, Tryd.ntmps9
  go_wp2_with (first | (go_at_call 15; (with_reducible refine (hL1.out _).mono ?_); rintro e w0 ⟨rfl, rfl⟩) | (go_at_call 15; (with_reducible refine (hL0.out _).mono ?_); rintro e w0 ⟨rfl, rfl⟩) | (go_at_call 18; (with_reducible refine (B1.out _).mono ?_); rintro e w1 ⟨rfl, hb1⟩; obtain ⟨hc1, hf1⟩ := bcell hb1; have hz1 := hb1.size; (try simp at hz1); have HE1 := Lib.hid ((HE.out.on hb1).alloc (.cells #[.int .i64 P, .int .i64 Q] 23))) | (go_at_call 18; (with_reducible refine (B2.out _).mono ?_); rintro e w2 ⟨rfl, hb2⟩; obtain ⟨hc2, hf2⟩ := bcell hb2; have hz2 := hb2.size; (try simp at hz2); have y21 : w1.heap.size < w2.heap.size := (by omega); have k20 : w2.cell? ⟨w1.heap.size, 0, none⟩ = some (.int .i64 P) := (by go_simp); have k21 : w2.cell? ⟨w1.heap.size, 1, none⟩ = some (.int .i64 Q) := (by go_simp); have HE2 := Lib.hid ((HE1.out.on hb2).alloc (.cells #[.int .i64 P, .int .i64 Q] 23))) | (go_at_call 14; (with_reducible refine (awake_any _ HE2.out).mono ?_); rintro e w4 ⟨rfl, hb4⟩; obtain ⟨hc4, hf4⟩ := bcell hb4; have hz4 := hb4.size; (try simp at hz4); ))
  go_ret
  refine ⟨rfl, ?_⟩
  repeat (first | exact Below.refl _ _ | refine below_drewN ?_ _ | refine Below.drew ?_ | refine Below.setCell ?_ (by first | omega | (simp; done) | (simp; omega)) _ | refine Below.alloc ?_ (by first | omega | (simp; done) | (simp; omega)) _ | refine below_step (by assumption) (by first | omega | (simp; done) | (simp; omega)) ?_)
set_option maxHeartbeats 4000000 in
theorem C2 (s0 s1 : ByteArray) (P Q N M E : Int) (w : World) (he : Env w) (h0 : s0.size ≤ 2000) (h1 : s1.size ≤ 2000) (hN0 : 0 ≤ N) (hN1 : N ≤ 2000) (hN : (N == (s1.size : Int)) = false)
    (hL1 : Hid (∀ w, Calls Tryd.prog 15 #[.string s1] w fun e w' => e = .returned (.bool false) ∧ w = w'))
    (hL0 : Hid (∀ w, Calls Tryd.prog 15 #[.string s0] w fun e w' => e = .returned (.bool false) ∧ w = w'))
    (B1 : Hid (∀ w, Calls Tryd.prog 18 #[.string s1, .int .i64 0] w fun e w' => e = .returned (.tuple #[.agg #[.int .i64 P, .int .i64 Q], .int .i64 N, .int .i64 0]) ∧ Below w.heap.size w w'))
    (B2 : Hid (∀ w, Calls Tryd.prog 18 #[.string (s0 ++ s1), .int .i64 (s0.size : Int)] w fun e w' => e = .returned (.tuple #[.agg #[.int .i64 P, .int .i64 Q], .int .i64 (N + (s0.size : Int)), .int .i64 0]) ∧ Below w.heap.size w w'))
    : Calls Tryd.prog 9 #[.string s0, .string s1] w fun e w' => e = .returned (.bool true) ∧ Below w.heap.size w w' := by
  have HE := Lib.hid he
  clear he
  have a1 : ∀ W, (Op.stringOp .add s0 s1).run Tryd.prog W = .ok (.string (s0 ++ s1)) W := fun W => run_string_add_sum (w := W) _ _ (by omega)
  go_enter Tryd.func9, Tryd.ntmps9
  go_wp2_with (first | (go_at_call 15; (with_reducible refine (hL1.out _).mono ?_); rintro e w0 ⟨rfl, rfl⟩) | (go_at_call 15; (with_reducible refine (hL0.out _).mono ?_); rintro e w0 ⟨rfl, rfl⟩) | (go_at_call 18; (with_reducible refine (B1.out _).mono ?_); rintro e w1 ⟨rfl, hb1⟩; obtain ⟨hc1, hf1⟩ := bcell hb1; have hz1 := hb1.size; (try simp at hz1); have HE1 := Lib.hid ((HE.out.on hb1).alloc (.cells #[.int .i64 P, .int .i64 Q] 23))) | (go_at_call 18; (with_reducible refine (B2.out _).mono ?_); rintro e w2 ⟨rfl, hb2⟩; obtain ⟨hc2, hf2⟩ := bcell hb2; have hz2 := hb2.size; (try simp at hz2); have y21 : w1.heap.size < w2.heap.size := (by omega); have k20 : w2.cell? ⟨w1.heap.size, 0, none⟩ = some (.int .i64 P) := (by go_simp); have k21 : w2.cell? ⟨w1.heap.size, 1, none⟩ = some (.int .i64 Q) := (by go_simp); have HE2 := Lib.hid ((HE1.out.on hb2).alloc (.cells #[.int .i64 P, .int .i64 Q] 23))) | (go_at_call 14; (with_reducible refine (awake_any _ HE2.out).mono ?_); rintro e w4 ⟨rfl, hb4⟩; obtain ⟨hc4, hf4⟩ := bcell hb4; have hz4 := hb4.size; (try simp at hz4); ))
  go_ret
  refine ⟨rfl, ?_⟩
  repeat (first | exact Below.refl _ _ | refine below_drewN ?_ _ | refine Below.drew ?_ | refine Below.setCell ?_ (by first | omega | (simp; done) | (simp; omega)) _ | refine Below.alloc ?_ (by first | omega | (simp; done) | (simp; omega)) _ | refine below_step (by assumption) (by first | omega | (simp; done) | (simp; omega)) ?_)
set_option maxHeartbeats 4000000 in
theorem C3 (s0 s1 : ByteArray) (P Q N M E : Int) (w : World) (he : Env w) (h0 : s0.size ≤ 2000) (h1 : s1.size ≤ 2000) (hN : N = (s1.size : Int))
    (hL1 : Hid (∀ w, Calls Tryd.prog 15 #[.string s1] w fun e w' => e = .returned (.bool false) ∧ w = w'))
    (hL0 : Hid (∀ w, Calls Tryd.prog 15 #[.string s0] w fun e w' => e = .returned (.bool false) ∧ w = w'))
    (B1 : Hid (∀ w, Calls Tryd.prog 18 #[.string s1, .int .i64 0] w fun e w' => e = .returned (.tuple #[.agg #[.int .i64 P, .int .i64 Q], .int .i64 N, .int .i64 0]) ∧ Below w.heap.size w w'))
    (B2 : Hid (∀ w, Calls Tryd.prog 18 #[.string (s0 ++ s1), .int .i64 (s0.size : Int)] w fun e w' => e = .returned (.tuple #[.agg #[.int .i64 P, .int .i64 Q], .int .i64 (N + (s0.size : Int)), .int .i64 0]) ∧ Below w.heap.size w w'))
    (B3 : Hid (∀ w, Env w → Calls Tryd.prog 16 #[.string s1] w fun e w' => e = .returned (.tuple #[.agg #[.int .i64 P, .int .i64 Q], .int .i64 0]) ∧ Below w.heap.size w w'))
    : Calls Tryd.prog 9 #[.string s0, .string s1] w fun e w' => e = .returned (.bool true) ∧ Below w.heap.size w w' := by
  have HE := Lib.hid he
  clear he
  have a1 : ∀ W, (Op.stringOp .add s0 s1).run Tryd.prog W = .ok (.string (s0 ++ s1)) W := fun W => run_string_add_sum (w := W) _ _ (by omega)
  subst hN
  go_enter Tryd.func9, Tryd.ntmps9
  go_wp2_with (first | (go_at_call 15; (with_reducible refine (hL1.out _).mono ?_); rintro e w0 ⟨rfl, rfl⟩) | (go_at_call 15; (with_reducible refine (hL0.out _).mono ?_); rintro e w0 ⟨rfl, rfl⟩) | (go_at_call 18; (with_reducible refine (B1.out _).mono ?_); rintro e w1 ⟨rfl, hb1⟩; obtain ⟨hc1, hf1⟩ := bcell hb1; have hz1 := hb1.size; (try simp at hz1); have HE1 := Lib.hid ((HE.out.on hb1).alloc (.cells #[.int .i64 P, .int .i64 Q] 23))) | (go_at_call 18; (with_reducible refine (B2.out _).mono ?_); rintro e w2 ⟨rfl, hb2⟩; obtain ⟨hc2, hf2⟩ := bcell hb2; have hz2 := hb2.size; (try simp at hz2); have y21 : w1.heap.size < w2.heap.size := (by omega); have k20 : w2.cell? ⟨w1.heap.size, 0, none⟩ = some (.int .i64 P) := (by go_simp); have k21 : w2.cell? ⟨w1.heap.size, 1, none⟩ = some (.int .i64 Q) := (by go_simp); have HE2 := Lib.hid ((HE1.out.on hb2).alloc (.cells #[.int .i64 P, .int .i64 Q] 23))) | (go_at_call 16; (with_reducible refine (B3.out _ HE2.out).mono ?_); rintro e w3 ⟨rfl, hb3⟩; obtain ⟨hc3, hf3⟩ := bcell hb3; have hz3 := hb3.size; (try simp at hz3); have y31 : w1.heap.size < w3.heap.size := (by omega); have y32 : w2.heap.size < w3.heap.size := (by omega); have k30 : w3.cell? ⟨w1.heap.size, 0, none⟩ = some (.int .i64 P) := (by go_simp); have k31 : w3.cell? ⟨w1.heap.size, 1, none⟩ = some (.int .i64 Q) := (by go_simp); have HE3 := Lib.hid ((HE2.out.on hb3).alloc (.cells #[.int .i64 P, .int .i64 Q] 23))) | (go_at_call 14; (with_reducible refine (awake_any _ HE3.out).mono ?_); rintro e w4 ⟨rfl, hb4⟩; obtain ⟨hc4, hf4⟩ := bcell hb4; have hz4 := hb4.size; (try simp at hz4); ))
  go_ret
  refine ⟨rfl, ?_⟩
  repeat (first | exact Below.refl _ _ | refine below_drewN ?_ _ | refine Below.drew ?_ | refine Below.setCell ?_ (by first | omega | (simp; done) | (simp; omega)) _ | refine Below.alloc ?_ (by first | omega | (simp; done) | (simp; omega)) _ | refine below_step (by assumption) (by first | omega | (simp; done) | (simp; omega)) ?_)

set_option maxHeartbeats 4000000 in
theorem walk (s0 : ByteArray) (hm0 : s0.size ≤ maxLen) (s1 : ByteArray) (hm1 : s1.size ≤ maxLen) (w : World) (he : Env w) :
    Calls Tryd.prog 9 #[.string s0, .string s1] w fun e w' => e = .returned (.bool true) ∧ Below w.heap.size w w' := by
  have hls : ∀ (s : ByteArray) w, Calls Tryd.prog 15 #[.string s] w fun e w' => e = .returned (.bool (decide ((s.size : Int) > 2000))) ∧ w = w' := fun s w => long_any s w
  cases hl1 : decide ((s1.size : Int) > 2000) with
  | true =>
    have hl := hls s1
    rw [hl1] at hl
    have HL := Lib.hid hl
    have HE := Lib.hid he
    clear he hl hls hl1
    go_enter Tryd.func9, Tryd.ntmps9
    go_wp2_with (first | (go_at_call 15; (with_reducible refine (HL.out _).mono ?_); rintro e w0 ⟨rfl, rfl⟩) | (go_at_call 14; (with_reducible refine (awake_any _ HE.out).mono ?_); rintro e w3 ⟨rfl, hb3⟩; obtain ⟨hc3, hf3⟩ := bcell hb3; have hz3 := hb3.size; (try simp at hz3); ))
    go_ret
    refine ⟨rfl, ?_⟩
    repeat (first | exact Below.refl _ _ | refine below_drewN ?_ _ | refine Below.drew ?_ | refine Below.setCell ?_ (by first | omega | (simp; done) | (simp; omega)) _ | refine Below.alloc ?_ (by first | omega | (simp; done) | (simp; omega)) _ | refine below_step (by assumption) (by first | omega | (simp; done) | (simp; omega)) ?_)
  | false =>
    have hL1 := hls s1
    rw [hl1] at hL1
    cases hl0 : decide ((s0.size : Int) > 2000) with
    | true =>
      have hl := hls s0
      rw [hl0] at hl
      have HL := Lib.hid hl
      have HL1 := Lib.hid hL1
      have HE := Lib.hid he
      clear he hl hls hl1 hl0 hL1
      go_enter Tryd.func9, Tryd.ntmps9
      go_wp2_with (first | (go_at_call 15; (with_reducible refine (HL1.out _).mono ?_); rintro e w0 ⟨rfl, rfl⟩) | (go_at_call 15; (with_reducible refine (HL.out _).mono ?_); rintro e w0 ⟨rfl, rfl⟩) | (go_at_call 14; (with_reducible refine (awake_any _ HE.out).mono ?_); rintro e w3 ⟨rfl, hb3⟩; obtain ⟨hc3, hf3⟩ := bcell hb3; have hz3 := hb3.size; (try simp at hz3); ))
      go_ret
      refine ⟨rfl, ?_⟩
      repeat (first | exact Below.refl _ _ | refine below_drewN ?_ _ | refine Below.drew ?_ | refine Below.setCell ?_ (by first | omega | (simp; done) | (simp; omega)) _ | refine Below.alloc ?_ (by first | omega | (simp; done) | (simp; omega)) _ | refine below_step (by assumption) (by first | omega | (simp; done) | (simp; omega)) ?_)
    | false =>
      have hL0 := hls s0
      rw [hl0] at hL0
      have h1 : s1.size ≤ 2000 := by have := of_decide_eq_false hl1; omega
      have h0 : s0.size ≤ 2000 := by have := of_decide_eq_false hl0; omega
      have e0 : s0.data.toList.length = s0.size := by simp
      have e1 : s1.data.toList.length = s1.size := by simp
      have B1 := fun w => scan_any s1 0 w (by omega)
      have B2 := fun w => scan_any (s0 ++ s1) (s0.size : Int) w (by rw [ByteArray.size_append]; omega)
      have hsh := scan_shift s0.data.toList s1.data.toList
      have hN := scan_N (l := s1.data.toList)
      have hP := scan_parse (l := s1.data.toList)
      rw [e0] at hsh
      rw [e1] at hN hP
      rw [show (s0 ++ s1).data.toList = s0.data.toList ++ s1.data.toList by rw [ByteArray.data_append, Array.toList_append], hsh] at B2
      have B3 : ∀ w, Env w → _ := fun w he => parse_any s1 w (by omega) he
      generalize scanR s1.data.toList 0 = R at *
      by_cases hE : R.E = 0
      · obtain ⟨n0, n1⟩ := hN hE
        simp only [hE, if_true] at B1 B2
        by_cases hNs : R.N = (s1.size : Int)
        · rw [hP hE hNs] at B3
          exact C3 s0 s1 R.P R.Q R.N 0 0 w he h0 h1 hNs (Lib.hid hL1) (Lib.hid hL0) (Lib.hid B1) (Lib.hid B2) (Lib.hid B3)
        · exact C2 s0 s1 R.P R.Q R.N 0 0 w he h0 h1 n0 (by omega) (beq_eq_false_iff_ne.2 hNs) (Lib.hid hL1) (Lib.hid hL0) (Lib.hid B1) (Lib.hid B2)
      · exact C1 s0 s1 R.P R.Q R.N _ R.E w he h0 h1 (beq_eq_false_iff_ne.2 hE) (Lib.hid hL1) (Lib.hid hL0) (Lib.hid B1) (Lib.hid B2)

theorem reads (os : Os) {H : Type} (enc : TypeId × Value → H) : ∃ places, DataW.whole enc Tryd.prog ((World.laidAll Tryd.prog os L5).forCall (fun _ _ => 0) ⟨#[], #[.string ⟨#[49]⟩, .string ⟨#[49]⟩], []⟩).memory Tryd.f9.params.toList Rows.numeralAgreesSpec.vars false #[Value.string ⟨#[49]⟩, .string ⟨#[49]⟩].toList 8 = some ([.lit (.string [49]), .lit (.string [49])], [], places) :=
  ⟨[], by kernel_rfl⟩
set_option maxRecDepth 100000 in
theorem lifted (os : Os) (started : os.Started) (H : Type) (enc : TypeId × Value → H) (F : Stop.Interp) :
    ReturnsInHanded {} Tryd.checked os 9 .any ((OpenSpec.ofChange Rows.numeralAgreesSpec).preRow enc Tryd.prog Tryd.f9 Rows.numeralAgreesRow.domain false L5) (((OpenSpec.ofChange Rows.numeralAgreesSpec).at F).post enc Tryd.prog Tryd.f9 false true false false) := by
  obtain ⟨places, hx⟩ := reads os enc
  refine returnsInHanded_of_row (C := Tryd.checked) (s := OpenSpec.ofChange Rows.numeralAgreesSpec) own started (by kernel_rfl) Tryd.func9
    ⟨World.laidAll Tryd.prog os L5, fun _ _ => 0, ⟨#[], #[.string ⟨#[49]⟩, .string ⟨#[49]⟩], []⟩, World.laidAll_os _ _ _, wit_shaped os _, rfl, (Input.okWide_of_okWideB (by kernel_rfl)).2,
      OpenSpec.preRow_of_cond 8 hx (by kernel_rfl) (fun k hk => by cases hk) (by kernel_rfl) (laid_met os _), by
        simp only [Assume.holds]
        exact ⟨by simp, by simp, fun _ => Modest.zero, by simp, by simp⟩⟩ ?_
  intro W base args ds gs before hval0 hW _ _ _ hL hsh _
  have hE := env hL hsh
  have hval : ∀ (j : Nat) t v, Tryd.f9.params[j]? = some t → args[j]? = some v → Value.okWide Tryd.prog W .any base t v := hval0
  have hW' := hW
  obtain ⟨p, q, hA0, hV, rfl, hfz, hnd⟩ := hW
  have hA : DataW.TrodAll enc Tryd.prog W 0 (fun _ => true) true Tryd.f9.params.toList args.toList ds p := hA0
  rw [Tryd.params9] at hA hval
  obtain ⟨v0, vs0, d0, ds0, p_0, q_0, hargs, rfl, rfl, h0, r0⟩ := trodAll_cons hA
  obtain ⟨v1, vs1, d1, ds1, p_1, q_1, rfl, rfl, rfl, h1, r1⟩ := trodAll_cons r0
  obtain ⟨rfl, rfl, rfl⟩ := trodAll_nil r1
  obtain rfl : args = #[v0, v1] := by cases args; simp_all
  obtain ⟨rfl, rfl⟩ := trodVars_none hV
  obtain ⟨s0, rfl, rfl, rfl, hm0⟩ := open_string Tryd.underlying9 (hval 0 9 v0 rfl rfl) h0
  obtain ⟨s1, rfl, rfl, rfl, hm1⟩ := open_string Tryd.underlying9 (hval 1 9 v1 rfl rfl) h1
  clear hA0 hval0
  simp only [List.append_nil] at hW'
  refine (walk s0 hm0 s1 hm1 W hE).mono fun e W' ⟨he, bel⟩ => ?_
  subst he
  exact ⟨_, rfl, _, _, _, [], [], [], hW', trodAll_mk1 (shut_bool Tryd.underlying4 _), (trodAll_cons_mk (shut_string Tryd.underlying9 hm0) (trodAll_cons_mk (shut_string Tryd.underlying9 hm1) trodAll_mk0)), rfl, bel.frame _, fun h => by cases h⟩

theorem said : Rows.NumeralAgreesSaid :=
  OpenClaim.holds_of_cond 9 Tryd.f9 rfl rfl rfl rfl rfl rfl rfl ⟨rfl, rfl, rfl, rfl, rfl⟩ rfl rfl rfl rfl rfl (by kernel_rfl) Tryd.func9 (by kernel_rfl)
    (of_decide_eq_true (by kernel_rfl)) (by unfold Func.isWrapper; first | (rw [if_pos (by decide +kernel)]; kernel_rfl) | (rw [if_neg (by decide +kernel)]; exact ⟨rfl, rfl⟩))
    (fun os started H enc _ F => by rw [OpenClaim.pre_eq_preRow]; exact lifted os started H enc F)
theorem plain (f : FuncId) (fn : Func) (hf : Tryd.pinned.checked.prog.funcNamed "scripting/scriptinglaw02.NumeralAgrees" = some f) (hfn : Tryd.pinned.checked.prog.funcs[f]? = some fn) :
    false = Tryd.pinned.checked.prog.looks [] ∧ ∀ (j : Nat) t, fn.params[j]? = some t → Tryd.pinned.checked.prog.wantsStandIn t = false := by
  obtain rfl : f = 9 := Option.some.inj ((show Tryd.prog.funcNamed "scripting/scriptinglaw02.NumeralAgrees" = some 9 by kernel_rfl).symm.trans hf) |>.symm
  obtain rfl : fn = Tryd.f9 := (Option.some.inj (Tryd.func9.symm.trans hfn)).symm
  refine ⟨by kernel_rfl, fun j t ht => ?_⟩
  rw [Tryd.params9] at ht
  have hm : t ∈ [9, 9] := by simpa using Array.mem_of_getElem? ht
  have hall : ([9, 9].all fun u => !Tryd.prog.wantsStandIn u) = true := by kernel_rfl
  exact (show Tryd.prog.wantsStandIn t = false by simpa using List.all_eq_true.1 hall t hm)

/-- The given statement. -/
theorem proved : Rows.NumeralAgreesCardSaid :=
  Claim7.holds_tied_plain_at .later [] _ _ _ _ said (fun _ h => by cases h) (by kernel_rfl) (fun _ h => by cases h) numeralAgrees_row_tie rfl ⟨rfl, rfl⟩ (by kernel_rfl) rfl plain (by kernel_rfl)
#print axioms proved
end Go.Proofs.YtplfdfpnplhonaaDoor.numeralAgreesLaw
