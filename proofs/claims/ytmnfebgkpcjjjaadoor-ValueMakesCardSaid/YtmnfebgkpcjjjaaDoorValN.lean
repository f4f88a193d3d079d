/- ValueMakes. -/
import Derived.Test.YtmnfebgkpcjjjaaDoorValG
namespace Go.Proofs.YtmnfebgkpcjjjaaDoor
open Go.RowKit M1 M2
set_option linter.unusedVariables false
theorem eqV_self (k p q : Int) (s : ByteArray) (r : Int) : eqV k p q s r k p q s r = true := eqV_iff.2 ⟨rfl, rfl, rfl, rfl, rfl⟩
theorem int_made (n : Int) : ∃ a0 a1 a2 a3 a4, (∀ w, Calls Tryd.prog 25 #[.int .i64 n] w fun e w' => e = .returned (.agg #[.int .i64 a0, .int .i64 a1, .int .i64 a2, .string a3, .int .i64 a4]) ∧ Below w.heap.size w w') ∧ (∀ w, Calls Tryd.prog 26 #[.int .i64 n] w fun e w' => e = .returned (.agg #[.int .i64 a0, .int .i64 a1, .int .i64 a2, .string a3, .int .i64 a4]) ∧ Below w.heap.size w w') ∧ validF a0 a1 a2 a3 a4 = true := by
  cases h : vld n 1 with
  | true => exact ⟨2, n, 1, ⟨#[]⟩, 0, fun w => ofInt_ok n w h, fun w => rofInt_ok n w h, by unfold validF; simp [h, eqV_self]⟩
  | false => exact ⟨0, 0, 0, ⟨#[]⟩, 0, fun w => ofInt_no n w h, fun w => rofInt_no n w h, by decide⟩
theorem num_made (p q : Int) : ∃ a0 a1 a2 a3 a4, (∀ w, Calls Tryd.prog 27 #[.agg #[.int .i64 p, .int .i64 q]] w fun e w' => e = .returned (.agg #[.int .i64 a0, .int .i64 a1, .int .i64 a2, .string a3, .int .i64 a4]) ∧ Below w.heap.size w w') ∧ (∀ w, Calls Tryd.prog 28 #[.agg #[.int .i64 p, .int .i64 q]] w fun e w' => e = .returned (.agg #[.int .i64 a0, .int .i64 a1, .int .i64 a2, .string a3, .int .i64 a4]) ∧ Below w.heap.size w w') ∧ validF a0 a1 a2 a3 a4 = true := by
  cases h : vld p q with
  | true => exact ⟨2, p, q, ⟨#[]⟩, 0, fun w => ofNum_ok p q w h, fun w => rofNum_ok p q w h, by unfold validF; simp [h, eqV_self]⟩
  | false => exact ⟨0, 0, 0, ⟨#[]⟩, 0, fun w => ofNum_no p q w h, fun w => rofNum_no p q w h, by decide⟩
theorem vkeepN {B : Nat} {p q : Int} {W V V' : World} (lB : B < W.heap.size)
    (h : V.cell? ⟨B, 0, none⟩ = some (.int .i64 p) ∧ V.cell? ⟨B, 1, none⟩ = some (.int .i64 q) ∧ Env V ∧ Below W.heap.size W V) (hb : Below V.heap.size V V') :
    V'.cell? ⟨B, 0, none⟩ = some (.int .i64 p) ∧ V'.cell? ⟨B, 1, none⟩ = some (.int .i64 q) ∧ Env V' ∧ Below W.heap.size W V' := by
  obtain ⟨h1, h2, h3, h4⟩ := h
  have hz := h4.size
  exact ⟨by rw [hb.cell (p := ⟨B, 0, none⟩) (Nat.lt_of_lt_of_le lB hz)]; exact h1, by rw [hb.cell (p := ⟨B, 1, none⟩) (Nat.lt_of_lt_of_le lB hz)]; exact h2, h3.on hb, h4.trans (hb.mono hz)⟩
set_option maxHeartbeats 8000000 in
set_option maxRecDepth 100000 in
theorem valueMakes_walk (b0 : Bool) (n1 : Int) (wn1 : (Lit.int .i64 n1).wf = true) (p2 q2 : Int) (wp2 : (Lit.int .i64 p2).wf = true) (wq2 : (Lit.int .i64 q2).wf = true) (s3 : ByteArray) (ws3 : s3.size ≤ maxLen) (w : World) (he : Env w) :
    Calls Tryd.prog 5 #[.bool b0, .int .i64 n1, .agg #[.int .i64 p2, .int .i64 q2], .string s3] w fun e w' => e = .returned (.bool true) ∧ Below w.heap.size w w' := by
  have QA := Lib.hid fun w he => awake_any w he
  have HE := Lib.hid fun o => he.alloc o
  by_cases hs : 4106 < s3.size
  · have d0 : (4106 : Int) < (s3.size : Int) := by omega
    have HE0 := Lib.hid he
    clear he hs ws3
    go_enter Tryd.func5, Tryd.ntmps5
    go_wp2_with (go_at_call 10; (with_reducible refine (QA.out _ (HE.out _)).mono ?_); rintro e w1 ⟨rfl, hb1⟩; obtain ⟨hc1, hf1⟩ := bcell hb1; have hz := hb1.size; (try simp at hz); (try (have z1_0 : w.heap.size < w1.heap.size := (by omega))); clear hz)
    go_ret
    refine ⟨rfl, ?_⟩
    repeat (first | exact Below.refl _ _ | refine below_drewN ?_ _ | refine Below.drew ?_ | refine Below.setCell ?_ (by first | omega | (simp; done) | (simp; omega)) _ | refine Below.alloc ?_ (by first | omega | (simp; done) | (simp; omega)) _ | refine vstep (by assumption) (by first | omega | (simp; done) | (simp; omega)) ?_)
  have d0 : ¬ (4106 : Int) < (s3.size : Int) := by omega
  obtain ⟨a0, a1, a2, a3, a4, A1, A2, A3⟩ := int_made n1
  obtain ⟨m0, m1, m2, m3, m4, M1, M2, M3⟩ := num_made p2 q2
  have QI := Lib.hid A1
  have QRI := Lib.hid A2
  have QN := Lib.hid M1
  have QRN := Lib.hid M2
  clear A1 A2 M1 M2
  obtain ⟨rb, hrb⟩ : ∃ rb : Int, (if b0 = true then (1 : Int) else 0) = rb := ⟨_, rfl⟩
  have QB : Hid (∀ w, Calls Tryd.prog 23 #[.bool b0] w fun e w' => e = .returned (.agg #[.int .i64 1, .int .i64 0, .int .i64 0, .string ⟨#[]⟩, .int .i64 rb]) ∧ Below w.heap.size w w') := Lib.hid fun w => by rw [← hrb]; exact ofBool_any b0 w
  have QRB : Hid (∀ w, Calls Tryd.prog 24 #[.bool b0] w fun e w' => e = .returned (.agg #[.int .i64 1, .int .i64 0, .int .i64 0, .string ⟨#[]⟩, .int .i64 rb]) ∧ Below w.heap.size w w') := Lib.hid fun w => by rw [← hrb]; exact rofBool_any b0 w
  have QS : Hid (∀ w, Calls Tryd.prog 29 #[.string s3] w fun e w' => e = .returned (.agg #[.int .i64 3, .int .i64 0, .int .i64 0, .string s3, .int .i64 0]) ∧ Below w.heap.size w w') := Lib.hid fun w => ofStr_any s3 w
  have QRS : Hid (∀ w, Calls Tryd.prog 30 #[.string s3] w fun e w' => e = .returned (.agg #[.int .i64 3, .int .i64 0, .int .i64 0, .string s3, .int .i64 0]) ∧ Below w.heap.size w w') := Lib.hid fun w => rofStr_any s3 w
  have E1 : ∀ W, (binOp .neq 25 (.agg #[.int .i64 1, .int .i64 0, .int .i64 0, .string ⟨#[]⟩, .int .i64 rb]) (.agg #[.int .i64 1, .int .i64 0, .int .i64 0, .string ⟨#[]⟩, .int .i64 rb])).run Tryd.prog W = .ok (.bool false) W := fun W => by rw [neq_val, eqV_self]; rfl
  have E2 : ∀ W, (binOp .neq 25 (.agg #[.int .i64 a0, .int .i64 a1, .int .i64 a2, .string a3, .int .i64 a4]) (.agg #[.int .i64 a0, .int .i64 a1, .int .i64 a2, .string a3, .int .i64 a4])).run Tryd.prog W = .ok (.bool false) W := fun W => by rw [neq_val, eqV_self]; rfl
  have E3 : ∀ W, (binOp .neq 25 (.agg #[.int .i64 m0, .int .i64 m1, .int .i64 m2, .string m3, .int .i64 m4]) (.agg #[.int .i64 m0, .int .i64 m1, .int .i64 m2, .string m3, .int .i64 m4])).run Tryd.prog W = .ok (.bool false) W := fun W => by rw [neq_val, eqV_self]; rfl
  have E4 : ∀ W, (binOp .neq 25 (.agg #[.int .i64 3, .int .i64 0, .int .i64 0, .string s3, .int .i64 0]) (.agg #[.int .i64 3, .int .i64 0, .int .i64 0, .string s3, .int .i64 0])).run Tryd.prog W = .ok (.bool false) W := fun W => by rw [neq_val, eqV_self]; rfl
  have Q1 : Hid (∀ w, Calls Tryd.prog 13 #[.agg #[.int .i64 1, .int .i64 0, .int .i64 0, .string ⟨#[]⟩, .int .i64 rb]] w fun e w' => e = .returned (.bool b0) ∧ Below w.heap.size w w') := Lib.hid fun w => by
    have := true_any 1 0 0 ⟨#[]⟩ rb w
    rw [show trueF 1 rb = b0 from by rw [← hrb]; cases b0 <;> rfl] at this
    exact this
  have Q2 : Hid (∀ w, Calls Tryd.prog 11 #[.agg #[.int .i64 a0, .int .i64 a1, .int .i64 a2, .string a3, .int .i64 a4]] w fun e w' => e = .returned (.bool true) ∧ Below w.heap.size w w') := Lib.hid fun w => by have := valid5 a0 a1 a2 a3 a4 w; rw [A3] at this; exact this
  have Q3 : Hid (∀ w, Calls Tryd.prog 11 #[.agg #[.int .i64 m0, .int .i64 m1, .int .i64 m2, .string m3, .int .i64 m4]] w fun e w' => e = .returned (.bool true) ∧ Below w.heap.size w w') := Lib.hid fun w => by have := valid5 m0 m1 m2 m3 m4 w; rw [M3] at this; exact this
  obtain ⟨bl, hbl⟩ : ∃ bl, decide ((s3.size : Int) ≤ 4096) = bl := ⟨_, rfl⟩
  have Q4 : Hid (∀ w, Calls Tryd.prog 11 #[.agg #[.int .i64 3, .int .i64 0, .int .i64 0, .string s3, .int .i64 0]] w fun e w' => e = .returned (.bool bl) ∧ Below w.heap.size w w') := Lib.hid fun w => by
    have := valid5 3 0 0 s3 0 w
    rw [show validF 3 0 0 s3 0 = bl from by rw [← hbl]; unfold validF; simp [eqV_self]; exact Iff.rfl.trans (by omega)] at this
    exact this
  clear hrb he hs A3 M3 wn1 wp2 wq2 ws3
  go_enter Tryd.func5, Tryd.ntmps5
  go_upto_region 3 with fail
  have B0 : Blk 23 w.heap.size #[.int .i64 p2, .int .i64 q2] (w.alloc (.cells #[.int .i64 p2, .int .i64 q2] 23)) := Blk.new _ _ _ _ rfl
  have KB := Lib.hid ((Below.refl w.heap.size w).alloc (Nat.le_refl _) (.cells #[.int .i64 p2, .int .i64 q2] 23))
  have kz := B0.lt
  have c0 : (w.alloc (.cells #[.int .i64 p2, .int .i64 q2] 23)).cell? ⟨w.heap.size, 0, none⟩ = some (.int .i64 p2) := B0.cell 0
  have c1 : (w.alloc (.cells #[.int .i64 p2, .int .i64 q2] 23)).cell? ⟨w.heap.size, 1, none⟩ = some (.int .i64 q2) := B0.cell 1
  have he1 := HE.out (.cells #[.int .i64 p2, .int .i64 q2] 23)
  clear B0
  generalize w.alloc (.cells #[.int .i64 p2, .int .i64 q2] 23) = W1 at *
  have hW := Below.refl W1.heap.size W1
  go_region_held3 (fun w' => w'.cell? ⟨w.heap.size, 0, none⟩ = some (.int .i64 p2) ∧ w'.cell? ⟨w.heap.size, 1, none⟩ = some (.int .i64 q2) ∧ Env w' ∧ Below W1.heap.size W1 w') (first | assumption | exact ⟨c0, c1, he1.on ((Below.refl _ _).drew), hW.drew⟩ | exact vkeepN kz (by assumption) hb2) (first | (go_at_call 23; (with_reducible refine (QB.out _).mono ?_); rintro e w2 ⟨rfl, hb2⟩) | (go_at_call 24; (with_reducible refine (QRB.out _).mono ?_); rintro e w2 ⟨rfl, hb2⟩) | (go_at_call 25; (with_reducible refine (QI.out _).mono ?_); rintro e w2 ⟨rfl, hb2⟩) | (go_at_call 26; (with_reducible refine (QRI.out _).mono ?_); rintro e w2 ⟨rfl, hb2⟩) | (go_at_call 27; (with_reducible refine (QN.out _).mono ?_); rintro e w2 ⟨rfl, hb2⟩) | (go_at_call 28; (with_reducible refine (QRN.out _).mono ?_); rintro e w2 ⟨rfl, hb2⟩) | (go_at_call 29; (with_reducible refine (QS.out _).mono ?_); rintro e w2 ⟨rfl, hb2⟩) | (go_at_call 30; (with_reducible refine (QRS.out _).mono ?_); rintro e w2 ⟨rfl, hb2⟩))
  all_goals (
    rename World => W2
    obtain ⟨g0, g1, hE2, hB2⟩ := (‹_ ∧ _ ∧ Env _ ∧ Below _ _ _›)
    have HE2 := Lib.hid hE2
    have gz : w.heap.size < W2.heap.size := Nat.lt_of_lt_of_le kz hB2.size
    have KB2 := Lib.hid (KB.out.trans (hB2.mono KB.out.size))
    clear hE2 hB2
    go_wp2_with (first | (go_at_call 23; (with_reducible refine (QB.out _).mono ?_); rintro e w3 ⟨rfl, hb3⟩; obtain ⟨hc3, hf3⟩ := bcell hb3; have z3 : w.heap.size < w3.heap.size := (Nat.lt_of_lt_of_le gz hb3.size); (try (have c3_0 : w3.cell? ⟨w.heap.size, 0, none⟩ = some (.int .i64 p2) := by go_simp)); (try (have c3_1 : w3.cell? ⟨w.heap.size, 1, none⟩ = some (.int .i64 q2) := by go_simp)); have HE3 := Lib.hid (HE2.out.on hb3); have HB3 := Lib.hid (KB2.out.trans (hb3.mono KB2.out.size)); clear hb3 hc3 hf3) | (go_at_call 13; (with_reducible refine (Q1.out _).mono ?_); rintro e w4 ⟨rfl, hb4⟩; obtain ⟨hc4, hf4⟩ := bcell hb4; have z4 : w.heap.size < w4.heap.size := (Nat.lt_of_lt_of_le z3 hb4.size); (try (have c4_0 : w4.cell? ⟨w.heap.size, 0, none⟩ = some (.int .i64 p2) := by go_simp)); (try (have c4_1 : w4.cell? ⟨w.heap.size, 1, none⟩ = some (.int .i64 q2) := by go_simp)); have HE4 := Lib.hid (HE3.out.on hb4); have HB4 := Lib.hid (HB3.out.trans (hb4.mono HB3.out.size)); clear hb4 hc4 hf4) | (go_at_call 25; (with_reducible refine (QI.out _).mono ?_); rintro e w5 ⟨rfl, hb5⟩; obtain ⟨hc5, hf5⟩ := bcell hb5; have z5 : w.heap.size < w5.heap.size := (Nat.lt_of_lt_of_le z4 hb5.size); (try (have c5_0 : w5.cell? ⟨w.heap.size, 0, none⟩ = some (.int .i64 p2) := by go_simp)); (try (have c5_1 : w5.cell? ⟨w.heap.size, 1, none⟩ = some (.int .i64 q2) := by go_simp)); have HE5 := Lib.hid (HE4.out.on hb5); have HB5 := Lib.hid (HB4.out.trans (hb5.mono HB4.out.size)); clear hb5 hc5 hf5) | (go_at_call 11; (with_reducible refine (Q2.out _).mono ?_); rintro e w6 ⟨rfl, hb6⟩; obtain ⟨hc6, hf6⟩ := bcell hb6; have z6 : w.heap.size < w6.heap.size := (Nat.lt_of_lt_of_le z5 hb6.size); (try (have c6_0 : w6.cell? ⟨w.heap.size, 0, none⟩ = some (.int .i64 p2) := by go_simp)); (try (have c6_1 : w6.cell? ⟨w.heap.size, 1, none⟩ = some (.int .i64 q2) := by go_simp)); have HE6 := Lib.hid (HE5.out.on hb6); have HB6 := Lib.hid (HB5.out.trans (hb6.mono HB5.out.size)); clear hb6 hc6 hf6) | (go_at_call 27; (with_reducible refine (QN.out _).mono ?_); rintro e w7 ⟨rfl, hb7⟩; obtain ⟨hc7, hf7⟩ := bcell hb7; have z7 : w.heap.size < w7.heap.size := (Nat.lt_of_lt_of_le z6 hb7.size); (try (have c7_0 : w7.cell? ⟨w.heap.size, 0, none⟩ = some (.int .i64 p2) := by go_simp)); (try (have c7_1 : w7.cell? ⟨w.heap.size, 1, none⟩ = some (.int .i64 q2) := by go_simp)); have HE7 := Lib.hid (HE6.out.on hb7); have HB7 := Lib.hid (HB6.out.trans (hb7.mono HB6.out.size)); clear hb7 hc7 hf7) | (go_at_call 11; (with_reducible refine (Q3.out _).mono ?_); rintro e w8 ⟨rfl, hb8⟩; obtain ⟨hc8, hf8⟩ := bcell hb8; have z8 : w.heap.size < w8.heap.size := (Nat.lt_of_lt_of_le z7 hb8.size); (try (have c8_0 : w8.cell? ⟨w.heap.size, 0, none⟩ = some (.int .i64 p2) := by go_simp)); (try (have c8_1 : w8.cell? ⟨w.heap.size, 1, none⟩ = some (.int .i64 q2) := by go_simp)); have HE8 := Lib.hid (HE7.out.on hb8); have HB8 := Lib.hid (HB7.out.trans (hb8.mono HB7.out.size)); clear hb8 hc8 hf8) | (go_at_call 29; (with_reducible refine (QS.out _).mono ?_); rintro e w9 ⟨rfl, hb9⟩; obtain ⟨hc9, hf9⟩ := bcell hb9; have z9 : w.heap.size < w9.heap.size := (Nat.lt_of_lt_of_le z8 hb9.size); (try (have c9_0 : w9.cell? ⟨w.heap.size, 0, none⟩ = some (.int .i64 p2) := by go_simp)); (try (have c9_1 : w9.cell? ⟨w.heap.size, 1, none⟩ = some (.int .i64 q2) := by go_simp)); have HE9 := Lib.hid (HE8.out.on hb9); have HB9 := Lib.hid (HB8.out.trans (hb9.mono HB8.out.size)); clear hb9 hc9 hf9) | (go_at_call 11; (with_reducible refine (Q4.out _).mono ?_); rintro e w10 ⟨rfl, hb10⟩; obtain ⟨hc10, hf10⟩ := bcell hb10; have z10 : w.heap.size < w10.heap.size := (Nat.lt_of_lt_of_le z9 hb10.size); (try (have c10_0 : w10.cell? ⟨w.heap.size, 0, none⟩ = some (.int .i64 p2) := by go_simp)); (try (have c10_1 : w10.cell? ⟨w.heap.size, 1, none⟩ = some (.int .i64 q2) := by go_simp)); have HE10 := Lib.hid (HE9.out.on hb10); have HB10 := Lib.hid (HB9.out.trans (hb10.mono HB9.out.size)); clear hb10 hc10 hf10) | (go_at_call 10; (with_reducible refine (QA.out _ HE10.out).mono ?_); rintro e w11 ⟨rfl, hb11⟩; obtain ⟨hc11, hf11⟩ := bcell hb11; have z11 : w.heap.size < w11.heap.size := (Nat.lt_of_lt_of_le z10 hb11.size); (try (have c11_0 : w11.cell? ⟨w.heap.size, 0, none⟩ = some (.int .i64 p2) := by go_simp)); (try (have c11_1 : w11.cell? ⟨w.heap.size, 1, none⟩ = some (.int .i64 q2) := by go_simp)); have HE11 := Lib.hid (HE10.out.on hb11); have HB11 := Lib.hid (HB10.out.trans (hb11.mono HB10.out.size)); clear hb11 hc11 hf11))
    go_ret
    exact ⟨rfl, HB11.out⟩)
end Go.Proofs.YtmnfebgkpcjjjaaDoor
