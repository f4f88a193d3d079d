/- ValueKinds. -/
import Derived.Test.YtmnfebgkpcjjjaaDoorValG
namespace Go.Proofs.YtmnfebgkpcjjjaaDoor
open Go.RowKit M1 M2
set_option linter.unusedVariables false
set_option maxHeartbeats 8000000 in
set_option maxRecDepth 100000 in
theorem valueKinds_walk (k0 p0 q0 : Int) (s0 : ByteArray) (r0 : Int) (wk0 : (Lit.int .i64 k0).wf = true) (wp0 : (Lit.int .i64 p0).wf = true) (wq0 : (Lit.int .i64 q0).wf = true) (ws0 : s0.size ≤ maxLen) (wr0 : (Lit.int .i64 r0).wf = true) (w : World) (he : Env w) :
    Calls Tryd.prog 3 #[.agg #[.int .i64 k0, .int .i64 p0, .int .i64 q0, .string s0, .int .i64 r0]] w fun e w' => e = .returned (.bool true) ∧ Below w.heap.size w w' := by
  have QL := Lib.hid fun w => long_any k0 p0 q0 s0 r0 w
  have QA := Lib.hid fun w he => awake_any w he
  have HE := Lib.hid fun o => he.alloc o
  have hr : -9223372036854775808 ≤ r0 ∧ r0 ≤ 9223372036854775807 := by simpa [Lit.wf, IntKind.min, IntKind.max, IntKind.signed, IntKind.bits] using wr0
  by_cases hs : 4106 < s0.size
  · have d0 : (4106 : Int) < (s0.size : Int) := by omega
    clear he hr wr0 hs ws0
    go_enter Tryd.func3, Tryd.ntmps3
    go_wp2_with (first | (go_at_call 9; (with_reducible refine (QL.out _).mono ?_); rintro e w1 ⟨rfl, hb1⟩; obtain ⟨hc1, hf1⟩ := bcell hb1; have hz := hb1.size; (try simp at hz); (try (have z1_0 : w.heap.size < w1.heap.size := (by omega))); clear hz; (try (have c1_0 : w1.cell? ⟨w.heap.size, 0, none⟩ = some (.int .i64 k0) := by go_simp)); (try (have c1_1 : w1.cell? ⟨w.heap.size, 1, none⟩ = some (.int .i64 p0) := by go_simp)); (try (have c1_2 : w1.cell? ⟨w.heap.size, 2, none⟩ = some (.int .i64 q0) := by go_simp)); (try (have c1_3 : w1.cell? ⟨w.heap.size, 3, none⟩ = some (.string s0) := by go_simp)); (try (have c1_4 : w1.cell? ⟨w.heap.size, 4, none⟩ = some (.int .i64 r0) := by go_simp)); have HE1 := Lib.hid ((HE.out _).on hb1)) | (go_at_call 10; (with_reducible refine (QA.out _ HE1.out).mono ?_); rintro e w2 ⟨rfl, hb2⟩; obtain ⟨hc2, hf2⟩ := bcell hb2; have hz := hb2.size; (try simp at hz); (try (have z2_0 : w.heap.size < w2.heap.size := (by omega))); clear hz))
    go_ret
    refine ⟨rfl, ?_⟩
    repeat (first | exact Below.refl _ _ | refine below_drewN ?_ _ | refine Below.drew ?_ | refine Below.setCell ?_ (by first | omega | (simp; done) | (simp; omega)) _ | refine Below.alloc ?_ (by first | omega | (simp; done) | (simp; omega)) _ | refine vstep (by assumption) (by first | omega | (simp; done) | (simp; omega)) ?_)
  · have d0 : ¬ (4106 : Int) < (s0.size : Int) := by omega
    have Q1 : Hid (∀ w, Calls Tryd.prog 11 #[.agg #[.int .i64 k0, .int .i64 p0, .int .i64 q0, .string s0, .int .i64 r0]] w fun e w' => e = .returned (.bool (validF k0 p0 q0 s0 r0)) ∧ Below w.heap.size w w') := Lib.hid fun w => valid5 k0 p0 q0 s0 r0 w
    have Q2 : Hid (∀ w, Calls Tryd.prog 12 #[.agg #[.int .i64 k0, .int .i64 p0, .int .i64 q0, .string s0, .int .i64 r0]] w fun e w' => e = .returned (.bool (validF k0 p0 q0 s0 r0)) ∧ Below w.heap.size w w') := Lib.hid fun w => rvalid5 k0 p0 q0 s0 r0 w
    have Q3 : Hid (∀ w, Calls Tryd.prog 13 #[.agg #[.int .i64 k0, .int .i64 p0, .int .i64 q0, .string s0, .int .i64 r0]] w fun e w' => e = .returned (.bool (trueF k0 r0)) ∧ Below w.heap.size w w') := Lib.hid fun w => true_any k0 p0 q0 s0 r0 w
    have Q4 : Hid (∀ w, Calls Tryd.prog 14 #[.agg #[.int .i64 k0, .int .i64 p0, .int .i64 q0, .string s0, .int .i64 r0]] w fun e w' => e = .returned (.bool (trueF k0 r0)) ∧ Below w.heap.size w w') := Lib.hid fun w => rtrue_any k0 p0 q0 s0 r0 w
    have Q5 : Hid (∀ w, Calls Tryd.prog 15 #[.agg #[.int .i64 k0, .int .i64 p0, .int .i64 q0, .string s0, .int .i64 r0]] w fun e w' => e = .returned (.string (typeS k0)) ∧ Below w.heap.size w w') := Lib.hid fun w => type_any k0 p0 q0 s0 r0 w wk0
    have Q6 : Hid (∀ w, Calls Tryd.prog 16 #[.agg #[.int .i64 k0, .int .i64 p0, .int .i64 q0, .string s0, .int .i64 r0]] w fun e w' => e = .returned (.string (typeS k0)) ∧ Below w.heap.size w w') := Lib.hid fun w => rtype_any k0 p0 q0 s0 r0 w
    have Q7 : Hid (∀ w, Env w → Calls Tryd.prog 17 #[.agg #[.int .i64 k0, .int .i64 p0, .int .i64 q0, .string s0, .int .i64 r0]] w fun e w' => e = .returned (.string (textS k0 p0 q0 s0 r0)) ∧ Below w.heap.size w w') := Lib.hid fun w he => text5 k0 p0 q0 s0 r0 w he hr.1 hr.2 (by omega)
    have Q8 : Hid (∀ w, Env w → Calls Tryd.prog 18 #[.agg #[.int .i64 k0, .int .i64 p0, .int .i64 q0, .string s0, .int .i64 r0]] w fun e w' => e = .returned (.string (textS k0 p0 q0 s0 r0)) ∧ Below w.heap.size w w') := Lib.hid fun w he => rtext5 k0 p0 q0 s0 r0 w he hr.1 hr.2 (by omega)
    generalize validF k0 p0 q0 s0 r0 = b1 at *
    generalize trueF k0 r0 = b2 at *
    generalize typeS k0 = t1 at *
    generalize textS k0 p0 q0 s0 r0 = t2 at *
    clear he hr wr0 hs ws0 wk0 wp0 wq0
    go_enter Tryd.func3, Tryd.ntmps3
    go_upto_region 3 with (go_at_call 9; (with_reducible refine (QL.out _).mono ?_); rintro e w1 ⟨rfl, hb1⟩; obtain ⟨hc1, hf1⟩ := bcell hb1; have hz := hb1.size; (try simp at hz); (try (have z1_0 : w.heap.size < w1.heap.size := (by omega))); clear hz; (try (have c1_0 : w1.cell? ⟨w.heap.size, 0, none⟩ = some (.int .i64 k0) := by go_simp)); (try (have c1_1 : w1.cell? ⟨w.heap.size, 1, none⟩ = some (.int .i64 p0) := by go_simp)); (try (have c1_2 : w1.cell? ⟨w.heap.size, 2, none⟩ = some (.int .i64 q0) := by go_simp)); (try (have c1_3 : w1.cell? ⟨w.heap.size, 3, none⟩ = some (.string s0) := by go_simp)); (try (have c1_4 : w1.cell? ⟨w.heap.size, 4, none⟩ = some (.int .i64 r0) := by go_simp)); have HE1 := Lib.hid ((HE.out _).on hb1))
    have KB : Hid (Below w.heap.size w w1) := Lib.hid (by
      repeat (first | exact Below.refl _ _ | refine below_drewN ?_ _ | refine Below.drew ?_ | refine Below.setCell ?_ (by first | omega | (simp; done) | (simp; omega)) _ | refine Below.alloc ?_ (by first | omega | (simp; done) | (simp; omega)) _ | refine vstep (by assumption) (by first | omega | (simp; done) | (simp; omega)) ?_))
    have he1 := HE1.out
    have hW := Below.refl w1.heap.size w1
    clear hb1 hc1 hf1
    go_region_held3 (fun w' => w'.cell? ⟨w.heap.size, 0, none⟩ = some (.int .i64 k0) ∧ w'.cell? ⟨w.heap.size, 1, none⟩ = some (.int .i64 p0) ∧ w'.cell? ⟨w.heap.size, 2, none⟩ = some (.int .i64 q0) ∧ w'.cell? ⟨w.heap.size, 3, none⟩ = some (.string s0) ∧ w'.cell? ⟨w.heap.size, 4, none⟩ = some (.int .i64 r0) ∧ Env w' ∧ Below w1.heap.size w1 w') (first | assumption | exact ⟨c1_0, c1_1, c1_2, c1_3, c1_4, he1.on ((Below.refl _ _).drew), hW.drew⟩ | exact vkeep z1_0 (by assumption) hb2) (first | (go_at_call 11; (with_reducible refine (Q1.out _).mono ?_); rintro e w2 ⟨rfl, hb2⟩) | (go_at_call 12; (with_reducible refine (Q2.out _).mono ?_); rintro e w2 ⟨rfl, hb2⟩) | (go_at_call 13; (with_reducible refine (Q3.out _).mono ?_); rintro e w2 ⟨rfl, hb2⟩) | (go_at_call 14; (with_reducible refine (Q4.out _).mono ?_); rintro e w2 ⟨rfl, hb2⟩) | (go_at_call 15; (with_reducible refine (Q5.out _).mono ?_); rintro e w2 ⟨rfl, hb2⟩) | (go_at_call 16; (with_reducible refine (Q6.out _).mono ?_); rintro e w2 ⟨rfl, hb2⟩) | (go_at_call 17; have hE := (‹_ ∧ _ ∧ _ ∧ _ ∧ _ ∧ Env _ ∧ Below _ _ _›).2.2.2.2.2.1; (with_reducible refine (Q7.out _ hE).mono ?_); clear hE; rintro e w2 ⟨rfl, hb2⟩) | (go_at_call 18; have hE := (‹_ ∧ _ ∧ _ ∧ _ ∧ _ ∧ Env _ ∧ Below _ _ _›).2.2.2.2.2.1; (with_reducible refine (Q8.out _ hE).mono ?_); clear hE; rintro e w2 ⟨rfl, hb2⟩) | (go_at_call 10; have hE := (‹_ ∧ _ ∧ _ ∧ _ ∧ _ ∧ Env _ ∧ Below _ _ _›).2.2.2.2.2.1; (with_reducible refine (QA.out _ hE).mono ?_); clear hE; rintro e w2 ⟨rfl, hb2⟩))
    all_goals (
      go_wp2
      go_ret
      exact ⟨rfl, KB.out.trans ((below7 (by assumption)).mono KB.out.size)⟩)
end Go.Proofs.YtmnfebgkpcjjjaaDoor
