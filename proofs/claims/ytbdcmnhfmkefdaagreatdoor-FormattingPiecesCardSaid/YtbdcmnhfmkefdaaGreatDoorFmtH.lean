/- Contracts of layer 9: integers in a base. -/
import Derived.Test.YtbdcmnhfmkefdaaGreatDoorFmtG
namespace Go.Proofs.YtbdcmnhfmkefdaaGreatDoor
open Go.RowKit M1 M2 M9
set_option linter.unusedVariables false
theorem base9 (p : Int) (b : Nat) (hb : 2 ≤ b) (hb2 : b ≤ 36) (h1 : -9223372036854775808 ≤ p) (h2 : p ≤ 9223372036854775807) (w : World) :
    Calls Tryz.prog 109 #[.int .i64 p, .int .i64 b] w fun e w' => e = .returned (.tuple #[.string (bq (baseL p b)), .int .i64 0]) ∧ Below w.heap.size w w' := by
  have := base_any p b w h1 h2
  rw [show baseT p b = baseL p b by unfold baseT; rw [if_pos (by omega)]; rfl, show baseE b = 0 by unfold baseE; rw [if_pos (by omega)]] at this
  exact this

set_option maxHeartbeats 4000000 in
theorem int_100 (sg z : Bool) (p : Int) (w : World) (hv : vld p 1 = true) :
    Calls Tryz.prog 85 #[.agg #[.int .u8 100, .int .i64 10, .bool sg, .bool z], .agg #[.int .i64 p, .int .i64 1]] w fun e w' => OpSaid (some (baseL p 10)) e ∧ Below w.heap.size w w' := by
  have QW := Lib.hid fun w => whole_any p 1 w
  rw [show whB p 1 = true by unfold whB; simp [hv], show whP p 1 = p by unfold whP whB; simp [hv]] at QW
  obtain ⟨-, -, v1, v2, -⟩ := vld_iff.1 hv
  have QB : Hid (∀ w, Calls Tryz.prog 109 #[.int .i64 p, .int .i64 10] w fun e w' => e = .returned (.tuple #[.string (bq (baseL p 10)), .int .i64 0]) ∧ Below w.heap.size w w') := Lib.hid fun w => base9 p 10 (by decide) (by decide) (by omega) (by omega) w
  clear hv
  generalize baseL p 10 = t at *
  go_enter Tryz.func85, Tryz.ntmps85
  go_wp2_with (first | (go_at_call 108; (with_reducible refine (QW.out _).mono ?_); rintro e w2 ⟨rfl, hb2⟩; obtain ⟨hc2, hf2⟩ := bcell hb2; have hz2 := hb2.size; (try simp at hz2); have x0 : w.heap.size + 1 < w2.heap.size := (by omega); have k0 : w2.cell? ⟨w.heap.size, 0, none⟩ = some (.int .u8 100) := (by rw [hc2 _ _ (by simp; omega)]; go_simp); have k1 : w2.cell? ⟨w.heap.size, 1, none⟩ = some (.int .i64 10) := (by rw [hc2 _ _ (by simp; omega)]; go_simp)) | (go_at_call 109; (with_reducible refine (QB.out _).mono ?_); rintro e w3 ⟨rfl, hb3⟩; obtain ⟨hc3, hf3⟩ := bcell hb3; have hz3 := hb3.size; (try simp at hz3); have x3 : w.heap.size < w3.heap.size := (by omega); have m0 : w3.cell? ⟨w.heap.size, 0, none⟩ = some (.int .u8 100) := (by rw [hc3 _ _ (by omega)]; exact k0)))
  go_ret2
  refine ⟨rfl, ?_⟩
  repeat (first | exact Below.refl _ _ | refine below_drewN ?_ _ | refine Below.drew ?_ | refine Below.setCell ?_ (by first | omega | (simp; done) | (simp; omega)) _ | refine Below.alloc ?_ (by first | omega | (simp; done) | (simp; omega)) _ | refine below_step (by assumption) (by first | omega | (simp; done) | (simp; omega)) ?_)

set_option maxHeartbeats 4000000 in
theorem int_120 (sg z : Bool) (p : Int) (w : World) (hv : vld p 1 = true) :
    Calls Tryz.prog 85 #[.agg #[.int .u8 120, .int .i64 16, .bool sg, .bool z], .agg #[.int .i64 p, .int .i64 1]] w fun e w' => OpSaid ((if p < 0 then none else some (baseL p 16))) e ∧ Below w.heap.size w w' := by
  have QW := Lib.hid fun w => whole_any p 1 w
  rw [show whB p 1 = true by unfold whB; simp [hv], show whP p 1 = p by unfold whP whB; simp [hv]] at QW
  obtain ⟨-, -, v1, v2, -⟩ := vld_iff.1 hv
  have QB : Hid (∀ w, Calls Tryz.prog 109 #[.int .i64 p, .int .i64 16] w fun e w' => e = .returned (.tuple #[.string (bq (baseL p 16)), .int .i64 0]) ∧ Below w.heap.size w w') := Lib.hid fun w => base9 p 16 (by decide) (by decide) (by omega) (by omega) w
  clear hv
  by_cases h0 : p < 0
  · rw [if_pos h0]
    go_enter Tryz.func85, Tryz.ntmps85
    go_wp2_with (go_at_call 108; (with_reducible refine (QW.out _).mono ?_); rintro e w2 ⟨rfl, hb2⟩; obtain ⟨hc2, hf2⟩ := bcell hb2; have hz2 := hb2.size; (try simp at hz2); have x0 : w.heap.size + 1 < w2.heap.size := (by omega); have k0 : w2.cell? ⟨w.heap.size, 0, none⟩ = some (.int .u8 120) := (by rw [hc2 _ _ (by simp; omega)]; go_simp); have k1 : w2.cell? ⟨w.heap.size, 1, none⟩ = some (.int .i64 16) := (by rw [hc2 _ _ (by simp; omega)]; go_simp))
    go_ret2
    refine ⟨rfl, ?_⟩
    repeat (first | exact Below.refl _ _ | refine below_drewN ?_ _ | refine Below.drew ?_ | refine Below.setCell ?_ (by first | omega | (simp; done) | (simp; omega)) _ | refine Below.alloc ?_ (by first | omega | (simp; done) | (simp; omega)) _ | refine below_step (by assumption) (by first | omega | (simp; done) | (simp; omega)) ?_)
  · rw [if_neg h0]
    have d0 : ¬ p < 0 := h0
    generalize baseL p 16 = t at *
    go_enter Tryz.func85, Tryz.ntmps85
    go_wp2_with (first | (go_at_call 108; (with_reducible refine (QW.out _).mono ?_); rintro e w2 ⟨rfl, hb2⟩; obtain ⟨hc2, hf2⟩ := bcell hb2; have hz2 := hb2.size; (try simp at hz2); have x0 : w.heap.size + 1 < w2.heap.size := (by omega); have k0 : w2.cell? ⟨w.heap.size, 0, none⟩ = some (.int .u8 120) := (by rw [hc2 _ _ (by simp; omega)]; go_simp); have k1 : w2.cell? ⟨w.heap.size, 1, none⟩ = some (.int .i64 16) := (by rw [hc2 _ _ (by simp; omega)]; go_simp)) | (go_at_call 109; (with_reducible refine (QB.out _).mono ?_); rintro e w3 ⟨rfl, hb3⟩; obtain ⟨hc3, hf3⟩ := bcell hb3; have hz3 := hb3.size; (try simp at hz3); have x3 : w.heap.size < w3.heap.size := (by omega); have m0 : w3.cell? ⟨w.heap.size, 0, none⟩ = some (.int .u8 120) := (by rw [hc3 _ _ (by omega)]; exact k0)))
    go_ret2
    refine ⟨rfl, ?_⟩
    repeat (first | exact Below.refl _ _ | refine below_drewN ?_ _ | refine Below.drew ?_ | refine Below.setCell ?_ (by first | omega | (simp; done) | (simp; omega)) _ | refine Below.alloc ?_ (by first | omega | (simp; done) | (simp; omega)) _ | refine below_step (by assumption) (by first | omega | (simp; done) | (simp; omega)) ?_)

set_option maxHeartbeats 4000000 in
theorem int_88 (sg z : Bool) (p : Int) (w : World) (hv : vld p 1 = true) :
    Calls Tryz.prog 85 #[.agg #[.int .u8 88, .int .i64 16, .bool sg, .bool z], .agg #[.int .i64 p, .int .i64 1]] w fun e w' => OpSaid ((if p < 0 then none else some ((baseL p 16).map upc))) e ∧ Below w.heap.size w w' := by
  have QW := Lib.hid fun w => whole_any p 1 w
  rw [show whB p 1 = true by unfold whB; simp [hv], show whP p 1 = p by unfold whP whB; simp [hv]] at QW
  obtain ⟨-, -, v1, v2, -⟩ := vld_iff.1 hv
  have QB : Hid (∀ w, Calls Tryz.prog 109 #[.int .i64 p, .int .i64 16] w fun e w' => e = .returned (.tuple #[.string (bq (baseL p 16)), .int .i64 0]) ∧ Below w.heap.size w w') := Lib.hid fun w => base9 p 16 (by decide) (by decide) (by omega) (by omega) w
  clear hv
  by_cases h0 : p < 0
  · rw [if_pos h0]
    go_enter Tryz.func85, Tryz.ntmps85
    go_wp2_with (go_at_call 108; (with_reducible refine (QW.out _).mono ?_); rintro e w2 ⟨rfl, hb2⟩; obtain ⟨hc2, hf2⟩ := bcell hb2; have hz2 := hb2.size; (try simp at hz2); have x0 : w.heap.size + 1 < w2.heap.size := (by omega); have k0 : w2.cell? ⟨w.heap.size, 0, none⟩ = some (.int .u8 88) := (by rw [hc2 _ _ (by simp; omega)]; go_simp); have k1 : w2.cell? ⟨w.heap.size, 1, none⟩ = some (.int .i64 16) := (by rw [hc2 _ _ (by simp; omega)]; go_simp))
    go_ret2
    refine ⟨rfl, ?_⟩
    repeat (first | exact Below.refl _ _ | refine below_drewN ?_ _ | refine Below.drew ?_ | refine Below.setCell ?_ (by first | omega | (simp; done) | (simp; omega)) _ | refine Below.alloc ?_ (by first | omega | (simp; done) | (simp; omega)) _ | refine below_step (by assumption) (by first | omega | (simp; done) | (simp; omega)) ?_)
  · rw [if_neg h0]
    have d0 : ¬ p < 0 := h0
    have QU := Lib.hid fun w => up_any (bq (baseL p 16)) w (by rw [bq_size]; have := base_len p 16 (by decide) (by omega) (by omega); omega) (by rw [bq_list]; exact base_ascii (by omega) (by omega))
    rw [bq_list] at QU
    generalize (baseL p 16).map upc = u at *
    generalize baseL p 16 = t at *
    go_enter Tryz.func85, Tryz.ntmps85
    go_wp2_with (first | (go_at_call 108; (with_reducible refine (QW.out _).mono ?_); rintro e w2 ⟨rfl, hb2⟩; obtain ⟨hc2, hf2⟩ := bcell hb2; have hz2 := hb2.size; (try simp at hz2); have x0 : w.heap.size + 1 < w2.heap.size := (by omega); have k0 : w2.cell? ⟨w.heap.size, 0, none⟩ = some (.int .u8 88) := (by rw [hc2 _ _ (by simp; omega)]; go_simp); have k1 : w2.cell? ⟨w.heap.size, 1, none⟩ = some (.int .i64 16) := (by rw [hc2 _ _ (by simp; omega)]; go_simp)) | (go_at_call 109; (with_reducible refine (QB.out _).mono ?_); rintro e w3 ⟨rfl, hb3⟩; obtain ⟨hc3, hf3⟩ := bcell hb3; have hz3 := hb3.size; (try simp at hz3); have x3 : w.heap.size < w3.heap.size := (by omega); have m0 : w3.cell? ⟨w.heap.size, 0, none⟩ = some (.int .u8 88) := (by rw [hc3 _ _ (by omega)]; exact k0)) | (go_at_call 110; (with_reducible refine (QU.out _).mono ?_); rintro e w4 ⟨rfl, hb4⟩; obtain ⟨hc4, hf4⟩ := bcell hb4; have hz4 := hb4.size; (try simp at hz4); ))
    go_ret2
    refine ⟨rfl, ?_⟩
    repeat (first | exact Below.refl _ _ | refine below_drewN ?_ _ | refine Below.drew ?_ | refine Below.setCell ?_ (by first | omega | (simp; done) | (simp; omega)) _ | refine Below.alloc ?_ (by first | omega | (simp; done) | (simp; omega)) _ | refine below_step (by assumption) (by first | omega | (simp; done) | (simp; omega)) ?_)

set_option maxHeartbeats 4000000 in
theorem int_111 (sg z : Bool) (p : Int) (w : World) (hv : vld p 1 = true) :
    Calls Tryz.prog 85 #[.agg #[.int .u8 111, .int .i64 8, .bool sg, .bool z], .agg #[.int .i64 p, .int .i64 1]] w fun e w' => OpSaid ((if p < 0 then none else some (baseL p 8))) e ∧ Below w.heap.size w w' := by
  have QW := Lib.hid fun w => whole_any p 1 w
  rw [show whB p 1 = true by unfold whB; simp [hv], show whP p 1 = p by unfold whP whB; simp [hv]] at QW
  obtain ⟨-, -, v1, v2, -⟩ := vld_iff.1 hv
  have QB : Hid (∀ w, Calls Tryz.prog 109 #[.int .i64 p, .int .i64 8] w fun e w' => e = .returned (.tuple #[.string (bq (baseL p 8)), .int .i64 0]) ∧ Below w.heap.size w w') := Lib.hid fun w => base9 p 8 (by decide) (by decide) (by omega) (by omega) w
  clear hv
  by_cases h0 : p < 0
  · rw [if_pos h0]
    go_enter Tryz.func85, Tryz.ntmps85
    go_wp2_with (go_at_call 108; (with_reducible refine (QW.out _).mono ?_); rintro e w2 ⟨rfl, hb2⟩; obtain ⟨hc2, hf2⟩ := bcell hb2; have hz2 := hb2.size; (try simp at hz2); have x0 : w.heap.size + 1 < w2.heap.size := (by omega); have k0 : w2.cell? ⟨w.heap.size, 0, none⟩ = some (.int .u8 111) := (by rw [hc2 _ _ (by simp; omega)]; go_simp); have k1 : w2.cell? ⟨w.heap.size, 1, none⟩ = some (.int .i64 8) := (by rw [hc2 _ _ (by simp; omega)]; go_simp))
    go_ret2
    refine ⟨rfl, ?_⟩
    repeat (first | exact Below.refl _ _ | refine below_drewN ?_ _ | refine Below.drew ?_ | refine Below.setCell ?_ (by first | omega | (simp; done) | (simp; omega)) _ | refine Below.alloc ?_ (by first | omega | (simp; done) | (simp; omega)) _ | refine below_step (by assumption) (by first | omega | (simp; done) | (simp; omega)) ?_)
  · rw [if_neg h0]
    have d0 : ¬ p < 0 := h0
    generalize baseL p 8 = t at *
    go_enter Tryz.func85, Tryz.ntmps85
    go_wp2_with (first | (go_at_call 108; (with_reducible refine (QW.out _).mono ?_); rintro e w2 ⟨rfl, hb2⟩; obtain ⟨hc2, hf2⟩ := bcell hb2; have hz2 := hb2.size; (try simp at hz2); have x0 : w.heap.size + 1 < w2.heap.size := (by omega); have k0 : w2.cell? ⟨w.heap.size, 0, none⟩ = some (.int .u8 111) := (by rw [hc2 _ _ (by simp; omega)]; go_simp); have k1 : w2.cell? ⟨w.heap.size, 1, none⟩ = some (.int .i64 8) := (by rw [hc2 _ _ (by simp; omega)]; go_simp)) | (go_at_call 109; (with_reducible refine (QB.out _).mono ?_); rintro e w3 ⟨rfl, hb3⟩; obtain ⟨hc3, hf3⟩ := bcell hb3; have hz3 := hb3.size; (try simp at hz3); have x3 : w.heap.size < w3.heap.size := (by omega); have m0 : w3.cell? ⟨w.heap.size, 0, none⟩ = some (.int .u8 111) := (by rw [hc3 _ _ (by omega)]; exact k0)))
    go_ret2
    refine ⟨rfl, ?_⟩
    repeat (first | exact Below.refl _ _ | refine below_drewN ?_ _ | refine Below.drew ?_ | refine Below.setCell ?_ (by first | omega | (simp; done) | (simp; omega)) _ | refine Below.alloc ?_ (by first | omega | (simp; done) | (simp; omega)) _ | refine below_step (by assumption) (by first | omega | (simp; done) | (simp; omega)) ?_)

/-- The verbs for integers. -/
def intRow (l : Nat) (b : Int) : Prop := (l = 99 ∧ b = 0) ∨ (l = 100 ∧ b = 10) ∨ (l = 120 ∧ b = 16) ∨ (l = 88 ∧ b = 16) ∨ (l = 111 ∧ b = 8)
theorem integer_any (l : Nat) (b : Int) (sg z : Bool) (p q : Int) (w : World) (hl : intRow l b) (hv : vld p q = true) :
    Calls Tryz.prog 85 #[.agg #[.int .u8 (l : Int), .int .i64 b, .bool sg, .bool z], .agg #[.int .i64 p, .int .i64 q]] w fun e w' => OpSaid (intF l p q) e ∧ Below w.heap.size w w' := by
  by_cases hq : q = 1
  · subst hq
    rcases hl with ⟨rfl, rfl⟩ | ⟨rfl, rfl⟩ | ⟨rfl, rfl⟩ | ⟨rfl, rfl⟩ | ⟨rfl, rfl⟩
    · rw [show intF 99 p 1 = if p < 0 ∨ 255 < p then none else some [UInt8.ofNat p.toNat] by unfold intF; simp]; exact int_char sg z p w hv
    · rw [show intF 100 p 1 = some (baseL p 10) by unfold intF; simp]; exact int_100 sg z p w hv
    · rw [show intF 120 p 1 = if p < 0 then none else some (baseL p 16) by unfold intF; simp]; exact int_120 sg z p w hv
    · rw [show intF 88 p 1 = if p < 0 then none else some ((baseL p 16).map upc) by unfold intF; simp]; exact int_88 sg z p w hv
    · rw [show intF 111 p 1 = if p < 0 then none else some (baseL p 8) by unfold intF; simp]; exact int_111 sg z p w hv
  · rw [show intF l p q = none by unfold intF; rw [if_pos hq]]
    exact int_no _ _ sg z p q w hq
end Go.Proofs.YtbdcmnhfmkefdaaGreatDoor
