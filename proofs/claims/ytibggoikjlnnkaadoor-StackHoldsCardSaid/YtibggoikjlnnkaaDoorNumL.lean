/- Contracts of layer 2: the texts of numbers. -/
import Derived.Test.YtibggoikjlnnkaaDoorNumK
import Derived.Deep.RegionHeld3
import Derived.Lib.ItoaLen
namespace Go.Proofs.YtibggoikjlnnkaaDoor
open Go.RowKit M1 M2
set_option linter.unusedVariables false
theorem mkB_app (a b : List UInt8) : mkB a ++ mkB b = mkB (a ++ b) := by
  apply ByteArray.ext
  rw [← Array.toList_inj, ByteArray.data_append, Array.toList_append, mkB_list, mkB_list, mkB_list]

theorem text_nan (p q : Int) (w : World) (hv : vld p q = false) :
    Calls Tryd.prog 24 #[.agg #[.int .i64 p, .int .i64 q]] w fun e w' => e = .returned (.string (mkB (textR p q))) ∧ Below w.heap.size w w' := by
  rw [show textR p q = [110, 97, 110] by unfold textR; rw [if_neg (by simp [hv])]]
  go_enter Tryd.func24, Tryd.ntmps24
  go_wp2_with (go_at_call 30; refine (valid_any _ _ _).mono ?_; rintro e w1 ⟨rfl, hb1⟩; obtain ⟨hc1, hf1⟩ := bcell hb1; have hz := hb1.size; (try simp at hz); (try (have z1_0 : w.heap.size < w1.heap.size := (by omega))); (try (have z1_1 : w.heap.size + 1 < w1.heap.size := (by omega))); clear hz)
  go_ret
  refine ⟨rfl, ?_⟩
  repeat (first | exact Below.refl _ _ | refine below_drewN ?_ _ | refine Below.drew ?_ | refine Below.setCell ?_ (by first | omega | (simp; done) | (simp; omega)) _ | refine Below.alloc ?_ (by first | omega | (simp; done) | (simp; omega)) _ | refine below_step (by assumption) (by first | omega | (simp; done) | (simp; omega)) ?_)
theorem text_whole' (p q : Int) (w : World) (he : Env w) (hv : vld p q = true) (hq : q = 1) :
    Calls Tryd.prog 24 #[.agg #[.int .i64 p, .int .i64 q]] w fun e w' => e = .returned (.string (mkB (textR p q))) ∧ Below w.heap.size w w' := by
  rw [show textR p q = Lib.itoa p by unfold textR; rw [if_pos hv, if_pos hq]]
  obtain ⟨h1, h2, h3, h4, _⟩ := vld_iff.1 hv
  have I1 : Hid (∀ w, Env w → Calls Tryd.prog 26 #[.int .i64 p] w fun e w' => e = .returned (.string (mkB (Lib.itoa p))) ∧ Below w.heap.size w w') := Lib.hid fun w he => itoa_any p w (by omega) (by omega) he
  subst hq
  have HE := Lib.hid (he.alloc (.cells #[.int .i64 p, .int .i64 1] 23))
  go_enter Tryd.func24, Tryd.ntmps24
  go_wp2_with (first | (go_at_call 30; refine (valid_any _ _ _).mono ?_; rintro e w1 ⟨rfl, hb1⟩; have HE1 := Lib.hid (HE.out.on hb1); obtain ⟨hc1, hf1⟩ := bcell hb1; have hz := hb1.size; (try simp at hz); (try (have z1_0 : w.heap.size < w1.heap.size := (by omega))); (try (have z1_1 : w.heap.size + 1 < w1.heap.size := (by omega))); clear hz) | (go_at_call 26; (with_reducible refine (I1.out _ HE1.out).mono ?_); rintro e w2 ⟨rfl, hb2⟩; obtain ⟨hc2, hf2⟩ := bcell hb2; have hz := hb2.size; (try simp at hz); (try (have z2_0 : w.heap.size < w2.heap.size := (by omega))); (try (have z2_1 : w.heap.size + 1 < w2.heap.size := (by omega))); (try (have y2_1 : w1.heap.size < w2.heap.size := (by omega))); clear hz))
  go_ret
  refine ⟨rfl, ?_⟩
  repeat (first | exact Below.refl _ _ | refine below_drewN ?_ _ | refine Below.drew ?_ | refine Below.setCell ?_ (by first | omega | (simp; done) | (simp; omega)) _ | refine Below.alloc ?_ (by first | omega | (simp; done) | (simp; omega)) _ | refine below_step (by assumption) (by first | omega | (simp; done) | (simp; omega)) ?_)
theorem keepT {B : Nat} {p q : Int} {W V V' : World} (lB : B < W.heap.size)
    (h : V.cell? ⟨B, 0, none⟩ = some (.int .i64 p) ∧ V.cell? ⟨B, 1, none⟩ = some (.int .i64 q) ∧ Env V ∧ Below W.heap.size W V) (hb : Below V.heap.size V V') :
    V'.cell? ⟨B, 0, none⟩ = some (.int .i64 p) ∧ V'.cell? ⟨B, 1, none⟩ = some (.int .i64 q) ∧ Env V' ∧ Below W.heap.size W V' := by
  obtain ⟨h1, h2, h3, h4⟩ := h
  have hz := h4.size
  exact ⟨by rw [hb.cell (p := ⟨B, 0, none⟩) (Nat.lt_of_lt_of_le lB hz)]; exact h1, by rw [hb.cell (p := ⟨B, 1, none⟩) (Nat.lt_of_lt_of_le lB hz)]; exact h2, h3.on hb, h4.trans (hb.mono hz)⟩
theorem below4 {a b c : Prop} {W V : World} (h : a ∧ b ∧ c ∧ Below W.heap.size W V) : Below W.heap.size W V := h.2.2.2
set_option maxHeartbeats 1000000 in
theorem text_frac (p q : Int) (w : World) (he : Env w) (hv : vld p q = true) (hq : (q == 1) = false) :
    Calls Tryd.prog 24 #[.agg #[.int .i64 p, .int .i64 q]] w fun e w' => e = .returned (.string (mkB (textR p q))) ∧ Below w.heap.size w w' := by
  have hr : textR p q = Lib.itoa p ++ 47 :: Lib.itoa q := by unfold textR; rw [if_pos hv, if_neg (by simpa using hq)]
  rw [hr]
  obtain ⟨h1, h2, h3, h4, _⟩ := vld_iff.1 hv
  have I1 : Hid (∀ w, Env w → Calls Tryd.prog 26 #[.int .i64 p] w fun e w' => e = .returned (.string (mkB (Lib.itoa p))) ∧ Below w.heap.size w w') := Lib.hid fun w he => itoa_any p w (by omega) (by omega) he
  have I2 : Hid (∀ w, Env w → Calls Tryd.prog 26 #[.int .i64 q] w fun e w' => e = .returned (.string (mkB (Lib.itoa q))) ∧ Below w.heap.size w w') := Lib.hid fun w he => itoa_any q w (by omega) (by omega) he
  clear hr
  have HE := Lib.hid (he.alloc (.cells #[.int .i64 p, .int .i64 q] 23))
  have HX : Hid (Ending.returned (.string (mkB (Lib.itoa p) ++ ⟨#[47]⟩ ++ mkB (Lib.itoa q))) = .returned (.string (mkB (Lib.itoa p ++ 47 :: Lib.itoa q)))) := Lib.hid (by
    show Ending.returned (.string (mkB (Lib.itoa p) ++ mkB [47] ++ mkB (Lib.itoa q))) = _
    rw [mkB_app, mkB_app]; simp)
  have hsp : (mkB (Lib.itoa p)).size ≤ 30 := by rw [mkB_size]; have := Lib.itoa_length_le p (by omega) (by omega); omega
  have hsq : (mkB (Lib.itoa q)).size ≤ 30 := by rw [mkB_size]; have := Lib.itoa_length_le q (by omega) (by omega); omega
  generalize mkB (Lib.itoa p) = sp at *
  generalize mkB (Lib.itoa q) = sq at *
  go_enter Tryd.func24, Tryd.ntmps24
  go_wp2_with (go_at_call 30; refine (valid_any _ _ _).mono ?_; rintro e w1 ⟨rfl, hb1⟩; have HE1 := Lib.hid (HE.out.on hb1); obtain ⟨hc1, hf1⟩ := bcell hb1; have hz := hb1.size; (try simp at hz); (try (have z1_0 : w.heap.size < w1.heap.size := (by omega))); (try (have z1_1 : w.heap.size + 1 < w1.heap.size := (by omega))); clear hz)
  have c0 : w1.cell? ⟨w.heap.size, 0, none⟩ = some (.int .i64 p) := by go_simp
  have c1 : w1.cell? ⟨w.heap.size, 1, none⟩ = some (.int .i64 q) := by go_simp
  have k0 : Below w.heap.size w w1 := by
    repeat (first | exact Below.refl _ _ | refine below_drewN ?_ _ | refine Below.drew ?_ | refine Below.setCell ?_ (by first | omega | (simp; done) | (simp; omega)) _ | refine Below.alloc ?_ (by first | omega | (simp; done) | (simp; omega)) _ | refine below_step (by assumption) (by first | omega | (simp; done) | (simp; omega)) ?_)
  have a1 : ∀ W, (Op.stringOp .add sp ⟨#[47]⟩).run Tryd.prog W = .ok (.string (sp ++ ⟨#[47]⟩)) W := fun W => run_string_add_sum (w := W) _ _ (by show sp.size + 1 ≤ _; omega)
  have a2 : ∀ W, (Op.stringOp .add (sp ++ ⟨#[47]⟩) sq).run Tryd.prog W = .ok (.string (sp ++ ⟨#[47]⟩ ++ sq)) W := fun W => run_string_add_sum (w := W) _ _ (by rw [ByteArray.size_append]; show sp.size + 1 + _ ≤ _; omega)
  have hW := Below.refl w1.heap.size w1
  have he1 := HE1.out
  have kz := k0.size
  go_region_held3 (fun w' => w'.cell? ⟨w.heap.size, 0, none⟩ = some (.int .i64 p) ∧ w'.cell? ⟨w.heap.size, 1, none⟩ = some (.int .i64 q) ∧ Env w' ∧ Below w1.heap.size w1 w') (first | assumption | exact ⟨c0, c1, he1.on ((Below.refl _ _).drew), hW.drew⟩ | exact keepT z1_0 (by assumption) hb2) ((first | (go_at_call 26; have hE := (‹_ ∧ _ ∧ Env _ ∧ Below _ _ _›).2.2.1; (with_reducible refine (I1.out _ hE).mono ?_); clear hE; rintro e w2 ⟨rfl, hb2⟩) | (go_at_call 26; have hE := (‹_ ∧ _ ∧ Env _ ∧ Below _ _ _›).2.2.1; (with_reducible refine (I2.out _ hE).mono ?_); clear hE; rintro e w2 ⟨rfl, hb2⟩)))
  all_goals (
    go_wp2
    go_ret
    exact ⟨HX.out, k0.trans ((below4 (by assumption)).mono kz)⟩)
theorem text_any (p q : Int) (w : World) (he : Env w) :
    Calls Tryd.prog 24 #[.agg #[.int .i64 p, .int .i64 q]] w fun e w' => e = .returned (.string (mkB (textR p q))) ∧ Below w.heap.size w w' := by
  cases hv : vld p q with
  | false => exact text_nan p q w hv
  | true =>
    by_cases hq : q = 1
    · exact text_whole' p q w he hv hq
    · exact text_frac p q w he hv (by simpa using hq)
end Go.Proofs.YtibggoikjlnnkaaDoor
