/- Contracts of layer 11: texts of values. -/
import Derived.Test.YtibggoikjlnnkaaDoorValD
import Derived.Test.YtibggoikjlnnkaaDoorValZ
import Derived.Deep.RegionHeld3
namespace Go.Proofs.YtibggoikjlnnkaaDoor
open Go.RowKit M1 M2
set_option linter.unusedVariables false
def textS (k p q : Int) (s : ByteArray) (r : Int) : ByteArray :=
  if k = 0 then ⟨#[110, 105, 108]⟩ else if k = 1 then (if r = 0 then ⟨#[102, 97, 108, 115, 101]⟩ else ⟨#[116, 114, 117, 101]⟩) else if k = 2 then mkB (textR p q) else if k = 3 then s else if k = 6 then ⟨#[98, 117, 105, 108, 116, 105, 110, 58, 32]⟩ ++ s
  else if k = 4 ∨ k = 5 ∨ k = 7 ∨ k = 8 then typeS k ++ ⟨#[58, 32]⟩ ++ mkB (Lib.itoa r) else ⟨#[]⟩
theorem vkeep {B : Nat} {k p q : Int} {s : ByteArray} {r : Int} {W V V' : World} (lB : B < W.heap.size)
    (h : V.cell? ⟨B, 0, none⟩ = some (.int .i64 k) ∧ V.cell? ⟨B, 1, none⟩ = some (.int .i64 p) ∧ V.cell? ⟨B, 2, none⟩ = some (.int .i64 q) ∧ V.cell? ⟨B, 3, none⟩ = some (.string s) ∧ V.cell? ⟨B, 4, none⟩ = some (.int .i64 r) ∧ Env V ∧ Below W.heap.size W V) (hb : Below V.heap.size V V') :
    V'.cell? ⟨B, 0, none⟩ = some (.int .i64 k) ∧ V'.cell? ⟨B, 1, none⟩ = some (.int .i64 p) ∧ V'.cell? ⟨B, 2, none⟩ = some (.int .i64 q) ∧ V'.cell? ⟨B, 3, none⟩ = some (.string s) ∧ V'.cell? ⟨B, 4, none⟩ = some (.int .i64 r) ∧ Env V' ∧ Below W.heap.size W V' := by
  obtain ⟨h0, h1, h2, h3, h4, h5, h6⟩ := h
  have hz := h6.size
  have hl := Nat.lt_of_lt_of_le lB hz
  exact ⟨by rw [hb.cell (p := ⟨B, 0, none⟩) hl]; exact h0, by rw [hb.cell (p := ⟨B, 1, none⟩) hl]; exact h1, by rw [hb.cell (p := ⟨B, 2, none⟩) hl]; exact h2, by rw [hb.cell (p := ⟨B, 3, none⟩) hl]; exact h3, by rw [hb.cell (p := ⟨B, 4, none⟩) hl]; exact h4, h5.on hb, h6.trans (hb.mono hz)⟩
theorem below7 {a b c d e f : Prop} {W V : World} (h : a ∧ b ∧ c ∧ d ∧ e ∧ f ∧ Below W.heap.size W V) : Below W.heap.size W V := h.2.2.2.2.2.2
theorem typeS_len (k : Int) : (typeS k).size ≤ 8 := by
  unfold typeS typeN
  split
  · decide
  split
  · decide
  split
  · decide
  split
  · decide
  split
  · decide
  split
  · decide
  split
  · decide
  split
  · decide
  split
  · decide
  decide
theorem tx_0 (p q : Int) (s : ByteArray) (r : Int) (w : World) (he : Env w) :
    Calls Tryd.prog 10 #[.agg #[.int .i64 0, .int .i64 p, .int .i64 q, .string s, .int .i64 r]] w fun e w' => e = .returned (.string ⟨#[110, 105, 108]⟩) ∧ Below w.heap.size w w' := by
  go_enter Tryd.func10, Tryd.ntmps10
  go_wp2
  go_ret
  refine ⟨rfl, ?_⟩
  repeat (first | exact Below.refl _ _ | refine below_drewN ?_ _ | refine Below.drew ?_ | refine Below.setCell ?_ (by first | omega | (simp; done) | (simp; omega)) _ | refine Below.alloc ?_ (by first | omega | (simp; done) | (simp; omega)) _ | refine vstep (by assumption) (by first | omega | (simp; done) | (simp; omega)) ?_)
theorem tx_10 (p q : Int) (s : ByteArray) (r : Int) (w : World) (he : Env w) (hr : r = 0) :
    Calls Tryd.prog 10 #[.agg #[.int .i64 1, .int .i64 p, .int .i64 q, .string s, .int .i64 r]] w fun e w' => e = .returned (.string ⟨#[102, 97, 108, 115, 101]⟩) ∧ Below w.heap.size w w' := by
  subst hr
  have Q : Hid (∀ w, Calls Tryd.prog 23 #[.bool false] w fun e w' => e = .returned (.string ⟨#[102, 97, 108, 115, 101]⟩) ∧ w = w') := Lib.hid fun w => (Tryd.strconv_FormatBool false w).mono fun e w' ⟨h1, h2⟩ => ⟨h1, h2.symm⟩
  go_enter Tryd.func10, Tryd.ntmps10
  go_wp2_with (go_at_call 23; (with_reducible refine (Q.out _).mono ?_); rintro e w1 ⟨rfl, rfl⟩)
  go_ret
  refine ⟨rfl, ?_⟩
  repeat (first | exact Below.refl _ _ | refine below_drewN ?_ _ | refine Below.drew ?_ | refine Below.setCell ?_ (by first | omega | (simp; done) | (simp; omega)) _ | refine Below.alloc ?_ (by first | omega | (simp; done) | (simp; omega)) _ | refine vstep (by assumption) (by first | omega | (simp; done) | (simp; omega)) ?_)
theorem tx_11 (p q : Int) (s : ByteArray) (r : Int) (w : World) (he : Env w) (hr : ¬ r = 0) :
    Calls Tryd.prog 10 #[.agg #[.int .i64 1, .int .i64 p, .int .i64 q, .string s, .int .i64 r]] w fun e w' => e = .returned (.string ⟨#[116, 114, 117, 101]⟩) ∧ Below w.heap.size w w' := by
  have g : (r != 0) = true := by rw [bne_iff_ne]; exact hr
  clear hr
  have Q : Hid (∀ w, Calls Tryd.prog 23 #[.bool true] w fun e w' => e = .returned (.string ⟨#[116, 114, 117, 101]⟩) ∧ w = w') := Lib.hid fun w => (Tryd.strconv_FormatBool true w).mono fun e w' ⟨h1, h2⟩ => ⟨h1, h2.symm⟩
  go_enter Tryd.func10, Tryd.ntmps10
  go_wp2_with (go_at_call 23; (with_reducible refine (Q.out _).mono ?_); rintro e w1 ⟨rfl, rfl⟩)
  go_ret
  refine ⟨rfl, ?_⟩
  repeat (first | exact Below.refl _ _ | refine below_drewN ?_ _ | refine Below.drew ?_ | refine Below.setCell ?_ (by first | omega | (simp; done) | (simp; omega)) _ | refine Below.alloc ?_ (by first | omega | (simp; done) | (simp; omega)) _ | refine vstep (by assumption) (by first | omega | (simp; done) | (simp; omega)) ?_)
theorem tx_2 (p q : Int) (s : ByteArray) (r : Int) (w : World) (he : Env w) :
    Calls Tryd.prog 10 #[.agg #[.int .i64 2, .int .i64 p, .int .i64 q, .string s, .int .i64 r]] w fun e w' => e = .returned (.string (mkB (textR p q))) ∧ Below w.heap.size w w' := by
  have Q := Lib.hid fun w (he : Env w) => text_any p q w he
  have HE := Lib.hid fun o => he.alloc o
  clear he
  generalize textR p q = z at *
  go_enter Tryd.func10, Tryd.ntmps10
  go_wp2_with (go_at_call 24; (with_reducible refine (Q.out _ (HE.out _)).mono ?_); rintro e w1 ⟨rfl, hb1⟩; obtain ⟨hc1, hf1⟩ := bcell hb1; have hz := hb1.size; (try simp at hz); (try (have z1_0 : w.heap.size < w1.heap.size := (by omega))); clear hz; (try (have c1_0 : w1.cell? ⟨w.heap.size, 0, none⟩ = some (.int .i64 2) := by go_simp)); (try (have c1_1 : w1.cell? ⟨w.heap.size, 1, none⟩ = some (.int .i64 p) := by go_simp)); (try (have c1_2 : w1.cell? ⟨w.heap.size, 2, none⟩ = some (.int .i64 q) := by go_simp)); (try (have c1_3 : w1.cell? ⟨w.heap.size, 3, none⟩ = some (.string s) := by go_simp)); (try (have c1_4 : w1.cell? ⟨w.heap.size, 4, none⟩ = some (.int .i64 r) := by go_simp)))
  go_ret
  refine ⟨rfl, ?_⟩
  repeat (first | exact Below.refl _ _ | refine below_drewN ?_ _ | refine Below.drew ?_ | refine Below.setCell ?_ (by first | omega | (simp; done) | (simp; omega)) _ | refine Below.alloc ?_ (by first | omega | (simp; done) | (simp; omega)) _ | refine vstep (by assumption) (by first | omega | (simp; done) | (simp; omega)) ?_)
theorem tx_3 (p q : Int) (s : ByteArray) (r : Int) (w : World) (he : Env w) :
    Calls Tryd.prog 10 #[.agg #[.int .i64 3, .int .i64 p, .int .i64 q, .string s, .int .i64 r]] w fun e w' => e = .returned (.string s) ∧ Below w.heap.size w w' := by
  go_enter Tryd.func10, Tryd.ntmps10
  go_wp2
  go_ret
  refine ⟨rfl, ?_⟩
  repeat (first | exact Below.refl _ _ | refine below_drewN ?_ _ | refine Below.drew ?_ | refine Below.setCell ?_ (by first | omega | (simp; done) | (simp; omega)) _ | refine Below.alloc ?_ (by first | omega | (simp; done) | (simp; omega)) _ | refine vstep (by assumption) (by first | omega | (simp; done) | (simp; omega)) ?_)
theorem tx_6 (p q : Int) (s : ByteArray) (r : Int) (w : World) (he : Env w) (hs : s.size ≤ 1000000) :
    Calls Tryd.prog 10 #[.agg #[.int .i64 6, .int .i64 p, .int .i64 q, .string s, .int .i64 r]] w fun e w' => e = .returned (.string (⟨#[98, 117, 105, 108, 116, 105, 110, 58, 32]⟩ ++ s)) ∧ Below w.heap.size w w' := by
  have a1 : ∀ W, (Op.stringOp .add ⟨#[98, 117, 105, 108, 116, 105, 110, 58, 32]⟩ s).run Tryd.prog W = .ok (.string (⟨#[98, 117, 105, 108, 116, 105, 110, 58, 32]⟩ ++ s)) W := fun W => run_string_add_sum (w := W) _ _ (by show 9 + s.size ≤ _; omega)
  clear he
  go_enter Tryd.func10, Tryd.ntmps10
  go_wp2
  go_ret
  refine ⟨rfl, ?_⟩
  repeat (first | exact Below.refl _ _ | refine below_drewN ?_ _ | refine Below.drew ?_ | refine Below.setCell ?_ (by first | omega | (simp; done) | (simp; omega)) _ | refine Below.alloc ?_ (by first | omega | (simp; done) | (simp; omega)) _ | refine vstep (by assumption) (by first | omega | (simp; done) | (simp; omega)) ?_)
theorem tx_4 (p q : Int) (s : ByteArray) (r : Int) (w : World) (he : Env w) (h0 : -9223372036854775808 ≤ r) (h1 : r ≤ 9223372036854775807) :
    Calls Tryd.prog 10 #[.agg #[.int .i64 4, .int .i64 p, .int .i64 q, .string s, .int .i64 r]] w fun e w' => e = .returned (.string (typeS 4 ++ ⟨#[58, 32]⟩ ++ mkB (Lib.itoa r))) ∧ Below w.heap.size w w' := by
  skip
  have QT : Hid (∀ w, Calls Tryd.prog 25 #[.agg #[.int .i64 4, .int .i64 p, .int .i64 q, .string s, .int .i64 r]] w fun e w' => e = .returned (.string (typeS 4)) ∧ Below w.heap.size w w') := Lib.hid fun w => type_any 4 p q s r w (by decide)
  have QI : Hid (∀ w, Env w → Calls Tryd.prog 26 #[.int .i64 r] w fun e w' => e = .returned (.string (mkB (Lib.itoa r))) ∧ Below w.heap.size w w') := Lib.hid fun w he => itoa_any r w h0 h1 he
  have ht := typeS_len 4
  have hi : (mkB (Lib.itoa r)).size ≤ 30 := by rw [mkB_size]; have := Lib.itoa_length_le r h0 h1; omega
  generalize typeS 4 = t at *
  generalize mkB (Lib.itoa r) = z at *
  have a1 : ∀ W, (Op.stringOp .add t ⟨#[58, 32]⟩).run Tryd.prog W = .ok (.string (t ++ ⟨#[58, 32]⟩)) W := fun W => run_string_add_sum (w := W) _ _ (by show t.size + 2 ≤ _; omega)
  have a2 : ∀ W, (Op.stringOp .add (t ++ ⟨#[58, 32]⟩) z).run Tryd.prog W = .ok (.string (t ++ ⟨#[58, 32]⟩ ++ z)) W := fun W => run_string_add_sum (w := W) _ _ (by rw [ByteArray.size_append]; show t.size + 2 + _ ≤ _; omega)
  have HE := he.alloc (.cells #[.int .i64 4, .int .i64 p, .int .i64 q, .string s, .int .i64 r] 25)
  clear ht hi h0 h1 he
  go_enter Tryd.func10, Tryd.ntmps10
  go_upto_region 16 with fail
  have B0 : Blk 25 w.heap.size #[.int .i64 4, .int .i64 p, .int .i64 q, .string s, .int .i64 r] (w.alloc (.cells #[.int .i64 4, .int .i64 p, .int .i64 q, .string s, .int .i64 r] 25)) := Blk.new _ _ _ _ rfl
  have KB := Lib.hid ((Below.refl w.heap.size w).alloc (Nat.le_refl _) (.cells #[.int .i64 4, .int .i64 p, .int .i64 q, .string s, .int .i64 r] 25))
  have kz := B0.lt
  have c0 : (w.alloc (.cells #[.int .i64 4, .int .i64 p, .int .i64 q, .string s, .int .i64 r] 25)).cell? ⟨w.heap.size, 0, none⟩ = some (.int .i64 4) := B0.cell 0
  have c1 : (w.alloc (.cells #[.int .i64 4, .int .i64 p, .int .i64 q, .string s, .int .i64 r] 25)).cell? ⟨w.heap.size, 1, none⟩ = some (.int .i64 p) := B0.cell 1
  have c2 : (w.alloc (.cells #[.int .i64 4, .int .i64 p, .int .i64 q, .string s, .int .i64 r] 25)).cell? ⟨w.heap.size, 2, none⟩ = some (.int .i64 q) := B0.cell 2
  have c3 : (w.alloc (.cells #[.int .i64 4, .int .i64 p, .int .i64 q, .string s, .int .i64 r] 25)).cell? ⟨w.heap.size, 3, none⟩ = some (.string s) := B0.cell 3
  have c4 : (w.alloc (.cells #[.int .i64 4, .int .i64 p, .int .i64 q, .string s, .int .i64 r] 25)).cell? ⟨w.heap.size, 4, none⟩ = some (.int .i64 r) := B0.cell 4
  clear B0
  generalize w.alloc (.cells #[.int .i64 4, .int .i64 p, .int .i64 q, .string s, .int .i64 r] 25) = W1 at *
  have hW := Below.refl W1.heap.size W1
  go_region_held3 (fun w' => w'.cell? ⟨w.heap.size, 0, none⟩ = some (.int .i64 4) ∧ w'.cell? ⟨w.heap.size, 1, none⟩ = some (.int .i64 p) ∧ w'.cell? ⟨w.heap.size, 2, none⟩ = some (.int .i64 q) ∧ w'.cell? ⟨w.heap.size, 3, none⟩ = some (.string s) ∧ w'.cell? ⟨w.heap.size, 4, none⟩ = some (.int .i64 r) ∧ Env w' ∧ Below W1.heap.size W1 w') (first | assumption | exact ⟨c0, c1, c2, c3, c4, HE.on ((Below.refl _ _).drew), hW.drew⟩ | exact vkeep kz (by assumption) hb2) ((first | (go_at_call 25; (with_reducible refine (QT.out _).mono ?_); rintro e w2 ⟨rfl, hb2⟩) | (go_at_call 26; have hE := (‹_ ∧ _ ∧ _ ∧ _ ∧ _ ∧ Env _ ∧ Below _ _ _›).2.2.2.2.2.1; (with_reducible refine (QI.out _ hE).mono ?_); clear hE; rintro e w2 ⟨rfl, hb2⟩)))
  all_goals (
    go_wp2
    go_ret
    exact ⟨rfl, KB.out.trans ((below7 (by assumption)).mono KB.out.size)⟩)
theorem tx_5 (p q : Int) (s : ByteArray) (r : Int) (w : World) (he : Env w) (h0 : -9223372036854775808 ≤ r) (h1 : r ≤ 9223372036854775807) :
    Calls Tryd.prog 10 #[.agg #[.int .i64 5, .int .i64 p, .int .i64 q, .string s, .int .i64 r]] w fun e w' => e = .returned (.string (typeS 5 ++ ⟨#[58, 32]⟩ ++ mkB (Lib.itoa r))) ∧ Below w.heap.size w w' := by
  skip
  have QT : Hid (∀ w, Calls Tryd.prog 25 #[.agg #[.int .i64 5, .int .i64 p, .int .i64 q, .string s, .int .i64 r]] w fun e w' => e = .returned (.string (typeS 5)) ∧ Below w.heap.size w w') := Lib.hid fun w => type_any 5 p q s r w (by decide)
  have QI : Hid (∀ w, Env w → Calls Tryd.prog 26 #[.int .i64 r] w fun e w' => e = .returned (.string (mkB (Lib.itoa r))) ∧ Below w.heap.size w w') := Lib.hid fun w he => itoa_any r w h0 h1 he
  have ht := typeS_len 5
  have hi : (mkB (Lib.itoa r)).size ≤ 30 := by rw [mkB_size]; have := Lib.itoa_length_le r h0 h1; omega
  generalize typeS 5 = t at *
  generalize mkB (Lib.itoa r) = z at *
  have a1 : ∀ W, (Op.stringOp .add t ⟨#[58, 32]⟩).run Tryd.prog W = .ok (.string (t ++ ⟨#[58, 32]⟩)) W := fun W => run_string_add_sum (w := W) _ _ (by show t.size + 2 ≤ _; omega)
  have a2 : ∀ W, (Op.stringOp .add (t ++ ⟨#[58, 32]⟩) z).run Tryd.prog W = .ok (.string (t ++ ⟨#[58, 32]⟩ ++ z)) W := fun W => run_string_add_sum (w := W) _ _ (by rw [ByteArray.size_append]; show t.size + 2 + _ ≤ _; omega)
  have HE := he.alloc (.cells #[.int .i64 5, .int .i64 p, .int .i64 q, .string s, .int .i64 r] 25)
  clear ht hi h0 h1 he
  go_enter Tryd.func10, Tryd.ntmps10
  go_upto_region 16 with fail
  have B0 : Blk 25 w.heap.size #[.int .i64 5, .int .i64 p, .int .i64 q, .string s, .int .i64 r] (w.alloc (.cells #[.int .i64 5, .int .i64 p, .int .i64 q, .string s, .int .i64 r] 25)) := Blk.new _ _ _ _ rfl
  have KB := Lib.hid ((Below.refl w.heap.size w).alloc (Nat.le_refl _) (.cells #[.int .i64 5, .int .i64 p, .int .i64 q, .string s, .int .i64 r] 25))
  have kz := B0.lt
  have c0 : (w.alloc (.cells #[.int .i64 5, .int .i64 p, .int .i64 q, .string s, .int .i64 r] 25)).cell? ⟨w.heap.size, 0, none⟩ = some (.int .i64 5) := B0.cell 0
  have c1 : (w.alloc (.cells #[.int .i64 5, .int .i64 p, .int .i64 q, .string s, .int .i64 r] 25)).cell? ⟨w.heap.size, 1, none⟩ = some (.int .i64 p) := B0.cell 1
  have c2 : (w.alloc (.cells #[.int .i64 5, .int .i64 p, .int .i64 q, .string s, .int .i64 r] 25)).cell? ⟨w.heap.size, 2, none⟩ = some (.int .i64 q) := B0.cell 2
  have c3 : (w.alloc (.cells #[.int .i64 5, .int .i64 p, .int .i64 q, .string s, .int .i64 r] 25)).cell? ⟨w.heap.size, 3, none⟩ = some (.string s) := B0.cell 3
  have c4 : (w.alloc (.cells #[.int .i64 5, .int .i64 p, .int .i64 q, .string s, .int .i64 r] 25)).cell? ⟨w.heap.size, 4, none⟩ = some (.int .i64 r) := B0.cell 4
  clear B0
  generalize w.alloc (.cells #[.int .i64 5, .int .i64 p, .int .i64 q, .string s, .int .i64 r] 25) = W1 at *
  have hW := Below.refl W1.heap.size W1
  go_region_held3 (fun w' => w'.cell? ⟨w.heap.size, 0, none⟩ = some (.int .i64 5) ∧ w'.cell? ⟨w.heap.size, 1, none⟩ = some (.int .i64 p) ∧ w'.cell? ⟨w.heap.size, 2, none⟩ = some (.int .i64 q) ∧ w'.cell? ⟨w.heap.size, 3, none⟩ = some (.string s) ∧ w'.cell? ⟨w.heap.size, 4, none⟩ = some (.int .i64 r) ∧ Env w' ∧ Below W1.heap.size W1 w') (first | assumption | exact ⟨c0, c1, c2, c3, c4, HE.on ((Below.refl _ _).drew), hW.drew⟩ | exact vkeep kz (by assumption) hb2) ((first | (go_at_call 25; (with_reducible refine (QT.out _).mono ?_); rintro e w2 ⟨rfl, hb2⟩) | (go_at_call 26; have hE := (‹_ ∧ _ ∧ _ ∧ _ ∧ _ ∧ Env _ ∧ Below _ _ _›).2.2.2.2.2.1; (with_reducible refine (QI.out _ hE).mono ?_); clear hE; rintro e w2 ⟨rfl, hb2⟩)))
  all_goals (
    go_wp2
    go_ret
    exact ⟨rfl, KB.out.trans ((below7 (by assumption)).mono KB.out.size)⟩)
theorem tx_7 (p q : Int) (s : ByteArray) (r : Int) (w : World) (he : Env w) (h0 : -9223372036854775808 ≤ r) (h1 : r ≤ 9223372036854775807) :
    Calls Tryd.prog 10 #[.agg #[.int .i64 7, .int .i64 p, .int .i64 q, .string s, .int .i64 r]] w fun e w' => e = .returned (.string (typeS 7 ++ ⟨#[58, 32]⟩ ++ mkB (Lib.itoa r))) ∧ Below w.heap.size w w' := by
  skip
  have QT : Hid (∀ w, Calls Tryd.prog 25 #[.agg #[.int .i64 7, .int .i64 p, .int .i64 q, .string s, .int .i64 r]] w fun e w' => e = .returned (.string (typeS 7)) ∧ Below w.heap.size w w') := Lib.hid fun w => type_any 7 p q s r w (by decide)
  have QI : Hid (∀ w, Env w → Calls Tryd.prog 26 #[.int .i64 r] w fun e w' => e = .returned (.string (mkB (Lib.itoa r))) ∧ Below w.heap.size w w') := Lib.hid fun w he => itoa_any r w h0 h1 he
  have ht := typeS_len 7
  have hi : (mkB (Lib.itoa r)).size ≤ 30 := by rw [mkB_size]; have := Lib.itoa_length_le r h0 h1; omega
  generalize typeS 7 = t at *
  generalize mkB (Lib.itoa r) = z at *
  have a1 : ∀ W, (Op.stringOp .add t ⟨#[58, 32]⟩).run Tryd.prog W = .ok (.string (t ++ ⟨#[58, 32]⟩)) W := fun W => run_string_add_sum (w := W) _ _ (by show t.size + 2 ≤ _; omega)
  have a2 : ∀ W, (Op.stringOp .add (t ++ ⟨#[58, 32]⟩) z).run Tryd.prog W = .ok (.string (t ++ ⟨#[58, 32]⟩ ++ z)) W := fun W => run_string_add_sum (w := W) _ _ (by rw [ByteArray.size_append]; show t.size + 2 + _ ≤ _; omega)
  have HE := he.alloc (.cells #[.int .i64 7, .int .i64 p, .int .i64 q, .string s, .int .i64 r] 25)
  clear ht hi h0 h1 he
  go_enter Tryd.func10, Tryd.ntmps10
  go_upto_region 16 with fail
  have B0 : Blk 25 w.heap.size #[.int .i64 7, .int .i64 p, .int .i64 q, .string s, .int .i64 r] (w.alloc (.cells #[.int .i64 7, .int .i64 p, .int .i64 q, .string s, .int .i64 r] 25)) := Blk.new _ _ _ _ rfl
  have KB := Lib.hid ((Below.refl w.heap.size w).alloc (Nat.le_refl _) (.cells #[.int .i64 7, .int .i64 p, .int .i64 q, .string s, .int .i64 r] 25))
  have kz := B0.lt
  have c0 : (w.alloc (.cells #[.int .i64 7, .int .i64 p, .int .i64 q, .string s, .int .i64 r] 25)).cell? ⟨w.heap.size, 0, none⟩ = some (.int .i64 7) := B0.cell 0
  have c1 : (w.alloc (.cells #[.int .i64 7, .int .i64 p, .int .i64 q, .string s, .int .i64 r] 25)).cell? ⟨w.heap.size, 1, none⟩ = some (.int .i64 p) := B0.cell 1
  have c2 : (w.alloc (.cells #[.int .i64 7, .int .i64 p, .int .i64 q, .string s, .int .i64 r] 25)).cell? ⟨w.heap.size, 2, none⟩ = some (.int .i64 q) := B0.cell 2
  have c3 : (w.alloc (.cells #[.int .i64 7, .int .i64 p, .int .i64 q, .string s, .int .i64 r] 25)).cell? ⟨w.heap.size, 3, none⟩ = some (.string s) := B0.cell 3
  have c4 : (w.alloc (.cells #[.int .i64 7, .int .i64 p, .int .i64 q, .string s, .int .i64 r] 25)).cell? ⟨w.heap.size, 4, none⟩ = some (.int .i64 r) := B0.cell 4
  clear B0
  generalize w.alloc (.cells #[.int .i64 7, .int .i64 p, .int .i64 q, .string s, .int .i64 r] 25) = W1 at *
  have hW := Below.refl W1.heap.size W1
  go_region_held3 (fun w' => w'.cell? ⟨w.heap.size, 0, none⟩ = some (.int .i64 7) ∧ w'.cell? ⟨w.heap.size, 1, none⟩ = some (.int .i64 p) ∧ w'.cell? ⟨w.heap.size, 2, none⟩ = some (.int .i64 q) ∧ w'.cell? ⟨w.heap.size, 3, none⟩ = some (.string s) ∧ w'.cell? ⟨w.heap.size, 4, none⟩ = some (.int .i64 r) ∧ Env w' ∧ Below W1.heap.size W1 w') (first | assumption | exact ⟨c0, c1, c2, c3, c4, HE.on ((Below.refl _ _).drew), hW.drew⟩ | exact vkeep kz (by assumption) hb2) ((first | (go_at_call 25; (with_reducible refine (QT.out _).mono ?_); rintro e w2 ⟨rfl, hb2⟩) | (go_at_call 26; have hE := (‹_ ∧ _ ∧ _ ∧ _ ∧ _ ∧ Env _ ∧ Below _ _ _›).2.2.2.2.2.1; (with_reducible refine (QI.out _ hE).mono ?_); clear hE; rintro e w2 ⟨rfl, hb2⟩)))
  all_goals (
    go_wp2
    go_ret
    exact ⟨rfl, KB.out.trans ((below7 (by assumption)).mono KB.out.size)⟩)
theorem tx_8 (p q : Int) (s : ByteArray) (r : Int) (w : World) (he : Env w) (h0 : -9223372036854775808 ≤ r) (h1 : r ≤ 9223372036854775807) :
    Calls Tryd.prog 10 #[.agg #[.int .i64 8, .int .i64 p, .int .i64 q, .string s, .int .i64 r]] w fun e w' => e = .returned (.string (typeS 8 ++ ⟨#[58, 32]⟩ ++ mkB (Lib.itoa r))) ∧ Below w.heap.size w w' := by
  skip
  have QT : Hid (∀ w, Calls Tryd.prog 25 #[.agg #[.int .i64 8, .int .i64 p, .int .i64 q, .string s, .int .i64 r]] w fun e w' => e = .returned (.string (typeS 8)) ∧ Below w.heap.size w w') := Lib.hid fun w => type_any 8 p q s r w (by decide)
  have QI : Hid (∀ w, Env w → Calls Tryd.prog 26 #[.int .i64 r] w fun e w' => e = .returned (.string (mkB (Lib.itoa r))) ∧ Below w.heap.size w w') := Lib.hid fun w he => itoa_any r w h0 h1 he
  have ht := typeS_len 8
  have hi : (mkB (Lib.itoa r)).size ≤ 30 := by rw [mkB_size]; have := Lib.itoa_length_le r h0 h1; omega
  generalize typeS 8 = t at *
  generalize mkB (Lib.itoa r) = z at *
  have a1 : ∀ W, (Op.stringOp .add t ⟨#[58, 32]⟩).run Tryd.prog W = .ok (.string (t ++ ⟨#[58, 32]⟩)) W := fun W => run_string_add_sum (w := W) _ _ (by show t.size + 2 ≤ _; omega)
  have a2 : ∀ W, (Op.stringOp .add (t ++ ⟨#[58, 32]⟩) z).run Tryd.prog W = .ok (.string (t ++ ⟨#[58, 32]⟩ ++ z)) W := fun W => run_string_add_sum (w := W) _ _ (by rw [ByteArray.size_append]; show t.size + 2 + _ ≤ _; omega)
  have HE := he.alloc (.cells #[.int .i64 8, .int .i64 p, .int .i64 q, .string s, .int .i64 r] 25)
  clear ht hi h0 h1 he
  go_enter Tryd.func10, Tryd.ntmps10
  go_upto_region 16 with fail
  have B0 : Blk 25 w.heap.size #[.int .i64 8, .int .i64 p, .int .i64 q, .string s, .int .i64 r] (w.alloc (.cells #[.int .i64 8, .int .i64 p, .int .i64 q, .string s, .int .i64 r] 25)) := Blk.new _ _ _ _ rfl
  have KB := Lib.hid ((Below.refl w.heap.size w).alloc (Nat.le_refl _) (.cells #[.int .i64 8, .int .i64 p, .int .i64 q, .string s, .int .i64 r] 25))
  have kz := B0.lt
  have c0 : (w.alloc (.cells #[.int .i64 8, .int .i64 p, .int .i64 q, .string s, .int .i64 r] 25)).cell? ⟨w.heap.size, 0, none⟩ = some (.int .i64 8) := B0.cell 0
  have c1 : (w.alloc (.cells #[.int .i64 8, .int .i64 p, .int .i64 q, .string s, .int .i64 r] 25)).cell? ⟨w.heap.size, 1, none⟩ = some (.int .i64 p) := B0.cell 1
  have c2 : (w.alloc (.cells #[.int .i64 8, .int .i64 p, .int .i64 q, .string s, .int .i64 r] 25)).cell? ⟨w.heap.size, 2, none⟩ = some (.int .i64 q) := B0.cell 2
  have c3 : (w.alloc (.cells #[.int .i64 8, .int .i64 p, .int .i64 q, .string s, .int .i64 r] 25)).cell? ⟨w.heap.size, 3, none⟩ = some (.string s) := B0.cell 3
  have c4 : (w.alloc (.cells #[.int .i64 8, .int .i64 p, .int .i64 q, .string s, .int .i64 r] 25)).cell? ⟨w.heap.size, 4, none⟩ = some (.int .i64 r) := B0.cell 4
  clear B0
  generalize w.alloc (.cells #[.int .i64 8, .int .i64 p, .int .i64 q, .string s, .int .i64 r] 25) = W1 at *
  have hW := Below.refl W1.heap.size W1
  go_region_held3 (fun w' => w'.cell? ⟨w.heap.size, 0, none⟩ = some (.int .i64 8) ∧ w'.cell? ⟨w.heap.size, 1, none⟩ = some (.int .i64 p) ∧ w'.cell? ⟨w.heap.size, 2, none⟩ = some (.int .i64 q) ∧ w'.cell? ⟨w.heap.size, 3, none⟩ = some (.string s) ∧ w'.cell? ⟨w.heap.size, 4, none⟩ = some (.int .i64 r) ∧ Env w' ∧ Below W1.heap.size W1 w') (first | assumption | exact ⟨c0, c1, c2, c3, c4, HE.on ((Below.refl _ _).drew), hW.drew⟩ | exact vkeep kz (by assumption) hb2) ((first | (go_at_call 25; (with_reducible refine (QT.out _).mono ?_); rintro e w2 ⟨rfl, hb2⟩) | (go_at_call 26; have hE := (‹_ ∧ _ ∧ _ ∧ _ ∧ _ ∧ Env _ ∧ Below _ _ _›).2.2.2.2.2.1; (with_reducible refine (QI.out _ hE).mono ?_); clear hE; rintro e w2 ⟨rfl, hb2⟩)))
  all_goals (
    go_wp2
    go_ret
    exact ⟨rfl, KB.out.trans ((below7 (by assumption)).mono KB.out.size)⟩)
theorem tx_no (k p q : Int) (s : ByteArray) (r : Int) (w : World) (he : Env w) (h0 : k ≠ 0) (h1 : k ≠ 1) (h2 : k ≠ 2) (h3 : k ≠ 3) (h4 : k ≠ 4) (h5 : k ≠ 5) (h6 : k ≠ 6) (h7 : k ≠ 7) (h8 : k ≠ 8) :
    Calls Tryd.prog 10 #[.agg #[.int .i64 k, .int .i64 p, .int .i64 q, .string s, .int .i64 r]] w fun e w' => e = .returned (.string ⟨#[]⟩) ∧ Below w.heap.size w w' := by
  have e0 : (k == 0) = false := by rw [beq_eq_false_iff_ne]; exact h0
  have e1 : (k == 1) = false := by rw [beq_eq_false_iff_ne]; exact h1
  have e2 : (k == 2) = false := by rw [beq_eq_false_iff_ne]; exact h2
  have e3 : (k == 3) = false := by rw [beq_eq_false_iff_ne]; exact h3
  have e4 : (k == 4) = false := by rw [beq_eq_false_iff_ne]; exact h4
  have e5 : (k == 5) = false := by rw [beq_eq_false_iff_ne]; exact h5
  have e6 : (k == 6) = false := by rw [beq_eq_false_iff_ne]; exact h6
  have e7 : (k == 7) = false := by rw [beq_eq_false_iff_ne]; exact h7
  have e8 : (k == 8) = false := by rw [beq_eq_false_iff_ne]; exact h8
  clear h0 h1 h2 h3 h4 h5 h6 h7 h8
  go_enter Tryd.func10, Tryd.ntmps10
  go_wp2
  go_ret
  refine ⟨rfl, ?_⟩
  repeat (first | exact Below.refl _ _ | refine below_drewN ?_ _ | refine Below.drew ?_ | refine Below.setCell ?_ (by first | omega | (simp; done) | (simp; omega)) _ | refine Below.alloc ?_ (by first | omega | (simp; done) | (simp; omega)) _ | refine vstep (by assumption) (by first | omega | (simp; done) | (simp; omega)) ?_)
theorem text5 (k p q : Int) (s : ByteArray) (r : Int) (w : World) (he : Env w) (h0' : -9223372036854775808 ≤ r) (h1' : r ≤ 9223372036854775807) (hs : s.size ≤ 1000000) :
    Calls Tryd.prog 10 #[.agg #[.int .i64 k, .int .i64 p, .int .i64 q, .string s, .int .i64 r]] w fun e w' => e = .returned (.string (textS k p q s r)) ∧ Below w.heap.size w w' := by
  unfold textS
  by_cases h0 : k = 0
  · subst h0; rw [if_pos rfl]; exact tx_0 p q s r w he
  rw [if_neg h0]
  by_cases h1 : k = 1
  · subst h1; rw [if_pos rfl]
    by_cases hr : r = 0
    · rw [if_pos hr]; exact tx_10 p q s r w he hr
    · rw [if_neg hr]; exact tx_11 p q s r w he hr
  rw [if_neg h1]
  by_cases h2 : k = 2
  · subst h2; rw [if_pos rfl]; exact tx_2 p q s r w he
  rw [if_neg h2]
  by_cases h3 : k = 3
  · subst h3; rw [if_pos rfl]; exact tx_3 p q s r w he
  rw [if_neg h3]
  by_cases h6 : k = 6
  · subst h6; rw [if_pos rfl]; exact tx_6 p q s r w he hs
  rw [if_neg h6]
  by_cases h4 : k = 4
  · subst h4; rw [if_pos (.inl rfl)]; exact tx_4 p q s r w he h0' h1'
  by_cases h5 : k = 5
  · subst h5; rw [if_pos (.inr (.inl rfl))]; exact tx_5 p q s r w he h0' h1'
  by_cases h7 : k = 7
  · subst h7; rw [if_pos (.inr (.inr (.inl rfl)))]; exact tx_7 p q s r w he h0' h1'
  by_cases h8 : k = 8
  · subst h8; rw [if_pos (.inr (.inr (.inr rfl)))]; exact tx_8 p q s r w he h0' h1'
  rw [if_neg (by rintro (h | h | h | h) <;> contradiction)]
  exact tx_no k p q s r w he h0 h1 h2 h3 h4 h5 h6 h7 h8
end Go.Proofs.YtibggoikjlnnkaaDoor
