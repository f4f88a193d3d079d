/- Layer 17: the law's awake. -/
import Derived.Test.YtibggoikjlnnkaaDoorStkH
namespace Go.Proofs.YtibggoikjlnnkaaDoor
open Go.RowKit Go.Joins M1
set_option linter.unusedVariables false
theorem lit4 (W : World) : ValsA (W.alloc (.cells #[.int .i64 2, .int .i64 1, .int .i64 1, .string ⟨#[]⟩, .int .i64 0, .int .i64 2, .int .i64 4, .int .i64 1, .string ⟨#[]⟩, .int .i64 0, .int .i64 2, .int .i64 2, .int .i64 1, .string ⟨#[]⟩, .int .i64 0, .int .i64 2, .int .i64 3, .int .i64 1, .string ⟨#[]⟩, .int .i64 0] 25)) (.slice (some ⟨W.heap.size, 0, none⟩) 4 4) [nV 1, nV 4, nV 2, nV 3] := by
  refine ⟨some ⟨W.heap.size, 0, none⟩, 4, rfl, fun _ => ⟨W.heap.size, 0, rfl, by simp, fun j m hj hm => ?_⟩⟩
  have h := fun i => Blk.cell (Blk.new W 25 #[.int .i64 2, .int .i64 1, .int .i64 1, .string ⟨#[]⟩, .int .i64 0, .int .i64 2, .int .i64 4, .int .i64 1, .string ⟨#[]⟩, .int .i64 0, .int .i64 2, .int .i64 2, .int .i64 1, .string ⟨#[]⟩, .int .i64 0, .int .i64 2, .int .i64 3, .int .i64 1, .string ⟨#[]⟩, .int .i64 0] _ rfl) i
  have hj : j < 4 := hj
  rw [show (0 + j * 5 + m) = j * 5 + m by omega, h]
  match j, hj, m, hm with
  | 0, _, 0, _ => rfl
  | 0, _, 1, _ => rfl
  | 0, _, 2, _ => rfl
  | 0, _, 3, _ => rfl
  | 0, _, 4, _ => rfl
  | 1, _, 0, _ => rfl
  | 1, _, 1, _ => rfl
  | 1, _, 2, _ => rfl
  | 1, _, 3, _ => rfl
  | 1, _, 4, _ => rfl
  | 2, _, 0, _ => rfl
  | 2, _, 1, _ => rfl
  | 2, _, 2, _ => rfl
  | 2, _, 3, _ => rfl
  | 2, _, 4, _ => rfl
  | 3, _, 0, _ => rfl
  | 3, _, 1, _ => rfl
  | 3, _, 2, _ => rfl
  | 3, _, 3, _ => rfl
  | 3, _, 4, _ => rfl
def AwS (w : World) (t R : Nat) (W : World) : Prop := SkW 39 w t [nV 1, nV 4, nV 2, nV 3] 4 W ∧ Blk 25 R #[.int .i64 2, .int .i64 2, .int .i64 1, .string ⟨#[]⟩, .int .i64 0] W
theorem AwS.drew {w W : World} {t R : Nat} (h : AwS w t R W) : AwS w t R W.drew := ⟨h.1.step (Ch.refl [] W).drew, h.2.ch (Ch.refl [] W).drew (not_nil _)⟩
def AwQ (w : World) (t R : Nat) (W0 W : World) : Prop := AwS w t R W ∧ W0.heap.size ≤ W.heap.size
theorem awq_keep {w W0 W W' : World} {t R : Nat} (h : (∀ c o, c < W0.heap.size → W.cell? ⟨c, o, none⟩ = W0.cell? ⟨c, o, none⟩) ∧ AwQ w t R W0 W) (hb : Below W.heap.size W W') : (∀ c o, c < W0.heap.size → W'.cell? ⟨c, o, none⟩ = W0.cell? ⟨c, o, none⟩) ∧ AwQ w t R W0 W' :=
  ⟨fun c o hc => (hb.cell (p := ⟨c, o, none⟩) (Nat.lt_of_lt_of_le hc h.2.2)).trans (h.1 c o hc), ⟨h.2.1.1.step (Ch.of_below hb), h.2.1.2.below hb⟩, Nat.le_trans h.2.2 hb.size⟩
set_option maxHeartbeats 4000000 in
theorem awake_any (w : World) : Calls Tryd.prog 5 #[] w fun e w' => e = .returned (.bool true) ∧ Ch [] w w' := by
  have QNEW : Hid (Calls Tryd.prog 4 #[.int .i64 4] w fun e w' => ∃ t, e = .returned (.tuple #[.pointer (some ⟨t, 0, none⟩), .int .i64 0]) ∧ SkW 39 w t [] 4 w') := Lib.hid (wnew 4 w w (Ch.refl _ _) (by decide) (by decide))
  have QN := Lib.hid (fun (n : Int) W => number_any n W)
  have HPU : Hid (∀ (k : Nat) t W, k < 4 → SkW 39 w t (aw k) 4 W → Calls Tryd.prog 6 #[.pointer (some ⟨t, 0, none⟩), .agg #[.int .i64 2, .int .i64 ((k : Int) + 1), .int .i64 1, .string ⟨#[]⟩, .int .i64 0]] W fun e w' => e = .returned (.int .i64 0) ∧ SkW 39 w t (aw (k + 1)) 4 w') := Lib.hid fun k t W hk h => by
    have q := aw_push k hk
    have := wpush h (nV ((k : Int) + 1))
    rw [q.1, q.2] at this
    exact this
  go_enter Tryd.func5, Tryd.ntmps5
  go_upto_region 4 with (go_at_call 4; (with_reducible refine (QNEW.out).mono ?_); rintro e w1 ⟨t, rfl, HS⟩; have HS0 := Lib.hid HS; clear HS)
  go_wp2
  go_loopw [3] (fun v3 wr => ∃ k : Nat, k ≤ 4 ∧ v3 = .int .i64 ((k : Int) + 1) ∧ Hid (SkW 39 w t (aw k) 4 wr)) (fun v3 _ => 6 - (intOf v3).toNat)
  case atStart => exact ⟨0, Nat.zero_le _, rfl, HS0⟩
  case round =>
    obtain ⟨k, hk, rfl, HK⟩ := hrel
    rename World => wr
    by_cases hlt : k < 4
    · have hlt' : (k : Int) + 1 ≤ 4 := by omega
      have HLT := Lib.hid hlt
      have di : IntKind.i64.wrap ((k : Int) + 1 + 1) = (k : Int) + 1 + 1 := IntWalk.i64_in _ (by omega)
      go_wp2_with (first | (go_at_call 11; (with_reducible refine (QN.out _ _).mono ?_); rintro e w2 ⟨rfl, hb2⟩; have HK2 := Lib.hid (HK.out.step (Ch.of_below hb2)); clear hb2) | (go_at_call 6; (with_reducible refine (HPU.out k t _ HLT.out HK2.out).mono ?_); rintro e w3 ⟨rfl, hs3⟩; have HK3 := Lib.hid hs3; clear hs3))
      go_roundw
      case rel => exact ⟨k + 1, by omega, by go_num, HK3⟩
      case measure => simp [intOf]; omega
    · have hlt' : ¬ (k : Int) + 1 ≤ 4 := by omega
      obtain rfl : k = 4 := by omega
      have HF := Lib.hid aw_facts
      have HE := Lib.hid aw_end
      have H5 : Hid (∀ W, SkW 39 w t (aw 4) 4 W → Calls Tryd.prog 6 #[.pointer (some ⟨t, 0, none⟩), .agg #[.int .i64 2, .int .i64 5, .int .i64 1, .string ⟨#[]⟩, .int .i64 0]] W fun e w' => e = .returned (.int .i64 17) ∧ SkW 39 w t (aw 4) 4 w') := Lib.hid fun W h => by
        have := wpush h (nV 5)
        rw [HF.out.1, HF.out.2.2.2.2.1] at this
        exact this
      have H6 : Hid (∀ W, SkW 39 w t (aw 4) 4 W → Calls Tryd.prog 12 #[.pointer (some ⟨t, 0, none⟩), .int .i64 5] W fun e w' => e = .returned (.int .i64 18) ∧ SkW 39 w t (aw 4) 4 w') := Lib.hid fun W h => by
        have := wpop h 5
        rw [HF.out.2.1, HF.out.2.2.2.2.2] at this
        exact this
      have H7 : Hid (∀ W, SkW 39 w t (aw 4) 4 W → Calls Tryd.prog 13 #[.pointer (some ⟨t, 0, none⟩), .int .i64 2] W fun e w' => e = .returned (.int .i64 0) ∧ SkW 39 w t [nV 1, nV 4, nV 2, nV 3] 4 w') := Lib.hid fun W h => by
        have := winsert h 2
        rw [HF.out.2.2.1, HF.out.2.2.2.1] at this
        exact this
      have H8 : Hid (∀ W, SkW 39 w t [nV 1, nV 4, nV 2, nV 3] 4 W → Calls Tryd.prog 15 #[.pointer (some ⟨t, 0, none⟩)] W fun e w' => (∃ v', e = .returned v' ∧ ValsA w' v' [nV 1, nV 4, nV 2, nV 3]) ∧ SkW 39 w t [nV 1, nV 4, nV 2, nV 3] 4 w') := Lib.hid fun W h => (wlist h).mono fun e w' hh => by
        obtain ⟨⟨v', rfl, ho⟩, h2, _⟩ := hh
        exact ⟨⟨v', rfl, ValsA.of_row ho⟩, h2⟩
      have HB : Hid (∀ W, SkW 39 w t [nV 1, nV 4, nV 2, nV 3] 4 W → Calls Tryd.prog 16 #[.pointer (some ⟨t, 0, none⟩), .int .i64 (-2)] W fun e w' => e = .returned (.tuple #[.int .i64 3, .int .i64 0]) ∧ SkW 39 w t [nV 1, nV 4, nV 2, nV 3] 4 w') := Lib.hid fun W h => by
        have := wabs h (-2)
        rw [HE.out.1, HE.out.2.1] at this
        exact this
      have HA : Hid (∀ W, SkW 39 w t [nV 1, nV 4, nV 2, nV 3] 4 W → Calls Tryd.prog 8 #[.pointer (some ⟨t, 0, none⟩), .int .i64 (-2)] W fun e w' => e = .returned (.tuple #[.agg #[.int .i64 2, .int .i64 2, .int .i64 1, .string ⟨#[]⟩, .int .i64 0], .int .i64 0]) ∧ SkW 39 w t [nV 1, nV 4, nV 2, nV 3] 4 w') := Lib.hid fun W h => by
        have := wat h (-2)
        rw [HE.out.2.1, HE.out.2.2] at this
        exact this.mono fun e w' hh => ⟨hh.1, hh.2.1⟩
      have HT : Hid (∀ W, SkW 39 w t [nV 1, nV 4, nV 2, nV 3] 4 W → Calls Tryd.prog 17 #[.pointer (some ⟨t, 0, none⟩)] W fun e w' => e = .returned (.int .i64 4) ∧ SkW 39 w t [nV 1, nV 4, nV 2, nV 3] 4 w') := Lib.hid fun W h => wtop h
      have HS4 : Hid (∀ W v, ValsA W v [nV 1, nV 4, nV 2, nV 3] → Calls Tryd.prog 14 #[v, .slice (some ⟨W.heap.size, 0, none⟩) 4 4] (W.alloc (.cells #[.int .i64 2, .int .i64 1, .int .i64 1, .string ⟨#[]⟩, .int .i64 0, .int .i64 2, .int .i64 4, .int .i64 1, .string ⟨#[]⟩, .int .i64 0, .int .i64 2, .int .i64 2, .int .i64 1, .string ⟨#[]⟩, .int .i64 0, .int .i64 2, .int .i64 3, .int .i64 1, .string ⟨#[]⟩, .int .i64 0] 25)) fun e w' => e = .returned (.bool true) ∧ Ch [] W w') := Lib.hid fun W v h => by
        refine (lsame_any v _ [nV 1, nV 4, nV 2, nV 3] [nV 1, nV 4, nV 2, nV 3] _ (h.below ((Ch.refl [] W).alloc _)) (lit4 W) (by decide) (by decide)).mono ?_
        rintro e w' ⟨rfl, hc⟩
        exact ⟨by simp, ((Ch.refl [] W).alloc _).trans hc⟩
      clear HPU HF HE
      go_upto_region 9 with fail
      go_upto_region 13 with (first
        | (go_at_call 11; (with_reducible refine (QN.out _ _).mono ?_); rintro e w2 ⟨rfl, hb2⟩; first | (have HV := Lib.hid (HV.out.below (Ch.of_below hb2)); have HK := Lib.hid (HK.out.step (Ch.of_below hb2)); clear hb2) | (have HK := Lib.hid (HK.out.step (Ch.of_below hb2)); clear hb2))
        | (go_at_call 6; (with_reducible refine (H5.out _ HK.out).mono ?_); rintro e w3 ⟨rfl, hs3⟩; have HK := Lib.hid hs3; clear hs3)
        | (go_at_call 12; (with_reducible refine (H6.out _ HK.out).mono ?_); rintro e w3 ⟨rfl, hs3⟩; have HK := Lib.hid hs3; clear hs3)
        | (go_at_call 13; (with_reducible refine (H7.out _ HK.out).mono ?_); rintro e w3 ⟨rfl, hs3⟩; have HK := Lib.hid hs3; clear hs3)
        | (go_at_call 15; (with_reducible refine (H8.out _ HK.out).mono ?_); rintro e w3 ⟨⟨v', rfl, hv3⟩, hs3⟩; have HK := Lib.hid hs3; have HV := Lib.hid hv3; clear hs3 hv3)
        | (go_at_call 14; (with_reducible refine (HS4.out _ _ HV.out).mono ?_); rintro e w3 ⟨rfl, hs3⟩; have HK := Lib.hid (HK.out.step hs3); clear hs3)
        | (go_at_call 16; (with_reducible refine (HB.out _ HK.out).mono ?_); rintro e w3 ⟨rfl, hs3⟩; have HK := Lib.hid hs3; clear hs3)
        | (go_at_call 8; (with_reducible refine (HA.out _ HK.out).mono ?_); rintro e w9 ⟨rfl, hs3⟩; have HK9 := Lib.hid hs3; clear hs3))
      obtain ⟨R, hR⟩ : ∃ R, R = w9.heap.size := ⟨_, rfl⟩
      have HS : AwS w t R (w9.alloc (.cells #[.int .i64 2, .int .i64 2, .int .i64 1, .string ⟨#[]⟩, .int .i64 0] 25)) := ⟨HK9.out.step ((Ch.refl [] w9).alloc _), by rw [hR]; exact Blk.new w9 _ _ _ rfl⟩
      rw [← hR]
      generalize (w9.alloc (.cells #[.int .i64 2, .int .i64 2, .int .i64 1, .string ⟨#[]⟩, .int .i64 0] 25)) = W0 at *
      have hle := HS.2.lt
      have QN2 : Hid (∀ W, ((∀ c o, c < W0.heap.size → W.cell? ⟨c, o, none⟩ = W0.cell? ⟨c, o, none⟩) ∧ AwQ w t R W0 W) → Calls Tryd.prog 11 #[.int .i64 2] W fun e w' => e = .returned (.agg #[.int .i64 2, .int .i64 2, .int .i64 1, .string ⟨#[]⟩, .int .i64 0]) ∧ ((∀ c o, c < W0.heap.size → w'.cell? ⟨c, o, none⟩ = W0.cell? ⟨c, o, none⟩) ∧ AwQ w t R W0 w')) := Lib.hid fun W h => (number_any 2 W).mono fun e w' hh => ⟨hh.1, awq_keep h hh.2⟩
      have QT2 : Hid (∀ W, ((∀ c o, c < W0.heap.size → W.cell? ⟨c, o, none⟩ = W0.cell? ⟨c, o, none⟩) ∧ AwQ w t R W0 W) → Calls Tryd.prog 17 #[.pointer (some ⟨t, 0, none⟩)] W fun e w' => e = .returned (.int .i64 4) ∧ ((∀ c o, c < W0.heap.size → w'.cell? ⟨c, o, none⟩ = W0.cell? ⟨c, o, none⟩) ∧ AwQ w t R W0 w')) := Lib.hid fun W h => by
        obtain ⟨⟨va, h1, h2⟩, h3⟩ := h.2.1
        refine (top_any _ t va _ 4 W h1).mono ?_
        rintro e w' ⟨rfl, rfl⟩
        exact ⟨rfl, h⟩
      have u0 : W0.cell? ⟨R, 0, none⟩ = some (.int .i64 2) := HS.2.cell 0
      have u1 : W0.cell? ⟨R, 1, none⟩ = some (.int .i64 2) := HS.2.cell 1
      have u2 : W0.cell? ⟨R, 2, none⟩ = some (.int .i64 1) := HS.2.cell 2
      have u3 : W0.cell? ⟨R, 3, none⟩ = some (.string ⟨#[]⟩) := HS.2.cell 3
      have u4 : W0.cell? ⟨R, 4, none⟩ = some (.int .i64 0) := HS.2.cell 4
      have lu := HS.2.lt
      have hS0 : (∀ c o, c < W0.heap.size → W0.drew.cell? ⟨c, o, none⟩ = W0.cell? ⟨c, o, none⟩) ∧ AwQ w t R W0 W0.drew := ⟨fun _ _ _ => rfl, HS.drew, Nat.le_refl _⟩
      have EQ := fun W => eq_v5 (nV 2) (nV 2) W
      have EQ2 : ∀ W, (binOp .eql 25 (.agg #[.int .i64 2, .int .i64 2, .int .i64 1, .string ⟨#[]⟩, .int .i64 0]) (.agg #[.int .i64 2, .int .i64 2, .int .i64 1, .string ⟨#[]⟩, .int .i64 0])).run Tryd.prog W = .ok (.bool true) W := fun W => by have := eq_v5 (nV 2) (nV 2) W; rw [show decide (nV 2 = nV 2) = true from decide_eq_true rfl] at this; exact this
      clear EQ HS hle hR
      go_region_held3 (fun w' => (∀ c o, c < W0.heap.size → w'.cell? ⟨c, o, none⟩ = W0.cell? ⟨c, o, none⟩) ∧ AwQ w t R W0 w') (first | assumption | exact hS0) (first | (go_at_call 11; (with_reducible refine (QN2.out _ (by assumption)).mono ?_); rintro e w1 ⟨rfl, hq1⟩) | (go_at_call 17; (with_reducible refine (QT2.out _ (by assumption)).mono ?_); rintro e w1 ⟨rfl, hq1⟩))
      all_goals (
        have hS := ‹_ ∧ AwQ _ _ _ _ _›
        go_wp2
        go_ret
        exact ⟨rfl, hS.2.1.1.ch⟩)
end Go.Proofs.YtibggoikjlnnkaaDoor
