/- Layer 17: the walk of StackHolds. -/
import Derived.Test.YtibggoikjlnnkaaDoorStkI
import Derived.Test.YtibggoikjlnnkaaDoorValG
namespace Go.Proofs.YtibggoikjlnnkaaDoor
open Go.RowKit Go.Joins M1
set_option linter.unusedVariables false
theorem eqV_self (k p q : Int) (s : ByteArray) (r : Int) : eqV k p q s r k p q s r = true := eqV_iff.2 ⟨rfl, rfl, rfl, rfl, rfl⟩
theorem push1 (x : V5) (h : okV x = true) : pushE [] 1 x = 0 ∧ pushL [] 1 x = [x] := by simp [pushL, pushE, h]
theorem push0 (x : V5) (h : okV x = false) : pushE [] 1 x = 2 ∧ pushL [] 1 x = [] := by simp [pushL, pushE, h]
theorem at1 (x : V5) : atV [x] (-1) = x ∧ atE [x] (-1) = 0 := by constructor <;> rfl
theorem at0 : atV [] (-1) = v5z ∧ atE [] (-1) = 6 := by constructor <;> rfl
def ShQ (w W0 W : World) : Prop := Env W ∧ Ch [] w W ∧ W0.heap.size ≤ W.heap.size
theorem shq_keep {w W0 W W' : World} (h : (∀ c o, c < W0.heap.size → W.cell? ⟨c, o, none⟩ = W0.cell? ⟨c, o, none⟩) ∧ ShQ w W0 W) (hb : Ch [] W W') : (∀ c o, c < W0.heap.size → W'.cell? ⟨c, o, none⟩ = W0.cell? ⟨c, o, none⟩) ∧ ShQ w W0 W' :=
  ⟨fun c o hc => (hb.below.cell (p := ⟨c, o, none⟩) (Nat.lt_of_lt_of_le hc h.2.2.2)).trans (h.1 c o hc), h.2.1.on hb.below, h.2.2.1.trans hb, Nat.le_trans h.2.2.2 hb.size⟩
set_option maxHeartbeats 8000000 in
theorem stackHolds_walk (k p q : Int) (s : ByteArray) (r : Int) (wk : (Lit.int .i64 k).wf = true) (wp : (Lit.int .i64 p).wf = true) (wq : (Lit.int .i64 q).wf = true) (ws : s.size ≤ maxLen) (wr : (Lit.int .i64 r).wf = true) (w : World) (he : Env w) :
    Calls Tryd.prog 3 #[.agg #[.int .i64 k, .int .i64 p, .int .i64 q, .string s, .int .i64 r]] w fun e w' => e = .returned (.bool true) ∧ Below w.heap.size w w' := by
  have hr : -9223372036854775808 ≤ r ∧ r ≤ 9223372036854775807 := by simpa [Lit.wf, IntKind.min, IntKind.max, IntKind.signed, IntKind.bits] using wr
  have HC0 : Hid (Ch [] w (w.alloc (.cells #[.int .i64 k, .int .i64 p, .int .i64 q, .string s, .int .i64 r] 25))) := Lib.hid ((Ch.refl [] w).alloc _)
  have HA0 : Hid (Blk 25 w.heap.size #[.int .i64 k, .int .i64 p, .int .i64 q, .string s, .int .i64 r] (w.alloc (.cells #[.int .i64 k, .int .i64 p, .int .i64 q, .string s, .int .i64 r] 25))) := Lib.hid (Blk.new w _ _ _ rfl)
  have HE0 : Hid (Env (w.alloc (.cells #[.int .i64 k, .int .i64 p, .int .i64 q, .string s, .int .i64 r] 25))) := Lib.hid (he.alloc _)
  have QN : Hid (∀ w0 : World, Calls Tryd.prog 4 #[.int .i64 1] w0 fun e w' => ∃ t, e = .returned (.tuple #[.pointer (some ⟨t, 0, none⟩), .int .i64 0]) ∧ SkW 39 w0 t [] 1 w') := Lib.hid fun w0 => wnew 1 w0 w0 (Ch.refl [] w0) (by decide) (by decide)
  have QA := Lib.hid fun W => awake_any W
  have QV := Lib.hid fun W => valid5 k p q s r W
  clear wk wp wq ws wr he
  go_enter Tryd.func3, Tryd.ntmps3
  go_upto_region 2 with (obtain ⟨b0, hb0⟩ : ∃ b, b = w.heap.size := ⟨_, rfl⟩; rw [← hb0] at HA0 ⊢; have HB := Lib.hid hb0; clear hb0; generalize (w.alloc (.cells #[.int .i64 k, .int .i64 p, .int .i64 q, .string s, .int .i64 r] 25)) = w0 at *; go_at_call 4; (with_reducible refine (QN.out _).mono ?_); rintro e w1 ⟨t, rfl, hf⟩; have HS1 := Lib.hid hf; clear hf; have HA1 := Lib.hid (HA0.out.ch HS1.out.ch (not_nil _)); have a0 : w1.cell? ⟨b0, 0, none⟩ = some (.int .i64 k) := HA1.out.cell 0; have a1 : w1.cell? ⟨b0, 1, none⟩ = some (.int .i64 p) := HA1.out.cell 1; have a2 : w1.cell? ⟨b0, 2, none⟩ = some (.int .i64 q) := HA1.out.cell 2; have a3 : w1.cell? ⟨b0, 3, none⟩ = some (.string s) := HA1.out.cell 3; have a4 : w1.cell? ⟨b0, 4, none⟩ = some (.int .i64 r) := HA1.out.cell 4; have al := HA1.out.lt)
  by_cases hs : s.size ≤ 4106
  · have hs' : ¬ (4106 : Int) < (s.size : Int) := by omega
    cases hv : validF k p q s r with
    | true =>
      have hv' : okV (⟨k, p, q, s, r⟩ : V5) = true := hv
      rw [hv] at QV
      have QP : Hid (∀ W, SkW 39 w0 t [] 1 W → Calls Tryd.prog 6 #[.pointer (some ⟨t, 0, none⟩), .agg #[.int .i64 k, .int .i64 p, .int .i64 q, .string s, .int .i64 r]] W fun e w' => e = .returned (.int .i64 0) ∧ SkW 39 w0 t [(⟨k, p, q, s, r⟩ : V5)] 1 w') := Lib.hid fun W h => by
        have := wpush h (⟨k, p, q, s, r⟩ : V5)
        rw [(push1 _ hv').1, (push1 _ hv').2] at this
        exact this
      have QG : Hid (∀ W, SkW 39 w0 t [(⟨k, p, q, s, r⟩ : V5)] 1 W → Calls Tryd.prog 8 #[.pointer (some ⟨t, 0, none⟩), .int .i64 (-1)] W fun e w' => e = .returned (.tuple #[.agg #[.int .i64 k, .int .i64 p, .int .i64 q, .string s, .int .i64 r], .int .i64 0]) ∧ SkW 39 w0 t [(⟨k, p, q, s, r⟩ : V5)] 1 w' ∧ Below W.heap.size W w') := Lib.hid fun W h => wat h (-1)
      have QS : Hid (∀ W, Calls Tryd.prog 9 #[.agg #[.int .i64 k, .int .i64 p, .int .i64 q, .string s, .int .i64 r], .agg #[.int .i64 k, .int .i64 p, .int .i64 q, .string s, .int .i64 r]] W fun e w' => e = .returned (.bool true) ∧ Below W.heap.size W w') := Lib.hid fun W => by
        have := same_any k p q s r k p q s r W
        rw [eqV_self] at this
        exact this
      have QT : Hid (∀ W, Env W → Calls Tryd.prog 10 #[.agg #[.int .i64 k, .int .i64 p, .int .i64 q, .string s, .int .i64 r]] W fun e w' => e = .returned (.string (textS k p q s r)) ∧ Below W.heap.size W w') := Lib.hid fun W he => text5 k p q s r W he hr.1 hr.2 (by omega)
      generalize textS k p q s r = z at *
      clear hv hv' hs hr
      go_upto_region 10 with (first | (go_at_call 6; (with_reducible refine (QP.out _ HS1.out).mono ?_); rintro e w2 ⟨rfl, hf⟩; have HS2 := Lib.hid hf; clear hf; clear a0 a1 a2 a3 a4 al; have HA2 := Lib.hid (HA0.out.ch HS2.out.ch (not_nil _)); have a0 : w2.cell? ⟨b0, 0, none⟩ = some (.int .i64 k) := HA2.out.cell 0; have a1 : w2.cell? ⟨b0, 1, none⟩ = some (.int .i64 p) := HA2.out.cell 1; have a2 : w2.cell? ⟨b0, 2, none⟩ = some (.int .i64 q) := HA2.out.cell 2; have a3 : w2.cell? ⟨b0, 3, none⟩ = some (.string s) := HA2.out.cell 3; have a4 : w2.cell? ⟨b0, 4, none⟩ = some (.int .i64 r) := HA2.out.cell 4; have al := HA2.out.lt) | (go_at_call 7; (with_reducible refine (QV.out _).mono ?_); rintro e w3 ⟨rfl, hb⟩; have HS3 := Lib.hid (HS2.out.step (Ch.of_below hb)); clear hb; clear a0 a1 a2 a3 a4 al; have HA3 := Lib.hid (HA0.out.ch HS3.out.ch (not_nil _)); have a0 : w3.cell? ⟨b0, 0, none⟩ = some (.int .i64 k) := HA3.out.cell 0; have a1 : w3.cell? ⟨b0, 1, none⟩ = some (.int .i64 p) := HA3.out.cell 1; have a2 : w3.cell? ⟨b0, 2, none⟩ = some (.int .i64 q) := HA3.out.cell 2; have a3 : w3.cell? ⟨b0, 3, none⟩ = some (.string s) := HA3.out.cell 3; have a4 : w3.cell? ⟨b0, 4, none⟩ = some (.int .i64 r) := HA3.out.cell 4; have al := HA3.out.lt) | (go_at_call 8; (with_reducible refine (QG.out _ HS3.out).mono ?_); rintro e w4 ⟨rfl, hf, -⟩; have HS4 := Lib.hid hf; clear hf; clear a0 a1 a2 a3 a4 al; have HA4 := Lib.hid (HA0.out.ch HS4.out.ch (not_nil _)); have a0 : w4.cell? ⟨b0, 0, none⟩ = some (.int .i64 k) := HA4.out.cell 0; have a1 : w4.cell? ⟨b0, 1, none⟩ = some (.int .i64 p) := HA4.out.cell 1; have a2 : w4.cell? ⟨b0, 2, none⟩ = some (.int .i64 q) := HA4.out.cell 2; have a3 : w4.cell? ⟨b0, 3, none⟩ = some (.string s) := HA4.out.cell 3; have a4 : w4.cell? ⟨b0, 4, none⟩ = some (.int .i64 r) := HA4.out.cell 4; have al := HA4.out.lt))
      have HX5 : Hid (Blk 25 w4.heap.size #[.int .i64 k, .int .i64 p, .int .i64 q, .string s, .int .i64 r] (w4.alloc (.cells #[.int .i64 k, .int .i64 p, .int .i64 q, .string s, .int .i64 r] 25))) := Lib.hid (Blk.new _ _ _ _ rfl)
      have HD5 : Hid (Ch [] w0 (w4.alloc (.cells #[.int .i64 k, .int .i64 p, .int .i64 q, .string s, .int .i64 r] 25))) := Lib.hid (HS4.out.ch.alloc _)
      obtain ⟨b1, hb1⟩ : ∃ b1, b1 = w4.heap.size := ⟨_, rfl⟩
      rw [← hb1] at HX5 ⊢
      have HB1 := Lib.hid hb1
      clear hb1
      clear a0 a1 a2 a3 a4 al
      generalize (w4.alloc (.cells #[.int .i64 k, .int .i64 p, .int .i64 q, .string s, .int .i64 r] 25)) = w5 at *
      have HA5 := Lib.hid (HA0.out.ch HD5.out (not_nil _))
      have HE5 : Hid (Env w5) := Lib.hid (HE0.out.on HD5.out.below)
      have a0 : w5.cell? ⟨b0, 0, none⟩ = some (.int .i64 k) := HA5.out.cell 0; have a1 : w5.cell? ⟨b0, 1, none⟩ = some (.int .i64 p) := HA5.out.cell 1; have a2 : w5.cell? ⟨b0, 2, none⟩ = some (.int .i64 q) := HA5.out.cell 2; have a3 : w5.cell? ⟨b0, 3, none⟩ = some (.string s) := HA5.out.cell 3; have a4 : w5.cell? ⟨b0, 4, none⟩ = some (.int .i64 r) := HA5.out.cell 4; have al := HA5.out.lt; have x0 : w5.cell? ⟨b1, 0, none⟩ = some (.int .i64 k) := HX5.out.cell 0; have x1 : w5.cell? ⟨b1, 1, none⟩ = some (.int .i64 p) := HX5.out.cell 1; have x2 : w5.cell? ⟨b1, 2, none⟩ = some (.int .i64 q) := HX5.out.cell 2; have x3 : w5.cell? ⟨b1, 3, none⟩ = some (.string s) := HX5.out.cell 3; have x4 : w5.cell? ⟨b1, 4, none⟩ = some (.int .i64 r) := HX5.out.cell 4; have xl := HX5.out.lt
      have hS0 : (∀ c o, c < w5.heap.size → w5.drew.cell? ⟨c, o, none⟩ = w5.cell? ⟨c, o, none⟩) ∧ ShQ w w5 w5.drew := shq_keep ⟨fun _ _ _ => rfl, HE5.out, HC0.out.trans HD5.out, Nat.le_refl _⟩ ((Ch.refl [] w5).drew)
      have Q1 : Hid (∀ W, ((∀ c o, c < w5.heap.size → W.cell? ⟨c, o, none⟩ = w5.cell? ⟨c, o, none⟩) ∧ ShQ w w5 W) → Calls Tryd.prog 9 #[.agg #[.int .i64 k, .int .i64 p, .int .i64 q, .string s, .int .i64 r], .agg #[.int .i64 k, .int .i64 p, .int .i64 q, .string s, .int .i64 r]] W fun e w' => e = .returned (.bool true) ∧ ((∀ c o, c < w5.heap.size → w'.cell? ⟨c, o, none⟩ = w5.cell? ⟨c, o, none⟩) ∧ ShQ w w5 w')) := Lib.hid fun W h => (QS.out W).mono fun e w' hh => ⟨hh.1, shq_keep h (Ch.of_below hh.2)⟩
      have Q2 : Hid (∀ W, ((∀ c o, c < w5.heap.size → W.cell? ⟨c, o, none⟩ = w5.cell? ⟨c, o, none⟩) ∧ ShQ w w5 W) → Calls Tryd.prog 10 #[.agg #[.int .i64 k, .int .i64 p, .int .i64 q, .string s, .int .i64 r]] W fun e w' => e = .returned (.string z) ∧ ((∀ c o, c < w5.heap.size → w'.cell? ⟨c, o, none⟩ = w5.cell? ⟨c, o, none⟩) ∧ ShQ w w5 w')) := Lib.hid fun W h => (QT.out W h.2.1).mono fun e w' hh => ⟨hh.1, shq_keep h (Ch.of_below hh.2)⟩
      have Q3 : Hid (∀ W, ((∀ c o, c < w5.heap.size → W.cell? ⟨c, o, none⟩ = w5.cell? ⟨c, o, none⟩) ∧ ShQ w w5 W) → Calls Tryd.prog 5 #[] W fun e w' => e = .returned (.bool true) ∧ ((∀ c o, c < w5.heap.size → w'.cell? ⟨c, o, none⟩ = w5.cell? ⟨c, o, none⟩) ∧ ShQ w w5 w')) := Lib.hid fun W h => (QA.out W).mono fun e w' hh => ⟨hh.1, shq_keep h hh.2⟩
      clear QS QT QA QV QP QG QN HS1 HS2 HS3 HS4 HA1 HA2 HA3 HA4
      go_upto_region 12 with fail
      go_region_held3 (fun w' => (∀ c o, c < w5.heap.size → w'.cell? ⟨c, o, none⟩ = w5.cell? ⟨c, o, none⟩) ∧ ShQ w w5 w') (first | assumption | exact hS0) (first | (go_at_call 9; (with_reducible refine (Q1.out _ (by assumption)).mono ?_); rintro e wn ⟨rfl, hq1⟩) | (go_at_call 10; (with_reducible refine (Q2.out _ (by assumption)).mono ?_); rintro e wn ⟨rfl, hq1⟩) | (go_at_call 5; (with_reducible refine (Q3.out _ (by assumption)).mono ?_); rintro e wn ⟨rfl, hq1⟩))
      all_goals (
        go_wp2
        go_ret
        exact ⟨rfl, (show (∀ c o, c < w5.heap.size → _) ∧ ShQ w w5 _ by assumption).2.2.1.below⟩)
    | false =>
      have hv' : okV (⟨k, p, q, s, r⟩ : V5) = false := hv
      rw [hv] at QV
      have QP : Hid (∀ W, SkW 39 w0 t [] 1 W → Calls Tryd.prog 6 #[.pointer (some ⟨t, 0, none⟩), .agg #[.int .i64 k, .int .i64 p, .int .i64 q, .string s, .int .i64 r]] W fun e w' => e = .returned (.int .i64 2) ∧ SkW 39 w0 t [] 1 w') := Lib.hid fun W h => by
        have := wpush h (⟨k, p, q, s, r⟩ : V5)
        rw [(push0 _ hv').1, (push0 _ hv').2] at this
        exact this
      have QG : Hid (∀ W, SkW 39 w0 t [] 1 W → Calls Tryd.prog 8 #[.pointer (some ⟨t, 0, none⟩), .int .i64 (-1)] W fun e w' => e = .returned (.tuple #[.agg #[.int .i64 0, .int .i64 0, .int .i64 0, .string ⟨#[]⟩, .int .i64 0], .int .i64 6]) ∧ SkW 39 w0 t [] 1 w' ∧ Below W.heap.size W w') := Lib.hid fun W h => wat h (-1)
      clear hv hv' hs hr
      go_upto_region 10 with (first | (go_at_call 6; (with_reducible refine (QP.out _ HS1.out).mono ?_); rintro e w2 ⟨rfl, hf⟩; have HS2 := Lib.hid hf; clear hf; clear a0 a1 a2 a3 a4 al; have HA2 := Lib.hid (HA0.out.ch HS2.out.ch (not_nil _)); have a0 : w2.cell? ⟨b0, 0, none⟩ = some (.int .i64 k) := HA2.out.cell 0; have a1 : w2.cell? ⟨b0, 1, none⟩ = some (.int .i64 p) := HA2.out.cell 1; have a2 : w2.cell? ⟨b0, 2, none⟩ = some (.int .i64 q) := HA2.out.cell 2; have a3 : w2.cell? ⟨b0, 3, none⟩ = some (.string s) := HA2.out.cell 3; have a4 : w2.cell? ⟨b0, 4, none⟩ = some (.int .i64 r) := HA2.out.cell 4; have al := HA2.out.lt) | (go_at_call 7; (with_reducible refine (QV.out _).mono ?_); rintro e w3 ⟨rfl, hb⟩; have HS3 := Lib.hid (HS2.out.step (Ch.of_below hb)); clear hb; clear a0 a1 a2 a3 a4 al; have HA3 := Lib.hid (HA0.out.ch HS3.out.ch (not_nil _)); have a0 : w3.cell? ⟨b0, 0, none⟩ = some (.int .i64 k) := HA3.out.cell 0; have a1 : w3.cell? ⟨b0, 1, none⟩ = some (.int .i64 p) := HA3.out.cell 1; have a2 : w3.cell? ⟨b0, 2, none⟩ = some (.int .i64 q) := HA3.out.cell 2; have a3 : w3.cell? ⟨b0, 3, none⟩ = some (.string s) := HA3.out.cell 3; have a4 : w3.cell? ⟨b0, 4, none⟩ = some (.int .i64 r) := HA3.out.cell 4; have al := HA3.out.lt) | (go_at_call 8; (with_reducible refine (QG.out _ HS3.out).mono ?_); rintro e w4 ⟨rfl, hf, -⟩; have HS4 := Lib.hid hf; clear hf; clear a0 a1 a2 a3 a4 al))
      have HD5 : Hid (Ch [] w0 (w4.alloc (.cells #[.int .i64 0, .int .i64 0, .int .i64 0, .string ⟨#[]⟩, .int .i64 0] 25))) := Lib.hid (HS4.out.ch.alloc _)
      generalize (w4.alloc (.cells #[.int .i64 0, .int .i64 0, .int .i64 0, .string ⟨#[]⟩, .int .i64 0] 25)) = w5 at *
      go_wp2_with (go_at_call 5; (with_reducible refine (QA.out _).mono ?_); rintro e w9 ⟨rfl, hc⟩; have HC9 := Lib.hid hc; clear hc)
      go_ret
      exact ⟨rfl, ((HC0.out.trans HD5.out).trans HC9.out).below⟩
  · have hs' : (4106 : Int) < (s.size : Int) := by omega
    go_wp2_with (go_at_call 5; (with_reducible refine (QA.out _).mono ?_); rintro e w3 ⟨rfl, hc⟩; have HC3 := Lib.hid hc; clear hc)
    go_ret
    exact ⟨rfl, ((HC0.out.trans HS1.out.ch).trans HC3.out).below⟩
end Go.Proofs.YtibggoikjlnnkaaDoor
