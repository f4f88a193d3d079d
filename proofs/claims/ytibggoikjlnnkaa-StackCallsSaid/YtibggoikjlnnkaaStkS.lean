/- Layer 17: the walk of StackEnds. -/
import Derived.Test.YtibggoikjlnnkaaStkP
namespace Go.Proofs.Ytibggoikjlnnkaa
open Go.RowKit Go.Joins M1
set_option linter.unusedVariables false
theorem pushL_ok {l : List V5} {lim : Nat} {x : V5} (hx : okV x = true) (hl : l.length < lim) : pushE l lim x = 0 ∧ pushL l lim x = l ++ [x] := by
  have e : pushE l lim x = 0 := by unfold pushE; rw [hx]; simp only [Bool.true_eq_false, if_false]; rw [if_neg (by omega)]
  unfold pushL; rw [e]; simp
theorem absI_pos {n k : Nat} (h : k < n) : absI n ((k : Int) + 1) = some k := by
  unfold absI; rw [if_pos ⟨by omega, by omega⟩]; exact congrArg some (by omega)
theorem absI_neg {n k : Nat} (h : k < n) (i : Int) (hi : i = (k : Int) - (n : Int)) : absI n i = some k := by
  unfold absI; rw [if_neg (by omega), if_pos ⟨by omega, by omega⟩]; exact congrArg some (by omega)
theorem fat2 {w W : World} {t lim : Nat} {l : List V5} {rs : List (Value × List V5)} (h : Fl 63 w t l lim rs W) (i : Int) :
    Calls Try.prog 22 #[.pointer (some ⟨t, 0, none⟩), .int .i64 i] W fun e w' => e = .returned (.tuple #[.agg #[.int .i64 (atV l i).k, .int .i64 (atV l i).p, .int .i64 (atV l i).q, .string (atV l i).s, .int .i64 (atV l i).r], .int .i64 (atE l i)]) ∧ Fl 63 w t l lim rs w' ∧ Ch [] W w' := by
  have h0 := h
  obtain ⟨va, h1, h2, h3⟩ := h
  refine (at_all _ t va l lim W h1 i).mono ?_
  rintro e w' ⟨rfl, hs⟩
  exact ⟨rfl, h0.step (Ch.of_below hs), Ch.of_below hs⟩
set_option maxHeartbeats 8000000 in
theorem walkE (p0 : Option Addr) (c0 : Nat) (l0 : List V5) (xk xp xq : Int) (xs : ByteArray) (xr : Int) (n : Int) (wn : (Lit.int .u8 n).wf = true) (w : World) (hl : l0.length ≤ maxLen)
    (hp : 0 < l0.length → ∃ g o, p0 = some ⟨g, o, none⟩ ∧ g < w.heap.size ∧ ∀ (j m : Nat) (hj : j < l0.length), m < 5 → w.cell? ⟨g, o + j * 5 + m, none⟩ = (vC l0[j])[m]?) :
    Calls Try.prog 5 #[.slice p0 l0.length c0, .agg #[.int .i64 xk, .int .i64 xp, .int .i64 xq, .string xs, .int .i64 xr], .int .u8 n] w fun e w' => e = .returned (.bool true) ∧ Below w.heap.size w w' := by
  obtain ⟨x, hx⟩ : ∃ x : V5, x = ⟨xk, xp, xq, xs, xr⟩ := ⟨_, rfl⟩
  obtain ⟨rfl, rfl, rfl, rfl, rfl⟩ : xk = x.k ∧ xp = x.p ∧ xq = x.q ∧ xs = x.s ∧ xr = x.r := by rw [hx]; exact ⟨rfl, rfl, rfl, rfl, rfl⟩
  clear hx
  have hn : 0 ≤ n ∧ n ≤ 255 := by simpa [Lit.wf, IntKind.min, IntKind.max, IntKind.signed, IntKind.bits] using wn
  have HV0 : ValsA w (.slice p0 l0.length c0) l0 := ⟨p0, c0, rfl, hp⟩
  have HC0 : Hid (Ch [] w (w.alloc (.cells #[.int .i64 x.k, .int .i64 x.p, .int .i64 x.q, .string x.s, .int .i64 x.r] 35))) := Lib.hid ((Ch.refl [] w).alloc _)
  have HB0 : Hid (Blk 35 w.heap.size #[.int .i64 x.k, .int .i64 x.p, .int .i64 x.q, .string x.s, .int .i64 x.r] (w.alloc (.cells #[.int .i64 x.k, .int .i64 x.p, .int .i64 x.q, .string x.s, .int .i64 x.r] 35))) := Lib.hid (Blk.new w _ _ _ rfl)
  have QF := Lib.hid (filled_any (.slice p0 l0.length c0) l0 (w.alloc (.cells #[.int .i64 x.k, .int .i64 x.p, .int .i64 x.q, .string x.s, .int .i64 x.r] 35)) (HV0.below HC0.out) hl)
  have HLN : Hid ((flF l0 60).length ≤ 60) := Lib.hid (flF_len l0 60)
  have QA := Lib.hid fun W => awake_any W
  clear hp hl wn HV0
  go_enter Try.func5, Try.ntmps5
  go_upto_region 1 with fail
  generalize (w.alloc (.cells #[.int .i64 x.k, .int .i64 x.p, .int .i64 x.q, .string x.s, .int .i64 x.r] 35)) = w0 at *
  go_upto_region 4 with (go_at_call 20; (with_reducible refine (QF.out).mono ?_); rintro e w1 ⟨t, p, c, rfl, hf⟩; have HF1 := Lib.hid hf; clear hf)
  clear QF
  generalize flF l0 60 = vs at *
  have HB1 : Hid (Blk 35 w.heap.size #[.int .i64 x.k, .int .i64 x.p, .int .i64 x.q, .string x.s, .int .i64 x.r] w1) := Lib.hid (HB0.out.ch HF1.out.ch (not_nil _))
  have HC1 : Hid (Ch [] w w1) := Lib.hid (HC0.out.trans HF1.out.ch)
  have a0 : w1.cell? ⟨w.heap.size, 0, none⟩ = some (.int .i64 x.k) := HB1.out.cell 0
  have a1 : w1.cell? ⟨w.heap.size, 1, none⟩ = some (.int .i64 x.p) := HB1.out.cell 1
  have a2 : w1.cell? ⟨w.heap.size, 2, none⟩ = some (.int .i64 x.q) := HB1.out.cell 2
  have a3 : w1.cell? ⟨w.heap.size, 3, none⟩ = some (.string x.s) := HB1.out.cell 3
  have a4 : w1.cell? ⟨w.heap.size, 4, none⟩ = some (.int .i64 x.r) := HB1.out.cell 4
  have la := HB1.out.lt
  by_cases h106 : (4106 : Int) < (x.s.size : Int)
  · clear hn
    go_wp2_with (go_at_call 10; (with_reducible refine (QA.out _).mono ?_); rintro e w3 ⟨rfl, hs⟩; have HC3 : Hid (Ch [] w w3) := Lib.hid (HC1.out.trans hs); clear hs)
    go_ret
    exact ⟨rfl, HC3.out.below⟩
  · cases hok : okV x with
    | false =>
      have QV : Hid (∀ W, Calls Try.prog 23 #[.agg #[.int .i64 x.k, .int .i64 x.p, .int .i64 x.q, .string x.s, .int .i64 x.r]] W fun e w' => e = .returned (.bool false) ∧ Below W.heap.size W w') := Lib.hid fun W => by rw [← (show okV x = false from hok)]; exact rvalid5 x.k x.p x.q x.s x.r W
      clear hok hn
      go_upto_region 5 with (go_at_call 23; (with_reducible refine (QV.out _).mono ?_); rintro e w2 ⟨rfl, hb⟩; have HC2 : Hid (Ch [] w w2) := Lib.hid (HC1.out.trans (Ch.of_below hb)); clear hb)
      go_wp2_with (go_at_call 10; (with_reducible refine (QA.out _).mono ?_); rintro e w3 ⟨rfl, hs⟩; have HC3 : Hid (Ch [] w w3) := Lib.hid (HC2.out.trans hs); clear hs)
      go_ret
      exact ⟨rfl, HC3.out.below⟩
    | true =>
      have QV : Hid (∀ W, Calls Try.prog 23 #[.agg #[.int .i64 x.k, .int .i64 x.p, .int .i64 x.q, .string x.s, .int .i64 x.r]] W fun e w' => e = .returned (.bool true) ∧ Below W.heap.size W w') := Lib.hid fun W => by rw [← (show okV x = true from hok)]; exact rvalid5 x.k x.p x.q x.s x.r W
      have hm := HLN.out
      obtain ⟨i, hi⟩ : ∃ i : Nat, i = (n.tmod ((vs.length : Int) + 1)).toNat := ⟨_, rfl⟩
      have htm := Int.tmod_lt_of_pos n (show (0 : Int) < (vs.length : Int) + 1 by omega)
      have htn : 0 ≤ n.tmod ((vs.length : Int) + 1) := Int.tmod_nonneg _ hn.1
      have hiv : i ≤ vs.length := by omega
      have e1 : n.tmod ((vs.length : Int) + 1) = (i : Int) := by omega
      have e3 : IntKind.i64.wrap n = n := IntWalk.i64_in _ (by omega)
      have hxl : x.s.size ≤ 4106 := by omega
      obtain ⟨m, hmm⟩ : ∃ m, m = vs.take i ++ x :: vs.drop i := ⟨_, rfl⟩
      have hml : m.length = vs.length + 1 := by rw [hmm]; simp; omega
      have hmi : m[i]? = some x := by
        rw [hmm, List.getElem?_append_right (by simp; omega)]
        have : (vs.take i).length = i := by simp; omega
        rw [this, Nat.sub_self]; rfl
      have hmv : atV m ((i : Int) + 1) = x ∧ atE m ((i : Int) + 1) = 0 := by
        unfold atV atE; rw [hml, absI_pos (by omega)]; simp [List.getD, hmi]
      have hmv2 : atV m ((i : Int) + 1 - (vs.length : Int) - 2) = x ∧ atE m ((i : Int) + 1 - (vs.length : Int) - 2) = 0 := by
        unfold atV atE; rw [hml, absI_neg (k := i) (by omega) _ (by omega)]; simp [List.getD, hmi]
      have hrem : remL m ((i : Int) + 1) = vs := by
        unfold remL; rw [hml, absI_pos (by omega)]
        simp only
        rw [hmm, List.take_append_of_le_length (by simp; omega), List.take_take, Nat.min_self, List.drop_append, List.length_take, Nat.min_eq_left hiv, List.drop_of_length_le (by simp; omega), Nat.add_sub_cancel_left]
        simp
      have hrot : atE (vs ++ [x]) ((i : Int) + 1) = 0 ∧ rotateL (vs ++ [x]) ((i : Int) + 1) 1 = m := by
        have hlen : (vs ++ [x]).length = vs.length + 1 := by simp
        unfold atE rotateL; rw [hlen, absI_pos (by omega)]
        exact ⟨rfl, by rw [hmm]; exact rotL_insert vs x i hiv⟩
      have hpu := pushL_ok (l := vs) (lim := 1000) hok (by omega)
      have QPU : Hid (∀ rs W, Fl 63 w0 t vs 1000 rs W → Calls Try.prog 24 #[.pointer (some ⟨t, 0, none⟩), .agg #[.int .i64 x.k, .int .i64 x.p, .int .i64 x.q, .string x.s, .int .i64 x.r]] W fun e w' => e = .returned (.int .i64 0) ∧ Fl 63 w0 t (vs ++ [x]) 1000 rs w') := Lib.hid fun rs W h => by
        have := fpush h x
        rw [hpu.1, hpu.2] at this
        exact this
      have QI : Hid (∀ rs W, Fl 63 w0 t (vs ++ [x]) 1000 rs W → Calls Try.prog 25 #[.pointer (some ⟨t, 0, none⟩), .int .i64 ((i : Int) + 1)] W fun e w' => e = .returned (.int .i64 0) ∧ Fl 63 w0 t m 1000 rs w') := Lib.hid fun rs W h => by
        have := finsert h ((i : Int) + 1)
        rw [hrot.1, hrot.2] at this
        exact this
      have Q1 : Hid (∀ rs W, Fl 63 w0 t m 1000 rs W → Calls Try.prog 22 #[.pointer (some ⟨t, 0, none⟩), .int .i64 ((i : Int) + 1)] W fun e w' => e = .returned (.tuple #[.agg #[.int .i64 x.k, .int .i64 x.p, .int .i64 x.q, .string x.s, .int .i64 x.r], .int .i64 0]) ∧ Fl 63 w0 t m 1000 rs w' ∧ Ch [] W w') := Lib.hid fun rs W h => by
        have := fat2 h ((i : Int) + 1)
        rw [hmv.1, hmv.2] at this
        exact this
      have Q2 : Hid (∀ rs W, Fl 63 w0 t m 1000 rs W → Calls Try.prog 22 #[.pointer (some ⟨t, 0, none⟩), .int .i64 ((i : Int) + 1 - (vs.length : Int) - 2)] W fun e w' => e = .returned (.tuple #[.agg #[.int .i64 x.k, .int .i64 x.p, .int .i64 x.q, .string x.s, .int .i64 x.r], .int .i64 0]) ∧ Fl 63 w0 t m 1000 rs w' ∧ Ch [] W w') := Lib.hid fun rs W h => by
        have := fat2 h ((i : Int) + 1 - (vs.length : Int) - 2)
        rw [hmv2.1, hmv2.2] at this
        exact this
      have QR : Hid (∀ rs W, Fl 63 w0 t m 1000 rs W → Calls Try.prog 26 #[.pointer (some ⟨t, 0, none⟩), .int .i64 ((i : Int) + 1)] W fun e w' => e = .returned (.int .i64 0) ∧ Fl 63 w0 t vs 1000 rs w') := Lib.hid fun rs W h => by
        have := fremove h ((i : Int) + 1)
        rw [hmv.2, hrem] at this
        exact this
      have QL : Hid (∀ rs W, Fl 63 w0 t vs 1000 rs W → Calls Try.prog 18 #[.pointer (some ⟨t, 0, none⟩)] W fun e w' => ∃ p c, e = .returned (.slice p vs.length c) ∧ Fl 63 w0 t vs 1000 ((.slice p vs.length c, vs) :: rs) w' ∧ (∀ g ∈ ob (.slice p vs.length c), W.heap.size ≤ g) ∧ Ch [] W w') := Lib.hid fun rs W h => flist h
      have QS : Hid (∀ a b rs W, Fl 63 w0 t vs 1000 rs W → (a, vs) ∈ rs → (b, vs) ∈ rs → Calls Try.prog 17 #[a, b] W fun e w' => e = .returned (.bool true) ∧ Fl 63 w0 t vs 1000 rs w') := Lib.hid fun a b rs W h ha hb => same_rows a b W h ha hb (by have := HLN.out; omega)
      have EQ := fun W => neq_v5 x W
      have HIV := Lib.hid hiv
      clear hok hn hi htm htn hmm hml hmi hmv hmv2 hrem hrot hpu hxl
      go_upto_region 7 with (go_at_call 23; (with_reducible refine (QV.out _).mono ?_); rintro e w2 ⟨rfl, hb⟩; have HF2 := Lib.hid (HF1.out.step (Ch.of_below hb)); clear hb)
      clear a0 a1 a2 a3 a4 la
      have HB2 : Hid (Blk 35 w.heap.size #[.int .i64 x.k, .int .i64 x.p, .int .i64 x.q, .string x.s, .int .i64 x.r] w2) := Lib.hid (HB0.out.ch HF2.out.ch (not_nil _))
      have a0 : w2.cell? ⟨w.heap.size, 0, none⟩ = some (.int .i64 x.k) := HB2.out.cell 0
      have a1 : w2.cell? ⟨w.heap.size, 1, none⟩ = some (.int .i64 x.p) := HB2.out.cell 1
      have a2 : w2.cell? ⟨w.heap.size, 2, none⟩ = some (.int .i64 x.q) := HB2.out.cell 2
      have a3 : w2.cell? ⟨w.heap.size, 3, none⟩ = some (.string x.s) := HB2.out.cell 3
      have a4 : w2.cell? ⟨w.heap.size, 4, none⟩ = some (.int .i64 x.r) := HB2.out.cell 4
      have la := HB2.out.lt
      go_upto_region 9 with (first | (go_at_call 24; (with_reducible refine (QPU.out _ _ HF2.out).mono ?_); rintro e w3 ⟨rfl, hf⟩; have HF3 := Lib.hid hf; clear hf) | (go_at_call 25; (with_reducible refine (QI.out _ _ HF3.out).mono ?_); rintro e w4 ⟨rfl, hf⟩; have HF4 := Lib.hid hf; clear hf))
      clear a0 a1 a2 a3 a4 la
      go_upto_region 10 with (go_at_call 22; (with_reducible refine (Q1.out _ _ HF4.out).mono ?_); rintro e w5 ⟨rfl, hf, hc⟩; have HF5 := Lib.hid hf; clear hf hc)
      have HF6 := Lib.hid (HF5.out.step ((Ch.refl [] w5).alloc (.cells #[.int .i64 x.k, .int .i64 x.p, .int .i64 x.q, .string x.s, .int .i64 x.r] 35)))
      have HX6 : Hid (Blk 35 w5.heap.size #[.int .i64 x.k, .int .i64 x.p, .int .i64 x.q, .string x.s, .int .i64 x.r] (w5.alloc (.cells #[.int .i64 x.k, .int .i64 x.p, .int .i64 x.q, .string x.s, .int .i64 x.r] 35))) := Lib.hid (Blk.new _ _ _ _ rfl)
      obtain ⟨r1, hr1⟩ : ∃ r1, r1 = w5.heap.size := ⟨_, rfl⟩
      rw [← hr1] at HX6 ⊢
      have HR1 := Lib.hid hr1
      clear hr1
      generalize (w5.alloc (.cells #[.int .i64 x.k, .int .i64 x.p, .int .i64 x.q, .string x.s, .int .i64 x.r] 35)) = w6 at *
      go_upto_region 11 with (go_at_call 22; (with_reducible refine (Q2.out _ _ HF6.out).mono ?_); rintro e w7 ⟨rfl, hf, hc⟩; have HF7 := Lib.hid hf; have HC7 := Lib.hid hc; clear hf hc)
      have HF8 := Lib.hid (HF7.out.step ((Ch.refl [] w7).alloc (.cells #[.int .i64 x.k, .int .i64 x.p, .int .i64 x.q, .string x.s, .int .i64 x.r] 35)))
      have HY8 : Hid (Blk 35 w7.heap.size #[.int .i64 x.k, .int .i64 x.p, .int .i64 x.q, .string x.s, .int .i64 x.r] (w7.alloc (.cells #[.int .i64 x.k, .int .i64 x.p, .int .i64 x.q, .string x.s, .int .i64 x.r] 35))) := Lib.hid (Blk.new _ _ _ _ rfl)
      have HX8 : Hid (Blk 35 r1 #[.int .i64 x.k, .int .i64 x.p, .int .i64 x.q, .string x.s, .int .i64 x.r] (w7.alloc (.cells #[.int .i64 x.k, .int .i64 x.p, .int .i64 x.q, .string x.s, .int .i64 x.r] 35))) := Lib.hid (HX6.out.ch (HC7.out.alloc _) (not_nil _))
      obtain ⟨r2, hr2⟩ : ∃ r2, r2 = w7.heap.size := ⟨_, rfl⟩
      rw [← hr2] at HY8 ⊢
      have HR2 := Lib.hid hr2
      clear hr2
      generalize (w7.alloc (.cells #[.int .i64 x.k, .int .i64 x.p, .int .i64 x.q, .string x.s, .int .i64 x.r] 35)) = w8 at *
      have HB8 : Hid (Blk 35 w.heap.size #[.int .i64 x.k, .int .i64 x.p, .int .i64 x.q, .string x.s, .int .i64 x.r] w8) := Lib.hid (HB0.out.ch HF8.out.ch (not_nil _))
      have a0 : w8.cell? ⟨w.heap.size, 0, none⟩ = some (.int .i64 x.k) := HB8.out.cell 0
      have a1 : w8.cell? ⟨w.heap.size, 1, none⟩ = some (.int .i64 x.p) := HB8.out.cell 1
      have a2 : w8.cell? ⟨w.heap.size, 2, none⟩ = some (.int .i64 x.q) := HB8.out.cell 2
      have a3 : w8.cell? ⟨w.heap.size, 3, none⟩ = some (.string x.s) := HB8.out.cell 3
      have a4 : w8.cell? ⟨w.heap.size, 4, none⟩ = some (.int .i64 x.r) := HB8.out.cell 4
      have b0 : w8.cell? ⟨r1, 0, none⟩ = some (.int .i64 x.k) := HX8.out.cell 0
      have b1 : w8.cell? ⟨r1, 1, none⟩ = some (.int .i64 x.p) := HX8.out.cell 1
      have b2 : w8.cell? ⟨r1, 2, none⟩ = some (.int .i64 x.q) := HX8.out.cell 2
      have b3 : w8.cell? ⟨r1, 3, none⟩ = some (.string x.s) := HX8.out.cell 3
      have b4 : w8.cell? ⟨r1, 4, none⟩ = some (.int .i64 x.r) := HX8.out.cell 4
      have d0 : w8.cell? ⟨r2, 0, none⟩ = some (.int .i64 x.k) := HY8.out.cell 0
      have d1 : w8.cell? ⟨r2, 1, none⟩ = some (.int .i64 x.p) := HY8.out.cell 1
      have d2 : w8.cell? ⟨r2, 2, none⟩ = some (.int .i64 x.q) := HY8.out.cell 2
      have d3 : w8.cell? ⟨r2, 3, none⟩ = some (.string x.s) := HY8.out.cell 3
      have d4 : w8.cell? ⟨r2, 4, none⟩ = some (.int .i64 x.r) := HY8.out.cell 4
      have la := HB8.out.lt
      have lb := HX8.out.lt
      have ld := HY8.out.lt
      go_wp2_with (first | (go_at_call 26; (with_reducible refine (QR.out _ _ HF8.out).mono ?_); rintro e w9 ⟨rfl, hf⟩; have HF9 := Lib.hid hf; clear hf) | (go_at_call 18; (with_reducible refine (QL.out _ _ HF9.out).mono ?_); rintro e w10 ⟨p5, c5, rfl, hf, hlo, hc⟩; have HF10 := Lib.hid hf; clear hf hlo hc) | (go_at_call 17; (with_reducible refine (QS.out _ _ _ _ HF10.out (by simp) (by simp)).mono ?_); rintro e w11 ⟨rfl, hf⟩; have HF11 := Lib.hid hf; clear hf) | (go_at_call 10; (with_reducible refine (QA.out _).mono ?_); rintro e w12 ⟨rfl, hs⟩; have HC12 : Hid (Ch [] w w12) := Lib.hid ((HC0.out.trans HF11.out.ch).trans hs); clear hs))
      go_ret
      exact ⟨rfl, HC12.out.below⟩
end Go.Proofs.Ytibggoikjlnnkaa
