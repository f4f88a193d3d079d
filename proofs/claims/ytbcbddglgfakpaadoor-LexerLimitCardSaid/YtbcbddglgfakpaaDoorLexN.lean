/- Contracts of layer 3: literals that are written. -/
import Derived.Test.YtbcbddglgfakpaaDoorLexL
import Derived.Lib.UnsafeStr
namespace Go.Proofs.YtbcbddglgfakpaaDoor
open Go.RowKit Go.Joins M3
set_option linter.unusedVariables false
/-- A builder that holds bytes. -/
abbrev Bl (B b : Nat) (l : List UInt8) (w : World) : Prop := BIs B b (Lib.byteCells l) w
theorem blb (B b : Nat) (l : List UInt8) (x : UInt8) (v : Int) (hv : (x.toNat : Int) = v) (w : World) (h : Bl B b l w) (hl : l.length ≤ 100000000) (hB : B ≤ w.heap.size) :
    Calls Tryd.prog 36 #[(.pointer (some ⟨b, 0, none⟩)), .int .u8 v] w fun e w' => e = .returned .nilIface ∧ Bl B b (l ++ [x]) w' ∧ Below B w w' := by
  subst hv
  refine (bbyte_any B b (Lib.byteCells l) (x.toNat : Int) w h (by rw [Lib.byteCells_length]; omega) hB).mono fun e w' ⟨h1, h2, h3, _⟩ => ⟨h1, .inr ?_, h3⟩
  rw [show Lib.byteCells (l ++ [x]) = Lib.byteCells l ++ [.int .u8 (x.toNat : Int)] by simp [Lib.byteCells]]
  exact h2
theorem bls (B b : Nat) (l : List UInt8) (y : ByteArray) (w : World) (h : Bl B b l w) (hl : l.length ≤ 100000000) (hy : y.size ≤ 100000000) (hB : B ≤ w.heap.size) :
    Calls Tryd.prog 26 #[(.pointer (some ⟨b, 0, none⟩)), .string y] w fun e w' => e = .returned (.tuple #[.int .i64 y.size, .nilIface]) ∧ Bl B b (l ++ y.data.toList) w' ∧ Below B w w' := by
  refine (bstr_any B b (Lib.byteCells l) y w h (by rw [Lib.byteCells_length]; omega) hB).mono fun e w' ⟨h1, h2, h3, _⟩ => ⟨h1, .inr ?_, h3⟩
  rw [show Lib.byteCells (l ++ y.data.toList) = Lib.byteCells l ++ Lib.strCells y by simp [Lib.byteCells, Lib.strCells]]
  exact h2
theorem dq1 (x : UInt8) : ((48 + x / 100).toNat : Int) = 48 + (x.toNat : Int) / 100 := by
  have := x.toNat_lt
  simp [UInt8.toNat_add, UInt8.toNat_div]; omega
theorem dq2 (x : UInt8) : ((48 + x / 10 % 10).toNat : Int) = 48 + (x.toNat : Int) / 10 % 10 := by
  have := x.toNat_lt
  simp [UInt8.toNat_add, UInt8.toNat_div, UInt8.toNat_mod]; omega
theorem dq3 (x : UInt8) : ((48 + x % 10).toNat : Int) = 48 + (x.toNat : Int) % 10 := by
  have := x.toNat_lt
  simp [UInt8.toNat_add, UInt8.toNat_mod]; omega
theorem u8_lit (x : UInt8) (n : Nat) (hn : n < 256) (h : x.toNat = n) : x = UInt8.ofNat n := UInt8.toNat_inj.1 (by rw [h]; simp; omega)

set_option maxHeartbeats 2000000 in
theorem quoteByte_any (B b : Nat) (l : List UInt8) (x : UInt8) (w : World) (h0 : Bl B b l w) (hl : l.length ≤ 1000000) (hB : B ≤ w.heap.size) :
    Calls Tryd.prog 37 #[(.pointer (some ⟨b, 0, none⟩)), .int .u8 (x.toNat : Int)] w fun e w' => e = .returned (.tuple #[]) ∧ Bl B b (l ++ qb x) w' ∧ Below B w w' := by
  have hcb := byte_bd3 x
  by_cases c10 : x.toNat = 10
  · have HX : Hid (qb x = [92, 110]) := Lib.hid (by rw [u8_lit x 10 (by omega) c10]; rfl)
    have q10 : ((x.toNat : Int) == 10) = true := by first | (rw [beq_iff_eq]; omega) | (rw [beq_eq_false_iff_ne]; omega)
    go_enter Tryd.func37, Tryd.ntmps37
    go_wp2_with fail
    refine (bls B b _ ⟨#[92, 110]⟩ _ h0 (by omega) (by decide) (by omega)).mono ?_
    rintro e w1 ⟨rfl, h1, hb1⟩
    have hz1 := hb1.size
    go_wp2
    first | go_end0 | (refine bodyPost_ret (results_none rfl _ _ _) rfl ?_)
    refine ⟨rfl, ?_, hb1⟩
    rw [HX.out]
    simpa [List.append_assoc] using h1
  by_cases c9 : x.toNat = 9
  · have HX : Hid (qb x = [92, 116]) := Lib.hid (by rw [u8_lit x 9 (by omega) c9]; rfl)
    have q10 : ((x.toNat : Int) == 10) = false := by first | (rw [beq_iff_eq]; omega) | (rw [beq_eq_false_iff_ne]; omega)
    have q9 : ((x.toNat : Int) == 9) = true := by first | (rw [beq_iff_eq]; omega) | (rw [beq_eq_false_iff_ne]; omega)
    go_enter Tryd.func37, Tryd.ntmps37
    go_wp2_with fail
    refine (bls B b _ ⟨#[92, 116]⟩ _ h0 (by omega) (by decide) (by omega)).mono ?_
    rintro e w1 ⟨rfl, h1, hb1⟩
    have hz1 := hb1.size
    go_wp2
    first | go_end0 | (refine bodyPost_ret (results_none rfl _ _ _) rfl ?_)
    refine ⟨rfl, ?_, hb1⟩
    rw [HX.out]
    simpa [List.append_assoc] using h1
  have d10 : ((x.toNat : Int) == 10) = false := by rw [beq_eq_false_iff_ne]; omega
  have d9 : ((x.toNat : Int) == 9) = false := by rw [beq_eq_false_iff_ne]; omega
  have e10 : x ≠ 10 := fun h => c10 (by rw [h]; rfl)
  have e9 : x ≠ 9 := fun h => c9 (by rw [h]; rfl)
  by_cases c92 : x.toNat = 92 ∨ x.toNat = 34
  · have HX : Hid (qb x = [92, x]) := Lib.hid (by
      unfold qb; rw [if_neg e10, if_neg e9, if_pos]
      rcases c92 with h | h
      · exact .inl (u8_lit x 92 (by omega) h)
      · exact .inr (u8_lit x 34 (by omega) h))
    rcases c92 with c92 | c92
    · have q92 : ((x.toNat : Int) == 92) = true := by first | (rw [beq_iff_eq]; omega) | (rw [beq_eq_false_iff_ne]; omega)
      clear c92 e10 e9 c10 c9
      go_enter Tryd.func37, Tryd.ntmps37
      go_wp2_with fail
      refine (blb B b _ (92) (92) rfl _ h0 (by first | omega | (simp; omega)) (by omega)).mono ?_
      rintro e w1 ⟨rfl, h1, hb1⟩
      have hz1 := hb1.size
      go_wp2_with fail
      refine (blb B b _ (x) ((x.toNat : Int)) rfl _ h1 (by first | omega | (simp; omega)) (by omega)).mono ?_
      rintro e w2 ⟨rfl, h2, hb2⟩
      have hz2 := hb2.size
      go_wp2
      first | go_end0 | (refine bodyPost_ret (results_none rfl _ _ _) rfl ?_)
      refine ⟨rfl, ?_, (hb1.trans hb2)⟩
      rw [HX.out]
      simpa [List.append_assoc] using h2
    · have q92 : ((x.toNat : Int) == 92) = false := by first | (rw [beq_iff_eq]; omega) | (rw [beq_eq_false_iff_ne]; omega)
      have q34 : ((x.toNat : Int) == 34) = true := by first | (rw [beq_iff_eq]; omega) | (rw [beq_eq_false_iff_ne]; omega)
      clear c92 e10 e9 c10 c9
      go_enter Tryd.func37, Tryd.ntmps37
      go_wp2_with fail
      refine (blb B b _ (92) (92) rfl _ h0 (by first | omega | (simp; omega)) (by omega)).mono ?_
      rintro e w1 ⟨rfl, h1, hb1⟩
      have hz1 := hb1.size
      go_wp2_with fail
      refine (blb B b _ (x) ((x.toNat : Int)) rfl _ h1 (by first | omega | (simp; omega)) (by omega)).mono ?_
      rintro e w2 ⟨rfl, h2, hb2⟩
      have hz2 := hb2.size
      go_wp2
      first | go_end0 | (refine bodyPost_ret (results_none rfl _ _ _) rfl ?_)
      refine ⟨rfl, ?_, (hb1.trans hb2)⟩
      rw [HX.out]
      simpa [List.append_assoc] using h2
  have d92 : ((x.toNat : Int) == 92) = false := by rw [beq_eq_false_iff_ne]; omega
  have d34 : ((x.toNat : Int) == 34) = false := by rw [beq_eq_false_iff_ne]; omega
  have e92 : ¬ (x = 92 ∨ x = 34) := fun h => c92 (by rcases h with h | h <;> rw [h] <;> decide)
  by_cases c32 : x.toNat < 32 ∨ 126 < x.toNat
  · have HX : Hid (qb x = [92, 48 + x / 100, 48 + x / 10 % 10, 48 + x % 10]) := Lib.hid (by unfold qb; rw [if_neg e10, if_neg e9, if_neg e92, if_pos c32])
    rcases c32 with c32 | c32
    · have g1 : (x.toNat : Int) < 32 := by omega
      go_enter Tryd.func37, Tryd.ntmps37
      go_wp2_with fail
      refine (blb B b _ (92) (92) rfl _ h0 (by first | omega | (simp; omega)) (by omega)).mono ?_
      rintro e w1 ⟨rfl, h1, hb1⟩
      have hz1 := hb1.size
      go_wp2_with fail
      refine (blb B b _ (48 + x / 100) (48 + (x.toNat : Int) / 100) (dq1 x) _ h1 (by first | omega | (simp; omega)) (by omega)).mono ?_
      rintro e w2 ⟨rfl, h2, hb2⟩
      have hz2 := hb2.size
      go_wp2_with fail
      refine (blb B b _ (48 + x / 10 % 10) (48 + (x.toNat : Int) / 10 % 10) (dq2 x) _ h2 (by first | omega | (simp; omega)) (by omega)).mono ?_
      rintro e w3 ⟨rfl, h3, hb3⟩
      have hz3 := hb3.size
      go_wp2_with fail
      refine (blb B b _ (48 + x % 10) (48 + (x.toNat : Int) % 10) (dq3 x) _ h3 (by first | omega | (simp; omega)) (by omega)).mono ?_
      rintro e w4 ⟨rfl, h4, hb4⟩
      have hz4 := hb4.size
      go_wp2
      first | go_end0 | (refine bodyPost_ret (results_none rfl _ _ _) rfl ?_)
      refine ⟨rfl, ?_, (((hb1.trans hb2).trans hb3).trans hb4)⟩
      rw [HX.out]
      simpa [List.append_assoc] using h4
    · have g1 : ¬ (x.toNat : Int) < 32 := by omega
      have g2 : 126 < (x.toNat : Int) := by omega
      go_enter Tryd.func37, Tryd.ntmps37
      go_wp2_with fail
      refine (blb B b _ (92) (92) rfl _ h0 (by first | omega | (simp; omega)) (by omega)).mono ?_
      rintro e w1 ⟨rfl, h1, hb1⟩
      have hz1 := hb1.size
      go_wp2_with fail
      refine (blb B b _ (48 + x / 100) (48 + (x.toNat : Int) / 100) (dq1 x) _ h1 (by first | omega | (simp; omega)) (by omega)).mono ?_
      rintro e w2 ⟨rfl, h2, hb2⟩
      have hz2 := hb2.size
      go_wp2_with fail
      refine (blb B b _ (48 + x / 10 % 10) (48 + (x.toNat : Int) / 10 % 10) (dq2 x) _ h2 (by first | omega | (simp; omega)) (by omega)).mono ?_
      rintro e w3 ⟨rfl, h3, hb3⟩
      have hz3 := hb3.size
      go_wp2_with fail
      refine (blb B b _ (48 + x % 10) (48 + (x.toNat : Int) % 10) (dq3 x) _ h3 (by first | omega | (simp; omega)) (by omega)).mono ?_
      rintro e w4 ⟨rfl, h4, hb4⟩
      have hz4 := hb4.size
      go_wp2
      first | go_end0 | (refine bodyPost_ret (results_none rfl _ _ _) rfl ?_)
      refine ⟨rfl, ?_, (((hb1.trans hb2).trans hb3).trans hb4)⟩
      rw [HX.out]
      simpa [List.append_assoc] using h4
  · have HX : Hid (qb x = [x]) := Lib.hid (by unfold qb; rw [if_neg e10, if_neg e9, if_neg e92, if_neg c32])
    have g1 : ¬ (x.toNat : Int) < 32 := by omega
    have g2 : ¬ 126 < (x.toNat : Int) := by omega
    go_enter Tryd.func37, Tryd.ntmps37
    go_wp2_with fail
    refine (blb B b _ (x) ((x.toNat : Int)) rfl _ h0 (by first | omega | (simp; omega)) (by omega)).mono ?_
    rintro e w1 ⟨rfl, h1, hb1⟩
    have hz1 := hb1.size
    go_wp2
    first | go_end0 | (refine bodyPost_ret (results_none rfl _ _ _) rfl ?_)
    refine ⟨rfl, ?_, hb1⟩
    rw [HX.out]
    simpa [List.append_assoc] using h1
end Go.Proofs.YtbcbddglgfakpaaDoor
