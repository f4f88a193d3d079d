/- The reference of layer 3: tokens. -/
import Derived.Test.YtbcbddglgfakpaaGreatDoorLexWb
import Derived.Test.YtbcbddglgfakpaaGreatDoorLexWe
import Derived.Test.YtbcbddglgfakpaaGreatDoorLexTa
import Derived.Test.YtbcbddglgfakpaaGreatDoorNumK
namespace Go.Proofs.YtbcbddglgfakpaaGreatDoor
open Go.RowKit Go.Joins M1 M2 M3
set_option linter.unusedVariables false
def rtk (t : TR) (ln a : Nat) : Value := if t.E = 0 then .tuple #[.agg #[.int .i64 t.K, .string (bs t.x), .int .i64 (ln : Int), .int .i64 (a : Int)], .int .i64 (t.nx : Int), .int .i64 0] else .tuple #[.agg #[.int .i64 0, .string ⟨#[]⟩, .int .i64 0, .int .i64 0], .int .i64 0, .int .i64 t.E]
theorem rtk_ok {t : TR} {ln a : Nat} {K : Int} {x : ByteArray} {n : Nat} (h : t.E = 0) (hK : t.K = K) (hx : bs t.x = x) (hn : t.nx = n) : rtk t ln a = .tuple #[.agg #[.int .i64 K, .string x, .int .i64 (ln : Int), .int .i64 (a : Int)], .int .i64 (n : Int), .int .i64 0] := by
  subst hK hx hn; unfold rtk; rw [if_pos h]
theorem rtk_err {t : TR} {ln a : Nat} {E : Int} (h : t.E = E) (h0 : E ≠ 0) : rtk t ln a = .tuple #[.agg #[.int .i64 0, .string ⟨#[]⟩, .int .i64 0, .int .i64 0], .int .i64 0, .int .i64 E] := by
  subst h; unfold rtk; rw [if_neg h0]
abbrev stT (W : World) (B : Nat) (K : Int) (x : ByteArray) (ln a : Int) : World := (((W.setCell ⟨B, 0, none⟩ (.int .i64 K)).setCell ⟨B, 1, none⟩ (.string x)).setCell ⟨B, 2, none⟩ (.int .i64 ln)).setCell ⟨B, 3, none⟩ (.int .i64 a)
theorem tk_store {B : Nat} {k0 l0 a0 : Int} {x0 : ByteArray} {W : World} (h : Tk B k0 x0 l0 a0 W) (K : Int) (x : ByteArray) (ln a : Int) : Tk B K x ln a (stT W B K x ln a) := (((h.set0 K).set1 x).set2 ln).set3 a
theorem below_store {n B : Nat} {w W : World} (h : Below n w W) (hB : n ≤ B) (K : Int) (x : ByteArray) (ln a : Int) : Below n w (stT W B K x ln a) := (((h.setCell hB _).setCell hB _).setCell hB _).setCell hB _
def RtokSaid (s : ByteArray) (a ln : Nat) (w : World) (v : Value) : Prop :=
  Calls Tryz.prog 11 #[.string s, .int .i64 (a : Int), .int .i64 (ln : Int)] w fun e w' => e = .returned v ∧ Below w.heap.size w w'

set_option maxHeartbeats 8000000 in
set_option maxRecDepth 100000 in
theorem rtok_sym (s : ByteArray) (a ln : Nat) (w : World) (hs : s.size ≤ 70000) (ha : a < s.size) (n : Nat) (L1 : Hid (∀ w, Calls Tryz.prog 24 #[.int .u8 (s[a].toNat : Int)] w fun e w' => e = .returned (.bool false) ∧ w = w')) (D1 : Hid (∀ w, Calls Tryz.prog 27 #[.int .u8 (s[a].toNat : Int)] w fun e w' => e = .returned (.bool false) ∧ w = w')) (o1 : ((s[a].toNat : Int) == 39) = false) (o2 : ((s[a].toNat : Int) == 34) = false)
    (S1 : Hid (∀ w, Calls Tryz.prog 30 #[.string (s.extract a s.size)] w fun e w' => e = .returned (.int .i64 (n : Int)) ∧ w = w')) (hn : a + n ≤ s.size) :
    RtokSaid s a ln w (if n = 0 then .tuple #[.agg #[.int .i64 0, .string ⟨#[]⟩, .int .i64 0, .int .i64 0], .int .i64 0, .int .i64 4] else .tuple #[.agg #[.int .i64 5, .string (s.extract a (a + n)), .int .i64 (ln : Int), .int .i64 (a : Int)], .int .i64 ((a + n : Nat) : Int), .int .i64 0]) := by
  unfold RtokSaid
  have hss : (s.size : Int) ≤ (s.size : Int) := Int.le_refl _
  have has : (a : Int) ≤ (s.size : Int) := by omega
  by_cases h0 : n = 0
  · rw [if_pos h0]
    have q1 : ((n : Int) == 0) = true := by rw [beq_iff_eq]; omega
    have ha' : (a : Int) < (s.size : Int) := by omega
    have ha0 : 0 ≤ (a : Int) := by omega
    go_enter Tryz.func11, Tryz.ntmps11
    go_upto_region 1 with fail
    go_name_world V hV
    have HTV : Hid (Tk w.heap.size 0 ⟨#[]⟩ 0 0 V) := Lib.hid (by rw [← hV]; exact heap_alloc_new w _)
    have HBV : Hid (Below w.heap.size w V) := Lib.hid (by rw [← hV]; exact (Below.refl _ _).alloc (Nat.le_refl _) _)
    have hzV : V.heap.size = w.heap.size + 1 := by rw [← hV]; simp
    clear hV
    have k0 := HTV.out.c0
    have k1 := HTV.out.c1
    have k2 := HTV.out.c2
    have k3 := HTV.out.c3
    have z0 := HTV.out.fz 0
    have z1 := HTV.out.fz 1
    have z2 := HTV.out.fz 2
    have z3 := HTV.out.fz 3
    go_wp2_with (first | (go_at_call 24; (with_reducible refine (L1.out _).mono ?_); rintro e w1 ⟨rfl, rfl⟩) | (go_at_call 27; (with_reducible refine (D1.out _).mono ?_); rintro e w1 ⟨rfl, rfl⟩) | (go_at_call 30; (with_reducible refine (S1.out _).mono ?_); rintro e w1 ⟨rfl, rfl⟩))
    (try simp only [Exit.inBlock, Exit.then])
    have hT9 : Tk w.heap.size (0) (⟨#[]⟩) (0) (0) ((((V.setCell ⟨w.heap.size, 0, none⟩ (.int .i64 0)).setCell ⟨w.heap.size, 1, none⟩ (.string ⟨#[]⟩)).setCell ⟨w.heap.size, 2, none⟩ (.int .i64 0)).setCell ⟨w.heap.size, 3, none⟩ (.int .i64 0)) := tk_store HTV.out (0) (⟨#[]⟩) (0) (0)
    have hB9 : Below w.heap.size w ((((V.setCell ⟨w.heap.size, 0, none⟩ (.int .i64 0)).setCell ⟨w.heap.size, 1, none⟩ (.string ⟨#[]⟩)).setCell ⟨w.heap.size, 2, none⟩ (.int .i64 0)).setCell ⟨w.heap.size, 3, none⟩ (.int .i64 0)) := below_store HBV.out (Nat.le_refl w.heap.size) (0) (⟨#[]⟩) (0) (0)
    have d0 := hT9.c0
    have d1 := hT9.c1
    have d2 := hT9.c2
    have d3 := hT9.c3
    generalize ((((V.setCell ⟨w.heap.size, 0, none⟩ (.int .i64 0)).setCell ⟨w.heap.size, 1, none⟩ (.string ⟨#[]⟩)).setCell ⟨w.heap.size, 2, none⟩ (.int .i64 0)).setCell ⟨w.heap.size, 3, none⟩ (.int .i64 0)) = W9 at *
    refine bodyPost_ret (v := .tuple #[.agg #[.int .i64 0, .string ⟨#[]⟩, .int .i64 0, .int .i64 0], .int .i64 0, .int .i64 4]) ?_ rfl ⟨rfl, hB9⟩
    simp [results, Tryz.results11, go_sem, d0, d1, d2, d3]
  · rw [if_neg h0]
    have q1 : ((n : Int) == 0) = false := by rw [beq_eq_false_iff_ne]; omega
    obtain ⟨j, hj⟩ : ∃ j, a + n = j := ⟨_, rfl⟩
    rw [hj] at hn ⊢
    have j1 : (a : Int) + (n : Int) = (j : Int) := by omega
    have j2 : IntKind.i64.wrap ((a : Int) + (n : Int)) = (j : Int) := by rw [j1]; simp only [IntKind.wrap]; simp [IntKind.signed, IntKind.bits]; omega
    have j3 : (a : Int) ≤ (j : Int) := by omega
    have j4 : (j : Int) ≤ (s.size : Int) := by omega
    have j5 : IntKind.i64.wrap (j : Int) = (j : Int) := by rw [← j1]; rw [j2]; exact j1.symm
    have ha' : (a : Int) < (s.size : Int) := by omega
    have ha0 : 0 ≤ (a : Int) := by omega
    go_enter Tryz.func11, Tryz.ntmps11
    go_upto_region 1 with fail
    go_name_world V hV
    have HTV : Hid (Tk w.heap.size 0 ⟨#[]⟩ 0 0 V) := Lib.hid (by rw [← hV]; exact heap_alloc_new w _)
    have HBV : Hid (Below w.heap.size w V) := Lib.hid (by rw [← hV]; exact (Below.refl _ _).alloc (Nat.le_refl _) _)
    have hzV : V.heap.size = w.heap.size + 1 := by rw [← hV]; simp
    clear hV
    have k0 := HTV.out.c0
    have k1 := HTV.out.c1
    have k2 := HTV.out.c2
    have k3 := HTV.out.c3
    have z0 := HTV.out.fz 0
    have z1 := HTV.out.fz 1
    have z2 := HTV.out.fz 2
    have z3 := HTV.out.fz 3
    go_wp2_with (first | (go_at_call 24; (with_reducible refine (L1.out _).mono ?_); rintro e w1 ⟨rfl, rfl⟩) | (go_at_call 27; (with_reducible refine (D1.out _).mono ?_); rintro e w1 ⟨rfl, rfl⟩) | (go_at_call 30; (with_reducible refine (S1.out _).mono ?_); rintro e w1 ⟨rfl, rfl⟩))
    (try simp only [Exit.inBlock, Exit.then])
    have hT9 : Tk w.heap.size (5) ((s.extract a j)) ((ln : Int)) ((a : Int)) ((((V.setCell ⟨w.heap.size, 0, none⟩ (.int .i64 5)).setCell ⟨w.heap.size, 1, none⟩ (.string (s.extract a j))).setCell ⟨w.heap.size, 2, none⟩ (.int .i64 (ln : Int))).setCell ⟨w.heap.size, 3, none⟩ (.int .i64 (a : Int))) := tk_store HTV.out (5) ((s.extract a j)) ((ln : Int)) ((a : Int))
    have hB9 : Below w.heap.size w ((((V.setCell ⟨w.heap.size, 0, none⟩ (.int .i64 5)).setCell ⟨w.heap.size, 1, none⟩ (.string (s.extract a j))).setCell ⟨w.heap.size, 2, none⟩ (.int .i64 (ln : Int))).setCell ⟨w.heap.size, 3, none⟩ (.int .i64 (a : Int))) := below_store HBV.out (Nat.le_refl w.heap.size) (5) ((s.extract a j)) ((ln : Int)) ((a : Int))
    have d0 := hT9.c0
    have d1 := hT9.c1
    have d2 := hT9.c2
    have d3 := hT9.c3
    generalize ((((V.setCell ⟨w.heap.size, 0, none⟩ (.int .i64 5)).setCell ⟨w.heap.size, 1, none⟩ (.string (s.extract a j))).setCell ⟨w.heap.size, 2, none⟩ (.int .i64 (ln : Int))).setCell ⟨w.heap.size, 3, none⟩ (.int .i64 (a : Int))) = W9 at *
    refine bodyPost_ret (v := .tuple #[.agg #[.int .i64 5, .string (s.extract a j), .int .i64 (ln : Int), .int .i64 (a : Int)], .int .i64 (j : Int), .int .i64 0]) ?_ rfl ⟨rfl, hB9⟩
    simp [results, Tryz.results11, go_sem, d0, d1, d2, d3]

set_option maxHeartbeats 8000000 in
set_option maxRecDepth 100000 in
theorem rtok_str (s : ByteArray) (a ln : Nat) (w : World) (hs : s.size ≤ 70000) (ha : a < s.size) (R : List UInt8 × Nat × Int) (L1 : Hid (∀ w, Calls Tryz.prog 24 #[.int .u8 (s[a].toNat : Int)] w fun e w' => e = .returned (.bool false) ∧ w = w')) (D1 : Hid (∀ w, Calls Tryz.prog 27 #[.int .u8 (s[a].toNat : Int)] w fun e w' => e = .returned (.bool false) ∧ w = w')) (hq : ((s[a].toNat : Int) == 39) = true ∨ ((s[a].toNat : Int) == 39) = false ∧ ((s[a].toNat : Int) == 34) = true)
    (F1 : Hid (∀ w, Calls Tryz.prog 29 #[.string s, .int .i64 (a : Int)] w fun e w' => e = .returned (.tuple #[.string (bs R.1), .int .i64 (R.2.1 : Int), .int .i64 R.2.2]) ∧ Below w.heap.size w w')) :
    RtokSaid s a ln w (rtk ⟨4, R.1, R.2.2, R.2.1⟩ ln a) := by
  unfold RtokSaid
  obtain ⟨x, nx, E⟩ := R
  simp only [] at F1
  by_cases hE : E = 0
  · subst hE
    rw [rtk_ok (t := ⟨4, x, 0, nx⟩) (x := bs x) rfl rfl rfl rfl]
    generalize bs x = y at *
    have ha' : (a : Int) < (s.size : Int) := by omega
    have ha0 : 0 ≤ (a : Int) := by omega
    go_enter Tryz.func11, Tryz.ntmps11
    go_upto_region 1 with fail
    go_name_world V hV
    have HTV : Hid (Tk w.heap.size 0 ⟨#[]⟩ 0 0 V) := Lib.hid (by rw [← hV]; exact heap_alloc_new w _)
    have HBV : Hid (Below w.heap.size w V) := Lib.hid (by rw [← hV]; exact (Below.refl _ _).alloc (Nat.le_refl _) _)
    have hzV : V.heap.size = w.heap.size + 1 := by rw [← hV]; simp
    clear hV
    have k0 := HTV.out.c0
    have k1 := HTV.out.c1
    have k2 := HTV.out.c2
    have k3 := HTV.out.c3
    have z0 := HTV.out.fz 0
    have z1 := HTV.out.fz 1
    have z2 := HTV.out.fz 2
    have z3 := HTV.out.fz 3
    rcases hq with o1 | ⟨o1, o2⟩
    · go_upto_region 19 with (first | (go_at_call 24; (with_reducible refine (L1.out _).mono ?_); rintro e w1 ⟨rfl, rfl⟩) | (go_at_call 27; (with_reducible refine (D1.out _).mono ?_); rintro e w1 ⟨rfl, rfl⟩) | (go_at_call 29; (with_reducible refine (F1.out _).mono ?_); rintro e w5 ⟨rfl, hb5⟩))
      have HT5 := Lib.hid (HTV.out.kept (grow_below hb5 none) (by simp))
      have HB5 := Lib.hid (HBV.out.trans (hb5.mono (by omega)))
      clear k0 k1 k2 k3 z0 z1 z2 z3 hb5
      have k0 := HT5.out.c0
      have k1 := HT5.out.c1
      have k2 := HT5.out.c2
      have k3 := HT5.out.c3
      have z0 := HT5.out.fz 0
      have z1 := HT5.out.fz 1
      have z2 := HT5.out.fz 2
      have z3 := HT5.out.fz 3
      go_wp2
      (try simp only [Exit.inBlock, Exit.then])
      have hT9 : Tk w.heap.size (4) (y) ((ln : Int)) ((a : Int)) ((((w5.setCell ⟨w.heap.size, 0, none⟩ (.int .i64 4)).setCell ⟨w.heap.size, 1, none⟩ (.string y)).setCell ⟨w.heap.size, 2, none⟩ (.int .i64 (ln : Int))).setCell ⟨w.heap.size, 3, none⟩ (.int .i64 (a : Int))) := tk_store HT5.out (4) (y) ((ln : Int)) ((a : Int))
      have hB9 : Below w.heap.size w ((((w5.setCell ⟨w.heap.size, 0, none⟩ (.int .i64 4)).setCell ⟨w.heap.size, 1, none⟩ (.string y)).setCell ⟨w.heap.size, 2, none⟩ (.int .i64 (ln : Int))).setCell ⟨w.heap.size, 3, none⟩ (.int .i64 (a : Int))) := below_store HB5.out (Nat.le_refl w.heap.size) (4) (y) ((ln : Int)) ((a : Int))
      have d0 := hT9.c0
      have d1 := hT9.c1
      have d2 := hT9.c2
      have d3 := hT9.c3
      generalize ((((w5.setCell ⟨w.heap.size, 0, none⟩ (.int .i64 4)).setCell ⟨w.heap.size, 1, none⟩ (.string y)).setCell ⟨w.heap.size, 2, none⟩ (.int .i64 (ln : Int))).setCell ⟨w.heap.size, 3, none⟩ (.int .i64 (a : Int))) = W9 at *
      refine bodyPost_ret (v := .tuple #[.agg #[.int .i64 4, .string y, .int .i64 (ln : Int), .int .i64 (a : Int)], .int .i64 (nx : Int), .int .i64 0]) ?_ rfl ⟨rfl, hB9⟩
      simp [results, Tryz.results11, go_sem, d0, d1, d2, d3]
    · go_upto_region 19 with (first | (go_at_call 24; (with_reducible refine (L1.out _).mono ?_); rintro e w1 ⟨rfl, rfl⟩) | (go_at_call 27; (with_reducible refine (D1.out _).mono ?_); rintro e w1 ⟨rfl, rfl⟩) | (go_at_call 29; (with_reducible refine (F1.out _).mono ?_); rintro e w5 ⟨rfl, hb5⟩))
      have HT5 := Lib.hid (HTV.out.kept (grow_below hb5 none) (by simp))
      have HB5 := Lib.hid (HBV.out.trans (hb5.mono (by omega)))
      clear k0 k1 k2 k3 z0 z1 z2 z3 hb5
      have k0 := HT5.out.c0
      have k1 := HT5.out.c1
      have k2 := HT5.out.c2
      have k3 := HT5.out.c3
      have z0 := HT5.out.fz 0
      have z1 := HT5.out.fz 1
      have z2 := HT5.out.fz 2
      have z3 := HT5.out.fz 3
      go_wp2
      (try simp only [Exit.inBlock, Exit.then])
      have hT9 : Tk w.heap.size (4) (y) ((ln : Int)) ((a : Int)) ((((w5.setCell ⟨w.heap.size, 0, none⟩ (.int .i64 4)).setCell ⟨w.heap.size, 1, none⟩ (.string y)).setCell ⟨w.heap.size, 2, none⟩ (.int .i64 (ln : Int))).setCell ⟨w.heap.size, 3, none⟩ (.int .i64 (a : Int))) := tk_store HT5.out (4) (y) ((ln : Int)) ((a : Int))
      have hB9 : Below w.heap.size w ((((w5.setCell ⟨w.heap.size, 0, none⟩ (.int .i64 4)).setCell ⟨w.heap.size, 1, none⟩ (.string y)).setCell ⟨w.heap.size, 2, none⟩ (.int .i64 (ln : Int))).setCell ⟨w.heap.size, 3, none⟩ (.int .i64 (a : Int))) := below_store HB5.out (Nat.le_refl w.heap.size) (4) (y) ((ln : Int)) ((a : Int))
      have d0 := hT9.c0
      have d1 := hT9.c1
      have d2 := hT9.c2
      have d3 := hT9.c3
      generalize ((((w5.setCell ⟨w.heap.size, 0, none⟩ (.int .i64 4)).setCell ⟨w.heap.size, 1, none⟩ (.string y)).setCell ⟨w.heap.size, 2, none⟩ (.int .i64 (ln : Int))).setCell ⟨w.heap.size, 3, none⟩ (.int .i64 (a : Int))) = W9 at *
      refine bodyPost_ret (v := .tuple #[.agg #[.int .i64 4, .string y, .int .i64 (ln : Int), .int .i64 (a : Int)], .int .i64 (nx : Int), .int .i64 0]) ?_ rfl ⟨rfl, hB9⟩
      simp [results, Tryz.results11, go_sem, d0, d1, d2, d3]
  · have hE' : (E != 0) = true := by rw [bne_iff_ne]; exact hE
    rw [rtk_err (t := ⟨4, x, E, nx⟩) rfl hE]
    generalize bs x = y at *
    have ha' : (a : Int) < (s.size : Int) := by omega
    have ha0 : 0 ≤ (a : Int) := by omega
    go_enter Tryz.func11, Tryz.ntmps11
    go_upto_region 1 with fail
    go_name_world V hV
    have HTV : Hid (Tk w.heap.size 0 ⟨#[]⟩ 0 0 V) := Lib.hid (by rw [← hV]; exact heap_alloc_new w _)
    have HBV : Hid (Below w.heap.size w V) := Lib.hid (by rw [← hV]; exact (Below.refl _ _).alloc (Nat.le_refl _) _)
    have hzV : V.heap.size = w.heap.size + 1 := by rw [← hV]; simp
    clear hV
    have k0 := HTV.out.c0
    have k1 := HTV.out.c1
    have k2 := HTV.out.c2
    have k3 := HTV.out.c3
    have z0 := HTV.out.fz 0
    have z1 := HTV.out.fz 1
    have z2 := HTV.out.fz 2
    have z3 := HTV.out.fz 3
    rcases hq with o1 | ⟨o1, o2⟩
    · go_upto_region 19 with (first | (go_at_call 24; (with_reducible refine (L1.out _).mono ?_); rintro e w1 ⟨rfl, rfl⟩) | (go_at_call 27; (with_reducible refine (D1.out _).mono ?_); rintro e w1 ⟨rfl, rfl⟩) | (go_at_call 29; (with_reducible refine (F1.out _).mono ?_); rintro e w5 ⟨rfl, hb5⟩))
      have HT5 := Lib.hid (HTV.out.kept (grow_below hb5 none) (by simp))
      have HB5 := Lib.hid (HBV.out.trans (hb5.mono (by omega)))
      clear k0 k1 k2 k3 z0 z1 z2 z3 hb5
      have k0 := HT5.out.c0
      have k1 := HT5.out.c1
      have k2 := HT5.out.c2
      have k3 := HT5.out.c3
      have z0 := HT5.out.fz 0
      have z1 := HT5.out.fz 1
      have z2 := HT5.out.fz 2
      have z3 := HT5.out.fz 3
      go_wp2
      (try simp only [Exit.inBlock, Exit.then])
      have hT9 : Tk w.heap.size (0) (⟨#[]⟩) (0) (0) ((((w5.setCell ⟨w.heap.size, 0, none⟩ (.int .i64 0)).setCell ⟨w.heap.size, 1, none⟩ (.string ⟨#[]⟩)).setCell ⟨w.heap.size, 2, none⟩ (.int .i64 0)).setCell ⟨w.heap.size, 3, none⟩ (.int .i64 0)) := tk_store HT5.out (0) (⟨#[]⟩) (0) (0)
      have hB9 : Below w.heap.size w ((((w5.setCell ⟨w.heap.size, 0, none⟩ (.int .i64 0)).setCell ⟨w.heap.size, 1, none⟩ (.string ⟨#[]⟩)).setCell ⟨w.heap.size, 2, none⟩ (.int .i64 0)).setCell ⟨w.heap.size, 3, none⟩ (.int .i64 0)) := below_store HB5.out (Nat.le_refl w.heap.size) (0) (⟨#[]⟩) (0) (0)
      have d0 := hT9.c0
      have d1 := hT9.c1
      have d2 := hT9.c2
      have d3 := hT9.c3
      generalize ((((w5.setCell ⟨w.heap.size, 0, none⟩ (.int .i64 0)).setCell ⟨w.heap.size, 1, none⟩ (.string ⟨#[]⟩)).setCell ⟨w.heap.size, 2, none⟩ (.int .i64 0)).setCell ⟨w.heap.size, 3, none⟩ (.int .i64 0)) = W9 at *
      refine bodyPost_ret (v := .tuple #[.agg #[.int .i64 0, .string ⟨#[]⟩, .int .i64 0, .int .i64 0], .int .i64 0, .int .i64 E]) ?_ rfl ⟨rfl, hB9⟩
      simp [results, Tryz.results11, go_sem, d0, d1, d2, d3]
    · go_upto_region 19 with (first | (go_at_call 24; (with_reducible refine (L1.out _).mono ?_); rintro e w1 ⟨rfl, rfl⟩) | (go_at_call 27; (with_reducible refine (D1.out _).mono ?_); rintro e w1 ⟨rfl, rfl⟩) | (go_at_call 29; (with_reducible refine (F1.out _).mono ?_); rintro e w5 ⟨rfl, hb5⟩))
      have HT5 := Lib.hid (HTV.out.kept (grow_below hb5 none) (by simp))
      have HB5 := Lib.hid (HBV.out.trans (hb5.mono (by omega)))
      clear k0 k1 k2 k3 z0 z1 z2 z3 hb5
      have k0 := HT5.out.c0
      have k1 := HT5.out.c1
      have k2 := HT5.out.c2
      have k3 := HT5.out.c3
      have z0 := HT5.out.fz 0
      have z1 := HT5.out.fz 1
      have z2 := HT5.out.fz 2
      have z3 := HT5.out.fz 3
      go_wp2
      (try simp only [Exit.inBlock, Exit.then])
      have hT9 : Tk w.heap.size (0) (⟨#[]⟩) (0) (0) ((((w5.setCell ⟨w.heap.size, 0, none⟩ (.int .i64 0)).setCell ⟨w.heap.size, 1, none⟩ (.string ⟨#[]⟩)).setCell ⟨w.heap.size, 2, none⟩ (.int .i64 0)).setCell ⟨w.heap.size, 3, none⟩ (.int .i64 0)) := tk_store HT5.out (0) (⟨#[]⟩) (0) (0)
      have hB9 : Below w.heap.size w ((((w5.setCell ⟨w.heap.size, 0, none⟩ (.int .i64 0)).setCell ⟨w.heap.size, 1, none⟩ (.string ⟨#[]⟩)).setCell ⟨w.heap.size, 2, none⟩ (.int .i64 0)).setCell ⟨w.heap.size, 3, none⟩ (.int .i64 0)) := below_store HB5.out (Nat.le_refl w.heap.size) (0) (⟨#[]⟩) (0) (0)
      have d0 := hT9.c0
      have d1 := hT9.c1
      have d2 := hT9.c2
      have d3 := hT9.c3
      generalize ((((w5.setCell ⟨w.heap.size, 0, none⟩ (.int .i64 0)).setCell ⟨w.heap.size, 1, none⟩ (.string ⟨#[]⟩)).setCell ⟨w.heap.size, 2, none⟩ (.int .i64 0)).setCell ⟨w.heap.size, 3, none⟩ (.int .i64 0)) = W9 at *
      refine bodyPost_ret (v := .tuple #[.agg #[.int .i64 0, .string ⟨#[]⟩, .int .i64 0, .int .i64 0], .int .i64 0, .int .i64 E]) ?_ rfl ⟨rfl, hB9⟩
      simp [results, Tryz.results11, go_sem, d0, d1, d2, d3]

theorem keys_allz : (keysL.all fun k => decide (k.length ≤ 40)) = true := by decide
theorem key_memz {l : List UInt8} (h : key l = true) : l ∈ keysL := by
  unfold key at h
  obtain ⟨k, hk, e⟩ := List.any_eq_true.1 h
  rw [eq_of_beq e]; exact hk
theorem ne40z : (4 : Int) ≠ 0 := by decide
theorem ne30z : (3 : Int) ≠ 0 := by decide
set_option maxHeartbeats 8000000 in
set_option maxRecDepth 100000 in
theorem rtok_nam (s : ByteArray) (a ln : Nat) (w : World) (hs : s.size ≤ 70000) (ha : a < s.size) (L1 : Hid (∀ w, Calls Tryz.prog 24 #[.int .u8 (s[a].toNat : Int)] w fun e w' => e = .returned (.bool true) ∧ w = w')) :
    RtokSaid s a ln w (rtk (namR s.data.toList a) ln a) := by
  have hll : s.data.toList.length = s.size := by simp
  unfold RtokSaid
  obtain ⟨v, hv⟩ : ∃ v, rtk (namR s.data.toList a) ln a = v := ⟨_, rfl⟩
  rw [hv]
  have HVV := Lib.hid hv
  obtain ⟨C, hC⟩ : ∃ C, cntP wrd (s.data.toList.drop a) = C := ⟨_, rfl⟩
  have hCl := cntP_le wrd (s.data.toList.drop a)
  rw [hC, List.length_drop, hll] at hCl
  have HC0 : Hid (a + cntP wrd (s.data.toList.drop a) = a + C) := Lib.hid (by rw [hC])
  clear hv
  have ha' : (a : Int) < (s.size : Int) := by omega
  have ha0 : 0 ≤ (a : Int) := by omega
  go_enter Tryz.func11, Tryz.ntmps11
  go_upto_region 1 with fail
  go_name_world V hV
  have HTV : Hid (Tk w.heap.size 0 ⟨#[]⟩ 0 0 V) := Lib.hid (by rw [← hV]; exact heap_alloc_new w _)
  have HBV : Hid (Below w.heap.size w V) := Lib.hid (by rw [← hV]; exact (Below.refl _ _).alloc (Nat.le_refl _) _)
  have hzV : V.heap.size = w.heap.size + 1 := by rw [← hV]; simp
  clear hV
  go_upto_region 3 with (first | (go_at_call 24; (with_reducible refine (L1.out _).mono ?_); rintro e w1 ⟨rfl, rfl⟩))
  go_loop [9] (fun v9 => ∃ k : Nat, a ≤ k ∧ k ≤ s.size ∧ v9 = .int .i64 (k : Int) ∧ Hid (k + cntP wrd (s.data.toList.drop k) = a + C)) (fun v9 => s.size - (intOf v9).toNat)
  case atStart => exact ⟨a, Nat.le_refl _, by omega, rfl, HC0⟩
  case round =>
    obtain ⟨k, hak, hks, rfl, HC⟩ := hrel
    by_cases hgo : k < s.size ∧ wrd (s.data.toList.getD k 0) = true
    · obtain ⟨h1, h2⟩ := hgo
      have h1' : (k : Int) < (s.size : Int) := by omega
      have hk0 : 0 ≤ (k : Int) := by omega
      have hdr : s.data.toList.drop k = s[k] :: s.data.toList.drop (k + 1) := by rw [List.drop_eq_getElem_cons (by omega)]; rfl
      have hgd : s.data.toList.getD k 0 = s[k] := by rw [List.getD_eq_getElem?_getD, List.getElem?_eq_getElem (by omega)]; rfl
      rw [hgd] at h2
      have hc := HC.out
      rw [hdr, cntP_yes h2] at hc
      have HC2 : Hid (k + 1 + cntP wrd (s.data.toList.drop (k + 1)) = a + C) := Lib.hid (by omega)
      have W1 : Hid (∀ w, Calls Tryz.prog 25 #[.int .u8 (s[k].toNat : Int)] w fun e w' => e = .returned (.bool true) ∧ w = w') := Lib.hid fun w => by have := rword_any s[k] w; rw [h2] at this; exact this
      clear hc hdr hgd h2 HC HVV hC
      go_wp2_with (go_at_call 25; (with_reducible refine (W1.out _).mono ?_); rintro e w1 ⟨rfl, rfl⟩)
      go_round
      case rel => exact ⟨k + 1, by omega, by omega, by go_num, HC2⟩
      case measure => simp [intOf]; omega
    · have hke : k = a + C := by
        have hc := HC.out
        by_cases h1 : k < s.size
        · have hdr : s.data.toList.drop k = s[k] :: s.data.toList.drop (k + 1) := by rw [List.drop_eq_getElem_cons (by omega)]; rfl
          have hgd : s.data.toList.getD k 0 = s[k] := by rw [List.getD_eq_getElem?_getD, List.getElem?_eq_getElem (by omega)]; rfl
          have h2 : wrd s[k] = false := by
            cases h : wrd s[k] with
            | false => rfl
            | true => exact absurd ⟨h1, by rw [hgd]; exact h⟩ hgo
          rw [hdr, cntP_no h2] at hc; omega
        · rw [List.drop_eq_nil_of_le (by omega)] at hc; simp only [cntP_nil] at hc; omega
      obtain ⟨e, he⟩ : ∃ e, k = e := ⟨_, rfl⟩
      rw [he] at hak hks hgo hke HC ⊢
      have hae : a + C = e := hke.symm
      have hex : (s.extract a e).data.toList = (s.data.toList.drop a).take C := by rw [ext_bs, bs_list, show e - a = C by omega]
      have hbx : bs ((s.data.toList.drop a).take C) = s.extract a e := by rw [ext_bs, show e - a = C by omega]
      have x1 : (a : Int) ≤ (e : Int) := by omega
      have x2 : (e : Int) ≤ (s.size : Int) := by omega
      have x3 : (e : Int) - (a : Int) = (C : Int) := by omega
      have x4 : IntKind.i64.wrap ((e : Int) - (a : Int)) = (C : Int) := by rw [x3]; simp only [IntKind.wrap]; simp [IntKind.signed, IntKind.bits]; omega
      have x5 : IntKind.i64.wrap (C : Int) = (C : Int) := by simp only [IntKind.wrap]; simp [IntKind.signed, IntKind.bits]; omega
      have k0 := HTV.out.c0
      have k1 := HTV.out.c1
      have k2 := HTV.out.c2
      have k3 := HTV.out.c3
      have z0 := HTV.out.fz 0
      have z1 := HTV.out.fz 1
      have z2 := HTV.out.fz 2
      have z3 := HTV.out.fz 3
      clear he hke
      by_cases h1 : e < s.size
      · have h1' : (e : Int) < (s.size : Int) := by omega
        have he0 : 0 ≤ (e : Int) := by omega
        have hgd : s.data.toList.getD e 0 = s[e] := by rw [List.getD_eq_getElem?_getD, List.getElem?_eq_getElem (by omega)]; rfl
        have h2 : wrd s[e] = false := by
          cases h : wrd s[e] with
          | false => rfl
          | true => exact absurd ⟨h1, by rw [hgd]; exact h⟩ hgo
        have W1 : Hid (∀ w, Calls Tryz.prog 25 #[.int .u8 (s[e].toNat : Int)] w fun e w' => e = .returned (.bool false) ∧ w = w') := Lib.hid fun w => by have := rword_any s[e] w; rw [h2] at this; exact this
        clear hgo hgd h2
        cases hkey : key ((s.data.toList.drop a).take C) with
        | true =>
          have K1 : Hid (∀ w, Calls Tryz.prog 26 #[.string (s.extract a e)] w fun e w' => e = .returned (.bool true) ∧ w = w') := Lib.hid fun w => by have := rkeyword_any (s.extract a e) w; rw [hex, hkey] at this; exact this
          have hk40 : C ≤ 40 := by
            have := of_decide_eq_true (List.all_eq_true.1 keys_allz _ (key_memz hkey))
            rw [List.length_take, List.length_drop, hll] at this; omega
          have HF : Hid (v = .tuple #[.agg #[.int .i64 2, .string (s.extract a e), .int .i64 (ln : Int), .int .i64 (a : Int)], .int .i64 (e : Int), .int .i64 0]) := Lib.hid (by
            rw [← HVV.out]; unfold namR; rw [hC, if_neg (by omega), if_pos hkey]
            exact rtk_ok rfl rfl hbx hae)
          clear hkey HVV HC hex hbx
          go_wp2_with (first | (go_at_call 26; (with_reducible refine (K1.out _).mono ?_); rintro e w1 ⟨rfl, rfl⟩) | (go_at_call 25; (with_reducible refine (W1.out _).mono ?_); rintro e w1 ⟨rfl, rfl⟩))
          (try simp only [Exit.inBlock, Exit.then])
          have hT9 : Tk w.heap.size (2) ((s.extract a e)) ((ln : Int)) ((a : Int)) ((((V.setCell ⟨w.heap.size, 0, none⟩ (.int .i64 2)).setCell ⟨w.heap.size, 1, none⟩ (.string (s.extract a e))).setCell ⟨w.heap.size, 2, none⟩ (.int .i64 (ln : Int))).setCell ⟨w.heap.size, 3, none⟩ (.int .i64 (a : Int))) := tk_store HTV.out (2) ((s.extract a e)) ((ln : Int)) ((a : Int))
          have hB9 : Below w.heap.size w ((((V.setCell ⟨w.heap.size, 0, none⟩ (.int .i64 2)).setCell ⟨w.heap.size, 1, none⟩ (.string (s.extract a e))).setCell ⟨w.heap.size, 2, none⟩ (.int .i64 (ln : Int))).setCell ⟨w.heap.size, 3, none⟩ (.int .i64 (a : Int))) := below_store HBV.out (Nat.le_refl w.heap.size) (2) ((s.extract a e)) ((ln : Int)) ((a : Int))
          have d0 := hT9.c0
          have d1 := hT9.c1
          have d2 := hT9.c2
          have d3 := hT9.c3
          generalize ((((V.setCell ⟨w.heap.size, 0, none⟩ (.int .i64 2)).setCell ⟨w.heap.size, 1, none⟩ (.string (s.extract a e))).setCell ⟨w.heap.size, 2, none⟩ (.int .i64 (ln : Int))).setCell ⟨w.heap.size, 3, none⟩ (.int .i64 (a : Int))) = W9 at *
          refine bodyPost_ret (v := .tuple #[.agg #[.int .i64 2, .string (s.extract a e), .int .i64 (ln : Int), .int .i64 (a : Int)], .int .i64 (e : Int), .int .i64 0]) ?_ rfl ⟨(by rw [HF.out]), hB9⟩
          simp [results, Tryz.results11, go_sem, d0, d1, d2, d3]
        | false =>
          have K1 : Hid (∀ w, Calls Tryz.prog 26 #[.string (s.extract a e)] w fun e w' => e = .returned (.bool false) ∧ w = w') := Lib.hid fun w => by have := rkeyword_any (s.extract a e) w; rw [hex, hkey] at this; exact this
          by_cases h40 : 40 < C
          · have g40 : 40 < (C : Int) := by omega
            have HF : Hid (v = .tuple #[.agg #[.int .i64 0, .string ⟨#[]⟩, .int .i64 0, .int .i64 0], .int .i64 0, .int .i64 3]) := Lib.hid (by
              rw [← HVV.out]; unfold namR; rw [hC, if_pos h40]; exact rtk_err rfl ne30z)
            clear hkey HVV HC hex hbx
            go_wp2_with (first | (go_at_call 26; (with_reducible refine (K1.out _).mono ?_); rintro e w1 ⟨rfl, rfl⟩) | (go_at_call 25; (with_reducible refine (W1.out _).mono ?_); rintro e w1 ⟨rfl, rfl⟩))
            (try simp only [Exit.inBlock, Exit.then])
            have hT9 : Tk w.heap.size (0) (⟨#[]⟩) (0) (0) ((((V.setCell ⟨w.heap.size, 0, none⟩ (.int .i64 0)).setCell ⟨w.heap.size, 1, none⟩ (.string ⟨#[]⟩)).setCell ⟨w.heap.size, 2, none⟩ (.int .i64 0)).setCell ⟨w.heap.size, 3, none⟩ (.int .i64 0)) := tk_store HTV.out (0) (⟨#[]⟩) (0) (0)
            have hB9 : Below w.heap.size w ((((V.setCell ⟨w.heap.size, 0, none⟩ (.int .i64 0)).setCell ⟨w.heap.size, 1, none⟩ (.string ⟨#[]⟩)).setCell ⟨w.heap.size, 2, none⟩ (.int .i64 0)).setCell ⟨w.heap.size, 3, none⟩ (.int .i64 0)) := below_store HBV.out (Nat.le_refl w.heap.size) (0) (⟨#[]⟩) (0) (0)
            have d0 := hT9.c0
            have d1 := hT9.c1
            have d2 := hT9.c2
            have d3 := hT9.c3
            generalize ((((V.setCell ⟨w.heap.size, 0, none⟩ (.int .i64 0)).setCell ⟨w.heap.size, 1, none⟩ (.string ⟨#[]⟩)).setCell ⟨w.heap.size, 2, none⟩ (.int .i64 0)).setCell ⟨w.heap.size, 3, none⟩ (.int .i64 0)) = W9 at *
            refine bodyPost_ret (v := .tuple #[.agg #[.int .i64 0, .string ⟨#[]⟩, .int .i64 0, .int .i64 0], .int .i64 0, .int .i64 3]) ?_ rfl ⟨(by rw [HF.out]), hB9⟩
            simp [results, Tryz.results11, go_sem, d0, d1, d2, d3]
          · have g40 : ¬ 40 < (C : Int) := by omega
            have HF : Hid (v = .tuple #[.agg #[.int .i64 1, .string (s.extract a e), .int .i64 (ln : Int), .int .i64 (a : Int)], .int .i64 (e : Int), .int .i64 0]) := Lib.hid (by
              rw [← HVV.out]; unfold namR; rw [hC, if_neg h40, if_neg (by simp [hkey])]
              exact rtk_ok rfl rfl hbx hae)
            clear hkey HVV HC hex hbx
            go_wp2_with (first | (go_at_call 26; (with_reducible refine (K1.out _).mono ?_); rintro e w1 ⟨rfl, rfl⟩) | (go_at_call 25; (with_reducible refine (W1.out _).mono ?_); rintro e w1 ⟨rfl, rfl⟩))
            (try simp only [Exit.inBlock, Exit.then])
            have hT9 : Tk w.heap.size (1) ((s.extract a e)) ((ln : Int)) ((a : Int)) ((((V.setCell ⟨w.heap.size, 0, none⟩ (.int .i64 1)).setCell ⟨w.heap.size, 1, none⟩ (.string (s.extract a e))).setCell ⟨w.heap.size, 2, none⟩ (.int .i64 (ln : Int))).setCell ⟨w.heap.size, 3, none⟩ (.int .i64 (a : Int))) := tk_store HTV.out (1) ((s.extract a e)) ((ln : Int)) ((a : Int))
            have hB9 : Below w.heap.size w ((((V.setCell ⟨w.heap.size, 0, none⟩ (.int .i64 1)).setCell ⟨w.heap.size, 1, none⟩ (.string (s.extract a e))).setCell ⟨w.heap.size, 2, none⟩ (.int .i64 (ln : Int))).setCell ⟨w.heap.size, 3, none⟩ (.int .i64 (a : Int))) := below_store HBV.out (Nat.le_refl w.heap.size) (1) ((s.extract a e)) ((ln : Int)) ((a : Int))
            have d0 := hT9.c0
            have d1 := hT9.c1
            have d2 := hT9.c2
            have d3 := hT9.c3
            generalize ((((V.setCell ⟨w.heap.size, 0, none⟩ (.int .i64 1)).setCell ⟨w.heap.size, 1, none⟩ (.string (s.extract a e))).setCell ⟨w.heap.size, 2, none⟩ (.int .i64 (ln : Int))).setCell ⟨w.heap.size, 3, none⟩ (.int .i64 (a : Int))) = W9 at *
            refine bodyPost_ret (v := .tuple #[.agg #[.int .i64 1, .string (s.extract a e), .int .i64 (ln : Int), .int .i64 (a : Int)], .int .i64 (e : Int), .int .i64 0]) ?_ rfl ⟨(by rw [HF.out]), hB9⟩
            simp [results, Tryz.results11, go_sem, d0, d1, d2, d3]
      · have h1' : ¬ (e : Int) < (s.size : Int) := by omega
        clear hgo
        cases hkey : key ((s.data.toList.drop a).take C) with
        | true =>
          have K1 : Hid (∀ w, Calls Tryz.prog 26 #[.string (s.extract a e)] w fun e w' => e = .returned (.bool true) ∧ w = w') := Lib.hid fun w => by have := rkeyword_any (s.extract a e) w; rw [hex, hkey] at this; exact this
          have hk40 : C ≤ 40 := by
            have := of_decide_eq_true (List.all_eq_true.1 keys_allz _ (key_memz hkey))
            rw [List.length_take, List.length_drop, hll] at this; omega
          have HF : Hid (v = .tuple #[.agg #[.int .i64 2, .string (s.extract a e), .int .i64 (ln : Int), .int .i64 (a : Int)], .int .i64 (e : Int), .int .i64 0]) := Lib.hid (by
            rw [← HVV.out]; unfold namR; rw [hC, if_neg (by omega), if_pos hkey]
            exact rtk_ok rfl rfl hbx hae)
          clear hkey HVV HC hex hbx
          go_wp2_with (first | (go_at_call 26; (with_reducible refine (K1.out _).mono ?_); rintro e w1 ⟨rfl, rfl⟩))
          (try simp only [Exit.inBlock, Exit.then])
          have hT9 : Tk w.heap.size (2) ((s.extract a e)) ((ln : Int)) ((a : Int)) ((((V.setCell ⟨w.heap.size, 0, none⟩ (.int .i64 2)).setCell ⟨w.heap.size, 1, none⟩ (.string (s.extract a e))).setCell ⟨w.heap.size, 2, none⟩ (.int .i64 (ln : Int))).setCell ⟨w.heap.size, 3, none⟩ (.int .i64 (a : Int))) := tk_store HTV.out (2) ((s.extract a e)) ((ln : Int)) ((a : Int))
          have hB9 : Below w.heap.size w ((((V.setCell ⟨w.heap.size, 0, none⟩ (.int .i64 2)).setCell ⟨w.heap.size, 1, none⟩ (.string (s.extract a e))).setCell ⟨w.heap.size, 2, none⟩ (.int .i64 (ln : Int))).setCell ⟨w.heap.size, 3, none⟩ (.int .i64 (a : Int))) := below_store HBV.out (Nat.le_refl w.heap.size) (2) ((s.extract a e)) ((ln : Int)) ((a : Int))
          have d0 := hT9.c0
          have d1 := hT9.c1
          have d2 := hT9.c2
          have d3 := hT9.c3
          generalize ((((V.setCell ⟨w.heap.size, 0, none⟩ (.int .i64 2)).setCell ⟨w.heap.size, 1, none⟩ (.string (s.extract a e))).setCell ⟨w.heap.size, 2, none⟩ (.int .i64 (ln : Int))).setCell ⟨w.heap.size, 3, none⟩ (.int .i64 (a : Int))) = W9 at *
          refine bodyPost_ret (v := .tuple #[.agg #[.int .i64 2, .string (s.extract a e), .int .i64 (ln : Int), .int .i64 (a : Int)], .int .i64 (e : Int), .int .i64 0]) ?_ rfl ⟨(by rw [HF.out]), hB9⟩
          simp [results, Tryz.results11, go_sem, d0, d1, d2, d3]
        | false =>
          have K1 : Hid (∀ w, Calls Tryz.prog 26 #[.string (s.extract a e)] w fun e w' => e = .returned (.bool false) ∧ w = w') := Lib.hid fun w => by have := rkeyword_any (s.extract a e) w; rw [hex, hkey] at this; exact this
          by_cases h40 : 40 < C
          · have g40 : 40 < (C : Int) := by omega
            have HF : Hid (v = .tuple #[.agg #[.int .i64 0, .string ⟨#[]⟩, .int .i64 0, .int .i64 0], .int .i64 0, .int .i64 3]) := Lib.hid (by
              rw [← HVV.out]; unfold namR; rw [hC, if_pos h40]; exact rtk_err rfl ne30z)
            clear hkey HVV HC hex hbx
            go_wp2_with (first | (go_at_call 26; (with_reducible refine (K1.out _).mono ?_); rintro e w1 ⟨rfl, rfl⟩))
            (try simp only [Exit.inBlock, Exit.then])
            have hT9 : Tk w.heap.size (0) (⟨#[]⟩) (0) (0) ((((V.setCell ⟨w.heap.size, 0, none⟩ (.int .i64 0)).setCell ⟨w.heap.size, 1, none⟩ (.string ⟨#[]⟩)).setCell ⟨w.heap.size, 2, none⟩ (.int .i64 0)).setCell ⟨w.heap.size, 3, none⟩ (.int .i64 0)) := tk_store HTV.out (0) (⟨#[]⟩) (0) (0)
            have hB9 : Below w.heap.size w ((((V.setCell ⟨w.heap.size, 0, none⟩ (.int .i64 0)).setCell ⟨w.heap.size, 1, none⟩ (.string ⟨#[]⟩)).setCell ⟨w.heap.size, 2, none⟩ (.int .i64 0)).setCell ⟨w.heap.size, 3, none⟩ (.int .i64 0)) := below_store HBV.out (Nat.le_refl w.heap.size) (0) (⟨#[]⟩) (0) (0)
            have d0 := hT9.c0
            have d1 := hT9.c1
            have d2 := hT9.c2
            have d3 := hT9.c3
            generalize ((((V.setCell ⟨w.heap.size, 0, none⟩ (.int .i64 0)).setCell ⟨w.heap.size, 1, none⟩ (.string ⟨#[]⟩)).setCell ⟨w.heap.size, 2, none⟩ (.int .i64 0)).setCell ⟨w.heap.size, 3, none⟩ (.int .i64 0)) = W9 at *
            refine bodyPost_ret (v := .tuple #[.agg #[.int .i64 0, .string ⟨#[]⟩, .int .i64 0, .int .i64 0], .int .i64 0, .int .i64 3]) ?_ rfl ⟨(by rw [HF.out]), hB9⟩
            simp [results, Tryz.results11, go_sem, d0, d1, d2, d3]
          · have g40 : ¬ 40 < (C : Int) := by omega
            have HF : Hid (v = .tuple #[.agg #[.int .i64 1, .string (s.extract a e), .int .i64 (ln : Int), .int .i64 (a : Int)], .int .i64 (e : Int), .int .i64 0]) := Lib.hid (by
              rw [← HVV.out]; unfold namR; rw [hC, if_neg h40, if_neg (by simp [hkey])]
              exact rtk_ok rfl rfl hbx hae)
            clear hkey HVV HC hex hbx
            go_wp2_with (first | (go_at_call 26; (with_reducible refine (K1.out _).mono ?_); rintro e w1 ⟨rfl, rfl⟩))
            (try simp only [Exit.inBlock, Exit.then])
            have hT9 : Tk w.heap.size (1) ((s.extract a e)) ((ln : Int)) ((a : Int)) ((((V.setCell ⟨w.heap.size, 0, none⟩ (.int .i64 1)).setCell ⟨w.heap.size, 1, none⟩ (.string (s.extract a e))).setCell ⟨w.heap.size, 2, none⟩ (.int .i64 (ln : Int))).setCell ⟨w.heap.size, 3, none⟩ (.int .i64 (a : Int))) := tk_store HTV.out (1) ((s.extract a e)) ((ln : Int)) ((a : Int))
            have hB9 : Below w.heap.size w ((((V.setCell ⟨w.heap.size, 0, none⟩ (.int .i64 1)).setCell ⟨w.heap.size, 1, none⟩ (.string (s.extract a e))).setCell ⟨w.heap.size, 2, none⟩ (.int .i64 (ln : Int))).setCell ⟨w.heap.size, 3, none⟩ (.int .i64 (a : Int))) := below_store HBV.out (Nat.le_refl w.heap.size) (1) ((s.extract a e)) ((ln : Int)) ((a : Int))
            have d0 := hT9.c0
            have d1 := hT9.c1
            have d2 := hT9.c2
            have d3 := hT9.c3
            generalize ((((V.setCell ⟨w.heap.size, 0, none⟩ (.int .i64 1)).setCell ⟨w.heap.size, 1, none⟩ (.string (s.extract a e))).setCell ⟨w.heap.size, 2, none⟩ (.int .i64 (ln : Int))).setCell ⟨w.heap.size, 3, none⟩ (.int .i64 (a : Int))) = W9 at *
            refine bodyPost_ret (v := .tuple #[.agg #[.int .i64 1, .string (s.extract a e), .int .i64 (ln : Int), .int .i64 (a : Int)], .int .i64 (e : Int), .int .i64 0]) ?_ rfl ⟨(by rw [HF.out]), hB9⟩
            simp [results, Tryz.results11, go_sem, d0, d1, d2, d3]

set_option maxHeartbeats 8000000 in
set_option maxRecDepth 100000 in
theorem rtok_num (s : ByteArray) (a ln : Nat) (w : World) (hs : s.size ≤ 70000) (ha : a < s.size) (r : R4) (L1 : Hid (∀ w, Calls Tryz.prog 24 #[.int .u8 (s[a].toNat : Int)] w fun e w' => e = .returned (.bool false) ∧ w = w')) (D1 : Hid (∀ w, Calls Tryz.prog 27 #[.int .u8 (s[a].toNat : Int)] w fun e w' => e = .returned (.bool true) ∧ w = w')) (hr : scanR s.data.toList (a : Int) = r)
    (F1 : Hid (∀ w, Calls Tryz.prog 28 #[.string s, .int .i64 (a : Int)] w fun e w' => e = .returned (.tuple #[.agg #[.int .i64 r.P, .int .i64 r.Q], .int .i64 r.N, .int .i64 r.E]) ∧ Below w.heap.size w w')) :
    RtokSaid s a ln w (rtk (nuR s.data.toList a) ln a) := by
  have hll : s.data.toList.length = s.size := by simp
  unfold RtokSaid
  by_cases hE : r.E = 0
  · have hbd := scan_bd (l := s.data.toList) (a := a) (by rw [hr]; exact hE)
    rw [hr, hll] at hbd
    obtain ⟨n, hn⟩ : ∃ n : Nat, r.N = (n : Int) := ⟨r.N.toNat, by omega⟩
    have hnN : r.N.toNat = n := by omega
    have hnu : nuR s.data.toList a = if 0 < cntP wrd (s.data.toList.drop n) then ⟨3, [], 4, n + cntP wrd (s.data.toList.drop n)⟩ else ⟨3, (s.data.toList.drop a).take (n - a), 0, n⟩ := by
      unfold nuR numL
      rw [hr, if_neg (by rw [hE]; simp), hnN]
      split <;> rfl
    rw [hn, hE] at F1
    rw [hn] at hbd
    obtain ⟨P, Q, N, E⟩ := r
    simp only [] at F1 hE hn hnN
    have n1 : 0 ≤ (n : Int) := by omega
    have n2 : (a : Int) ≤ (n : Int) := hbd.1
    have n3 : (n : Int) ≤ (s.size : Int) := hbd.2
    by_cases hnl : n < s.size
    · have hnl' : (n : Int) < (s.size : Int) := by omega
      have hdr : s.data.toList.drop n = s[n] :: s.data.toList.drop (n + 1) := by rw [List.drop_eq_getElem_cons (by omega)]; rfl
      cases hw : wrd s[n] with
      | true =>
        rw [hnu, if_pos (by rw [hdr, cntP_yes hw]; omega), rtk_err rfl ne40z]
        have W1 : Hid (∀ w, Calls Tryz.prog 25 #[.int .u8 (s[n].toNat : Int)] w fun e w' => e = .returned (.bool true) ∧ w = w') := Lib.hid fun w => by have := rword_any s[n] w; rw [hw] at this; exact this
        clear hnu hr hE hn hnN hdr hw
        have ha' : (a : Int) < (s.size : Int) := by omega
        have ha0 : 0 ≤ (a : Int) := by omega
        go_enter Tryz.func11, Tryz.ntmps11
        go_upto_region 1 with fail
        go_name_world V hV
        have HTV : Hid (Tk w.heap.size 0 ⟨#[]⟩ 0 0 V) := Lib.hid (by rw [← hV]; exact heap_alloc_new w _)
        have HBV : Hid (Below w.heap.size w V) := Lib.hid (by rw [← hV]; exact (Below.refl _ _).alloc (Nat.le_refl _) _)
        have hzV : V.heap.size = w.heap.size + 1 := by rw [← hV]; simp
        clear hV
        have k0 := HTV.out.c0
        have k1 := HTV.out.c1
        have k2 := HTV.out.c2
        have k3 := HTV.out.c3
        have z0 := HTV.out.fz 0
        have z1 := HTV.out.fz 1
        have z2 := HTV.out.fz 2
        have z3 := HTV.out.fz 3
        go_upto_region 12 with (first | (go_at_call 24; (with_reducible refine (L1.out _).mono ?_); rintro e w1 ⟨rfl, rfl⟩) | (go_at_call 27; (with_reducible refine (D1.out _).mono ?_); rintro e w1 ⟨rfl, rfl⟩) | (go_at_call 28; (with_reducible refine (F1.out _).mono ?_); rintro e w5 ⟨rfl, hb5⟩))
        go_name_world V2 hV2
        have HT5 : Hid (Tk w.heap.size 0 ⟨#[]⟩ 0 0 V2) := Lib.hid (by rw [← hV2]; exact (HTV.out.kept (grow_below hb5 none) (by simp)).kept (grow_below ((Below.refl _ _).alloc (Nat.le_refl _) _) none) (by simp))
        have HB5 : Hid (Below w.heap.size w V2) := Lib.hid (by rw [← hV2]; exact (HBV.out.trans (hb5.mono (by omega))).alloc (by have := hb5.size; omega) _)
        clear k0 k1 k2 k3 z0 z1 z2 z3 hb5 hV2
        have k0 := HT5.out.c0
        have k1 := HT5.out.c1
        have k2 := HT5.out.c2
        have k3 := HT5.out.c3
        have z0 := HT5.out.fz 0
        have z1 := HT5.out.fz 1
        have z2 := HT5.out.fz 2
        have z3 := HT5.out.fz 3
        go_wp2_with (go_at_call 25; (with_reducible refine (W1.out _).mono ?_); rintro e w1 ⟨rfl, rfl⟩)
        (try simp only [Exit.inBlock, Exit.then])
        have hT9 : Tk w.heap.size (0) (⟨#[]⟩) (0) (0) ((((V2.setCell ⟨w.heap.size, 0, none⟩ (.int .i64 0)).setCell ⟨w.heap.size, 1, none⟩ (.string ⟨#[]⟩)).setCell ⟨w.heap.size, 2, none⟩ (.int .i64 0)).setCell ⟨w.heap.size, 3, none⟩ (.int .i64 0)) := tk_store HT5.out (0) (⟨#[]⟩) (0) (0)
        have hB9 : Below w.heap.size w ((((V2.setCell ⟨w.heap.size, 0, none⟩ (.int .i64 0)).setCell ⟨w.heap.size, 1, none⟩ (.string ⟨#[]⟩)).setCell ⟨w.heap.size, 2, none⟩ (.int .i64 0)).setCell ⟨w.heap.size, 3, none⟩ (.int .i64 0)) := below_store HB5.out (Nat.le_refl w.heap.size) (0) (⟨#[]⟩) (0) (0)
        have d0 := hT9.c0
        have d1 := hT9.c1
        have d2 := hT9.c2
        have d3 := hT9.c3
        generalize ((((V2.setCell ⟨w.heap.size, 0, none⟩ (.int .i64 0)).setCell ⟨w.heap.size, 1, none⟩ (.string ⟨#[]⟩)).setCell ⟨w.heap.size, 2, none⟩ (.int .i64 0)).setCell ⟨w.heap.size, 3, none⟩ (.int .i64 0)) = W9 at *
        refine bodyPost_ret (v := .tuple #[.agg #[.int .i64 0, .string ⟨#[]⟩, .int .i64 0, .int .i64 0], .int .i64 0, .int .i64 4]) ?_ rfl ⟨rfl, hB9⟩
        simp [results, Tryz.results11, go_sem, d0, d1, d2, d3]
      | false =>
        rw [hnu, if_neg (by rw [hdr, cntP_no hw]; omega), rtk_ok (x := s.extract a n) rfl rfl (by rw [ext_bs]) rfl]
        have W1 : Hid (∀ w, Calls Tryz.prog 25 #[.int .u8 (s[n].toNat : Int)] w fun e w' => e = .returned (.bool false) ∧ w = w') := Lib.hid fun w => by have := rword_any s[n] w; rw [hw] at this; exact this
        clear hnu hr hE hn hnN hdr hw
        have ha' : (a : Int) < (s.size : Int) := by omega
        have ha0 : 0 ≤ (a : Int) := by omega
        go_enter Tryz.func11, Tryz.ntmps11
        go_upto_region 1 with fail
        go_name_world V hV
        have HTV : Hid (Tk w.heap.size 0 ⟨#[]⟩ 0 0 V) := Lib.hid (by rw [← hV]; exact heap_alloc_new w _)
        have HBV : Hid (Below w.heap.size w V) := Lib.hid (by rw [← hV]; exact (Below.refl _ _).alloc (Nat.le_refl _) _)
        have hzV : V.heap.size = w.heap.size + 1 := by rw [← hV]; simp
        clear hV
        have k0 := HTV.out.c0
        have k1 := HTV.out.c1
        have k2 := HTV.out.c2
        have k3 := HTV.out.c3
        have z0 := HTV.out.fz 0
        have z1 := HTV.out.fz 1
        have z2 := HTV.out.fz 2
        have z3 := HTV.out.fz 3
        go_upto_region 12 with (first | (go_at_call 24; (with_reducible refine (L1.out _).mono ?_); rintro e w1 ⟨rfl, rfl⟩) | (go_at_call 27; (with_reducible refine (D1.out _).mono ?_); rintro e w1 ⟨rfl, rfl⟩) | (go_at_call 28; (with_reducible refine (F1.out _).mono ?_); rintro e w5 ⟨rfl, hb5⟩))
        go_name_world V2 hV2
        have HT5 : Hid (Tk w.heap.size 0 ⟨#[]⟩ 0 0 V2) := Lib.hid (by rw [← hV2]; exact (HTV.out.kept (grow_below hb5 none) (by simp)).kept (grow_below ((Below.refl _ _).alloc (Nat.le_refl _) _) none) (by simp))
        have HB5 : Hid (Below w.heap.size w V2) := Lib.hid (by rw [← hV2]; exact (HBV.out.trans (hb5.mono (by omega))).alloc (by have := hb5.size; omega) _)
        clear k0 k1 k2 k3 z0 z1 z2 z3 hb5 hV2
        have k0 := HT5.out.c0
        have k1 := HT5.out.c1
        have k2 := HT5.out.c2
        have k3 := HT5.out.c3
        have z0 := HT5.out.fz 0
        have z1 := HT5.out.fz 1
        have z2 := HT5.out.fz 2
        have z3 := HT5.out.fz 3
        go_wp2_with (go_at_call 25; (with_reducible refine (W1.out _).mono ?_); rintro e w1 ⟨rfl, rfl⟩)
        (try simp only [Exit.inBlock, Exit.then])
        have hT9 : Tk w.heap.size (3) ((s.extract a n)) ((ln : Int)) ((a : Int)) ((((V2.setCell ⟨w.heap.size, 0, none⟩ (.int .i64 3)).setCell ⟨w.heap.size, 1, none⟩ (.string (s.extract a n))).setCell ⟨w.heap.size, 2, none⟩ (.int .i64 (ln : Int))).setCell ⟨w.heap.size, 3, none⟩ (.int .i64 (a : Int))) := tk_store HT5.out (3) ((s.extract a n)) ((ln : Int)) ((a : Int))
        have hB9 : Below w.heap.size w ((((V2.setCell ⟨w.heap.size, 0, none⟩ (.int .i64 3)).setCell ⟨w.heap.size, 1, none⟩ (.string (s.extract a n))).setCell ⟨w.heap.size, 2, none⟩ (.int .i64 (ln : Int))).setCell ⟨w.heap.size, 3, none⟩ (.int .i64 (a : Int))) := below_store HB5.out (Nat.le_refl w.heap.size) (3) ((s.extract a n)) ((ln : Int)) ((a : Int))
        have d0 := hT9.c0
        have d1 := hT9.c1
        have d2 := hT9.c2
        have d3 := hT9.c3
        generalize ((((V2.setCell ⟨w.heap.size, 0, none⟩ (.int .i64 3)).setCell ⟨w.heap.size, 1, none⟩ (.string (s.extract a n))).setCell ⟨w.heap.size, 2, none⟩ (.int .i64 (ln : Int))).setCell ⟨w.heap.size, 3, none⟩ (.int .i64 (a : Int))) = W9 at *
        refine bodyPost_ret (v := .tuple #[.agg #[.int .i64 3, .string (s.extract a n), .int .i64 (ln : Int), .int .i64 (a : Int)], .int .i64 (n : Int), .int .i64 0]) ?_ rfl ⟨rfl, hB9⟩
        simp [results, Tryz.results11, go_sem, d0, d1, d2, d3]
    · have hnl' : ¬ (n : Int) < (s.size : Int) := by omega
      rw [hnu, if_neg (by rw [List.drop_eq_nil_of_le (by omega)]; simp [cntP]), rtk_ok (x := s.extract a n) rfl rfl (by rw [ext_bs]) rfl]
      clear hnu hr hE hn hnN
      have ha' : (a : Int) < (s.size : Int) := by omega
      have ha0 : 0 ≤ (a : Int) := by omega
      go_enter Tryz.func11, Tryz.ntmps11
      go_upto_region 1 with fail
      go_name_world V hV
      have HTV : Hid (Tk w.heap.size 0 ⟨#[]⟩ 0 0 V) := Lib.hid (by rw [← hV]; exact heap_alloc_new w _)
      have HBV : Hid (Below w.heap.size w V) := Lib.hid (by rw [← hV]; exact (Below.refl _ _).alloc (Nat.le_refl _) _)
      have hzV : V.heap.size = w.heap.size + 1 := by rw [← hV]; simp
      clear hV
      have k0 := HTV.out.c0
      have k1 := HTV.out.c1
      have k2 := HTV.out.c2
      have k3 := HTV.out.c3
      have z0 := HTV.out.fz 0
      have z1 := HTV.out.fz 1
      have z2 := HTV.out.fz 2
      have z3 := HTV.out.fz 3
      go_upto_region 12 with (first | (go_at_call 24; (with_reducible refine (L1.out _).mono ?_); rintro e w1 ⟨rfl, rfl⟩) | (go_at_call 27; (with_reducible refine (D1.out _).mono ?_); rintro e w1 ⟨rfl, rfl⟩) | (go_at_call 28; (with_reducible refine (F1.out _).mono ?_); rintro e w5 ⟨rfl, hb5⟩))
      go_name_world V2 hV2
      have HT5 : Hid (Tk w.heap.size 0 ⟨#[]⟩ 0 0 V2) := Lib.hid (by rw [← hV2]; exact (HTV.out.kept (grow_below hb5 none) (by simp)).kept (grow_below ((Below.refl _ _).alloc (Nat.le_refl _) _) none) (by simp))
      have HB5 : Hid (Below w.heap.size w V2) := Lib.hid (by rw [← hV2]; exact (HBV.out.trans (hb5.mono (by omega))).alloc (by have := hb5.size; omega) _)
      clear k0 k1 k2 k3 z0 z1 z2 z3 hb5 hV2
      have k0 := HT5.out.c0
      have k1 := HT5.out.c1
      have k2 := HT5.out.c2
      have k3 := HT5.out.c3
      have z0 := HT5.out.fz 0
      have z1 := HT5.out.fz 1
      have z2 := HT5.out.fz 2
      have z3 := HT5.out.fz 3
      go_wp2
      (try simp only [Exit.inBlock, Exit.then])
      have hT9 : Tk w.heap.size (3) ((s.extract a n)) ((ln : Int)) ((a : Int)) ((((V2.setCell ⟨w.heap.size, 0, none⟩ (.int .i64 3)).setCell ⟨w.heap.size, 1, none⟩ (.string (s.extract a n))).setCell ⟨w.heap.size, 2, none⟩ (.int .i64 (ln : Int))).setCell ⟨w.heap.size, 3, none⟩ (.int .i64 (a : Int))) := tk_store HT5.out (3) ((s.extract a n)) ((ln : Int)) ((a : Int))
      have hB9 : Below w.heap.size w ((((V2.setCell ⟨w.heap.size, 0, none⟩ (.int .i64 3)).setCell ⟨w.heap.size, 1, none⟩ (.string (s.extract a n))).setCell ⟨w.heap.size, 2, none⟩ (.int .i64 (ln : Int))).setCell ⟨w.heap.size, 3, none⟩ (.int .i64 (a : Int))) := below_store HB5.out (Nat.le_refl w.heap.size) (3) ((s.extract a n)) ((ln : Int)) ((a : Int))
      have d0 := hT9.c0
      have d1 := hT9.c1
      have d2 := hT9.c2
      have d3 := hT9.c3
      generalize ((((V2.setCell ⟨w.heap.size, 0, none⟩ (.int .i64 3)).setCell ⟨w.heap.size, 1, none⟩ (.string (s.extract a n))).setCell ⟨w.heap.size, 2, none⟩ (.int .i64 (ln : Int))).setCell ⟨w.heap.size, 3, none⟩ (.int .i64 (a : Int))) = W9 at *
      refine bodyPost_ret (v := .tuple #[.agg #[.int .i64 3, .string (s.extract a n), .int .i64 (ln : Int), .int .i64 (a : Int)], .int .i64 (n : Int), .int .i64 0]) ?_ rfl ⟨rfl, hB9⟩
      simp [results, Tryz.results11, go_sem, d0, d1, d2, d3]
  · have hE' : (r.E != 0) = true := by rw [bne_iff_ne]; exact hE
    have hnu : rtk (nuR s.data.toList a) ln a = .tuple #[.agg #[.int .i64 0, .string ⟨#[]⟩, .int .i64 0, .int .i64 0], .int .i64 0, .int .i64 r.E] := rtk_err (by unfold nuR numL; rw [hr, if_pos hE]) hE
    rw [hnu]
    clear hnu hr
    obtain ⟨P, Q, N, E⟩ := r
    simp only [] at F1 hE hE' ⊢
    have ha' : (a : Int) < (s.size : Int) := by omega
    have ha0 : 0 ≤ (a : Int) := by omega
    go_enter Tryz.func11, Tryz.ntmps11
    go_upto_region 1 with fail
    go_name_world V hV
    have HTV : Hid (Tk w.heap.size 0 ⟨#[]⟩ 0 0 V) := Lib.hid (by rw [← hV]; exact heap_alloc_new w _)
    have HBV : Hid (Below w.heap.size w V) := Lib.hid (by rw [← hV]; exact (Below.refl _ _).alloc (Nat.le_refl _) _)
    have hzV : V.heap.size = w.heap.size + 1 := by rw [← hV]; simp
    clear hV
    have k0 := HTV.out.c0
    have k1 := HTV.out.c1
    have k2 := HTV.out.c2
    have k3 := HTV.out.c3
    have z0 := HTV.out.fz 0
    have z1 := HTV.out.fz 1
    have z2 := HTV.out.fz 2
    have z3 := HTV.out.fz 3
    go_upto_region 12 with (first | (go_at_call 24; (with_reducible refine (L1.out _).mono ?_); rintro e w1 ⟨rfl, rfl⟩) | (go_at_call 27; (with_reducible refine (D1.out _).mono ?_); rintro e w1 ⟨rfl, rfl⟩) | (go_at_call 28; (with_reducible refine (F1.out _).mono ?_); rintro e w5 ⟨rfl, hb5⟩))
    go_name_world V2 hV2
    have HT5 : Hid (Tk w.heap.size 0 ⟨#[]⟩ 0 0 V2) := Lib.hid (by rw [← hV2]; exact (HTV.out.kept (grow_below hb5 none) (by simp)).kept (grow_below ((Below.refl _ _).alloc (Nat.le_refl _) _) none) (by simp))
    have HB5 : Hid (Below w.heap.size w V2) := Lib.hid (by rw [← hV2]; exact (HBV.out.trans (hb5.mono (by omega))).alloc (by have := hb5.size; omega) _)
    clear k0 k1 k2 k3 z0 z1 z2 z3 hb5 hV2
    have k0 := HT5.out.c0
    have k1 := HT5.out.c1
    have k2 := HT5.out.c2
    have k3 := HT5.out.c3
    have z0 := HT5.out.fz 0
    have z1 := HT5.out.fz 1
    have z2 := HT5.out.fz 2
    have z3 := HT5.out.fz 3
    go_wp2
    (try simp only [Exit.inBlock, Exit.then])
    have hT9 : Tk w.heap.size (0) (⟨#[]⟩) (0) (0) ((((V2.setCell ⟨w.heap.size, 0, none⟩ (.int .i64 0)).setCell ⟨w.heap.size, 1, none⟩ (.string ⟨#[]⟩)).setCell ⟨w.heap.size, 2, none⟩ (.int .i64 0)).setCell ⟨w.heap.size, 3, none⟩ (.int .i64 0)) := tk_store HT5.out (0) (⟨#[]⟩) (0) (0)
    have hB9 : Below w.heap.size w ((((V2.setCell ⟨w.heap.size, 0, none⟩ (.int .i64 0)).setCell ⟨w.heap.size, 1, none⟩ (.string ⟨#[]⟩)).setCell ⟨w.heap.size, 2, none⟩ (.int .i64 0)).setCell ⟨w.heap.size, 3, none⟩ (.int .i64 0)) := below_store HB5.out (Nat.le_refl w.heap.size) (0) (⟨#[]⟩) (0) (0)
    have d0 := hT9.c0
    have d1 := hT9.c1
    have d2 := hT9.c2
    have d3 := hT9.c3
    generalize ((((V2.setCell ⟨w.heap.size, 0, none⟩ (.int .i64 0)).setCell ⟨w.heap.size, 1, none⟩ (.string ⟨#[]⟩)).setCell ⟨w.heap.size, 2, none⟩ (.int .i64 0)).setCell ⟨w.heap.size, 3, none⟩ (.int .i64 0)) = W9 at *
    refine bodyPost_ret (v := .tuple #[.agg #[.int .i64 0, .string ⟨#[]⟩, .int .i64 0, .int .i64 0], .int .i64 0, .int .i64 E]) ?_ rfl ⟨rfl, hB9⟩
    simp [results, Tryz.results11, go_sem, d0, d1, d2, d3]

theorem rtoken_any (s : ByteArray) (a ln : Nat) (w : World) (hs : s.size ≤ 70000) (ha : a < s.size) : RtokSaid s a ln w (rtk (tkR s.data.toList a) ln a) := by
  have hll : s.data.toList.length = s.size := by simp
  have hgd : s.data.toList.getD a 0 = s[a] := by rw [List.getD_eq_getElem?_getD, List.getElem?_eq_getElem (by omega)]; rfl
  have hl := fun w => rletter_any s[a] w
  have hd := fun w => rdigit3_any s[a] w
  unfold tkR
  rw [hgd]
  by_cases hq : s[a] = 34 ∨ s[a] = 39
  · rw [if_pos hq]
    rw [show ltr s[a] = false by rcases hq with h | h <;> (rw [h]; decide)] at hl
    rw [show dgt s[a] = false by rcases hq with h | h <;> (rw [h]; decide)] at hd
    refine rtok_str s a ln w hs ha (litR s.data.toList a s[a]) (Lib.hid hl) (Lib.hid hd) ?_ (Lib.hid fun w => rliteral_any s a w hs ha s[a] rfl (by rcases hq with h | h <;> (rw [h]; decide)))
    rcases hq with h | h
    · exact .inr ⟨by rw [h]; rfl, by rw [h]; rfl⟩
    · exact .inl (by rw [h]; rfl)
  · rw [if_neg hq]
    have hq1 : s[a] ≠ 34 := fun h => hq (.inl h)
    have hq2 : s[a] ≠ 39 := fun h => hq (.inr h)
    unfold tokP
    cases hdd : dgt s[a] with
    | true =>
      rw [if_pos rfl]
      rw [hdd] at hd
      rw [show ltr s[a] = false by
        have := of_decide_eq_true hdd; exact decide_eq_false (by omega)] at hl
      exact rtok_num s a ln w hs ha _ (Lib.hid hl) (Lib.hid hd) rfl (Lib.hid fun w => rscan_any s (a : Int) w (by omega))
    | false =>
      rw [if_neg (by simp)]
      rw [hdd] at hd
      have hww : wrd s[a] = ltr s[a] := by rw [wrd_eq, hdd, Bool.or_false]
      rw [hww]
      cases hll2 : ltr s[a] with
      | true =>
        rw [if_pos rfl]
        rw [hll2] at hl
        exact rtok_nam s a ln w hs ha (Lib.hid hl)
      | false =>
        rw [if_neg (by simp)]
        rw [hll2] at hl
        have hsy := fun w => rsym_any (s.extract a s.size) w (by simp; omega)
        have hex : (s.extract a s.size).data.toList = s.data.toList.drop a := by rw [ext_bs, bs_list, List.take_of_length_le (by rw [List.length_drop, hll]; exact Nat.le_refl _)]
        rw [hex] at hsy
        have hnl : symN (s.data.toList.drop a) ≤ s.size - a := by
          have := symD_le (s.data.toList.drop a) (min 3 (s.data.toList.drop a).length)
          unfold symN; rw [List.length_drop, hll] at *; omega
        have hh := rtok_sym s a ln w hs ha (symN (s.data.toList.drop a)) (Lib.hid hl) (Lib.hid hd) (ne2 s[a] 39 (by decide) hq2) (ne2 s[a] 34 (by decide) hq1) (Lib.hid hsy) (by omega)
        have e : rtk (symR s.data.toList a) ln a = (if symN (s.data.toList.drop a) = 0 then .tuple #[.agg #[.int .i64 0, .string ⟨#[]⟩, .int .i64 0, .int .i64 0], .int .i64 0, .int .i64 4] else .tuple #[.agg #[.int .i64 5, .string (s.extract a (a + symN (s.data.toList.drop a))), .int .i64 (ln : Int), .int .i64 (a : Int)], .int .i64 ((a + symN (s.data.toList.drop a) : Nat) : Int), .int .i64 0]) := by
          by_cases h0 : symN (s.data.toList.drop a) = 0
          · rw [if_pos h0]; exact rtk_err (by unfold symR symE; rw [if_pos h0]) ne40z
          · rw [if_neg h0]; exact rtk_ok (by unfold symR symE; rw [if_neg h0]) rfl (by unfold symR; rw [ext_bs, Nat.add_sub_cancel_left]) rfl
        rw [e]; exact hh
end Go.Proofs.YtbcbddglgfakpaaGreatDoor
