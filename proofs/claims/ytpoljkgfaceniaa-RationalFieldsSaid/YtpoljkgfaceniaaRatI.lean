/- Contracts of layer 1: bits. -/
import Derived.Test.YtpoljkgfaceniaaRatH
import Derived.Test.YtpoljkgfaceniaaBitMath
namespace Go.Proofs.Ytpoljkgfaceniaa
open Go.RowKit M1

def opOk (op : Int) : Bool := decide (op = 9 ∨ op = 10 ∨ op = 11 ∨ op = 12 ∨ op = 13 ∨ op = 23)
def bitsR (op p q p' q' : Int) : R3 :=
  if opOk op = false ∨ vld p q = false ∨ (op ≠ 23 ∧ vld p' q' = false) then err 2
  else if q ≠ 1 ∨ (op ≠ 23 ∧ q' ≠ 1) then err 8 else intR (s32 (bw op p p'))

theorem shift_any (x n : Int) (w : World) (_h1 : 0 ≤ x) (h3 : -2147483647 ≤ n) (h4 : n ≤ 2147483647) :
    Calls Try.prog 66 #[.int .u32 x, .int .i64 n] w fun e w' => e = .returned (.int .u32 (shf x n)) ∧ w = w' := by
  by_cases hn : n < 0
  · have e := Lib.hid (show shf x n = x / 2 ^ min (-n).toNat 32 from if_pos hn)
    have hn2 : n ≤ 0 := by omega
    go_enter Try.func66, Try.ntmps66
    go_wp2
    go_ret
    exact ⟨ret_int (e.out.symm), rfl⟩
  · have e := Lib.hid (show shf x n = x * 2 ^ min n.toNat 32 % 4294967296 from if_neg hn)
    go_enter Try.func66, Try.ntmps66
    go_wp2
    go_ret
    exact ⟨ret_int (e.out.symm), rfl⟩

theorem rshift_any (x n : Int) (w : World) (h1 : 0 ≤ x) (h2 : x < 4294967296) (h3 : -2147483647 ≤ n) (h4 : n ≤ 2147483647) :
    Calls Try.prog 67 #[.int .i64 x, .int .i64 n] w fun e w' => e = .returned (.int .i64 (shf x n)) ∧ w = w' := by
  by_cases hb : 32 ≤ n ∨ n ≤ -32
  · have e := Lib.hid (shf_big x n h1 h2 hb)
    by_cases hb2 : 32 ≤ n
    · clear hb
      go_enter Try.func67, Try.ntmps67
      go_wp2
      go_ret
      exact ⟨ret_int (e.out.symm), rfl⟩
    · have hb3 : n ≤ -32 := by omega
      clear hb
      go_enter Try.func67, Try.ntmps67
      go_wp2
      go_ret
      exact ⟨ret_int (e.out.symm), rfl⟩
  · have g1 : n < 32 := by omega
    have g2 : -32 < n := by omega
    have d1 : decide (32 ≤ n) = false := by simpa using g1
    have d2 : decide (n ≤ -32) = false := by simp; omega
    clear hb
    by_cases hn : n < 0
    · have e := Lib.hid (shf_neg x n hn g2)
      have hn2 : n ≤ 0 := by omega
      go_enter Try.func67, Try.ntmps67
      go_wp2
      go_ret
      exact ⟨ret_int (e.out.symm), rfl⟩
    · have e := Lib.hid (shf_pos x n (by omega) g1)
      have hs := shl_in x n.toNat h1 h2 (by omega)
      have hw : wrap64 (x * 2 ^ n.toNat) = x * 2 ^ n.toNat := IntWalk.wrap64_in _ ⟨by omega, by omega⟩
      have hm := Lib.hid (i64_mask (x * 2 ^ n.toNat))
      clear hs
      go_enter Try.func67, Try.ntmps67
      go_wp2
      go_ret
      exact ⟨ret_int (hm.out.trans e.out.symm), rfl⟩

set_option maxHeartbeats 1000000 in
theorem combine_any (op m n : Int) (w : World) (_h1 : -2147483647 ≤ m) (_h2 : m ≤ 2147483647) (h3 : -2147483647 ≤ n) (h4 : n ≤ 2147483647) :
    Calls Try.prog 64 #[.int .i64 op, .int .i64 m, .int .i64 n] w fun e w' => e = .returned (.int .u32 (bw op m n)) ∧ w = w' := by
  have hx1 := Int.emod_nonneg m (show (4294967296 : Int) ≠ 0 by omega)
  have hx2 := Int.emod_lt_of_pos m (show (0 : Int) < 4294967296 by omega)
  have hy1 := Int.emod_nonneg n (show (4294967296 : Int) ≠ 0 by omega)
  have hy2 := Int.emod_lt_of_pos n (show (0 : Int) < 4294967296 by omega)
  by_cases o9 : op = 9
  · subst o9
    have e := Lib.hid (u32_and _ _ hx1 hx2 hy1 hy2)
    go_enter Try.func64, Try.ntmps64
    go_wp2
    go_ret
    exact ⟨ret_int (e.out), rfl⟩
  · have n9 : (op == 9) = false := by simpa using o9
    by_cases o10 : op = 10
    · subst o10
      have e := Lib.hid (u32_or _ _ hx1 hx2 hy1 hy2)
      go_enter Try.func64, Try.ntmps64
      go_wp2
      go_ret
      exact ⟨ret_int (e.out), rfl⟩
    · have n10 : (op == 10) = false := by simpa using o10
      by_cases o11 : op = 11
      · subst o11
        have e := Lib.hid (u32_xor _ _ hx1 hx2 hy1 hy2)
        go_enter Try.func64, Try.ntmps64
        go_wp2
        go_ret
        exact ⟨ret_int (e.out), rfl⟩
      · have n11 : (op == 11) = false := by simpa using o11
        by_cases o12 : op = 12
        · subst o12
          go_enter Try.func64, Try.ntmps64
          go_wp2_with (go_at_call 66; refine (shift_any _ _ _ (by omega) (by omega) (by omega)).mono ?_; rintro e w1 ⟨rfl, rfl⟩)
          go_ret
          exact ⟨ret_int (rfl), rfl⟩
        · have n12 : (op == 12) = false := by simpa using o12
          by_cases o13 : op = 13
          · subst o13
            go_enter Try.func64, Try.ntmps64
            go_wp2_with (go_at_call 66; refine (shift_any _ _ _ (by omega) (by omega) (by omega)).mono ?_; rintro e w1 ⟨rfl, rfl⟩)
            go_ret
            exact ⟨ret_int (rfl), rfl⟩
          · have n13 : (op == 13) = false := by simpa using o13
            have e := Lib.hid (show bits BinOp.xor IntKind.u32 IntKind.u32.max (m % 4294967296) = (((m % 4294967296).toNat ^^^ 4294967295 : Nat) : Int) by
              rw [show IntKind.u32.max = 4294967295 by decide, u32_xor _ _ (by omega) (by omega) hx1 hx2, Nat.xor_comm]; rfl)
            have hbw := Lib.hid (show bw op m n = (((m % 4294967296).toNat ^^^ 4294967295 : Nat) : Int) by unfold bw; rw [if_neg o9, if_neg o10, if_neg o11, if_neg o12, if_neg o13])
            clear o9 o10 o11 o12 o13
            go_enter Try.func64, Try.ntmps64
            go_wp2
            go_ret
            exact ⟨ret_int (e.out.trans hbw.out.symm), rfl⟩

set_option maxHeartbeats 1000000 in
theorem rbits_any (op m n : Int) (w : World) (h3 : -2147483647 ≤ n) (h4 : n ≤ 2147483647) :
    Calls Try.prog 65 #[.int .i64 op, .int .i64 (m % 4294967296), .int .i64 (n % 4294967296), .int .i64 n] w fun e w' => e = .returned (.int .i64 (bw op m n)) ∧ w = w' := by
  have hx1 := Int.emod_nonneg m (show (4294967296 : Int) ≠ 0 by omega)
  have hx2 := Int.emod_lt_of_pos m (show (0 : Int) < 4294967296 by omega)
  have hy1 := Int.emod_nonneg n (show (4294967296 : Int) ≠ 0 by omega)
  have hy2 := Int.emod_lt_of_pos n (show (0 : Int) < 4294967296 by omega)
  by_cases o9 : op = 9
  · subst o9
    have e := Lib.hid (i64_and _ _ hx1 hx2 hy1 hy2)
    go_enter Try.func65, Try.ntmps65
    go_wp2
    go_ret
    exact ⟨ret_int (e.out), rfl⟩
  · have n9 : (op == 9) = false := by simpa using o9
    by_cases o10 : op = 10
    · subst o10
      have e := Lib.hid (i64_or _ _ hx1 hx2 hy1 hy2)
      go_enter Try.func65, Try.ntmps65
      go_wp2
      go_ret
      exact ⟨ret_int (e.out), rfl⟩
    · have n10 : (op == 10) = false := by simpa using o10
      by_cases o11 : op = 11
      · subst o11
        have e := Lib.hid (i64_xor _ _ hx1 hx2 hy1 hy2)
        go_enter Try.func65, Try.ntmps65
        go_wp2
        go_ret
        exact ⟨ret_int (e.out), rfl⟩
      · have n11 : (op == 11) = false := by simpa using o11
        by_cases o12 : op = 12
        · subst o12
          go_enter Try.func65, Try.ntmps65
          go_wp2_with (go_at_call 67; refine (rshift_any _ _ _ (by omega) (by omega) (by omega) (by omega)).mono ?_; rintro e w1 ⟨rfl, rfl⟩)
          go_ret
          exact ⟨ret_int (rfl), rfl⟩
        · have n12 : (op == 12) = false := by simpa using o12
          by_cases o13 : op = 13
          · subst o13
            go_enter Try.func65, Try.ntmps65
            go_wp2_with (go_at_call 67; refine (rshift_any _ _ _ (by omega) (by omega) (by omega) (by omega)).mono ?_; rintro e w1 ⟨rfl, rfl⟩)
            go_ret
            exact ⟨ret_int (rfl), rfl⟩
          · have n13 : (op == 13) = false := by simpa using o13
            have e := Lib.hid (show bits BinOp.xor IntKind.i64 (m % 4294967296) 4294967295 = (((m % 4294967296).toNat ^^^ 4294967295 : Nat) : Int) from i64_xor _ _ hx1 hx2 (by omega) (by omega))
            have hbw := Lib.hid (show bw op m n = (((m % 4294967296).toNat ^^^ 4294967295 : Nat) : Int) by unfold bw; rw [if_neg o9, if_neg o10, if_neg o11, if_neg o12, if_neg o13])
            clear o9 o10 o11 o12 o13
            go_enter Try.func65, Try.ntmps65
            go_wp2
            go_ret
            exact ⟨ret_int (e.out.trans hbw.out.symm), rfl⟩

theorem bitwise_any (op : Int) (w : World) :
    Calls Try.prog 63 #[.int .i64 op] w fun e w' => e = .returned (.bool (opOk op)) ∧ w = w' := by
  by_cases o9 : op = 9
  · subst o9
    go_enter Try.func63, Try.ntmps63
    go_wp2
    go_ret
    exact ⟨rfl, rfl⟩
  · have n9 : (op == 9) = false := by simpa using o9
    by_cases o10 : op = 10
    · subst o10
      go_enter Try.func63, Try.ntmps63
      go_wp2
      go_ret
      exact ⟨rfl, rfl⟩
    · have n10 : (op == 10) = false := by simpa using o10
      by_cases o11 : op = 11
      · subst o11
        go_enter Try.func63, Try.ntmps63
        go_wp2
        go_ret
        exact ⟨rfl, rfl⟩
      · have n11 : (op == 11) = false := by simpa using o11
        by_cases o12 : op = 12
        · subst o12
          go_enter Try.func63, Try.ntmps63
          go_wp2
          go_ret
          exact ⟨rfl, rfl⟩
        · have n12 : (op == 12) = false := by simpa using o12
          by_cases o13 : op = 13
          · subst o13
            go_enter Try.func63, Try.ntmps63
            go_wp2
            go_ret
            exact ⟨rfl, rfl⟩
          · have n13 : (op == 13) = false := by simpa using o13
            by_cases o23 : op = 23
            · subst o23
              go_enter Try.func63, Try.ntmps63
              go_wp2
              go_ret
              exact ⟨rfl, rfl⟩
            · have n23 : (op == 23) = false := by simpa using o23
              have e := Lib.hid (show opOk op = false by unfold opOk; simp [o9, o10, o11, o12, o13, o23])
              clear o9 o10 o11 o12 o13 o23
              go_enter Try.func63, Try.ntmps63
              go_wp2
              go_ret
              exact ⟨congrArg (fun b => Ending.returned (.bool b)) e.out.symm, rfl⟩

set_option maxRecDepth 100000 in
set_option maxHeartbeats 2000000 in
theorem bits_any' (op p q p' q' : Int) (w : World) : Calls Try.prog 45 #[.int .i64 op, .agg #[.int .i64 p, .int .i64 q], .agg #[.int .i64 p', .int .i64 q']] w fun e w' => e = .returned (.tuple #[.agg #[.int .i64 (bitsR op p q p' q').P, .int .i64 (bitsR op p q p' q').Q], .int .i64 (bitsR op p q p' q').E]) ∧ Below w.heap.size w w' := by
  by_cases ho : opOk op = true
  · by_cases h1 : vld p q = true
    · have hwq : whB p q = decide (q = 1) := by unfold whB; rw [h1]; rfl
      obtain ⟨a1, a2, a3, a4, _⟩ := vld_iff.1 h1
      have hs := bw_in op p p'
      have hsw := s32_wrap (bw op p p') hs.1 hs.2
      by_cases h23 : op = 23
      · have hn : ¬ (opOk op = false ∨ vld p q = false ∨ (op ≠ 23 ∧ vld p' q' = false)) := by rw [ho, h1]; simp [h23]
        by_cases hq : q = 1
        · rw [show bitsR op p q p' q' = intR (s32 (bw op p p')) by unfold bitsR; rw [if_neg hn, if_neg (by simp [hq, h23])]]
          subst hq
          subst h23
          rw [show bw 23 p p' = bw 23 p 0 from rfl] at hs hsw ⊢
          have hwp : whP p 1 = p := by unfold whP; rw [hwq]; rfl
          clear hn
          obtain ⟨t1, t2⟩ := s32_in hs
          go_enter Try.func45, Try.ntmps45
          go_wp2_with (first | (go_at_call 63; refine (bitwise_any _ _).mono ?_; rintro e w1 ⟨rfl, rfl⟩) | (go_at_call 23; refine (valid_any _ _ _).mono ?_; rintro e w1 ⟨rfl, hb1⟩; obtain ⟨hc1, hf1⟩ := bcell hb1; have hz := hb1.size; (try simp at hz); have z0 : w.heap.size < w1.heap.size := (by omega); have z1 : w.heap.size + 1 < w1.heap.size := (by omega); have z2 : w.heap.size + 2 < w1.heap.size := (by omega); clear hz) | (go_at_call 19; refine (whole_any _ _ _).mono ?_; rintro e w1 ⟨rfl, hb1⟩; obtain ⟨hc1, hf1⟩ := bcell hb1; have hz := hb1.size; (try simp at hz); have z0 : w.heap.size < w1.heap.size := (by omega); have z1 : w.heap.size + 1 < w1.heap.size := (by omega); have z2 : w.heap.size + 2 < w1.heap.size := (by omega); clear hz) | (go_at_call 64; refine (combine_any _ _ _ _ (by omega) (by omega) (by omega) (by omega)).mono ?_; rintro e w1 ⟨rfl, rfl⟩) | (go_at_call 16; refine (int_any _ _).mono ?_; rintro e w2 ⟨rfl, hb2⟩; obtain ⟨hc2, hf2⟩ := bcell hb2; have hz := hb2.size; (try simp at hz); have z0 : w.heap.size < w2.heap.size := (by omega); have z1 : w.heap.size + 1 < w2.heap.size := (by omega); have z2 : w.heap.size + 2 < w2.heap.size := (by omega); clear hz))
          refine bodyPost_ret (v := .tuple #[.agg #[.int .i64 ((intR (s32 (bw 23 p 0))).P), .int .i64 ((intR (s32 (bw 23 p 0))).Q)], .int .i64 ((intR (s32 (bw 23 p 0))).E)]) (by simp [results, Try.results45, go_sem, *]) rfl ?_
          refine ⟨rfl, ?_⟩
          repeat (first | exact Below.refl _ _ | refine below_drewN ?_ _ | refine Below.setCell ?_ (by first | omega | (simp; done) | (simp; omega)) _ | refine Below.alloc ?_ (by first | omega | (simp; done) | (simp; omega)) _ | refine below_step (by assumption) (by first | omega | (simp; done) | (simp; omega)) ?_)
        · rw [show bitsR op p q p' q' = err 8 by unfold bitsR; rw [if_neg (hn), if_pos (.inl hq)]]
          subst h23
          have hwf : whB p q = false := by rw [hwq]; simpa using hq
          have hq1 : (q != 1) = true := by simpa using hq
          clear hn hwq
          go_enter Try.func45, Try.ntmps45
          go_wp2_with (first | (go_at_call 63; refine (bitwise_any _ _).mono ?_; rintro e w1 ⟨rfl, rfl⟩) | (go_at_call 23; refine (valid_any _ _ _).mono ?_; rintro e w1 ⟨rfl, hb1⟩; obtain ⟨hc1, hf1⟩ := bcell hb1; have hz := hb1.size; (try simp at hz); have z0 : w.heap.size < w1.heap.size := (by omega); have z1 : w.heap.size + 1 < w1.heap.size := (by omega); have z2 : w.heap.size + 2 < w1.heap.size := (by omega); clear hz) | (go_at_call 19; refine (whole_any _ _ _).mono ?_; rintro e w1 ⟨rfl, hb1⟩; obtain ⟨hc1, hf1⟩ := bcell hb1; have hz := hb1.size; (try simp at hz); have z0 : w.heap.size < w1.heap.size := (by omega); have z1 : w.heap.size + 1 < w1.heap.size := (by omega); have z2 : w.heap.size + 2 < w1.heap.size := (by omega); clear hz) | (go_at_call 64; refine (combine_any _ _ _ _ (by omega) (by omega) (by omega) (by omega)).mono ?_; rintro e w1 ⟨rfl, rfl⟩) | (go_at_call 16; refine (int_any _ _).mono ?_; rintro e w2 ⟨rfl, hb2⟩; obtain ⟨hc2, hf2⟩ := bcell hb2; have hz := hb2.size; (try simp at hz); have z0 : w.heap.size < w2.heap.size := (by omega); have z1 : w.heap.size + 1 < w2.heap.size := (by omega); have z2 : w.heap.size + 2 < w2.heap.size := (by omega); clear hz))
          refine bodyPost_ret (v := .tuple #[.agg #[.int .i64 (0), .int .i64 (0)], .int .i64 (8)]) (by simp [results, Try.results45, go_sem, *]) rfl ?_
          refine ⟨rfl, ?_⟩
          repeat (first | exact Below.refl _ _ | refine below_drewN ?_ _ | refine Below.setCell ?_ (by first | omega | (simp; done) | (simp; omega)) _ | refine Below.alloc ?_ (by first | omega | (simp; done) | (simp; omega)) _ | refine below_step (by assumption) (by first | omega | (simp; done) | (simp; omega)) ?_)
      · have h230 : (op == 23) = false := by simpa using h23
        have h231 : (op != 23) = true := by simpa using h23
        by_cases h2 : vld p' q' = true
        · have hn : ¬ (opOk op = false ∨ vld p q = false ∨ (op ≠ 23 ∧ vld p' q' = false)) := by rw [ho, h1, h2]; simp
          have hwq2 : whB p' q' = decide (q' = 1) := by unfold whB; rw [h2]; rfl
          obtain ⟨b1, b2, b3, b4, _⟩ := vld_iff.1 h2
          by_cases hq : q = 1
          · have hwp : whP p q = p := by unfold whP; rw [hwq]; simp [hq]
            by_cases hq' : q' = 1
            · rw [show bitsR op p q p' q' = intR (s32 (bw op p p')) by unfold bitsR; rw [if_neg hn, if_neg (by simp [hq, hq'])]]
              subst hq hq'
              have hwp2 : whP p' 1 = p' := by unfold whP; rw [hwq2]; rfl
              clear hn h23
              obtain ⟨t1, t2⟩ := s32_in hs
              go_enter Try.func45, Try.ntmps45
              go_wp2_with (first | (go_at_call 63; refine (bitwise_any _ _).mono ?_; rintro e w1 ⟨rfl, rfl⟩) | (go_at_call 23; refine (valid_any _ _ _).mono ?_; rintro e w1 ⟨rfl, hb1⟩; obtain ⟨hc1, hf1⟩ := bcell hb1; have hz := hb1.size; (try simp at hz); have z0 : w.heap.size < w1.heap.size := (by omega); have z1 : w.heap.size + 1 < w1.heap.size := (by omega); have z2 : w.heap.size + 2 < w1.heap.size := (by omega); clear hz) | (go_at_call 19; refine (whole_any _ _ _).mono ?_; rintro e w1 ⟨rfl, hb1⟩; obtain ⟨hc1, hf1⟩ := bcell hb1; have hz := hb1.size; (try simp at hz); have z0 : w.heap.size < w1.heap.size := (by omega); have z1 : w.heap.size + 1 < w1.heap.size := (by omega); have z2 : w.heap.size + 2 < w1.heap.size := (by omega); clear hz) | (go_at_call 64; refine (combine_any _ _ _ _ (by omega) (by omega) (by omega) (by omega)).mono ?_; rintro e w1 ⟨rfl, rfl⟩) | (go_at_call 16; refine (int_any _ _).mono ?_; rintro e w2 ⟨rfl, hb2⟩; obtain ⟨hc2, hf2⟩ := bcell hb2; have hz := hb2.size; (try simp at hz); have z0 : w.heap.size < w2.heap.size := (by omega); have z1 : w.heap.size + 1 < w2.heap.size := (by omega); have z2 : w.heap.size + 2 < w2.heap.size := (by omega); clear hz))
              refine bodyPost_ret (v := .tuple #[.agg #[.int .i64 ((intR (s32 (bw op p p'))).P), .int .i64 ((intR (s32 (bw op p p'))).Q)], .int .i64 ((intR (s32 (bw op p p'))).E)]) (by simp [results, Try.results45, go_sem, *]) rfl ?_
              refine ⟨rfl, ?_⟩
              repeat (first | exact Below.refl _ _ | refine below_drewN ?_ _ | refine Below.setCell ?_ (by first | omega | (simp; done) | (simp; omega)) _ | refine Below.alloc ?_ (by first | omega | (simp; done) | (simp; omega)) _ | refine below_step (by assumption) (by first | omega | (simp; done) | (simp; omega)) ?_)
            · rw [show bitsR op p q p' q' = err 8 by unfold bitsR; rw [if_neg (hn), if_pos (.inr ⟨h23, hq'⟩)]]
              subst hq
              have hwf : whB p' q' = false := by rw [hwq2]; simpa using hq'
              have hq1 : (q' != 1) = true := by simpa using hq'
              clear hn h23 hwq2
              go_enter Try.func45, Try.ntmps45
              go_wp2_with (first | (go_at_call 63; refine (bitwise_any _ _).mono ?_; rintro e w1 ⟨rfl, rfl⟩) | (go_at_call 23; refine (valid_any _ _ _).mono ?_; rintro e w1 ⟨rfl, hb1⟩; obtain ⟨hc1, hf1⟩ := bcell hb1; have hz := hb1.size; (try simp at hz); have z0 : w.heap.size < w1.heap.size := (by omega); have z1 : w.heap.size + 1 < w1.heap.size := (by omega); have z2 : w.heap.size + 2 < w1.heap.size := (by omega); clear hz) | (go_at_call 19; refine (whole_any _ _ _).mono ?_; rintro e w1 ⟨rfl, hb1⟩; obtain ⟨hc1, hf1⟩ := bcell hb1; have hz := hb1.size; (try simp at hz); have z0 : w.heap.size < w1.heap.size := (by omega); have z1 : w.heap.size + 1 < w1.heap.size := (by omega); have z2 : w.heap.size + 2 < w1.heap.size := (by omega); clear hz) | (go_at_call 64; refine (combine_any _ _ _ _ (by omega) (by omega) (by omega) (by omega)).mono ?_; rintro e w1 ⟨rfl, rfl⟩) | (go_at_call 16; refine (int_any _ _).mono ?_; rintro e w2 ⟨rfl, hb2⟩; obtain ⟨hc2, hf2⟩ := bcell hb2; have hz := hb2.size; (try simp at hz); have z0 : w.heap.size < w2.heap.size := (by omega); have z1 : w.heap.size + 1 < w2.heap.size := (by omega); have z2 : w.heap.size + 2 < w2.heap.size := (by omega); clear hz))
              refine bodyPost_ret (v := .tuple #[.agg #[.int .i64 (0), .int .i64 (0)], .int .i64 (8)]) (by simp [results, Try.results45, go_sem, *]) rfl ?_
              refine ⟨rfl, ?_⟩
              repeat (first | exact Below.refl _ _ | refine below_drewN ?_ _ | refine Below.setCell ?_ (by first | omega | (simp; done) | (simp; omega)) _ | refine Below.alloc ?_ (by first | omega | (simp; done) | (simp; omega)) _ | refine below_step (by assumption) (by first | omega | (simp; done) | (simp; omega)) ?_)
          · rw [show bitsR op p q p' q' = err 8 by unfold bitsR; rw [if_neg (hn), if_pos (.inl hq)]]
            have hwf : whB p q = false := by rw [hwq]; simpa using hq
            have hq1 : (q != 1) = true := by simpa using hq
            clear hn h23 hwq
            go_enter Try.func45, Try.ntmps45
            go_wp2_with (first | (go_at_call 63; refine (bitwise_any _ _).mono ?_; rintro e w1 ⟨rfl, rfl⟩) | (go_at_call 23; refine (valid_any _ _ _).mono ?_; rintro e w1 ⟨rfl, hb1⟩; obtain ⟨hc1, hf1⟩ := bcell hb1; have hz := hb1.size; (try simp at hz); have z0 : w.heap.size < w1.heap.size := (by omega); have z1 : w.heap.size + 1 < w1.heap.size := (by omega); have z2 : w.heap.size + 2 < w1.heap.size := (by omega); clear hz) | (go_at_call 19; refine (whole_any _ _ _).mono ?_; rintro e w1 ⟨rfl, hb1⟩; obtain ⟨hc1, hf1⟩ := bcell hb1; have hz := hb1.size; (try simp at hz); have z0 : w.heap.size < w1.heap.size := (by omega); have z1 : w.heap.size + 1 < w1.heap.size := (by omega); have z2 : w.heap.size + 2 < w1.heap.size := (by omega); clear hz) | (go_at_call 64; refine (combine_any _ _ _ _ (by omega) (by omega) (by omega) (by omega)).mono ?_; rintro e w1 ⟨rfl, rfl⟩) | (go_at_call 16; refine (int_any _ _).mono ?_; rintro e w2 ⟨rfl, hb2⟩; obtain ⟨hc2, hf2⟩ := bcell hb2; have hz := hb2.size; (try simp at hz); have z0 : w.heap.size < w2.heap.size := (by omega); have z1 : w.heap.size + 1 < w2.heap.size := (by omega); have z2 : w.heap.size + 2 < w2.heap.size := (by omega); clear hz))
            refine bodyPost_ret (v := .tuple #[.agg #[.int .i64 (0), .int .i64 (0)], .int .i64 (8)]) (by simp [results, Try.results45, go_sem, *]) rfl ?_
            refine ⟨rfl, ?_⟩
            repeat (first | exact Below.refl _ _ | refine below_drewN ?_ _ | refine Below.setCell ?_ (by first | omega | (simp; done) | (simp; omega)) _ | refine Below.alloc ?_ (by first | omega | (simp; done) | (simp; omega)) _ | refine below_step (by assumption) (by first | omega | (simp; done) | (simp; omega)) ?_)
        · have h3 : vld p' q' = false := by simpa using h2
          rw [show bitsR op p q p' q' = err 2 from if_pos (.inr (.inr ⟨h23, h3⟩))]
          clear h2 h23
          go_enter Try.func45, Try.ntmps45
          go_wp2_with (first | (go_at_call 63; refine (bitwise_any _ _).mono ?_; rintro e w1 ⟨rfl, rfl⟩) | (go_at_call 23; refine (valid_any _ _ _).mono ?_; rintro e w1 ⟨rfl, hb1⟩; obtain ⟨hc1, hf1⟩ := bcell hb1; have hz := hb1.size; (try simp at hz); have z0 : w.heap.size < w1.heap.size := (by omega); have z1 : w.heap.size + 1 < w1.heap.size := (by omega); have z2 : w.heap.size + 2 < w1.heap.size := (by omega); clear hz) | (go_at_call 19; refine (whole_any _ _ _).mono ?_; rintro e w1 ⟨rfl, hb1⟩; obtain ⟨hc1, hf1⟩ := bcell hb1; have hz := hb1.size; (try simp at hz); have z0 : w.heap.size < w1.heap.size := (by omega); have z1 : w.heap.size + 1 < w1.heap.size := (by omega); have z2 : w.heap.size + 2 < w1.heap.size := (by omega); clear hz) | (go_at_call 64; refine (combine_any _ _ _ _ (by omega) (by omega) (by omega) (by omega)).mono ?_; rintro e w1 ⟨rfl, rfl⟩) | (go_at_call 16; refine (int_any _ _).mono ?_; rintro e w2 ⟨rfl, hb2⟩; obtain ⟨hc2, hf2⟩ := bcell hb2; have hz := hb2.size; (try simp at hz); have z0 : w.heap.size < w2.heap.size := (by omega); have z1 : w.heap.size + 1 < w2.heap.size := (by omega); have z2 : w.heap.size + 2 < w2.heap.size := (by omega); clear hz))
          refine bodyPost_ret (v := .tuple #[.agg #[.int .i64 (0), .int .i64 (0)], .int .i64 (2)]) (by simp [results, Try.results45, go_sem, *]) rfl ?_
          refine ⟨rfl, ?_⟩
          repeat (first | exact Below.refl _ _ | refine below_drewN ?_ _ | refine Below.setCell ?_ (by first | omega | (simp; done) | (simp; omega)) _ | refine Below.alloc ?_ (by first | omega | (simp; done) | (simp; omega)) _ | refine below_step (by assumption) (by first | omega | (simp; done) | (simp; omega)) ?_)
    · have h3 : vld p q = false := by simpa using h1
      rw [show bitsR op p q p' q' = err 2 from if_pos (.inr (.inl h3))]
      clear h1
      by_cases h23 : op = 23
      · subst h23
        go_enter Try.func45, Try.ntmps45
        go_wp2_with (first | (go_at_call 63; refine (bitwise_any _ _).mono ?_; rintro e w1 ⟨rfl, rfl⟩) | (go_at_call 23; refine (valid_any _ _ _).mono ?_; rintro e w1 ⟨rfl, hb1⟩; obtain ⟨hc1, hf1⟩ := bcell hb1; have hz := hb1.size; (try simp at hz); have z0 : w.heap.size < w1.heap.size := (by omega); have z1 : w.heap.size + 1 < w1.heap.size := (by omega); have z2 : w.heap.size + 2 < w1.heap.size := (by omega); clear hz) | (go_at_call 19; refine (whole_any _ _ _).mono ?_; rintro e w1 ⟨rfl, hb1⟩; obtain ⟨hc1, hf1⟩ := bcell hb1; have hz := hb1.size; (try simp at hz); have z0 : w.heap.size < w1.heap.size := (by omega); have z1 : w.heap.size + 1 < w1.heap.size := (by omega); have z2 : w.heap.size + 2 < w1.heap.size := (by omega); clear hz) | (go_at_call 64; refine (combine_any _ _ _ _ (by omega) (by omega) (by omega) (by omega)).mono ?_; rintro e w1 ⟨rfl, rfl⟩) | (go_at_call 16; refine (int_any _ _).mono ?_; rintro e w2 ⟨rfl, hb2⟩; obtain ⟨hc2, hf2⟩ := bcell hb2; have hz := hb2.size; (try simp at hz); have z0 : w.heap.size < w2.heap.size := (by omega); have z1 : w.heap.size + 1 < w2.heap.size := (by omega); have z2 : w.heap.size + 2 < w2.heap.size := (by omega); clear hz))
        refine bodyPost_ret (v := .tuple #[.agg #[.int .i64 (0), .int .i64 (0)], .int .i64 (2)]) (by simp [results, Try.results45, go_sem, *]) rfl ?_
        refine ⟨rfl, ?_⟩
        repeat (first | exact Below.refl _ _ | refine below_drewN ?_ _ | refine Below.setCell ?_ (by first | omega | (simp; done) | (simp; omega)) _ | refine Below.alloc ?_ (by first | omega | (simp; done) | (simp; omega)) _ | refine below_step (by assumption) (by first | omega | (simp; done) | (simp; omega)) ?_)
      · have h230 : (op == 23) = false := by simpa using h23
        have h231 : (op != 23) = true := by simpa using h23
        clear h23
        go_enter Try.func45, Try.ntmps45
        go_wp2_with (first | (go_at_call 63; refine (bitwise_any _ _).mono ?_; rintro e w1 ⟨rfl, rfl⟩) | (go_at_call 23; refine (valid_any _ _ _).mono ?_; rintro e w1 ⟨rfl, hb1⟩; obtain ⟨hc1, hf1⟩ := bcell hb1; have hz := hb1.size; (try simp at hz); have z0 : w.heap.size < w1.heap.size := (by omega); have z1 : w.heap.size + 1 < w1.heap.size := (by omega); have z2 : w.heap.size + 2 < w1.heap.size := (by omega); clear hz) | (go_at_call 19; refine (whole_any _ _ _).mono ?_; rintro e w1 ⟨rfl, hb1⟩; obtain ⟨hc1, hf1⟩ := bcell hb1; have hz := hb1.size; (try simp at hz); have z0 : w.heap.size < w1.heap.size := (by omega); have z1 : w.heap.size + 1 < w1.heap.size := (by omega); have z2 : w.heap.size + 2 < w1.heap.size := (by omega); clear hz) | (go_at_call 64; refine (combine_any _ _ _ _ (by omega) (by omega) (by omega) (by omega)).mono ?_; rintro e w1 ⟨rfl, rfl⟩) | (go_at_call 16; refine (int_any _ _).mono ?_; rintro e w2 ⟨rfl, hb2⟩; obtain ⟨hc2, hf2⟩ := bcell hb2; have hz := hb2.size; (try simp at hz); have z0 : w.heap.size < w2.heap.size := (by omega); have z1 : w.heap.size + 1 < w2.heap.size := (by omega); have z2 : w.heap.size + 2 < w2.heap.size := (by omega); clear hz))
        refine bodyPost_ret (v := .tuple #[.agg #[.int .i64 (0), .int .i64 (0)], .int .i64 (2)]) (by simp [results, Try.results45, go_sem, *]) rfl ?_
        refine ⟨rfl, ?_⟩
        repeat (first | exact Below.refl _ _ | refine below_drewN ?_ _ | refine Below.setCell ?_ (by first | omega | (simp; done) | (simp; omega)) _ | refine Below.alloc ?_ (by first | omega | (simp; done) | (simp; omega)) _ | refine below_step (by assumption) (by first | omega | (simp; done) | (simp; omega)) ?_)
  · have h3 : opOk op = false := by simpa using ho
    rw [show bitsR op p q p' q' = err 2 from if_pos (.inl h3)]
    clear ho
    go_enter Try.func45, Try.ntmps45
    go_wp2_with (first | (go_at_call 63; refine (bitwise_any _ _).mono ?_; rintro e w1 ⟨rfl, rfl⟩) | (go_at_call 23; refine (valid_any _ _ _).mono ?_; rintro e w1 ⟨rfl, hb1⟩; obtain ⟨hc1, hf1⟩ := bcell hb1; have hz := hb1.size; (try simp at hz); have z0 : w.heap.size < w1.heap.size := (by omega); have z1 : w.heap.size + 1 < w1.heap.size := (by omega); have z2 : w.heap.size + 2 < w1.heap.size := (by omega); clear hz) | (go_at_call 19; refine (whole_any _ _ _).mono ?_; rintro e w1 ⟨rfl, hb1⟩; obtain ⟨hc1, hf1⟩ := bcell hb1; have hz := hb1.size; (try simp at hz); have z0 : w.heap.size < w1.heap.size := (by omega); have z1 : w.heap.size + 1 < w1.heap.size := (by omega); have z2 : w.heap.size + 2 < w1.heap.size := (by omega); clear hz) | (go_at_call 64; refine (combine_any _ _ _ _ (by omega) (by omega) (by omega) (by omega)).mono ?_; rintro e w1 ⟨rfl, rfl⟩) | (go_at_call 16; refine (int_any _ _).mono ?_; rintro e w2 ⟨rfl, hb2⟩; obtain ⟨hc2, hf2⟩ := bcell hb2; have hz := hb2.size; (try simp at hz); have z0 : w.heap.size < w2.heap.size := (by omega); have z1 : w.heap.size + 1 < w2.heap.size := (by omega); have z2 : w.heap.size + 2 < w2.heap.size := (by omega); clear hz))
    refine bodyPost_ret (v := .tuple #[.agg #[.int .i64 (0), .int .i64 (0)], .int .i64 (2)]) (by simp [results, Try.results45, go_sem, *]) rfl ?_
    refine ⟨rfl, ?_⟩
    repeat (first | exact Below.refl _ _ | refine below_drewN ?_ _ | refine Below.setCell ?_ (by first | omega | (simp; done) | (simp; omega)) _ | refine Below.alloc ?_ (by first | omega | (simp; done) | (simp; omega)) _ | refine below_step (by assumption) (by first | omega | (simp; done) | (simp; omega)) ?_)

theorem opOk_rng {op : Int} (h : opOk op = true) : (9 ≤ op ∧ op ≤ 13) ∨ op = 23 := by
  unfold opOk at h; simp at h; omega
theorem opOk_not {op : Int} (h : opOk op = false) : ¬ (9 ≤ op ∧ op ≤ 13) ∧ op ≠ 23 := by
  unfold opOk at h; simp at h; omega

set_option maxRecDepth 100000 in
set_option maxHeartbeats 2000000 in
theorem rbits_any' (op p q p' q' : Int) (w : World) : Calls Try.prog 46 #[.int .i64 op, .agg #[.int .i64 p, .int .i64 q], .agg #[.int .i64 p', .int .i64 q']] w fun e w' => e = .returned (.tuple #[.agg #[.int .i64 (bitsR op p q p' q').P, .int .i64 (bitsR op p q p' q').Q], .int .i64 (bitsR op p q p' q').E]) ∧ Below w.heap.size w w' := by
  by_cases ho : opOk op = true
  · have hrng := opOk_rng ho
    by_cases h1 : vld p q = true
    · have hwq : whB p q = decide (q = 1) := by unfold whB; rw [h1]; rfl
      obtain ⟨a1, a2, a3, a4, _⟩ := vld_iff.1 h1
      have hs := bw_in op p p'
      have hsw := s32_wrap (bw op p p') hs.1 hs.2
      by_cases h23 : op = 23
      · have hn : ¬ (opOk op = false ∨ vld p q = false ∨ (op ≠ 23 ∧ vld p' q' = false)) := by rw [ho, h1]; simp [h23]
        by_cases hq : q = 1
        · rw [show bitsR op p q p' q' = intR (s32 (bw op p p')) by unfold bitsR; rw [if_neg hn, if_neg (by simp [hq, h23])]]
          subst hq
          subst h23
          rw [show bw 23 p p' = bw 23 p 0 from rfl] at hs hsw ⊢
          have hwp : whP p 1 = p := by unfold whP; rw [hwq]; rfl
          clear hn
          obtain ⟨t1, t2⟩ := s32_in hs
          clear hrng
          have hv01 : vld 0 1 = true := by decide +kernel
          have rb := fun w => rbits_any 23 p 0 w (by omega) (by omega)
          generalize bw 23 p 0 = v at *
          have RBH := Lib.hid rb
          clear rb
          have m1 := i64_mask p
          have m2 := i64_mask 0
          by_cases hge : 2147483648 ≤ v
          · have he : s32 (v) = v - 4294967296 := if_pos hge
            rw [he]
            clear he hsw
            go_enter Try.func46, Try.ntmps46
            go_wp2_with (first | (go_at_call 24; refine (rvalid_any _ _ _).mono ?_; rintro e w1 ⟨rfl, hb1⟩; obtain ⟨hc1, hf1⟩ := bcell hb1; have hz := hb1.size; (try simp at hz); have z0 : w.heap.size < w1.heap.size := (by omega); have z1 : w.heap.size + 1 < w1.heap.size := (by omega); have z2 : w.heap.size + 2 < w1.heap.size := (by omega); clear hz) | (go_at_call 65; refine (RBH.out _).mono ?_; rintro e w1 ⟨rfl, rfl⟩) | (go_at_call 17; refine (rint_any _ _).mono ?_; rintro e w2 ⟨rfl, hb2⟩; obtain ⟨hc2, hf2⟩ := bcell hb2; have hz := hb2.size; (try simp at hz); have z0 : w.heap.size < w2.heap.size := (by omega); have z1 : w.heap.size + 1 < w2.heap.size := (by omega); have z2 : w.heap.size + 2 < w2.heap.size := (by omega); clear hz))
            refine bodyPost_ret (v := .tuple #[.agg #[.int .i64 ((intR (v - 4294967296)).P), .int .i64 ((intR (v - 4294967296)).Q)], .int .i64 ((intR (v - 4294967296)).E)]) (by simp [results, Try.results46, go_sem, *]) rfl ?_
            refine ⟨rfl, ?_⟩
            repeat (first | exact Below.refl _ _ | refine below_drewN ?_ _ | refine Below.setCell ?_ (by first | omega | (simp; done) | (simp; omega)) _ | refine Below.alloc ?_ (by first | omega | (simp; done) | (simp; omega)) _ | refine below_step (by assumption) (by first | omega | (simp; done) | (simp; omega)) ?_)
          · have he : s32 (v) = v := if_neg hge
            rw [he]
            clear he hsw
            go_enter Try.func46, Try.ntmps46
            go_wp2_with (first | (go_at_call 24; refine (rvalid_any _ _ _).mono ?_; rintro e w1 ⟨rfl, hb1⟩; obtain ⟨hc1, hf1⟩ := bcell hb1; have hz := hb1.size; (try simp at hz); have z0 : w.heap.size < w1.heap.size := (by omega); have z1 : w.heap.size + 1 < w1.heap.size := (by omega); have z2 : w.heap.size + 2 < w1.heap.size := (by omega); clear hz) | (go_at_call 65; refine (RBH.out _).mono ?_; rintro e w1 ⟨rfl, rfl⟩) | (go_at_call 17; refine (rint_any _ _).mono ?_; rintro e w2 ⟨rfl, hb2⟩; obtain ⟨hc2, hf2⟩ := bcell hb2; have hz := hb2.size; (try simp at hz); have z0 : w.heap.size < w2.heap.size := (by omega); have z1 : w.heap.size + 1 < w2.heap.size := (by omega); have z2 : w.heap.size + 2 < w2.heap.size := (by omega); clear hz))
            refine bodyPost_ret (v := .tuple #[.agg #[.int .i64 ((intR (v)).P), .int .i64 ((intR (v)).Q)], .int .i64 ((intR (v)).E)]) (by simp [results, Try.results46, go_sem, *]) rfl ?_
            refine ⟨rfl, ?_⟩
            repeat (first | exact Below.refl _ _ | refine below_drewN ?_ _ | refine Below.setCell ?_ (by first | omega | (simp; done) | (simp; omega)) _ | refine Below.alloc ?_ (by first | omega | (simp; done) | (simp; omega)) _ | refine below_step (by assumption) (by first | omega | (simp; done) | (simp; omega)) ?_)
        · rw [show bitsR op p q p' q' = err 8 by unfold bitsR; rw [if_neg (hn), if_pos (.inl hq)]]
          subst h23
          have hwf : whB p q = false := by rw [hwq]; simpa using hq
          have hq1 : (q != 1) = true := by simpa using hq
          clear hn hwq
          clear hrng
          have hv01 : vld 0 1 = true := by decide +kernel
          go_enter Try.func46, Try.ntmps46
          go_wp2_with (first | (go_at_call 24; refine (rvalid_any _ _ _).mono ?_; rintro e w1 ⟨rfl, hb1⟩; obtain ⟨hc1, hf1⟩ := bcell hb1; have hz := hb1.size; (try simp at hz); have z0 : w.heap.size < w1.heap.size := (by omega); have z1 : w.heap.size + 1 < w1.heap.size := (by omega); have z2 : w.heap.size + 2 < w1.heap.size := (by omega); clear hz) | (go_at_call 65; refine (rbits_any _ p 0 _ (by omega) (by omega)).mono ?_; rintro e w1 ⟨rfl, rfl⟩))
          refine bodyPost_ret (v := .tuple #[.agg #[.int .i64 (0), .int .i64 (0)], .int .i64 (8)]) (by simp [results, Try.results46, go_sem, *]) rfl ?_
          refine ⟨rfl, ?_⟩
          repeat (first | exact Below.refl _ _ | refine below_drewN ?_ _ | refine Below.setCell ?_ (by first | omega | (simp; done) | (simp; omega)) _ | refine Below.alloc ?_ (by first | omega | (simp; done) | (simp; omega)) _ | refine below_step (by assumption) (by first | omega | (simp; done) | (simp; omega)) ?_)
      · have h230 : (op == 23) = false := by simpa using h23
        have h231 : (op != 23) = true := by simpa using h23
        by_cases h2 : vld p' q' = true
        · have hn : ¬ (opOk op = false ∨ vld p q = false ∨ (op ≠ 23 ∧ vld p' q' = false)) := by rw [ho, h1, h2]; simp
          have hwq2 : whB p' q' = decide (q' = 1) := by unfold whB; rw [h2]; rfl
          obtain ⟨b1, b2, b3, b4, _⟩ := vld_iff.1 h2
          by_cases hq : q = 1
          · have hwp : whP p q = p := by unfold whP; rw [hwq]; simp [hq]
            by_cases hq' : q' = 1
            · rw [show bitsR op p q p' q' = intR (s32 (bw op p p')) by unfold bitsR; rw [if_neg hn, if_neg (by simp [hq, hq'])]]
              subst hq hq'
              have hwp2 : whP p' 1 = p' := by unfold whP; rw [hwq2]; rfl
              clear hn h23
              obtain ⟨t1, t2⟩ := s32_in hs
              have hne : op ≠ 23 := by simpa using h231
              have hrng2 : (decide (op < 9) || decide (13 < op)) = false := by simp; omega
              have hl : decide (op < 9) = false := by simp; omega
              have hg : decide (13 < op) = false := by simp; omega
              clear hrng hne
              have m1 := i64_mask p
              have m2 := i64_mask p'
              by_cases hge : 2147483648 ≤ bw op p p'
              · have he : s32 (bw op p p') = bw op p p' - 4294967296 := if_pos hge
                rw [he]
                clear he hsw
                go_enter Try.func46, Try.ntmps46
                go_wp2_with (first | (go_at_call 24; refine (rvalid_any _ _ _).mono ?_; rintro e w1 ⟨rfl, hb1⟩; obtain ⟨hc1, hf1⟩ := bcell hb1; have hz := hb1.size; (try simp at hz); have z0 : w.heap.size < w1.heap.size := (by omega); have z1 : w.heap.size + 1 < w1.heap.size := (by omega); have z2 : w.heap.size + 2 < w1.heap.size := (by omega); clear hz) | (go_at_call 65; refine (rbits_any _ p p' _ (by omega) (by omega)).mono ?_; rintro e w1 ⟨rfl, rfl⟩) | (go_at_call 17; refine (rint_any _ _).mono ?_; rintro e w2 ⟨rfl, hb2⟩; obtain ⟨hc2, hf2⟩ := bcell hb2; have hz := hb2.size; (try simp at hz); have z0 : w.heap.size < w2.heap.size := (by omega); have z1 : w.heap.size + 1 < w2.heap.size := (by omega); have z2 : w.heap.size + 2 < w2.heap.size := (by omega); clear hz))
                refine bodyPost_ret (v := .tuple #[.agg #[.int .i64 ((intR (bw op p p' - 4294967296)).P), .int .i64 ((intR (bw op p p' - 4294967296)).Q)], .int .i64 ((intR (bw op p p' - 4294967296)).E)]) (by simp [results, Try.results46, go_sem, *]) rfl ?_
                refine ⟨rfl, ?_⟩
                repeat (first | exact Below.refl _ _ | refine below_drewN ?_ _ | refine Below.setCell ?_ (by first | omega | (simp; done) | (simp; omega)) _ | refine Below.alloc ?_ (by first | omega | (simp; done) | (simp; omega)) _ | refine below_step (by assumption) (by first | omega | (simp; done) | (simp; omega)) ?_)
              · have he : s32 (bw op p p') = bw op p p' := if_neg hge
                rw [he]
                clear he hsw
                go_enter Try.func46, Try.ntmps46
                go_wp2_with (first | (go_at_call 24; refine (rvalid_any _ _ _).mono ?_; rintro e w1 ⟨rfl, hb1⟩; obtain ⟨hc1, hf1⟩ := bcell hb1; have hz := hb1.size; (try simp at hz); have z0 : w.heap.size < w1.heap.size := (by omega); have z1 : w.heap.size + 1 < w1.heap.size := (by omega); have z2 : w.heap.size + 2 < w1.heap.size := (by omega); clear hz) | (go_at_call 65; refine (rbits_any _ p p' _ (by omega) (by omega)).mono ?_; rintro e w1 ⟨rfl, rfl⟩) | (go_at_call 17; refine (rint_any _ _).mono ?_; rintro e w2 ⟨rfl, hb2⟩; obtain ⟨hc2, hf2⟩ := bcell hb2; have hz := hb2.size; (try simp at hz); have z0 : w.heap.size < w2.heap.size := (by omega); have z1 : w.heap.size + 1 < w2.heap.size := (by omega); have z2 : w.heap.size + 2 < w2.heap.size := (by omega); clear hz))
                refine bodyPost_ret (v := .tuple #[.agg #[.int .i64 ((intR (bw op p p')).P), .int .i64 ((intR (bw op p p')).Q)], .int .i64 ((intR (bw op p p')).E)]) (by simp [results, Try.results46, go_sem, *]) rfl ?_
                refine ⟨rfl, ?_⟩
                repeat (first | exact Below.refl _ _ | refine below_drewN ?_ _ | refine Below.setCell ?_ (by first | omega | (simp; done) | (simp; omega)) _ | refine Below.alloc ?_ (by first | omega | (simp; done) | (simp; omega)) _ | refine below_step (by assumption) (by first | omega | (simp; done) | (simp; omega)) ?_)
            · rw [show bitsR op p q p' q' = err 8 by unfold bitsR; rw [if_neg (hn), if_pos (.inr ⟨h23, hq'⟩)]]
              subst hq
              have hwf : whB p' q' = false := by rw [hwq2]; simpa using hq'
              have hq1 : (q' != 1) = true := by simpa using hq'
              clear hn h23 hwq2
              have hne : op ≠ 23 := by simpa using h231
              have hrng2 : (decide (op < 9) || decide (13 < op)) = false := by simp; omega
              have hl : decide (op < 9) = false := by simp; omega
              have hg : decide (13 < op) = false := by simp; omega
              clear hrng hne
              go_enter Try.func46, Try.ntmps46
              go_wp2_with (go_at_call 24; refine (rvalid_any _ _ _).mono ?_; rintro e w1 ⟨rfl, hb1⟩; obtain ⟨hc1, hf1⟩ := bcell hb1; have hz := hb1.size; (try simp at hz); have z0 : w.heap.size < w1.heap.size := (by omega); have z1 : w.heap.size + 1 < w1.heap.size := (by omega); have z2 : w.heap.size + 2 < w1.heap.size := (by omega); clear hz)
              refine bodyPost_ret (v := .tuple #[.agg #[.int .i64 (0), .int .i64 (0)], .int .i64 (8)]) (by simp [results, Try.results46, go_sem, *]) rfl ?_
              refine ⟨rfl, ?_⟩
              repeat (first | exact Below.refl _ _ | refine below_drewN ?_ _ | refine Below.setCell ?_ (by first | omega | (simp; done) | (simp; omega)) _ | refine Below.alloc ?_ (by first | omega | (simp; done) | (simp; omega)) _ | refine below_step (by assumption) (by first | omega | (simp; done) | (simp; omega)) ?_)
          · rw [show bitsR op p q p' q' = err 8 by unfold bitsR; rw [if_neg (hn), if_pos (.inl hq)]]
            have hwf : whB p q = false := by rw [hwq]; simpa using hq
            have hq1 : (q != 1) = true := by simpa using hq
            clear hn h23 hwq
            have hne : op ≠ 23 := by simpa using h231
            have hrng2 : (decide (op < 9) || decide (13 < op)) = false := by simp; omega
            have hl : decide (op < 9) = false := by simp; omega
            have hg : decide (13 < op) = false := by simp; omega
            clear hrng hne
            go_enter Try.func46, Try.ntmps46
            go_wp2_with (go_at_call 24; refine (rvalid_any _ _ _).mono ?_; rintro e w1 ⟨rfl, hb1⟩; obtain ⟨hc1, hf1⟩ := bcell hb1; have hz := hb1.size; (try simp at hz); have z0 : w.heap.size < w1.heap.size := (by omega); have z1 : w.heap.size + 1 < w1.heap.size := (by omega); have z2 : w.heap.size + 2 < w1.heap.size := (by omega); clear hz)
            refine bodyPost_ret (v := .tuple #[.agg #[.int .i64 (0), .int .i64 (0)], .int .i64 (8)]) (by simp [results, Try.results46, go_sem, *]) rfl ?_
            refine ⟨rfl, ?_⟩
            repeat (first | exact Below.refl _ _ | refine below_drewN ?_ _ | refine Below.setCell ?_ (by first | omega | (simp; done) | (simp; omega)) _ | refine Below.alloc ?_ (by first | omega | (simp; done) | (simp; omega)) _ | refine below_step (by assumption) (by first | omega | (simp; done) | (simp; omega)) ?_)
        · have h3 : vld p' q' = false := by simpa using h2
          rw [show bitsR op p q p' q' = err 2 from if_pos (.inr (.inr ⟨h23, h3⟩))]
          clear h2 h23
          have hne : op ≠ 23 := by simpa using h231
          have hrng2 : (decide (op < 9) || decide (13 < op)) = false := by simp; omega
          have hl : decide (op < 9) = false := by simp; omega
          have hg : decide (13 < op) = false := by simp; omega
          clear hrng hne
          go_enter Try.func46, Try.ntmps46
          go_wp2_with (go_at_call 24; refine (rvalid_any _ _ _).mono ?_; rintro e w1 ⟨rfl, hb1⟩; obtain ⟨hc1, hf1⟩ := bcell hb1; have hz := hb1.size; (try simp at hz); have z0 : w.heap.size < w1.heap.size := (by omega); have z1 : w.heap.size + 1 < w1.heap.size := (by omega); have z2 : w.heap.size + 2 < w1.heap.size := (by omega); clear hz)
          refine bodyPost_ret (v := .tuple #[.agg #[.int .i64 (0), .int .i64 (0)], .int .i64 (2)]) (by simp [results, Try.results46, go_sem, *]) rfl ?_
          refine ⟨rfl, ?_⟩
          repeat (first | exact Below.refl _ _ | refine below_drewN ?_ _ | refine Below.setCell ?_ (by first | omega | (simp; done) | (simp; omega)) _ | refine Below.alloc ?_ (by first | omega | (simp; done) | (simp; omega)) _ | refine below_step (by assumption) (by first | omega | (simp; done) | (simp; omega)) ?_)
    · have h3 : vld p q = false := by simpa using h1
      rw [show bitsR op p q p' q' = err 2 from if_pos (.inr (.inl h3))]
      clear h1
      by_cases h23 : op = 23
      · subst h23
        clear hrng
        have hv01 : vld 0 1 = true := by decide +kernel
        go_enter Try.func46, Try.ntmps46
        go_wp2_with (go_at_call 24; refine (rvalid_any _ _ _).mono ?_; rintro e w1 ⟨rfl, hb1⟩; obtain ⟨hc1, hf1⟩ := bcell hb1; have hz := hb1.size; (try simp at hz); have z0 : w.heap.size < w1.heap.size := (by omega); have z1 : w.heap.size + 1 < w1.heap.size := (by omega); have z2 : w.heap.size + 2 < w1.heap.size := (by omega); clear hz)
        refine bodyPost_ret (v := .tuple #[.agg #[.int .i64 (0), .int .i64 (0)], .int .i64 (2)]) (by simp [results, Try.results46, go_sem, *]) rfl ?_
        refine ⟨rfl, ?_⟩
        repeat (first | exact Below.refl _ _ | refine below_drewN ?_ _ | refine Below.setCell ?_ (by first | omega | (simp; done) | (simp; omega)) _ | refine Below.alloc ?_ (by first | omega | (simp; done) | (simp; omega)) _ | refine below_step (by assumption) (by first | omega | (simp; done) | (simp; omega)) ?_)
      · have h230 : (op == 23) = false := by simpa using h23
        have h231 : (op != 23) = true := by simpa using h23
        clear h23
        have hne : op ≠ 23 := by simpa using h231
        have hrng2 : (decide (op < 9) || decide (13 < op)) = false := by simp; omega
        have hl : decide (op < 9) = false := by simp; omega
        have hg : decide (13 < op) = false := by simp; omega
        clear hrng hne
        go_enter Try.func46, Try.ntmps46
        go_wp2_with (go_at_call 24; refine (rvalid_any _ _ _).mono ?_; rintro e w1 ⟨rfl, hb1⟩; obtain ⟨hc1, hf1⟩ := bcell hb1; have hz := hb1.size; (try simp at hz); have z0 : w.heap.size < w1.heap.size := (by omega); have z1 : w.heap.size + 1 < w1.heap.size := (by omega); have z2 : w.heap.size + 2 < w1.heap.size := (by omega); clear hz)
        refine bodyPost_ret (v := .tuple #[.agg #[.int .i64 (0), .int .i64 (0)], .int .i64 (2)]) (by simp [results, Try.results46, go_sem, *]) rfl ?_
        refine ⟨rfl, ?_⟩
        repeat (first | exact Below.refl _ _ | refine below_drewN ?_ _ | refine Below.setCell ?_ (by first | omega | (simp; done) | (simp; omega)) _ | refine Below.alloc ?_ (by first | omega | (simp; done) | (simp; omega)) _ | refine below_step (by assumption) (by first | omega | (simp; done) | (simp; omega)) ?_)
  · have h3 : opOk op = false := by simpa using ho
    rw [show bitsR op p q p' q' = err 2 from if_pos (.inl h3)]
    clear ho
    have hno := opOk_not h3
    have h231 : (op != 23) = true := by simpa using hno.2
    clear h3
    by_cases hl : op < 9
    · clear hno
      go_enter Try.func46, Try.ntmps46
      go_wp2_with (go_at_call 24; refine (rvalid_any _ _ _).mono ?_; rintro e w1 ⟨rfl, hb1⟩; obtain ⟨hc1, hf1⟩ := bcell hb1; have hz := hb1.size; (try simp at hz); have z0 : w.heap.size < w1.heap.size := (by omega); have z1 : w.heap.size + 1 < w1.heap.size := (by omega); have z2 : w.heap.size + 2 < w1.heap.size := (by omega); clear hz)
      refine bodyPost_ret (v := .tuple #[.agg #[.int .i64 (0), .int .i64 (0)], .int .i64 (2)]) (by simp [results, Try.results46, go_sem, *]) rfl ?_
      refine ⟨rfl, ?_⟩
      repeat (first | exact Below.refl _ _ | refine below_drewN ?_ _ | refine Below.setCell ?_ (by first | omega | (simp; done) | (simp; omega)) _ | refine Below.alloc ?_ (by first | omega | (simp; done) | (simp; omega)) _ | refine below_step (by assumption) (by first | omega | (simp; done) | (simp; omega)) ?_)
    · have hg : 13 < op := by omega
      clear hno
      go_enter Try.func46, Try.ntmps46
      go_wp2_with (go_at_call 24; refine (rvalid_any _ _ _).mono ?_; rintro e w1 ⟨rfl, hb1⟩; obtain ⟨hc1, hf1⟩ := bcell hb1; have hz := hb1.size; (try simp at hz); have z0 : w.heap.size < w1.heap.size := (by omega); have z1 : w.heap.size + 1 < w1.heap.size := (by omega); have z2 : w.heap.size + 2 < w1.heap.size := (by omega); clear hz)
      refine bodyPost_ret (v := .tuple #[.agg #[.int .i64 (0), .int .i64 (0)], .int .i64 (2)]) (by simp [results, Try.results46, go_sem, *]) rfl ?_
      refine ⟨rfl, ?_⟩
      repeat (first | exact Below.refl _ _ | refine below_drewN ?_ _ | refine Below.setCell ?_ (by first | omega | (simp; done) | (simp; omega)) _ | refine Below.alloc ?_ (by first | omega | (simp; done) | (simp; omega)) _ | refine below_step (by assumption) (by first | omega | (simp; done) | (simp; omega)) ?_)
end Go.Proofs.Ytpoljkgfaceniaa
