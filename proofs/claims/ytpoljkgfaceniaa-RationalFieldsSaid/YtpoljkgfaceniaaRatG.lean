/- Contracts of layer 1: powers. -/
import Derived.Test.YtpoljkgfaceniaaRatF
namespace Go.Proofs.Ytpoljkgfaceniaa
open Go.RowKit M1

theorem ret_ib {k : IntKind} {a b : Int} {x y : Bool} (h : a = b) (h' : x = y) : Ending.returned (.tuple #[.int k a, .bool x]) = .returned (.tuple #[.int k b, .bool y]) := by rw [h, h']
theorem inM_iff (x : Int) : inM x ↔ -2147483647 ≤ x ∧ x ≤ 2147483647 := Iff.rfl
def pvP (x : Int) (k : Nat) : Int := if inM (x ^ k) then x ^ k else 0
def pvB (x : Int) (k : Nat) : Bool := decide (inM (x ^ k))
theorem pv_yes {x : Int} {k : Nat} (h : inM (x ^ k)) : pvP x k = x ^ k ∧ pvB x k = true := ⟨if_pos h, by unfold pvB; simpa using h⟩
theorem pv_no {x : Int} {k : Nat} (h : ¬ inM (x ^ k)) : pvP x k = 0 ∧ pvB x k = false := ⟨if_neg h, by unfold pvB; simpa using h⟩
def npow (x : Int) (n : Nat) : Int := x ^ n
theorem npow_succ (x : Int) (n : Nat) : npow x (n + 1) = npow x n * x := Int.pow_succ x n
theorem rpower_any (x : Int) (k : Nat) (w : World) (h1 : -2147483647 ≤ x) (h2 : x ≤ 2147483647) (hk : k ≤ 64) :
    Calls Try.prog 60 #[.int .i64 x, .int .i64 (k : Int)] w fun e w' => e = .returned (.tuple #[.int .i64 (pvP x k), .bool (pvB x k)]) ∧ w' = w := by
  go_enter Try.func60, Try.ntmps60
  go_wp2
  go_loop [6, 7] (fun vp vi => ∃ i : Nat, i ≤ k ∧ vi = .int .i64 i ∧ vp = .int .i64 (npow x i) ∧ Hid (inM (npow x i))) (fun _ vi => k - (intOf vi).toNat)
  case atStart => exact ⟨0, Nat.zero_le _, rfl, by simp [npow], Lib.hid (by simp [npow, inM])⟩
  case round =>
    obtain ⟨i, hi, rfl, rfl, HI⟩ := hrel
    have hin := HI.out
    have hb := mul_in hin.1 hin.2 h1 h2
    rw [← npow_succ] at hb
    have hs := Lib.hid (npow_succ x i)
    obtain ⟨hin1, hin2⟩ := hin
    by_cases hlt : i < k
    · have hm : npow x i * x = npow x (i + 1) := hs.out.symm
      have hw : wrap64 (npow x i * x) = npow x (i + 1) := by rw [hm]; exact IntWalk.wrap64_in _ ⟨by omega, by omega⟩
      have hw2 : IntKind.i64.wrap (npow x i * x) = npow x (i + 1) := by rw [hm]; exact IntWalk.i64_in _ ⟨by omega, by omega⟩
      obtain ⟨hb1, hb2⟩ := hb
      by_cases hn : inM (npow x (i + 1))
      · have HN := Lib.hid hn
        obtain ⟨hn1, hn2⟩ := hn
        go_wp2
        go_round
        case rel => exact ⟨i + 1, by omega, by go_num, rfl, HN⟩
        case measure => simp [intOf]; omega
      · have hno : ¬ inM (x ^ k) := fun h => hn (inM_pow (by omega) h)
        have e1 := Lib.hid (pv_no hno).1
        have e2 := Lib.hid (pv_no hno).2
        clear hno
        by_cases hg : 2147483647 < npow x (i + 1)
        · clear hn
          go_wp2
          go_ret2
          exact ⟨ret_ib e1.out.symm e2.out.symm, rfl⟩
        · have hg2 : npow x (i + 1) < -2147483647 := by rw [inM_iff] at hn; omega
          clear hn
          go_wp2
          go_ret2
          exact ⟨ret_ib e1.out.symm e2.out.symm, rfl⟩
    · obtain rfl : i = k := by omega
      have e1 := Lib.hid (show pvP x i = npow x i from (pv_yes HI.out).1)
      have e2 := Lib.hid (pv_yes HI.out).2
      go_wp2
      go_ret2
      exact ⟨ret_ib e1.out.symm e2.out.symm, rfl⟩

theorem quiet_add_same {P : Program} {f : FuncId} {args : Array Value} {w : World} {a n : Nat} {v : Value}
    (h : Calls P f args (w.drewN (a + n)) fun e w' => e = .returned v ∧ w' = w.drewN (a + n)) :
    Calls P f args (w.drewN (a + n)) fun e w'' => e = .returned v ∧ ∃ m, w'' = w.drewN (a + m) :=
  h.mono fun _ _ ⟨he, hm⟩ => ⟨he, n, hm⟩
theorem quiet_add_left {P : Program} {f : FuncId} {args : Array Value} {w : World} {a n : Nat} {v : Value}
    (h : Calls P f args (w.drewN (a + n)) fun e w' => e = .returned v ∧ w.drewN (a + n) = w') :
    Calls P f args (w.drewN (a + n)) fun e w'' => e = .returned v ∧ ∃ m, w'' = w.drewN (a + m) :=
  h.mono fun _ _ ⟨he, hm⟩ => ⟨he, n, hm.symm⟩
theorem pv_in (x : Int) (k : Nat) : -2147483647 ≤ pvP x k ∧ pvP x k ≤ 2147483647 := by
  by_cases h : inM (x ^ k)
  · rw [(pv_yes h).1]; exact h
  · rw [(pv_no h).1]; omega
theorem pv_both {x y : Int} {k : Nat} (hx : inM (x ^ k)) (hy : inM (y ^ k)) : pw (rat x y) k = rat (pvP x k) (pvP y k) := by
  rw [(pv_yes hx).1, (pv_yes hy).1]; exact rat_pow x y k
theorem out_no {r : Rat} (h : fit r = false) : out r = err 6 := by unfold out err; rw [oP_not h, oQ_not h, oE_not h]

set_option maxHeartbeats 2000000 in
theorem rpow_any (p q n m : Int) (w : World) :
    Calls Try.prog 42 #[.agg #[.int .i64 p, .int .i64 q], .agg #[.int .i64 n, .int .i64 m]] w fun e w' => e = .returned (.tuple #[.agg #[.int .i64 (powR p q n m).P, .int .i64 (powR p q n m).Q], .int .i64 (powR p q n m).E]) ∧ Below w.heap.size w w' := by
  by_cases h1 : vld p q = true
  · by_cases h2 : whB n m = true
    · have hwp := whP_yes h2
      by_cases h3 : -64 ≤ n ∧ n ≤ 64
      · have hok : powOk p q n m := ⟨h1, h2, h3.1, h3.2⟩
        obtain ⟨h4, h5⟩ := h3
        obtain ⟨a1, a2, a3, a4, _⟩ := vld_iff.1 h1
        by_cases hn : n < 0
        · by_cases hp : p = 0
          · rw [show powR p q n m = err 7 by unfold powR; rw [if_pos hok, if_pos ⟨hn, hp⟩]]
            clear hok
            subst hp
            go_enter Try.func42, Try.ntmps42
            go_wp2_with (first | (go_at_call 20; refine (rwhole_any _ _ _).mono ?_; rintro e w1 ⟨rfl, hb1⟩; obtain ⟨hc1, hf1⟩ := bcell hb1; have hz := hb1.size; (try simp at hz); have z0 : w.heap.size < w1.heap.size := (by omega); have z1 : w.heap.size + 1 < w1.heap.size := (by omega); have z2 : w.heap.size + 2 < w1.heap.size := (by omega); clear hz) | (go_at_call 24; refine (rvalid_any _ _ _).mono ?_; rintro e w1 ⟨rfl, hb1⟩; obtain ⟨hc1, hf1⟩ := bcell hb1; have hz := hb1.size; (try simp at hz); have z0 : w.heap.size < w1.heap.size := (by omega); have z1 : w.heap.size + 1 < w1.heap.size := (by omega); have z2 : w.heap.size + 2 < w1.heap.size := (by omega); clear hz))
            refine bodyPost_ret (v := .tuple #[.agg #[.int .i64 (0), .int .i64 (0)], .int .i64 (7)]) (by simp [results, Try.results42, go_sem, *]) rfl ?_
            refine ⟨rfl, ?_⟩
            repeat (first | exact Below.refl _ _ | refine below_drewN ?_ _ | refine Below.setCell ?_ (by first | omega | (simp; done) | (simp; omega)) _ | refine Below.alloc ?_ (by first | omega | (simp; done) | (simp; omega)) _ | refine below_step (by assumption) (by first | omega | (simp; done) | (simp; omega)) ?_)
          · rw [show powR p q n m = out (pw (rat q p) n.natAbs) by unfold powR pwr; rw [if_pos hok, if_neg (fun h => hp h.2), if_pos hn]]
            have hp0 : (p == 0) = false := by simpa using hp
            clear hok
            have hf := fit_pwi h1 hp n.natAbs
            have pi1 := pv_in p n.natAbs
            have pi2 := pv_in q n.natAbs
            by_cases i1 : inM (p ^ n.natAbs)
            · by_cases i2 : inM (q ^ n.natAbs)
              · rw [pv_both i2 i1]
                have hne : pvP p n.natAbs ≠ 0 := by rw [(pv_yes i1).1]; exact pow_ne (by omega) _
                have b1 := (pv_yes i1).2
                have b2 := (pv_yes i2).2
                obtain ⟨pi11, pi12⟩ := pi1
                obtain ⟨pi21, pi22⟩ := pi2
                clear i1 i2 hf
                go_enter Try.func42, Try.ntmps42
                go_wp2_with (first | (go_at_call 20; refine (rwhole_any _ _ _).mono ?_; rintro e w1 ⟨rfl, hb1⟩; obtain ⟨hc1, hf1⟩ := bcell hb1; have hz := hb1.size; (try simp at hz); have z0 : w.heap.size < w1.heap.size := (by omega); have z1 : w.heap.size + 1 < w1.heap.size := (by omega); have z2 : w.heap.size + 2 < w1.heap.size := (by omega); clear hz) | (go_at_call 24; refine (rvalid_any _ _ _).mono ?_; rintro e w1 ⟨rfl, hb1⟩; obtain ⟨hc1, hf1⟩ := bcell hb1; have hz := hb1.size; (try simp at hz); have z0 : w.heap.size < w1.heap.size := (by omega); have z1 : w.heap.size + 1 < w1.heap.size := (by omega); have z2 : w.heap.size + 2 < w1.heap.size := (by omega); clear hz))
                go_quiet ((first | (go_at_call 55; exact quiet_left (rabs_any _ _ (by omega) (by omega))) | (go_at_call 60; exact Calls.quiet_of_same (rpower_any _ _ _ (by omega) (by omega) (by omega)))))
                go_wp2_with fail
                go_quiet ((first | (go_at_call 55; exact quiet_add_left (rabs_any _ _ (by omega) (by omega))) | (go_at_call 60; exact quiet_add_same (rpower_any _ _ _ (by omega) (by omega) (by omega)))))
                go_wp2_with (go_at_call 50; refine (rreduce_any _ _ _ hne (by omega) (by omega) (by omega) (by omega)).mono ?_; rintro e w2 ⟨rfl, hb2⟩; obtain ⟨hc2, hf2⟩ := bcellD hb2; have hz := hb2.size; (try simp at hz); have z0 : w.heap.size < w2.heap.size := (by omega); have z1 : w.heap.size + 1 < w2.heap.size := (by omega); have z2 : w.heap.size + 2 < w2.heap.size := (by omega); clear hz)
                refine bodyPost_ret (v := .tuple #[.agg #[.int .i64 (oP (rat (pvP q n.natAbs) (pvP p n.natAbs))), .int .i64 (oQ (rat (pvP q n.natAbs) (pvP p n.natAbs)))], .int .i64 (oE (rat (pvP q n.natAbs) (pvP p n.natAbs)))]) (by simp [results, Try.results42, go_sem, *]) rfl ?_
                refine ⟨rfl, ?_⟩
                repeat (first | exact Below.refl _ _ | refine below_drewN ?_ _ | refine Below.setCell ?_ (by first | omega | (simp; done) | (simp; omega)) _ | refine Below.alloc ?_ (by first | omega | (simp; done) | (simp; omega)) _ | refine below_step (by assumption) (by first | omega | (simp; done) | (simp; omega)) ?_)
              · rw [out_no (Bool.eq_false_iff.2 (fun h => i2 (hf.1 h).2))]
                have b1 := (pv_yes i1).2
                have b2 := (pv_no i2).2
                clear i1 i2 hf pi1 pi2
                go_enter Try.func42, Try.ntmps42
                go_wp2_with (first | (go_at_call 20; refine (rwhole_any _ _ _).mono ?_; rintro e w1 ⟨rfl, hb1⟩; obtain ⟨hc1, hf1⟩ := bcell hb1; have hz := hb1.size; (try simp at hz); have z0 : w.heap.size < w1.heap.size := (by omega); have z1 : w.heap.size + 1 < w1.heap.size := (by omega); have z2 : w.heap.size + 2 < w1.heap.size := (by omega); clear hz) | (go_at_call 24; refine (rvalid_any _ _ _).mono ?_; rintro e w1 ⟨rfl, hb1⟩; obtain ⟨hc1, hf1⟩ := bcell hb1; have hz := hb1.size; (try simp at hz); have z0 : w.heap.size < w1.heap.size := (by omega); have z1 : w.heap.size + 1 < w1.heap.size := (by omega); have z2 : w.heap.size + 2 < w1.heap.size := (by omega); clear hz))
                go_quiet ((first | (go_at_call 55; exact quiet_left (rabs_any _ _ (by omega) (by omega))) | (go_at_call 60; exact Calls.quiet_of_same (rpower_any _ _ _ (by omega) (by omega) (by omega)))))
                go_wp2_with fail
                go_quiet ((first | (go_at_call 55; exact quiet_add_left (rabs_any _ _ (by omega) (by omega))) | (go_at_call 60; exact quiet_add_same (rpower_any _ _ _ (by omega) (by omega) (by omega)))))
                go_wp2
                refine bodyPost_ret (v := .tuple #[.agg #[.int .i64 (0), .int .i64 (0)], .int .i64 (6)]) (by simp [results, Try.results42, go_sem, *]) rfl ?_
                refine ⟨rfl, ?_⟩
                repeat (first | exact Below.refl _ _ | refine below_drewN ?_ _ | refine Below.setCell ?_ (by first | omega | (simp; done) | (simp; omega)) _ | refine Below.alloc ?_ (by first | omega | (simp; done) | (simp; omega)) _ | refine below_step (by assumption) (by first | omega | (simp; done) | (simp; omega)) ?_)
            · rw [out_no (Bool.eq_false_iff.2 (fun h => i1 (hf.1 h).1))]
              have b1 := (pv_no i1).2
              clear i1 hf pi1 pi2
              go_enter Try.func42, Try.ntmps42
              go_wp2_with (first | (go_at_call 20; refine (rwhole_any _ _ _).mono ?_; rintro e w1 ⟨rfl, hb1⟩; obtain ⟨hc1, hf1⟩ := bcell hb1; have hz := hb1.size; (try simp at hz); have z0 : w.heap.size < w1.heap.size := (by omega); have z1 : w.heap.size + 1 < w1.heap.size := (by omega); have z2 : w.heap.size + 2 < w1.heap.size := (by omega); clear hz) | (go_at_call 24; refine (rvalid_any _ _ _).mono ?_; rintro e w1 ⟨rfl, hb1⟩; obtain ⟨hc1, hf1⟩ := bcell hb1; have hz := hb1.size; (try simp at hz); have z0 : w.heap.size < w1.heap.size := (by omega); have z1 : w.heap.size + 1 < w1.heap.size := (by omega); have z2 : w.heap.size + 2 < w1.heap.size := (by omega); clear hz))
              go_quiet ((first | (go_at_call 55; exact quiet_left (rabs_any _ _ (by omega) (by omega))) | (go_at_call 60; exact Calls.quiet_of_same (rpower_any _ _ _ (by omega) (by omega) (by omega)))))
              go_wp2_with fail
              go_quiet ((first | (go_at_call 55; exact quiet_add_left (rabs_any _ _ (by omega) (by omega))) | (go_at_call 60; exact quiet_add_same (rpower_any _ _ _ (by omega) (by omega) (by omega)))))
              go_wp2
              refine bodyPost_ret (v := .tuple #[.agg #[.int .i64 (0), .int .i64 (0)], .int .i64 (6)]) (by simp [results, Try.results42, go_sem, *]) rfl ?_
              refine ⟨rfl, ?_⟩
              repeat (first | exact Below.refl _ _ | refine below_drewN ?_ _ | refine Below.setCell ?_ (by first | omega | (simp; done) | (simp; omega)) _ | refine Below.alloc ?_ (by first | omega | (simp; done) | (simp; omega)) _ | refine below_step (by assumption) (by first | omega | (simp; done) | (simp; omega)) ?_)
        · rw [show powR p q n m = out (pw (rat p q) n.natAbs) by unfold powR pwr; rw [if_pos hok, if_neg (fun h => hn h.1), if_neg hn]]
          have hn0 : decide (n < 0) = false := by simpa using hn
          clear hok
          by_cases hp : p = 0
          · subst hp
            have hf := fit_pw h1 n.natAbs
            have pi1 := pv_in 0 n.natAbs
            have pi2 := pv_in q n.natAbs
            by_cases i1 : inM (0 ^ n.natAbs)
            · by_cases i2 : inM (q ^ n.natAbs)
              · rw [pv_both i1 i2]
                have hne : pvP q n.natAbs ≠ 0 := by rw [(pv_yes i2).1]; exact pow_ne (by omega) _
                have b1 := (pv_yes i1).2
                have b2 := (pv_yes i2).2
                obtain ⟨pi11, pi12⟩ := pi1
                obtain ⟨pi21, pi22⟩ := pi2
                clear i1 i2 hf
                go_enter Try.func42, Try.ntmps42
                go_wp2_with (first | (go_at_call 20; refine (rwhole_any _ _ _).mono ?_; rintro e w1 ⟨rfl, hb1⟩; obtain ⟨hc1, hf1⟩ := bcell hb1; have hz := hb1.size; (try simp at hz); have z0 : w.heap.size < w1.heap.size := (by omega); have z1 : w.heap.size + 1 < w1.heap.size := (by omega); have z2 : w.heap.size + 2 < w1.heap.size := (by omega); clear hz) | (go_at_call 24; refine (rvalid_any _ _ _).mono ?_; rintro e w1 ⟨rfl, hb1⟩; obtain ⟨hc1, hf1⟩ := bcell hb1; have hz := hb1.size; (try simp at hz); have z0 : w.heap.size < w1.heap.size := (by omega); have z1 : w.heap.size + 1 < w1.heap.size := (by omega); have z2 : w.heap.size + 2 < w1.heap.size := (by omega); clear hz))
                go_quiet ((first | (go_at_call 55; exact quiet_left (rabs_any _ _ (by omega) (by omega))) | (go_at_call 60; exact Calls.quiet_of_same (rpower_any _ _ _ (by omega) (by omega) (by omega)))))
                go_wp2_with fail
                go_quiet ((first | (go_at_call 55; exact quiet_add_left (rabs_any _ _ (by omega) (by omega))) | (go_at_call 60; exact quiet_add_same (rpower_any _ _ _ (by omega) (by omega) (by omega)))))
                go_wp2_with (go_at_call 50; refine (rreduce_any _ _ _ hne (by omega) (by omega) (by omega) (by omega)).mono ?_; rintro e w2 ⟨rfl, hb2⟩; obtain ⟨hc2, hf2⟩ := bcellD hb2; have hz := hb2.size; (try simp at hz); have z0 : w.heap.size < w2.heap.size := (by omega); have z1 : w.heap.size + 1 < w2.heap.size := (by omega); have z2 : w.heap.size + 2 < w2.heap.size := (by omega); clear hz)
                refine bodyPost_ret (v := .tuple #[.agg #[.int .i64 (oP (rat (pvP 0 n.natAbs) (pvP q n.natAbs))), .int .i64 (oQ (rat (pvP 0 n.natAbs) (pvP q n.natAbs)))], .int .i64 (oE (rat (pvP 0 n.natAbs) (pvP q n.natAbs)))]) (by simp [results, Try.results42, go_sem, *]) rfl ?_
                refine ⟨rfl, ?_⟩
                repeat (first | exact Below.refl _ _ | refine below_drewN ?_ _ | refine Below.setCell ?_ (by first | omega | (simp; done) | (simp; omega)) _ | refine Below.alloc ?_ (by first | omega | (simp; done) | (simp; omega)) _ | refine below_step (by assumption) (by first | omega | (simp; done) | (simp; omega)) ?_)
              · rw [out_no (Bool.eq_false_iff.2 (fun h => i2 (hf.1 h).2))]
                have b1 := (pv_yes i1).2
                have b2 := (pv_no i2).2
                clear i1 i2 hf pi1 pi2
                go_enter Try.func42, Try.ntmps42
                go_wp2_with (first | (go_at_call 20; refine (rwhole_any _ _ _).mono ?_; rintro e w1 ⟨rfl, hb1⟩; obtain ⟨hc1, hf1⟩ := bcell hb1; have hz := hb1.size; (try simp at hz); have z0 : w.heap.size < w1.heap.size := (by omega); have z1 : w.heap.size + 1 < w1.heap.size := (by omega); have z2 : w.heap.size + 2 < w1.heap.size := (by omega); clear hz) | (go_at_call 24; refine (rvalid_any _ _ _).mono ?_; rintro e w1 ⟨rfl, hb1⟩; obtain ⟨hc1, hf1⟩ := bcell hb1; have hz := hb1.size; (try simp at hz); have z0 : w.heap.size < w1.heap.size := (by omega); have z1 : w.heap.size + 1 < w1.heap.size := (by omega); have z2 : w.heap.size + 2 < w1.heap.size := (by omega); clear hz))
                go_quiet ((first | (go_at_call 55; exact quiet_left (rabs_any _ _ (by omega) (by omega))) | (go_at_call 60; exact Calls.quiet_of_same (rpower_any _ _ _ (by omega) (by omega) (by omega)))))
                go_wp2_with fail
                go_quiet ((first | (go_at_call 55; exact quiet_add_left (rabs_any _ _ (by omega) (by omega))) | (go_at_call 60; exact quiet_add_same (rpower_any _ _ _ (by omega) (by omega) (by omega)))))
                go_wp2
                refine bodyPost_ret (v := .tuple #[.agg #[.int .i64 (0), .int .i64 (0)], .int .i64 (6)]) (by simp [results, Try.results42, go_sem, *]) rfl ?_
                refine ⟨rfl, ?_⟩
                repeat (first | exact Below.refl _ _ | refine below_drewN ?_ _ | refine Below.setCell ?_ (by first | omega | (simp; done) | (simp; omega)) _ | refine Below.alloc ?_ (by first | omega | (simp; done) | (simp; omega)) _ | refine below_step (by assumption) (by first | omega | (simp; done) | (simp; omega)) ?_)
            · rw [out_no (Bool.eq_false_iff.2 (fun h => i1 (hf.1 h).1))]
              have b1 := (pv_no i1).2
              clear i1 hf pi1 pi2
              go_enter Try.func42, Try.ntmps42
              go_wp2_with (first | (go_at_call 20; refine (rwhole_any _ _ _).mono ?_; rintro e w1 ⟨rfl, hb1⟩; obtain ⟨hc1, hf1⟩ := bcell hb1; have hz := hb1.size; (try simp at hz); have z0 : w.heap.size < w1.heap.size := (by omega); have z1 : w.heap.size + 1 < w1.heap.size := (by omega); have z2 : w.heap.size + 2 < w1.heap.size := (by omega); clear hz) | (go_at_call 24; refine (rvalid_any _ _ _).mono ?_; rintro e w1 ⟨rfl, hb1⟩; obtain ⟨hc1, hf1⟩ := bcell hb1; have hz := hb1.size; (try simp at hz); have z0 : w.heap.size < w1.heap.size := (by omega); have z1 : w.heap.size + 1 < w1.heap.size := (by omega); have z2 : w.heap.size + 2 < w1.heap.size := (by omega); clear hz))
              go_quiet ((first | (go_at_call 55; exact quiet_left (rabs_any _ _ (by omega) (by omega))) | (go_at_call 60; exact Calls.quiet_of_same (rpower_any _ _ _ (by omega) (by omega) (by omega)))))
              go_wp2_with fail
              go_quiet ((first | (go_at_call 55; exact quiet_add_left (rabs_any _ _ (by omega) (by omega))) | (go_at_call 60; exact quiet_add_same (rpower_any _ _ _ (by omega) (by omega) (by omega)))))
              go_wp2
              refine bodyPost_ret (v := .tuple #[.agg #[.int .i64 (0), .int .i64 (0)], .int .i64 (6)]) (by simp [results, Try.results42, go_sem, *]) rfl ?_
              refine ⟨rfl, ?_⟩
              repeat (first | exact Below.refl _ _ | refine below_drewN ?_ _ | refine Below.setCell ?_ (by first | omega | (simp; done) | (simp; omega)) _ | refine Below.alloc ?_ (by first | omega | (simp; done) | (simp; omega)) _ | refine below_step (by assumption) (by first | omega | (simp; done) | (simp; omega)) ?_)
          · have hp0 : (p == 0) = false := by simpa using hp
            have hf := fit_pw h1 n.natAbs
            have pi1 := pv_in p n.natAbs
            have pi2 := pv_in q n.natAbs
            by_cases i1 : inM (p ^ n.natAbs)
            · by_cases i2 : inM (q ^ n.natAbs)
              · rw [pv_both i1 i2]
                have hne : pvP q n.natAbs ≠ 0 := by rw [(pv_yes i2).1]; exact pow_ne (by omega) _
                have b1 := (pv_yes i1).2
                have b2 := (pv_yes i2).2
                obtain ⟨pi11, pi12⟩ := pi1
                obtain ⟨pi21, pi22⟩ := pi2
                clear i1 i2 hf
                go_enter Try.func42, Try.ntmps42
                go_wp2_with (first | (go_at_call 20; refine (rwhole_any _ _ _).mono ?_; rintro e w1 ⟨rfl, hb1⟩; obtain ⟨hc1, hf1⟩ := bcell hb1; have hz := hb1.size; (try simp at hz); have z0 : w.heap.size < w1.heap.size := (by omega); have z1 : w.heap.size + 1 < w1.heap.size := (by omega); have z2 : w.heap.size + 2 < w1.heap.size := (by omega); clear hz) | (go_at_call 24; refine (rvalid_any _ _ _).mono ?_; rintro e w1 ⟨rfl, hb1⟩; obtain ⟨hc1, hf1⟩ := bcell hb1; have hz := hb1.size; (try simp at hz); have z0 : w.heap.size < w1.heap.size := (by omega); have z1 : w.heap.size + 1 < w1.heap.size := (by omega); have z2 : w.heap.size + 2 < w1.heap.size := (by omega); clear hz))
                go_quiet ((first | (go_at_call 55; exact quiet_left (rabs_any _ _ (by omega) (by omega))) | (go_at_call 60; exact Calls.quiet_of_same (rpower_any _ _ _ (by omega) (by omega) (by omega)))))
                go_wp2_with fail
                go_quiet ((first | (go_at_call 55; exact quiet_add_left (rabs_any _ _ (by omega) (by omega))) | (go_at_call 60; exact quiet_add_same (rpower_any _ _ _ (by omega) (by omega) (by omega)))))
                go_wp2_with (go_at_call 50; refine (rreduce_any _ _ _ hne (by omega) (by omega) (by omega) (by omega)).mono ?_; rintro e w2 ⟨rfl, hb2⟩; obtain ⟨hc2, hf2⟩ := bcellD hb2; have hz := hb2.size; (try simp at hz); have z0 : w.heap.size < w2.heap.size := (by omega); have z1 : w.heap.size + 1 < w2.heap.size := (by omega); have z2 : w.heap.size + 2 < w2.heap.size := (by omega); clear hz)
                refine bodyPost_ret (v := .tuple #[.agg #[.int .i64 (oP (rat (pvP p n.natAbs) (pvP q n.natAbs))), .int .i64 (oQ (rat (pvP p n.natAbs) (pvP q n.natAbs)))], .int .i64 (oE (rat (pvP p n.natAbs) (pvP q n.natAbs)))]) (by simp [results, Try.results42, go_sem, *]) rfl ?_
                refine ⟨rfl, ?_⟩
                repeat (first | exact Below.refl _ _ | refine below_drewN ?_ _ | refine Below.setCell ?_ (by first | omega | (simp; done) | (simp; omega)) _ | refine Below.alloc ?_ (by first | omega | (simp; done) | (simp; omega)) _ | refine below_step (by assumption) (by first | omega | (simp; done) | (simp; omega)) ?_)
              · rw [out_no (Bool.eq_false_iff.2 (fun h => i2 (hf.1 h).2))]
                have b1 := (pv_yes i1).2
                have b2 := (pv_no i2).2
                clear i1 i2 hf pi1 pi2
                go_enter Try.func42, Try.ntmps42
                go_wp2_with (first | (go_at_call 20; refine (rwhole_any _ _ _).mono ?_; rintro e w1 ⟨rfl, hb1⟩; obtain ⟨hc1, hf1⟩ := bcell hb1; have hz := hb1.size; (try simp at hz); have z0 : w.heap.size < w1.heap.size := (by omega); have z1 : w.heap.size + 1 < w1.heap.size := (by omega); have z2 : w.heap.size + 2 < w1.heap.size := (by omega); clear hz) | (go_at_call 24; refine (rvalid_any _ _ _).mono ?_; rintro e w1 ⟨rfl, hb1⟩; obtain ⟨hc1, hf1⟩ := bcell hb1; have hz := hb1.size; (try simp at hz); have z0 : w.heap.size < w1.heap.size := (by omega); have z1 : w.heap.size + 1 < w1.heap.size := (by omega); have z2 : w.heap.size + 2 < w1.heap.size := (by omega); clear hz))
                go_quiet ((first | (go_at_call 55; exact quiet_left (rabs_any _ _ (by omega) (by omega))) | (go_at_call 60; exact Calls.quiet_of_same (rpower_any _ _ _ (by omega) (by omega) (by omega)))))
                go_wp2_with fail
                go_quiet ((first | (go_at_call 55; exact quiet_add_left (rabs_any _ _ (by omega) (by omega))) | (go_at_call 60; exact quiet_add_same (rpower_any _ _ _ (by omega) (by omega) (by omega)))))
                go_wp2
                refine bodyPost_ret (v := .tuple #[.agg #[.int .i64 (0), .int .i64 (0)], .int .i64 (6)]) (by simp [results, Try.results42, go_sem, *]) rfl ?_
                refine ⟨rfl, ?_⟩
                repeat (first | exact Below.refl _ _ | refine below_drewN ?_ _ | refine Below.setCell ?_ (by first | omega | (simp; done) | (simp; omega)) _ | refine Below.alloc ?_ (by first | omega | (simp; done) | (simp; omega)) _ | refine below_step (by assumption) (by first | omega | (simp; done) | (simp; omega)) ?_)
            · rw [out_no (Bool.eq_false_iff.2 (fun h => i1 (hf.1 h).1))]
              have b1 := (pv_no i1).2
              clear i1 hf pi1 pi2
              go_enter Try.func42, Try.ntmps42
              go_wp2_with (first | (go_at_call 20; refine (rwhole_any _ _ _).mono ?_; rintro e w1 ⟨rfl, hb1⟩; obtain ⟨hc1, hf1⟩ := bcell hb1; have hz := hb1.size; (try simp at hz); have z0 : w.heap.size < w1.heap.size := (by omega); have z1 : w.heap.size + 1 < w1.heap.size := (by omega); have z2 : w.heap.size + 2 < w1.heap.size := (by omega); clear hz) | (go_at_call 24; refine (rvalid_any _ _ _).mono ?_; rintro e w1 ⟨rfl, hb1⟩; obtain ⟨hc1, hf1⟩ := bcell hb1; have hz := hb1.size; (try simp at hz); have z0 : w.heap.size < w1.heap.size := (by omega); have z1 : w.heap.size + 1 < w1.heap.size := (by omega); have z2 : w.heap.size + 2 < w1.heap.size := (by omega); clear hz))
              go_quiet ((first | (go_at_call 55; exact quiet_left (rabs_any _ _ (by omega) (by omega))) | (go_at_call 60; exact Calls.quiet_of_same (rpower_any _ _ _ (by omega) (by omega) (by omega)))))
              go_wp2_with fail
              go_quiet ((first | (go_at_call 55; exact quiet_add_left (rabs_any _ _ (by omega) (by omega))) | (go_at_call 60; exact quiet_add_same (rpower_any _ _ _ (by omega) (by omega) (by omega)))))
              go_wp2
              refine bodyPost_ret (v := .tuple #[.agg #[.int .i64 (0), .int .i64 (0)], .int .i64 (6)]) (by simp [results, Try.results42, go_sem, *]) rfl ?_
              refine ⟨rfl, ?_⟩
              repeat (first | exact Below.refl _ _ | refine below_drewN ?_ _ | refine Below.setCell ?_ (by first | omega | (simp; done) | (simp; omega)) _ | refine Below.alloc ?_ (by first | omega | (simp; done) | (simp; omega)) _ | refine below_step (by assumption) (by first | omega | (simp; done) | (simp; omega)) ?_)
      · rw [show powR p q n m = err 2 from if_neg (fun h => h3 ⟨h.2.2.1, h.2.2.2⟩)]
        by_cases h4 : n < -64
        · clear h3
          go_enter Try.func42, Try.ntmps42
          go_wp2_with (first | (go_at_call 20; refine (rwhole_any _ _ _).mono ?_; rintro e w1 ⟨rfl, hb1⟩; obtain ⟨hc1, hf1⟩ := bcell hb1; have hz := hb1.size; (try simp at hz); have z0 : w.heap.size < w1.heap.size := (by omega); have z1 : w.heap.size + 1 < w1.heap.size := (by omega); have z2 : w.heap.size + 2 < w1.heap.size := (by omega); clear hz) | (go_at_call 24; refine (rvalid_any _ _ _).mono ?_; rintro e w1 ⟨rfl, hb1⟩; obtain ⟨hc1, hf1⟩ := bcell hb1; have hz := hb1.size; (try simp at hz); have z0 : w.heap.size < w1.heap.size := (by omega); have z1 : w.heap.size + 1 < w1.heap.size := (by omega); have z2 : w.heap.size + 2 < w1.heap.size := (by omega); clear hz))
          refine bodyPost_ret (v := .tuple #[.agg #[.int .i64 (0), .int .i64 (0)], .int .i64 (2)]) (by simp [results, Try.results42, go_sem, *]) rfl ?_
          refine ⟨rfl, ?_⟩
          repeat (first | exact Below.refl _ _ | refine below_drewN ?_ _ | refine Below.setCell ?_ (by first | omega | (simp; done) | (simp; omega)) _ | refine Below.alloc ?_ (by first | omega | (simp; done) | (simp; omega)) _ | refine below_step (by assumption) (by first | omega | (simp; done) | (simp; omega)) ?_)
        · have h5 : 64 < n := by omega
          clear h3
          go_enter Try.func42, Try.ntmps42
          go_wp2_with (first | (go_at_call 20; refine (rwhole_any _ _ _).mono ?_; rintro e w1 ⟨rfl, hb1⟩; obtain ⟨hc1, hf1⟩ := bcell hb1; have hz := hb1.size; (try simp at hz); have z0 : w.heap.size < w1.heap.size := (by omega); have z1 : w.heap.size + 1 < w1.heap.size := (by omega); have z2 : w.heap.size + 2 < w1.heap.size := (by omega); clear hz) | (go_at_call 24; refine (rvalid_any _ _ _).mono ?_; rintro e w1 ⟨rfl, hb1⟩; obtain ⟨hc1, hf1⟩ := bcell hb1; have hz := hb1.size; (try simp at hz); have z0 : w.heap.size < w1.heap.size := (by omega); have z1 : w.heap.size + 1 < w1.heap.size := (by omega); have z2 : w.heap.size + 2 < w1.heap.size := (by omega); clear hz))
          refine bodyPost_ret (v := .tuple #[.agg #[.int .i64 (0), .int .i64 (0)], .int .i64 (2)]) (by simp [results, Try.results42, go_sem, *]) rfl ?_
          refine ⟨rfl, ?_⟩
          repeat (first | exact Below.refl _ _ | refine below_drewN ?_ _ | refine Below.setCell ?_ (by first | omega | (simp; done) | (simp; omega)) _ | refine Below.alloc ?_ (by first | omega | (simp; done) | (simp; omega)) _ | refine below_step (by assumption) (by first | omega | (simp; done) | (simp; omega)) ?_)
    · rw [show powR p q n m = err 2 from if_neg (fun h => h2 h.2.1)]
      have h3 : whB n m = false := by simpa using h2
      clear h2
      go_enter Try.func42, Try.ntmps42
      go_wp2_with (first | (go_at_call 20; refine (rwhole_any _ _ _).mono ?_; rintro e w1 ⟨rfl, hb1⟩; obtain ⟨hc1, hf1⟩ := bcell hb1; have hz := hb1.size; (try simp at hz); have z0 : w.heap.size < w1.heap.size := (by omega); have z1 : w.heap.size + 1 < w1.heap.size := (by omega); have z2 : w.heap.size + 2 < w1.heap.size := (by omega); clear hz) | (go_at_call 24; refine (rvalid_any _ _ _).mono ?_; rintro e w1 ⟨rfl, hb1⟩; obtain ⟨hc1, hf1⟩ := bcell hb1; have hz := hb1.size; (try simp at hz); have z0 : w.heap.size < w1.heap.size := (by omega); have z1 : w.heap.size + 1 < w1.heap.size := (by omega); have z2 : w.heap.size + 2 < w1.heap.size := (by omega); clear hz))
      refine bodyPost_ret (v := .tuple #[.agg #[.int .i64 (0), .int .i64 (0)], .int .i64 (2)]) (by simp [results, Try.results42, go_sem, *]) rfl ?_
      refine ⟨rfl, ?_⟩
      repeat (first | exact Below.refl _ _ | refine below_drewN ?_ _ | refine Below.setCell ?_ (by first | omega | (simp; done) | (simp; omega)) _ | refine Below.alloc ?_ (by first | omega | (simp; done) | (simp; omega)) _ | refine below_step (by assumption) (by first | omega | (simp; done) | (simp; omega)) ?_)
  · rw [show powR p q n m = err 2 from if_neg (fun h => h1 h.1)]
    have h3 : vld p q = false := by simpa using h1
    clear h1
    go_enter Try.func42, Try.ntmps42
    go_wp2_with (first | (go_at_call 20; refine (rwhole_any _ _ _).mono ?_; rintro e w1 ⟨rfl, hb1⟩; obtain ⟨hc1, hf1⟩ := bcell hb1; have hz := hb1.size; (try simp at hz); have z0 : w.heap.size < w1.heap.size := (by omega); have z1 : w.heap.size + 1 < w1.heap.size := (by omega); have z2 : w.heap.size + 2 < w1.heap.size := (by omega); clear hz) | (go_at_call 24; refine (rvalid_any _ _ _).mono ?_; rintro e w1 ⟨rfl, hb1⟩; obtain ⟨hc1, hf1⟩ := bcell hb1; have hz := hb1.size; (try simp at hz); have z0 : w.heap.size < w1.heap.size := (by omega); have z1 : w.heap.size + 1 < w1.heap.size := (by omega); have z2 : w.heap.size + 2 < w1.heap.size := (by omega); clear hz))
    refine bodyPost_ret (v := .tuple #[.agg #[.int .i64 (0), .int .i64 (0)], .int .i64 (2)]) (by simp [results, Try.results42, go_sem, *]) rfl ?_
    refine ⟨rfl, ?_⟩
    repeat (first | exact Below.refl _ _ | refine below_drewN ?_ _ | refine Below.setCell ?_ (by first | omega | (simp; done) | (simp; omega)) _ | refine Below.alloc ?_ (by first | omega | (simp; done) | (simp; omega)) _ | refine below_step (by assumption) (by first | omega | (simp; done) | (simp; omega)) ?_)
end Go.Proofs.Ytpoljkgfaceniaa
