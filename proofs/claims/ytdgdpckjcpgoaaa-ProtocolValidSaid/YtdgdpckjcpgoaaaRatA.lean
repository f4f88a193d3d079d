/- Contracts of the small functions of layer 1. -/
import Derived.Test.YtdgdpckjcpgoaaaRows
import Derived.Test.YtdgdpckjcpgoaaaMath
import Derived.WalkKit
import Derived.BigRegion
import Derived.Deep.QuietTactic
import Derived.BigQuiet
import Derived.Outline
import Derived.Lib.Hide
import Derived.WalkSmall
namespace Go.Proofs.Ytdgdpckjcpgoaaa
open Go.RowKit M1

theorem quiet_left {P : Program} {f : FuncId} {args : Array Value} {w : World} {n : Nat} {v : Value}
    (h : Calls P f args (w.drewN n) fun e w' => e = .returned v ∧ w.drewN n = w') : Calls P f args (w.drewN n) fun e w'' => e = .returned v ∧ ∃ m, w'' = w.drewN m :=
  h.mono fun _ _ ⟨he, hm⟩ => ⟨he, n, hm.symm⟩
theorem bcell {W w1 : World} (hb : Below W.heap.size W w1) : (∀ b o, b < W.heap.size → w1.cell? ⟨b, o, none⟩ = W.cell? ⟨b, o, none⟩) ∧ (∀ b o, b < W.heap.size → w1.frozen? ⟨b, o, none⟩ = W.frozen? ⟨b, o, none⟩) :=
  ⟨fun b o h => hb.cell (p := ⟨b, o, none⟩) h, fun b o h => hb.frozen (p := ⟨b, o, none⟩) h⟩

theorem bcellD {W w1 : World} {n : Nat} (hb : Below (W.drewN n).heap.size (W.drewN n) w1) : (∀ b o, b < W.heap.size → w1.cell? ⟨b, o, none⟩ = W.cell? ⟨b, o, none⟩) ∧ (∀ b o, b < W.heap.size → w1.frozen? ⟨b, o, none⟩ = W.frozen? ⟨b, o, none⟩) :=
  ⟨fun b o h => hb.cell (p := ⟨b, o, none⟩) h, fun b o h => hb.frozen (p := ⟨b, o, none⟩) h⟩

theorem within_yes (n l : Int) (w : World) (h1 : -l ≤ n) (h2 : n ≤ l) (h3 : 0 ≤ l) (h4 : l ≤ 4611686018427387904) :
    Calls Try.prog 51 #[.int .i64 n, .int .i64 l] w fun e w' => e = .returned (.bool true) ∧ w = w' := by
  go_enter Try.func51, Try.ntmps51
  go_wp2
  go_ret
  exact ⟨rfl, rfl⟩
theorem within_no (n l : Int) (w : World) (h1 : n < -l ∨ l < n) (h3 : 0 ≤ l) (h4 : l ≤ 4611686018427387904) :
    Calls Try.prog 51 #[.int .i64 n, .int .i64 l] w fun e w' => e = .returned (.bool false) ∧ w = w' := by
  by_cases h : -l ≤ n
  · have h5 : decide (n ≤ l) = false := by simp; omega
    go_enter Try.func51, Try.ntmps51
    go_wp2
    go_ret
    exact ⟨rfl, rfl⟩
  · go_enter Try.func51, Try.ntmps51
    go_wp2
    go_ret
    exact ⟨rfl, rfl⟩

theorem abs_any (n : Int) (w : World) (h1 : -9223372036854775807 ≤ n) (h2 : n ≤ 9223372036854775807) :
    Calls Try.prog 53 #[.int .i64 n] w fun e w' => e = .returned (.int .i64 (n.natAbs : Int)) ∧ w = w' := by
  by_cases h : n < 0
  · have e : (n.natAbs : Int) = -n := by omega
    rw [e]
    go_enter Try.func53, Try.ntmps53
    go_wp2
    go_ret
    exact ⟨rfl, rfl⟩
  · have e : (n.natAbs : Int) = n := by omega
    rw [e]
    go_enter Try.func53, Try.ntmps53
    go_wp2
    go_ret
    exact ⟨rfl, rfl⟩
theorem gcd_any (m n : Int) (w : World) (h1 : 0 ≤ m) (h2 : m ≤ 9223372036854775807) (h3 : 0 ≤ n) (h4 : n ≤ 9223372036854775807) :
    Calls Try.prog 52 #[.int .i64 m, .int .i64 n] w fun e w' => e = .returned (.int .i64 (Int.gcd m n : Int)) ∧ ∃ k, w' = w.drewN k := by
  go_enter Try.func52, Try.ntmps52
  go_wp2
  go_loopw [0, 1] (fun va vb wr => ∃ a b : Int, va = .int .i64 a ∧ vb = .int .i64 b ∧ 0 ≤ a ∧ a ≤ 9223372036854775807 ∧ 0 ≤ b ∧ b ≤ 9223372036854775807 ∧ Hid (Int.gcd a b = Int.gcd m n) ∧ Hid (∃ k, wr = w.drewN k)) (fun _ vb _ => (intOf vb).natAbs)
  case atStart => exact ⟨m, n, rfl, rfl, h1, h2, h3, h4, Lib.hid rfl, Lib.hid ⟨0, rfl⟩⟩
  case round =>
    obtain ⟨a, b, rfl, rfl, ha1, ha2, hb1, hb2, HG, HK⟩ := hrel
    by_cases hb : b = 0
    · subst hb
      go_wp2
      go_ret
      refine ⟨?_, HK.out⟩
      have hga : Int.gcd a 0 = a.natAbs := by simp
      rw [← HG.out, hga]
      have : (a.natAbs : Int) = a := by omega
      simp [this]
    · have hb0 : (b != 0) = true := by simpa using hb
      go_wp2
      go_quiet (fail)
      try go_wp2
      go_roundw
      case rel =>
        have h5 := Int.emod_nonneg a hb
        have h6 := Int.emod_lt_of_pos a (b := b) (by omega)
        refine ⟨b, a % b, rfl, rfl, hb1, hb2, h5, by omega, Lib.hid ?_, Lib.hid ?_⟩
        · rw [← HG.out, gcd_mod a b ha1 hb1]
        · obtain ⟨k, hk⟩ := HK.out
          exact ⟨_, by rw [hk, World.drewN_drewN]⟩
      case measure =>
        have h5 := Int.emod_nonneg a hb
        have h6 := Int.emod_lt_of_pos a (b := b) (by omega)
        simp [intOf]; omega

theorem rabs_any (n : Int) (w : World) (h1 : -9223372036854775807 ≤ n) (h2 : n ≤ 9223372036854775807) :
    Calls Try.prog 49 #[.int .i64 n] w fun e w' => e = .returned (.int .i64 (n.natAbs : Int)) ∧ w = w' := by
  by_cases h : n < 0
  · have e : (n.natAbs : Int) = -n := by omega
    rw [e]
    go_enter Try.func49, Try.ntmps49
    go_wp2
    go_ret
    exact ⟨rfl, rfl⟩
  · have e : (n.natAbs : Int) = n := by omega
    rw [e]
    go_enter Try.func49, Try.ntmps49
    go_wp2
    go_ret
    exact ⟨rfl, rfl⟩
theorem rgcd_any (m n : Int) (w : World) (h1 : 0 ≤ m) (h2 : m ≤ 9223372036854775807) (h3 : 0 ≤ n) (h4 : n ≤ 9223372036854775807) :
    Calls Try.prog 48 #[.int .i64 m, .int .i64 n] w fun e w' => e = .returned (.int .i64 (Int.gcd m n : Int)) ∧ ∃ k, w' = w.drewN k := by
  go_enter Try.func48, Try.ntmps48
  go_wp2
  go_loopw [0, 1] (fun va vb wr => ∃ a b : Int, va = .int .i64 a ∧ vb = .int .i64 b ∧ 0 ≤ a ∧ a ≤ 9223372036854775807 ∧ 0 ≤ b ∧ b ≤ 9223372036854775807 ∧ Hid (Int.gcd a b = Int.gcd m n) ∧ Hid (∃ k, wr = w.drewN k)) (fun _ vb _ => (intOf vb).natAbs)
  case atStart => exact ⟨m, n, rfl, rfl, h1, h2, h3, h4, Lib.hid rfl, Lib.hid ⟨0, rfl⟩⟩
  case round =>
    obtain ⟨a, b, rfl, rfl, ha1, ha2, hb1, hb2, HG, HK⟩ := hrel
    by_cases hb : b = 0
    · subst hb
      go_wp2
      go_ret
      refine ⟨?_, HK.out⟩
      have hga : Int.gcd a 0 = a.natAbs := by simp
      rw [← HG.out, hga]
      have : (a.natAbs : Int) = a := by omega
      simp [this]
    · have hb0 : (b != 0) = true := by simpa using hb
      go_wp2
      go_quiet (fail)
      try go_wp2
      go_roundw
      case rel =>
        have h5 := Int.emod_nonneg a hb
        have h6 := Int.emod_lt_of_pos a (b := b) (by omega)
        refine ⟨b, a % b, rfl, rfl, hb1, hb2, h5, by omega, Lib.hid ?_, Lib.hid ?_⟩
        · rw [← HG.out, gcd_mod a b ha1 hb1]
        · obtain ⟨k, hk⟩ := HK.out
          exact ⟨_, by rw [hk, World.drewN_drewN]⟩
      case measure =>
        have h5 := Int.emod_nonneg a hb
        have h6 := Int.emod_lt_of_pos a (b := b) (by omega)
        simp [intOf]; omega

theorem valid_any (p q : Int) (w : World) :
    Calls Try.prog 50 #[.agg #[.int .i64 p, .int .i64 q]] w fun e w' => e = .returned (.bool (vld p q)) ∧ Below w.heap.size w w' := by
  by_cases hv : 1 ≤ q ∧ q ≤ 2147483647 ∧ p ≤ 2147483647 ∧ -2147483647 ≤ p
  · obtain ⟨h1, h2, h4, h5⟩ := hv
    have hv : vld p q = decide (Int.gcd p q = 1) := by unfold vld; congr 1; apply propext; constructor <;> intro h <;> (try exact ⟨h1, h2, h5, h4, h⟩) ; exact h.2.2.2.2
    rw [hv]
    have hd : ((Int.gcd p q : Int) == 1) = decide (Int.gcd p q = 1) := by rw [Bool.eq_iff_iff]; simp; omega
    have HD := Lib.hid hd
    clear hd
    go_enter Try.func50, Try.ntmps50
    go_wp2
    go_quiet ((first | (go_at_call 51; exact quiet_left (within_yes _ _ _ h5 h4 (by omega) (by omega))) | (go_at_call 53; exact quiet_left (abs_any _ _ (by omega) (by omega))) | (go_at_call 52; exact Calls.quiet_of (gcd_any _ _ _ (by omega) (by omega) (by omega) (by omega)))))
    go_wp2
    go_ret
    exact ⟨congrArg (fun b => Ending.returned (.bool b)) HD.out, below_drewN ((Below.refl _ _).alloc (Nat.le_refl _) _) _⟩
  · have hf : vld p q = false := by unfold vld; simp only [decide_eq_false_iff_not]; intro h; exact hv ⟨h.1, h.2.1, h.2.2.2.1, h.2.2.1⟩
    rw [hf]
    clear hf
    by_cases h1 : 1 ≤ q
    · by_cases h2 : q ≤ 2147483647
      · have h5 : p < -2147483647 ∨ 2147483647 < p := by omega
        go_enter Try.func50, Try.ntmps50
        go_wp2
        go_quiet ((first | (go_at_call 51; exact quiet_left (within_no _ _ _ h5 (by omega) (by omega))) | (go_at_call 53; exact quiet_left (abs_any _ _ (by omega) (by omega))) | (go_at_call 52; exact Calls.quiet_of (gcd_any _ _ _ (by omega) (by omega) (by omega) (by omega)))))
        go_wp2
        go_ret
        exact ⟨rfl, below_drewN ((Below.refl _ _).alloc (Nat.le_refl _) _) _⟩
      · have d2 : decide (q ≤ 2147483647) = false := by simpa using h2
        go_enter Try.func50, Try.ntmps50
        go_wp2
        go_quiet ((first | (go_at_call 51; exact quiet_left (within_yes _ _ _ h5 h4 (by omega) (by omega))) | (go_at_call 53; exact quiet_left (abs_any _ _ (by omega) (by omega))) | (go_at_call 52; exact Calls.quiet_of (gcd_any _ _ _ (by omega) (by omega) (by omega) (by omega)))))
        go_wp2
        go_ret
        exact ⟨rfl, below_drewN ((Below.refl _ _).alloc (Nat.le_refl _) _) _⟩
    · have d1 : decide (1 ≤ q) = false := by simpa using h1
      go_enter Try.func50, Try.ntmps50
      go_wp2
      go_quiet ((first | (go_at_call 51; exact quiet_left (within_yes _ _ _ h5 h4 (by omega) (by omega))) | (go_at_call 53; exact quiet_left (abs_any _ _ (by omega) (by omega))) | (go_at_call 52; exact Calls.quiet_of (gcd_any _ _ _ (by omega) (by omega) (by omega) (by omega)))))
      go_wp2
      go_ret
      exact ⟨rfl, below_drewN ((Below.refl _ _).alloc (Nat.le_refl _) _) _⟩

theorem rvalid_any (p q : Int) (w : World) :
    Calls Try.prog 45 #[.agg #[.int .i64 p, .int .i64 q]] w fun e w' => e = .returned (.bool (vld p q)) ∧ Below w.heap.size w w' := by
  by_cases hv : 1 ≤ q ∧ q ≤ 2147483647 ∧ p ≤ 2147483647 ∧ -2147483647 ≤ p
  · obtain ⟨h1, h2, h4, h5⟩ := hv
    have hv : vld p q = decide (Int.gcd p q = 1) := by unfold vld; congr 1; apply propext; constructor <;> intro h <;> (try exact ⟨h1, h2, h5, h4, h⟩) ; exact h.2.2.2.2
    rw [hv]
    have hd : ((Int.gcd p q : Int) == 1) = decide (Int.gcd p q = 1) := by rw [Bool.eq_iff_iff]; simp; omega
    have HD := Lib.hid hd
    clear hd
    go_enter Try.func45, Try.ntmps45
    go_wp2
    go_quiet ((first | (go_at_call 49; exact quiet_left (rabs_any _ _ (by omega) (by omega))) | (go_at_call 48; exact Calls.quiet_of (rgcd_any _ _ _ (by omega) (by omega) (by omega) (by omega)))))
    go_wp2
    go_ret
    exact ⟨congrArg (fun b => Ending.returned (.bool b)) HD.out, below_drewN ((Below.refl _ _).alloc (Nat.le_refl _) _) _⟩
  · have hf : vld p q = false := by unfold vld; simp only [decide_eq_false_iff_not]; intro h; exact hv ⟨h.1, h.2.1, h.2.2.2.1, h.2.2.1⟩
    rw [hf]
    clear hf
    by_cases h1 : 1 ≤ q
    · by_cases h2 : q ≤ 2147483647
      · by_cases h4 : p ≤ 2147483647
        · have d5 : decide (-2147483647 ≤ p) = false := by simp; omega
          go_enter Try.func45, Try.ntmps45
          go_wp2
          go_quiet ((first | (go_at_call 49; exact quiet_left (rabs_any _ _ (by omega) (by omega))) | (go_at_call 48; exact Calls.quiet_of (rgcd_any _ _ _ (by omega) (by omega) (by omega) (by omega)))))
          go_wp2
          go_ret
          exact ⟨rfl, below_drewN ((Below.refl _ _).alloc (Nat.le_refl _) _) _⟩
        · have d4 : decide (p ≤ 2147483647) = false := by simpa using h4
          go_enter Try.func45, Try.ntmps45
          go_wp2
          go_quiet ((first | (go_at_call 49; exact quiet_left (rabs_any _ _ (by omega) (by omega))) | (go_at_call 48; exact Calls.quiet_of (rgcd_any _ _ _ (by omega) (by omega) (by omega) (by omega)))))
          go_wp2
          go_ret
          exact ⟨rfl, below_drewN ((Below.refl _ _).alloc (Nat.le_refl _) _) _⟩
      · have d2 : decide (q ≤ 2147483647) = false := by simpa using h2
        go_enter Try.func45, Try.ntmps45
        go_wp2
        go_quiet ((first | (go_at_call 49; exact quiet_left (rabs_any _ _ (by omega) (by omega))) | (go_at_call 48; exact Calls.quiet_of (rgcd_any _ _ _ (by omega) (by omega) (by omega) (by omega)))))
        go_wp2
        go_ret
        exact ⟨rfl, below_drewN ((Below.refl _ _).alloc (Nat.le_refl _) _) _⟩
    · have d1 : decide (1 ≤ q) = false := by simpa using h1
      go_enter Try.func45, Try.ntmps45
      go_wp2
      go_quiet ((first | (go_at_call 49; exact quiet_left (rabs_any _ _ (by omega) (by omega))) | (go_at_call 48; exact Calls.quiet_of (rgcd_any _ _ _ (by omega) (by omega) (by omega) (by omega)))))
      go_wp2
      go_ret
      exact ⟨rfl, below_drewN ((Below.refl _ _).alloc (Nat.le_refl _) _) _⟩
end Go.Proofs.Ytdgdpckjcpgoaaa
