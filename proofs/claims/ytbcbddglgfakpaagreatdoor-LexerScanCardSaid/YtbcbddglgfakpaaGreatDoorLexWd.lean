/- The reference of layer 3: escapes. -/
import Derived.Test.YtbcbddglgfakpaaGreatDoorLexWb
import Derived.Test.YtbcbddglgfakpaaGreatDoorLexZ
import Derived.Test.YtbcbddglgfakpaaGreatDoorLexZb
import Derived.WalkSmall
namespace Go.Proofs.YtbcbddglgfakpaaGreatDoor
open Go.RowKit M3
set_option linter.unusedVariables false
def hxI (c : UInt8) : Int := match hxv c with | some v => (v : Int) | none => -1
theorem hxI_some {c : UInt8} {v : Nat} (h : hxv c = some v) : hxI c = (v : Int) := by unfold hxI; rw [h]
theorem hxI_none {c : UInt8} (h : hxv c = none) : hxI c = -1 := by unfold hxI; rw [h]

set_option maxHeartbeats 4000000 in
theorem rhex_any (c : UInt8) (w : World) :
    Calls Tryz.prog 57 #[.int .u8 (c.toNat : Int)] w fun e w' => e = .returned (.int .i64 (hxI c)) ∧ w = w' := by
  have hcb := byte_bd3 c
  rcases (show (0 ≤ c.toNat ∧ c.toNat ≤ 47) ∨ (48 ≤ c.toNat ∧ c.toNat ≤ 57) ∨ (58 ≤ c.toNat ∧ c.toNat ≤ 64) ∨ (65 ≤ c.toNat ∧ c.toNat ≤ 70) ∨ (71 ≤ c.toNat ∧ c.toNat ≤ 96) ∨ (97 ≤ c.toNat ∧ c.toNat ≤ 102) ∨ (103 ≤ c.toNat ∧ c.toNat ≤ 255) by omega) with ⟨h1, h2⟩ | ⟨h1, h2⟩ | ⟨h1, h2⟩ | ⟨h1, h2⟩ | ⟨h1, h2⟩ | ⟨h1, h2⟩ | ⟨h1, h2⟩
  · have HX : Hid (hxI c = -1) := Lib.hid (hxI_none (by unfold hxv; rw [if_neg (by omega), if_neg (by omega), if_neg (by omega)]))
    have D1 := Lib.hid fun w => (show Calls Tryz.prog 27 #[.int .u8 (c.toNat : Int)] w fun e w' => e = .returned (.bool false) ∧ w = w' from by have := rdigit3_any c w; rw [show dgt c = false from decide_eq_false (by omega)] at this; exact this)
    have g97 : ¬ 97 ≤ (c.toNat : Int) := by omega
    have g102 : (c.toNat : Int) ≤ 102 := by omega
    have g65 : ¬ 65 ≤ (c.toNat : Int) := by omega
    have g70 : (c.toNat : Int) ≤ 70 := by omega
    clear h1 h2
    go_enter Tryz.func57, Tryz.ntmps57
    go_wp2_with (go_at_call 27; (with_reducible refine (D1.out _).mono ?_); rintro e w1 ⟨rfl, rfl⟩)
    go_ret
    exact ⟨by rw [HX.out]; rfl, rfl⟩
  · have HX : Hid (hxI c = (c.toNat : Int) - 48) := Lib.hid ((hxI_some (show hxv c = some (c.toNat - 48) by unfold hxv; rw [if_pos (by omega)])).trans (by omega))
    have D1 := Lib.hid fun w => (show Calls Tryz.prog 27 #[.int .u8 (c.toNat : Int)] w fun e w' => e = .returned (.bool true) ∧ w = w' from by have := rdigit3_any c w; rw [show dgt c = true from decide_eq_true (by omega)] at this; exact this)
    have g97 : ¬ 97 ≤ (c.toNat : Int) := by omega
    have g102 : (c.toNat : Int) ≤ 102 := by omega
    have g65 : ¬ 65 ≤ (c.toNat : Int) := by omega
    have g70 : (c.toNat : Int) ≤ 70 := by omega
    have u1 : IntKind.u8.wrap ((c.toNat : Int) - 48) = (c.toNat : Int) - 48 := by simp only [IntKind.wrap]; simp [IntKind.signed, IntKind.bits]; omega
    have u2 : 0 ≤ (c.toNat : Int) - 48 := by omega
    have u3 : (c.toNat : Int) - 48 ≤ 15 := by omega
    clear h1 h2
    go_enter Tryz.func57, Tryz.ntmps57
    go_wp2_with (go_at_call 27; (with_reducible refine (D1.out _).mono ?_); rintro e w1 ⟨rfl, rfl⟩)
    go_ret
    exact ⟨by rw [HX.out]; rfl, rfl⟩
  · have HX : Hid (hxI c = -1) := Lib.hid (hxI_none (by unfold hxv; rw [if_neg (by omega), if_neg (by omega), if_neg (by omega)]))
    have D1 := Lib.hid fun w => (show Calls Tryz.prog 27 #[.int .u8 (c.toNat : Int)] w fun e w' => e = .returned (.bool false) ∧ w = w' from by have := rdigit3_any c w; rw [show dgt c = false from decide_eq_false (by omega)] at this; exact this)
    have g97 : ¬ 97 ≤ (c.toNat : Int) := by omega
    have g102 : (c.toNat : Int) ≤ 102 := by omega
    have g65 : ¬ 65 ≤ (c.toNat : Int) := by omega
    have g70 : (c.toNat : Int) ≤ 70 := by omega
    clear h1 h2
    go_enter Tryz.func57, Tryz.ntmps57
    go_wp2_with (go_at_call 27; (with_reducible refine (D1.out _).mono ?_); rintro e w1 ⟨rfl, rfl⟩)
    go_ret
    exact ⟨by rw [HX.out]; rfl, rfl⟩
  · have HX : Hid (hxI c = (c.toNat : Int) - 65 + 10) := Lib.hid ((hxI_some (show hxv c = some (c.toNat - 55) by unfold hxv; rw [if_neg (by omega), if_neg (by omega), if_pos (by omega)])).trans (by omega))
    have D1 := Lib.hid fun w => (show Calls Tryz.prog 27 #[.int .u8 (c.toNat : Int)] w fun e w' => e = .returned (.bool false) ∧ w = w' from by have := rdigit3_any c w; rw [show dgt c = false from decide_eq_false (by omega)] at this; exact this)
    have g97 : ¬ 97 ≤ (c.toNat : Int) := by omega
    have g102 : (c.toNat : Int) ≤ 102 := by omega
    have g65 : 65 ≤ (c.toNat : Int) := by omega
    have g70 : (c.toNat : Int) ≤ 70 := by omega
    have u1 : IntKind.u8.wrap ((c.toNat : Int) - 65) = (c.toNat : Int) - 65 := by simp only [IntKind.wrap]; simp [IntKind.signed, IntKind.bits]; omega
    have u2 : 0 ≤ (c.toNat : Int) - 65 := by omega
    have u3 : (c.toNat : Int) - 65 ≤ 15 := by omega
    have u4 : IntKind.i64.wrap ((c.toNat : Int) - 65 + 10) = (c.toNat : Int) - 65 + 10 := by simp only [IntKind.wrap]; simp [IntKind.signed, IntKind.bits]; omega
    clear h1 h2
    go_enter Tryz.func57, Tryz.ntmps57
    go_wp2_with (go_at_call 27; (with_reducible refine (D1.out _).mono ?_); rintro e w1 ⟨rfl, rfl⟩)
    go_ret
    exact ⟨by rw [HX.out]; rfl, rfl⟩
  · have HX : Hid (hxI c = -1) := Lib.hid (hxI_none (by unfold hxv; rw [if_neg (by omega), if_neg (by omega), if_neg (by omega)]))
    have D1 := Lib.hid fun w => (show Calls Tryz.prog 27 #[.int .u8 (c.toNat : Int)] w fun e w' => e = .returned (.bool false) ∧ w = w' from by have := rdigit3_any c w; rw [show dgt c = false from decide_eq_false (by omega)] at this; exact this)
    have g97 : ¬ 97 ≤ (c.toNat : Int) := by omega
    have g102 : (c.toNat : Int) ≤ 102 := by omega
    have g65 : 65 ≤ (c.toNat : Int) := by omega
    have g70 : ¬ (c.toNat : Int) ≤ 70 := by omega
    clear h1 h2
    go_enter Tryz.func57, Tryz.ntmps57
    go_wp2_with (go_at_call 27; (with_reducible refine (D1.out _).mono ?_); rintro e w1 ⟨rfl, rfl⟩)
    go_ret
    exact ⟨by rw [HX.out]; rfl, rfl⟩
  · have HX : Hid (hxI c = (c.toNat : Int) - 97 + 10) := Lib.hid ((hxI_some (show hxv c = some (c.toNat - 87) by unfold hxv; rw [if_neg (by omega), if_pos (by omega)])).trans (by omega))
    have D1 := Lib.hid fun w => (show Calls Tryz.prog 27 #[.int .u8 (c.toNat : Int)] w fun e w' => e = .returned (.bool false) ∧ w = w' from by have := rdigit3_any c w; rw [show dgt c = false from decide_eq_false (by omega)] at this; exact this)
    have g97 : 97 ≤ (c.toNat : Int) := by omega
    have g102 : (c.toNat : Int) ≤ 102 := by omega
    have g65 : 65 ≤ (c.toNat : Int) := by omega
    have g70 : ¬ (c.toNat : Int) ≤ 70 := by omega
    have u1 : IntKind.u8.wrap ((c.toNat : Int) - 97) = (c.toNat : Int) - 97 := by simp only [IntKind.wrap]; simp [IntKind.signed, IntKind.bits]; omega
    have u2 : 0 ≤ (c.toNat : Int) - 97 := by omega
    have u3 : (c.toNat : Int) - 97 ≤ 15 := by omega
    have u4 : IntKind.i64.wrap ((c.toNat : Int) - 97 + 10) = (c.toNat : Int) - 97 + 10 := by simp only [IntKind.wrap]; simp [IntKind.signed, IntKind.bits]; omega
    clear h1 h2
    go_enter Tryz.func57, Tryz.ntmps57
    go_wp2_with (go_at_call 27; (with_reducible refine (D1.out _).mono ?_); rintro e w1 ⟨rfl, rfl⟩)
    go_ret
    exact ⟨by rw [HX.out]; rfl, rfl⟩
  · have HX : Hid (hxI c = -1) := Lib.hid (hxI_none (by unfold hxv; rw [if_neg (by omega), if_neg (by omega), if_neg (by omega)]))
    have D1 := Lib.hid fun w => (show Calls Tryz.prog 27 #[.int .u8 (c.toNat : Int)] w fun e w' => e = .returned (.bool false) ∧ w = w' from by have := rdigit3_any c w; rw [show dgt c = false from decide_eq_false (by omega)] at this; exact this)
    have g97 : 97 ≤ (c.toNat : Int) := by omega
    have g102 : ¬ (c.toNat : Int) ≤ 102 := by omega
    have g65 : 65 ≤ (c.toNat : Int) := by omega
    have g70 : ¬ (c.toNat : Int) ≤ 70 := by omega
    clear h1 h2
    go_enter Tryz.func57, Tryz.ntmps57
    go_wp2_with (go_at_call 27; (with_reducible refine (D1.out _).mono ?_); rintro e w1 ⟨rfl, rfl⟩)
    go_ret
    exact ⟨by rw [HX.out]; rfl, rfl⟩

def escT (a : Nat) (r : Nat × Nat × Int) : Value := .tuple #[.int .u8 (r.1 : Int), .int .i64 ((if r.2.2 = 0 then a + 1 + r.2.1 else 0 : Nat) : Int), .int .i64 r.2.2]
def RescSaid (s : ByteArray) (a : Nat) (w : World) (r : Nat × Nat × Int) : Prop :=
  Calls Tryz.prog 45 #[.string s, .int .i64 (a : Int)] w fun e w' => e = .returned (escT a r) ∧ ∃ n, w' = w.drewN n

set_option maxHeartbeats 4000000 in
theorem resc_end (s : ByteArray) (a : Nat) (w : World) (hs : s.size ≤ 4000000000) (h : s.size ≤ a + 1) (ha : a < s.size) : RescSaid s a w (0, 0, 4) := by
  unfold RescSaid
  have q1 : IntKind.i64.wrap ((a : Int) + 1) = (a : Int) + 1 := by simp only [IntKind.wrap]; simp [IntKind.signed, IntKind.bits]; omega
  have q2 : IntKind.i64.wrap ((a : Int) + 2) = (a : Int) + 2 := by simp only [IntKind.wrap]; simp [IntKind.signed, IntKind.bits]; omega
  have q3 : IntKind.i64.wrap ((a : Int) + 3) = (a : Int) + 3 := by simp only [IntKind.wrap]; simp [IntKind.signed, IntKind.bits]; omega
  have q4 : IntKind.i64.wrap ((a : Int) + 4) = (a : Int) + 4 := by simp only [IntKind.wrap]; simp [IntKind.signed, IntKind.bits]; omega
  have b1 : (s.size : Int) ≤ (a : Int) + 1 := by omega
  go_enter Tryz.func45, Tryz.ntmps45
  go_wp2
  (try simp only [Exit.inBlock, Exit.then]); refine bodyPost_ret (results_tmp3 rfl _ _ _) rfl ?_
  exact ⟨rfl, 0, rfl⟩

set_option maxHeartbeats 4000000 in
theorem resc_110 (s : ByteArray) (a : Nat) (w : World) (hs : s.size ≤ 4000000000) (h : a + 1 < s.size) (hc : s[a + 1] = 110) : RescSaid s a w (10, 1, 0) := by
  unfold RescSaid
  have q1 : IntKind.i64.wrap ((a : Int) + 1) = (a : Int) + 1 := by simp only [IntKind.wrap]; simp [IntKind.signed, IntKind.bits]; omega
  have q2 : IntKind.i64.wrap ((a : Int) + 2) = (a : Int) + 2 := by simp only [IntKind.wrap]; simp [IntKind.signed, IntKind.bits]; omega
  have q3 : IntKind.i64.wrap ((a : Int) + 3) = (a : Int) + 3 := by simp only [IntKind.wrap]; simp [IntKind.signed, IntKind.bits]; omega
  have q4 : IntKind.i64.wrap ((a : Int) + 4) = (a : Int) + 4 := by simp only [IntKind.wrap]; simp [IntKind.signed, IntKind.bits]; omega
  have b1 : ¬ (s.size : Int) ≤ (a : Int) + 1 := by omega
  have b2 : (a : Int) + 1 < (s.size : Int) := by omega
  have b3 : 0 ≤ (a : Int) + 1 := by omega
  have hcv : (s[a + 1].toNat : Int) = 110 := by rw [hc]; rfl
  have o0 : ((s[a + 1].toNat : Int) == 110) = true := by rw [hc]; rfl
  go_enter Tryz.func45, Tryz.ntmps45
  go_wp2
  (try simp only [Exit.inBlock, Exit.then]); refine bodyPost_ret (results_tmp3 rfl _ _ _) rfl ?_
  refine ⟨?_, 0, rfl⟩
  unfold escT
  simp only [if_true]
  first | rfl | (push_cast; rfl)

set_option maxHeartbeats 4000000 in
theorem resc_116 (s : ByteArray) (a : Nat) (w : World) (hs : s.size ≤ 4000000000) (h : a + 1 < s.size) (hc : s[a + 1] = 116) : RescSaid s a w (9, 1, 0) := by
  unfold RescSaid
  have q1 : IntKind.i64.wrap ((a : Int) + 1) = (a : Int) + 1 := by simp only [IntKind.wrap]; simp [IntKind.signed, IntKind.bits]; omega
  have q2 : IntKind.i64.wrap ((a : Int) + 2) = (a : Int) + 2 := by simp only [IntKind.wrap]; simp [IntKind.signed, IntKind.bits]; omega
  have q3 : IntKind.i64.wrap ((a : Int) + 3) = (a : Int) + 3 := by simp only [IntKind.wrap]; simp [IntKind.signed, IntKind.bits]; omega
  have q4 : IntKind.i64.wrap ((a : Int) + 4) = (a : Int) + 4 := by simp only [IntKind.wrap]; simp [IntKind.signed, IntKind.bits]; omega
  have b1 : ¬ (s.size : Int) ≤ (a : Int) + 1 := by omega
  have b2 : (a : Int) + 1 < (s.size : Int) := by omega
  have b3 : 0 ≤ (a : Int) + 1 := by omega
  have hcv : (s[a + 1].toNat : Int) = 116 := by rw [hc]; rfl
  have o0 : ((s[a + 1].toNat : Int) == 110) = false := by rw [hc]; rfl
  have o1 : ((s[a + 1].toNat : Int) == 116) = true := by rw [hc]; rfl
  go_enter Tryz.func45, Tryz.ntmps45
  go_wp2
  (try simp only [Exit.inBlock, Exit.then]); refine bodyPost_ret (results_tmp3 rfl _ _ _) rfl ?_
  refine ⟨?_, 0, rfl⟩
  unfold escT
  simp only [if_true]
  first | rfl | (push_cast; rfl)

set_option maxHeartbeats 4000000 in
theorem resc_92 (s : ByteArray) (a : Nat) (w : World) (hs : s.size ≤ 4000000000) (h : a + 1 < s.size) (hc : s[a + 1] = 92) : RescSaid s a w (92, 1, 0) := by
  unfold RescSaid
  have q1 : IntKind.i64.wrap ((a : Int) + 1) = (a : Int) + 1 := by simp only [IntKind.wrap]; simp [IntKind.signed, IntKind.bits]; omega
  have q2 : IntKind.i64.wrap ((a : Int) + 2) = (a : Int) + 2 := by simp only [IntKind.wrap]; simp [IntKind.signed, IntKind.bits]; omega
  have q3 : IntKind.i64.wrap ((a : Int) + 3) = (a : Int) + 3 := by simp only [IntKind.wrap]; simp [IntKind.signed, IntKind.bits]; omega
  have q4 : IntKind.i64.wrap ((a : Int) + 4) = (a : Int) + 4 := by simp only [IntKind.wrap]; simp [IntKind.signed, IntKind.bits]; omega
  have b1 : ¬ (s.size : Int) ≤ (a : Int) + 1 := by omega
  have b2 : (a : Int) + 1 < (s.size : Int) := by omega
  have b3 : 0 ≤ (a : Int) + 1 := by omega
  have hcv : (s[a + 1].toNat : Int) = 92 := by rw [hc]; rfl
  have o0 : ((s[a + 1].toNat : Int) == 110) = false := by rw [hc]; rfl
  have o1 : ((s[a + 1].toNat : Int) == 116) = false := by rw [hc]; rfl
  have o2 : ((s[a + 1].toNat : Int) == 92) = true := by rw [hc]; rfl
  go_enter Tryz.func45, Tryz.ntmps45
  go_wp2
  (try simp only [Exit.inBlock, Exit.then]); refine bodyPost_ret (results_tmp3 rfl _ _ _) rfl ?_
  refine ⟨?_, 0, rfl⟩
  unfold escT
  simp only [if_true]
  first | rfl | (push_cast; rfl)

set_option maxHeartbeats 4000000 in
theorem resc_39 (s : ByteArray) (a : Nat) (w : World) (hs : s.size ≤ 4000000000) (h : a + 1 < s.size) (hc : s[a + 1] = 39) : RescSaid s a w (39, 1, 0) := by
  unfold RescSaid
  have q1 : IntKind.i64.wrap ((a : Int) + 1) = (a : Int) + 1 := by simp only [IntKind.wrap]; simp [IntKind.signed, IntKind.bits]; omega
  have q2 : IntKind.i64.wrap ((a : Int) + 2) = (a : Int) + 2 := by simp only [IntKind.wrap]; simp [IntKind.signed, IntKind.bits]; omega
  have q3 : IntKind.i64.wrap ((a : Int) + 3) = (a : Int) + 3 := by simp only [IntKind.wrap]; simp [IntKind.signed, IntKind.bits]; omega
  have q4 : IntKind.i64.wrap ((a : Int) + 4) = (a : Int) + 4 := by simp only [IntKind.wrap]; simp [IntKind.signed, IntKind.bits]; omega
  have b1 : ¬ (s.size : Int) ≤ (a : Int) + 1 := by omega
  have b2 : (a : Int) + 1 < (s.size : Int) := by omega
  have b3 : 0 ≤ (a : Int) + 1 := by omega
  have hcv : (s[a + 1].toNat : Int) = 39 := by rw [hc]; rfl
  have o0 : ((s[a + 1].toNat : Int) == 110) = false := by rw [hc]; rfl
  have o1 : ((s[a + 1].toNat : Int) == 116) = false := by rw [hc]; rfl
  have o2 : ((s[a + 1].toNat : Int) == 92) = false := by rw [hc]; rfl
  have o3 : ((s[a + 1].toNat : Int) == 39) = true := by rw [hc]; rfl
  go_enter Tryz.func45, Tryz.ntmps45
  go_wp2
  (try simp only [Exit.inBlock, Exit.then]); refine bodyPost_ret (results_tmp3 rfl _ _ _) rfl ?_
  refine ⟨?_, 0, rfl⟩
  unfold escT
  simp only [if_true]
  first | rfl | (push_cast; rfl)

set_option maxHeartbeats 4000000 in
theorem resc_34 (s : ByteArray) (a : Nat) (w : World) (hs : s.size ≤ 4000000000) (h : a + 1 < s.size) (hc : s[a + 1] = 34) : RescSaid s a w (34, 1, 0) := by
  unfold RescSaid
  have q1 : IntKind.i64.wrap ((a : Int) + 1) = (a : Int) + 1 := by simp only [IntKind.wrap]; simp [IntKind.signed, IntKind.bits]; omega
  have q2 : IntKind.i64.wrap ((a : Int) + 2) = (a : Int) + 2 := by simp only [IntKind.wrap]; simp [IntKind.signed, IntKind.bits]; omega
  have q3 : IntKind.i64.wrap ((a : Int) + 3) = (a : Int) + 3 := by simp only [IntKind.wrap]; simp [IntKind.signed, IntKind.bits]; omega
  have q4 : IntKind.i64.wrap ((a : Int) + 4) = (a : Int) + 4 := by simp only [IntKind.wrap]; simp [IntKind.signed, IntKind.bits]; omega
  have b1 : ¬ (s.size : Int) ≤ (a : Int) + 1 := by omega
  have b2 : (a : Int) + 1 < (s.size : Int) := by omega
  have b3 : 0 ≤ (a : Int) + 1 := by omega
  have hcv : (s[a + 1].toNat : Int) = 34 := by rw [hc]; rfl
  have o0 : ((s[a + 1].toNat : Int) == 110) = false := by rw [hc]; rfl
  have o1 : ((s[a + 1].toNat : Int) == 116) = false := by rw [hc]; rfl
  have o2 : ((s[a + 1].toNat : Int) == 92) = false := by rw [hc]; rfl
  have o3 : ((s[a + 1].toNat : Int) == 39) = false := by rw [hc]; rfl
  have o4 : ((s[a + 1].toNat : Int) == 34) = true := by rw [hc]; rfl
  go_enter Tryz.func45, Tryz.ntmps45
  go_wp2
  (try simp only [Exit.inBlock, Exit.then]); refine bodyPost_ret (results_tmp3 rfl _ _ _) rfl ?_
  refine ⟨?_, 0, rfl⟩
  unfold escT
  simp only [if_true]
  first | rfl | (push_cast; rfl)

set_option maxHeartbeats 8000000 in
set_option maxRecDepth 100000 in
theorem resc_x (s : ByteArray) (a : Nat) (w : World) (hs : s.size ≤ 4000000000) (h : a + 1 < s.size) (hc : s[a + 1] = 120) :
    RescSaid s a w (if (hexR (s.data.toList.drop (a + 2))).isSome = true then ((hexR (s.data.toList.drop (a + 2))).getD 0, 3, 0) else (0, 1, 4)) := by
  have hll : s.data.toList.length = s.size := by simp
  unfold RescSaid
  have q1 : IntKind.i64.wrap ((a : Int) + 1) = (a : Int) + 1 := by simp only [IntKind.wrap]; simp [IntKind.signed, IntKind.bits]; omega
  have q2 : IntKind.i64.wrap ((a : Int) + 2) = (a : Int) + 2 := by simp only [IntKind.wrap]; simp [IntKind.signed, IntKind.bits]; omega
  have q3 : IntKind.i64.wrap ((a : Int) + 3) = (a : Int) + 3 := by simp only [IntKind.wrap]; simp [IntKind.signed, IntKind.bits]; omega
  have q4 : IntKind.i64.wrap ((a : Int) + 4) = (a : Int) + 4 := by simp only [IntKind.wrap]; simp [IntKind.signed, IntKind.bits]; omega
  have b1 : ¬ (s.size : Int) ≤ (a : Int) + 1 := by omega
  have b2 : (a : Int) + 1 < (s.size : Int) := by omega
  have b3 : 0 ≤ (a : Int) + 1 := by omega
  have o0 : ((s[a + 1].toNat : Int) == 110) = false := by rw [hc]; rfl
  have o1 : ((s[a + 1].toNat : Int) == 116) = false := by rw [hc]; rfl
  have o2 : ((s[a + 1].toNat : Int) == 92) = false := by rw [hc]; rfl
  have o3 : ((s[a + 1].toNat : Int) == 39) = false := by rw [hc]; rfl
  have o4 : ((s[a + 1].toNat : Int) == 34) = false := by rw [hc]; rfl
  have o9 : ((s[a + 1].toNat : Int) == 120) = true := by rw [hc]; rfl
  clear hc
  by_cases h3 : a + 3 < s.size
  · have hdr2 : s.data.toList.drop (a + 2) = s[a + 2] :: s[a + 3] :: s.data.toList.drop (a + 4) := by
      rw [List.drop_eq_getElem_cons (by omega), List.drop_eq_getElem_cons (i := a + 2 + 1) (by omega)]; rfl
    have hx : hexR (s.data.toList.drop (a + 2)) = pH 0 [s[a + 2], s[a + 3]] := by
      rw [hdr2]; unfold hexR; rw [if_neg (by simp)]; rfl
    rw [hx]
    clear hx hdr2
    have b4 : (a : Int) + 2 < (s.size : Int) := by omega
    have b5 : 0 ≤ (a : Int) + 2 := by omega
    have b6 : (a : Int) + 3 < (s.size : Int) := by omega
    have b7 : 0 ≤ (a : Int) + 3 := by omega
    have b8 : ¬ (s.size : Int) ≤ (a : Int) + 3 := by omega
    have x1 := fun w => rhex_any s[a + 2] w
    have x2 := fun w => rhex_any s[a + 3] w
    have hb1 := byte_bd3 s[a + 2]
    have hb2 := byte_bd3 s[a + 3]
    cases v1 : hxv s[a + 2] with
    | none =>
      rw [hxI_none v1] at x1
      have HR : Hid (pH 0 [s[a + 2], s[a + 3]] = none) := Lib.hid (pH_none v1)
      rw [HR.out]
      have X1 := Lib.hid x1
      clear x1 x2 v1
      go_enter Tryz.func45, Tryz.ntmps45
      go_wp2_with (go_at_call 57; (with_reducible refine (X1.out _).mono ?_); rintro e w1 ⟨rfl, rfl⟩)
      (try simp only [Exit.inBlock, Exit.then]); refine bodyPost_ret (results_tmp3 rfl _ _ _) rfl ?_
      exact ⟨rfl, 0, rfl⟩
    | some u =>
      have hu := hxv_lt v1
      rw [hxI_some v1] at x1
      have X1 := Lib.hid x1
      cases v2 : hxv s[a + 3] with
      | none =>
        rw [hxI_none v2] at x2
        have HR : Hid (pH 0 [s[a + 2], s[a + 3]] = none) := Lib.hid (by rw [pH_some v1]; exact pH_none v2)
        rw [HR.out]
        have X2 := Lib.hid x2
        have n1 : ¬ (u : Int) < 0 := by omega
        clear x1 x2 v1 v2
        go_enter Tryz.func45, Tryz.ntmps45
        go_wp2_with (first | (go_at_call 57; (with_reducible refine (X1.out _).mono ?_); rintro e w1 ⟨rfl, rfl⟩) | (go_at_call 57; (with_reducible refine (X2.out _).mono ?_); rintro e w1 ⟨rfl, rfl⟩))
        (try simp only [Exit.inBlock, Exit.then]); refine bodyPost_ret (results_tmp3 rfl _ _ _) rfl ?_
        exact ⟨rfl, 0, rfl⟩
      | some v =>
        have hv := hxv_lt v2
        rw [hxI_some v2] at x2
        have HR : Hid (pH 0 [s[a + 2], s[a + 3]] = some (16 * u + v)) := Lib.hid (by rw [pH_some v1, pH_some v2]; show some ((0 * 16 + u) * 16 + v) = _; congr 1; omega)
        rw [HR.out]
        have X2 := Lib.hid x2
        have n1 : ¬ (u : Int) < 0 := by omega
        have n2 : ¬ (v : Int) < 0 := by omega
        have Y1 := Lib.hid fun j => (x1 (w.drewN j)).mono (fun e w' (h : _ ∧ _) => (⟨h.1, j, h.2.symm⟩ : _ ∧ ∃ m, w' = w.drewN m))
        have Y2 := Lib.hid fun j => (x2 (w.drewN j)).mono (fun e w' (h : _ ∧ _) => (⟨h.1, j, h.2.symm⟩ : _ ∧ ∃ m, w' = w.drewN m))
        have t1 : IntKind.i64.wrap (16 * (u : Int)) = 16 * (u : Int) := by simp only [IntKind.wrap]; simp [IntKind.signed, IntKind.bits]; omega
        have t2 : IntKind.i64.wrap (16 * (u : Int) + (v : Int)) = 16 * (u : Int) + (v : Int) := by simp only [IntKind.wrap]; simp [IntKind.signed, IntKind.bits]; omega
        have t3 : IntKind.u8.wrap (16 * (u : Int) + (v : Int)) = 16 * (u : Int) + (v : Int) := by simp only [IntKind.wrap]; simp [IntKind.signed, IntKind.bits]; omega
        clear x1 x2 v1 v2
        go_enter Tryz.func45, Tryz.ntmps45
        go_upto_region 16 with (first | (go_at_call 57; (with_reducible refine (X1.out _).mono ?_); rintro e w1 ⟨rfl, rfl⟩) | (go_at_call 57; (with_reducible refine (X2.out _).mono ?_); rintro e w1 ⟨rfl, rfl⟩))
        go_wp2
        go_quiet (first | (go_at_call 57; with_reducible exact Y1.out _) | (go_at_call 57; with_reducible exact Y2.out _))
        go_wp2
        (try simp only [Exit.inBlock, Exit.then]); refine bodyPost_ret (results_tmp3 rfl _ _ _) rfl ?_
        refine ⟨?_, _, rfl⟩
        first | rfl | (unfold escT; simp only [Option.isSome_some, if_true, Option.getD_some]; rfl)
  · have b8 : (s.size : Int) ≤ (a : Int) + 3 := by omega
    have HR : Hid (hexR (s.data.toList.drop (a + 2)) = none) := Lib.hid (by unfold hexR; rw [if_pos (by rw [List.length_drop]; omega)])
    rw [HR.out]
    go_enter Tryz.func45, Tryz.ntmps45
    go_wp2
    (try simp only [Exit.inBlock, Exit.then]); refine bodyPost_ret (results_tmp3 rfl _ _ _) rfl ?_
    exact ⟨rfl, 0, rfl⟩
theorem dv_nil (acc : Nat) : dvF acc [] < (acc + 1) * 10 ^ ([] : List UInt8).length := by
  show acc < (acc + 1) * 1
  omega
theorem dv_cons (acc : Nat) (c : UInt8) (t : List UInt8) (hc : 48 ≤ c.toNat ∧ c.toNat ≤ 57) (h1 : dvF (acc * 10 + (c.toNat - 48)) t < (acc * 10 + (c.toNat - 48) + 1) * 10 ^ t.length) : dvF acc (c :: t) < (acc + 1) * 10 ^ (c :: t).length := by
    rw [List.length_cons, Nat.pow_succ]
    have e : dvF acc (c :: t) = dvF (acc * 10 + (c.toNat - 48)) t := rfl
    rw [e]
    generalize 10 ^ t.length = P at *
    generalize dvF (acc * 10 + (c.toNat - 48)) t = X at *
    have h2 : (acc * 10 + (c.toNat - 48) + 1) * P ≤ ((acc + 1) * 10) * P := Nat.mul_le_mul_right P (by omega)
    have h3 : (acc + 1) * (P * 10) = ((acc + 1) * 10) * P := by rw [Nat.mul_comm P 10, Nat.mul_assoc]
    rw [h3]
    exact Nat.lt_of_lt_of_le h1 h2
theorem dv_bd (l : List UInt8) : ∀ acc : Nat, (∀ c ∈ l, dgt c = true) → dvF acc l < (acc + 1) * 10 ^ l.length := by
  induction l with
  | nil => intro acc _; exact dv_nil acc
  | cons c t ih =>
    intro acc h
    have hc : 48 ≤ c.toNat ∧ c.toNat ≤ 57 := of_decide_eq_true (h c (List.mem_cons_self ..))
    exact dv_cons acc c t hc (ih _ (fun d hd => h d (List.mem_cons_of_mem _ hd)))

set_option maxHeartbeats 8000000 in
set_option maxRecDepth 100000 in
theorem resc_dec (s : ByteArray) (a : Nat) (w : World) (hs : s.size ≤ 4000000000) (h : a + 1 < s.size) (n0 : s[a + 1] ≠ 110) (n1 : s[a + 1] ≠ 116) (n2 : s[a + 1] ≠ 92) (n3 : s[a + 1] ≠ 39) (n4 : s[a + 1] ≠ 34) (n9 : s[a + 1] ≠ 120) :
    RescSaid s a w (if dn (s.data.toList.drop (a + 1)) = 0 then (0, 0, 4) else if decV (s.data.toList.drop (a + 1)) ≤ 255 then (decV (s.data.toList.drop (a + 1)), dn (s.data.toList.drop (a + 1)), 0) else (0, 0, 6)) := by
  have hll : s.data.toList.length = s.size := by simp
  unfold RescSaid
  have q1 : IntKind.i64.wrap ((a : Int) + 1) = (a : Int) + 1 := by simp only [IntKind.wrap]; simp [IntKind.signed, IntKind.bits]; omega
  have q2 : IntKind.i64.wrap ((a : Int) + 2) = (a : Int) + 2 := by simp only [IntKind.wrap]; simp [IntKind.signed, IntKind.bits]; omega
  have q3 : IntKind.i64.wrap ((a : Int) + 3) = (a : Int) + 3 := by simp only [IntKind.wrap]; simp [IntKind.signed, IntKind.bits]; omega
  have q4 : IntKind.i64.wrap ((a : Int) + 4) = (a : Int) + 4 := by simp only [IntKind.wrap]; simp [IntKind.signed, IntKind.bits]; omega
  have b1 : ¬ (s.size : Int) ≤ (a : Int) + 1 := by omega
  have b2 : (a : Int) + 1 < (s.size : Int) := by omega
  have b3 : 0 ≤ (a : Int) + 1 := by omega
  have o0 : ((s[a + 1].toNat : Int) == 110) = false := ne2 s[a + 1] 110 (by decide) n0
  have o1 : ((s[a + 1].toNat : Int) == 116) = false := ne2 s[a + 1] 116 (by decide) n1
  have o2 : ((s[a + 1].toNat : Int) == 92) = false := ne2 s[a + 1] 92 (by decide) n2
  have o3 : ((s[a + 1].toNat : Int) == 39) = false := ne2 s[a + 1] 39 (by decide) n3
  have o4 : ((s[a + 1].toNat : Int) == 34) = false := ne2 s[a + 1] 34 (by decide) n4
  have o9 : ((s[a + 1].toNat : Int) == 120) = false := ne2 s[a + 1] 120 (by decide) n9
  obtain ⟨D, hD⟩ : ∃ D, dn (s.data.toList.drop (a + 1)) = D := ⟨_, rfl⟩
  obtain ⟨N, hN⟩ : ∃ N, decV (s.data.toList.drop (a + 1)) = N := ⟨_, rfl⟩
  rw [hD, hN]
  have hN0 : dvF 0 ((s.data.toList.drop (a + 1)).take D) = N := by rw [← hD]; exact hN
  have hD0 : cntP dgt ((s.data.toList.drop (a + 1)).take 3) = D := hD
  have hD3 : D ≤ 3 := by rw [← hD0]; have := cntP_le dgt ((s.data.toList.drop (a + 1)).take 3); rw [List.length_take] at this; omega
  have hDall : ∀ c ∈ (s.data.toList.drop (a + 1)).take D, dgt c = true := fun c hc => by
    have := cntP_take dgt ((s.data.toList.drop (a + 1)).take 3) c
    rw [hD0, List.take_take, show min D 3 = D by omega] at this
    exact this hc
  have hNb : N < 1000 := by
    have h1 := dv_bd _ 0 hDall
    rw [hN0] at h1
    have hl : ((s.data.toList.drop (a + 1)).take D).length ≤ 3 := by rw [List.length_take]; omega
    have h2 := Nat.pow_le_pow_right (show 0 < 10 by decide) hl
    omega
  obtain ⟨r, hr⟩ : ∃ r : Nat × Nat × Int, (if D = 0 then (0, 0, 4) else if N ≤ 255 then (N, D, 0) else (0, 0, 6)) = r := ⟨_, rfl⟩
  rw [hr]
  have HR := Lib.hid hr
  clear hr
  have HN0 := Lib.hid hN0
  have HD0 : Hid (a + 1 + cntP dgt ((s.data.toList.drop (a + 1)).take (a + 4 - (a + 1))) = a + 1 + D) := Lib.hid (by rw [show a + 4 - (a + 1) = 3 by omega, hD0])
  clear hD hN hN0 hD0 n0 n1 n2 n3 n4 n9
  go_enter Tryz.func45, Tryz.ntmps45
  go_wp2
  go_loop [8, 9] (fun v8 v9 => ∃ (k acc : Nat), a + 1 ≤ k ∧ k ≤ a + 1 + D ∧ k ≤ s.size ∧ acc ≤ N ∧ v8 = .int .i64 (acc : Int) ∧ v9 = .int .i64 (k : Int) ∧ Hid (k + cntP dgt ((s.data.toList.drop k).take (a + 4 - k)) = a + 1 + D) ∧ Hid (dvF acc ((s.data.toList.drop k).take (a + 1 + D - k)) = N)) (fun _ v9 => s.size - (intOf v9).toNat)
  case atStart => exact ⟨a + 1, 0, Nat.le_refl _, by omega, by omega, Nat.zero_le _, rfl, by first | rfl | go_num, HD0, Lib.hid (by rw [show a + 1 + D - (a + 1) = D by omega]; exact HN0.out)⟩
  case round =>
    obtain ⟨k, acc, hk1, hk2, hks, hacc, rfl, rfl, HC, HV⟩ := hrel
    by_cases hkl : k < s.size ∧ k < a + 4 ∧ dgt (s.data.toList.getD k 0) = true
    · obtain ⟨h1, h2, h3⟩ := hkl
      have h1' : (k : Int) < (s.size : Int) := by omega
      have h2' : (k : Int) < (a : Int) + 4 := by omega
      have hk0 : 0 ≤ (k : Int) := by omega
      have hdr : s.data.toList.drop k = s[k] :: s.data.toList.drop (k + 1) := by rw [List.drop_eq_getElem_cons (by omega)]; rfl
      have hgd : s.data.toList.getD k 0 = s[k] := by rw [List.getD_eq_getElem?_getD, List.getElem?_eq_getElem (by omega)]; rfl
      rw [hgd] at h3
      have hc := HC.out
      rw [hdr, show a + 4 - k = (a + 4 - (k + 1)) + 1 by omega, List.take_succ_cons, cntP_yes h3] at hc
      have hv := HV.out
      rw [hdr, show a + 1 + D - k = (a + 1 + D - (k + 1)) + 1 by omega, List.take_succ_cons] at hv
      have hcb : 48 ≤ s[k].toNat ∧ s[k].toNat ≤ 57 := of_decide_eq_true h3
      have HC2 : Hid (k + 1 + cntP dgt ((s.data.toList.drop (k + 1)).take (a + 4 - (k + 1))) = a + 1 + D) := Lib.hid (by omega)
      obtain ⟨acc2, ha2⟩ : ∃ acc2, acc * 10 + (s[k].toNat - 48) = acc2 := ⟨_, rfl⟩
      have hv2 : dvF acc2 ((s.data.toList.drop (k + 1)).take (a + 1 + D - (k + 1))) = N := by rw [← ha2]; exact hv
      have hge := dvF_ge ((s.data.toList.drop (k + 1)).take (a + 1 + D - (k + 1))) acc2
      rw [hv2] at hge
      have HV2 := Lib.hid hv2
      have D1 := Lib.hid fun w => (show Calls Tryz.prog 27 #[.int .u8 (s[k].toNat : Int)] w fun e w' => e = .returned (.bool true) ∧ w = w' from by have := rdigit3_any s[k] w; rw [h3] at this; exact this)
      have u1 : IntKind.u8.wrap ((s[k].toNat : Int) - 48) = (s[k].toNat : Int) - 48 := by simp only [IntKind.wrap]; simp [IntKind.signed, IntKind.bits]; omega
      have u2 : 0 ≤ (s[k].toNat : Int) - 48 := by omega
      have u3 : (s[k].toNat : Int) - 48 ≤ 9 := by omega
      have u4 : IntKind.i64.wrap (10 * (acc : Int)) = 10 * (acc : Int) := by simp only [IntKind.wrap]; simp [IntKind.signed, IntKind.bits]; omega
      have u5 : 10 * (acc : Int) + ((s[k].toNat : Int) - 48) = (acc2 : Int) := by omega
      have u6 : IntKind.i64.wrap (acc2 : Int) = (acc2 : Int) := by simp only [IntKind.wrap]; simp [IntKind.signed, IntKind.bits]; omega
      have u7 : IntKind.i64.wrap (10 * (acc : Int) + ((s[k].toNat : Int) - 48)) = (acc2 : Int) := by rw [u5]; exact u6
      clear HC HV hc hv hv2 hdr hgd h3 ha2
      go_wp2_with (go_at_call 27; (with_reducible refine (D1.out _).mono ?_); rintro e w1 ⟨rfl, rfl⟩)
      go_round
      case rel => exact ⟨k + 1, acc2, by omega, by have := HC2.out; omega, by omega, by omega, by first | rfl | go_num, by go_num, HC2, HV2⟩
      case measure => simp [intOf]; omega
    · have hstop : cntP dgt ((s.data.toList.drop k).take (a + 4 - k)) = 0 := by
        by_cases h1 : k < s.size
        · by_cases h2 : k < a + 4
          · have hdr : s.data.toList.drop k = s[k] :: s.data.toList.drop (k + 1) := by rw [List.drop_eq_getElem_cons (by omega)]; rfl
            have hgd : s.data.toList.getD k 0 = s[k] := by rw [List.getD_eq_getElem?_getD, List.getElem?_eq_getElem (by omega)]; rfl
            rw [hdr, show a + 4 - k = (a + 4 - (k + 1)) + 1 by omega, List.take_succ_cons]
            refine cntP_no ?_
            cases hd : dgt s[k] with
            | false => rfl
            | true => exact absurd ⟨h1, h2, by rw [hgd]; exact hd⟩ hkl
          · rw [show a + 4 - k = 0 by omega, List.take_zero]; rfl
        · rw [List.drop_eq_nil_of_le (by omega)]; simp [cntP]
      have hkD : k = a + 1 + D := by have := HC.out; omega
      have hNa : acc = N := by
        have := HV.out
        rw [hkD, Nat.sub_self, List.take_zero] at this
        exact this
      subst hNa
      have HK := Lib.hid hkD
      have hc9 : IntKind.u8.wrap (acc : Int) = if (acc : Int) ≤ 255 then (acc : Int) else IntKind.u8.wrap (acc : Int) := by
        split
        · simp only [IntKind.wrap]; simp [IntKind.signed, IntKind.bits]; omega
        · rfl
      clear HC HV
      clear hkD
      by_cases h1 : k < s.size
      · have h1' : (k : Int) < (s.size : Int) := by omega
        have hk0 : 0 ≤ (k : Int) := by omega
        by_cases h2 : k < a + 4
        · have h2' : (k : Int) < (a : Int) + 4 := by omega
          have hgd : s.data.toList.getD k 0 = s[k] := by rw [List.getD_eq_getElem?_getD, List.getElem?_eq_getElem (by omega)]; rfl
          have hdf : dgt s[k] = false := by
            cases hd : dgt s[k] with
            | false => rfl
            | true => exact absurd ⟨h1, h2, by rw [hgd]; exact hd⟩ hkl
          have D1 := Lib.hid fun w => (show Calls Tryz.prog 27 #[.int .u8 (s[k].toNat : Int)] w fun e w' => e = .returned (.bool false) ∧ w = w' from by have := rdigit3_any s[k] w; rw [hdf] at this; exact this)
          clear hkl hstop hgd hdf
          by_cases hd0 : D = 0
          · have e1 : ((k : Int) == (a : Int) + 1) = true := by have := HK.out; rw [beq_iff_eq]; omega
            have HF : Hid (r = (0, 0, 4)) := Lib.hid (by rw [← HR.out, if_pos hd0])
            clear hc9 HR
            go_wp2_with (go_at_call 27; (with_reducible refine (D1.out _).mono ?_); rintro e w1 ⟨rfl, rfl⟩)
            (try simp only [Exit.inBlock, Exit.then]); refine bodyPost_ret (results_tmp3 rfl _ _ _) rfl ?_
            rw [HF.out]
            exact ⟨rfl, 0, rfl⟩
          have e1 : ((k : Int) == (a : Int) + 1) = false := by have := HK.out; rw [beq_eq_false_iff_ne]; omega
          by_cases h255 : acc ≤ 255
          · have e2 : ¬ 255 < (acc : Int) := by omega
            have HF : Hid (r = (acc, D, 0)) := Lib.hid (by rw [← HR.out, if_neg hd0, if_pos h255])
            rw [if_pos (by omega : (acc : Int) ≤ 255)] at hc9
            clear HR
            go_wp2_with (go_at_call 27; (with_reducible refine (D1.out _).mono ?_); rintro e w1 ⟨rfl, rfl⟩)
            (try simp only [Exit.inBlock, Exit.then]); refine bodyPost_ret (results_tmp3 rfl _ _ _) rfl ?_
            rw [HF.out]
            refine ⟨?_, 0, rfl⟩
            unfold escT
            simp only [if_true]
            rw [← HK.out]
            rfl
          · have e2 : 255 < (acc : Int) := by omega
            have HF : Hid (r = (0, 0, 6)) := Lib.hid (by rw [← HR.out, if_neg hd0, if_neg h255])
            clear hc9 HR
            go_wp2_with (go_at_call 27; (with_reducible refine (D1.out _).mono ?_); rintro e w1 ⟨rfl, rfl⟩)
            (try simp only [Exit.inBlock, Exit.then]); refine bodyPost_ret (results_tmp3 rfl _ _ _) rfl ?_
            rw [HF.out]
            exact ⟨rfl, 0, rfl⟩
        · have h2' : ¬ (k : Int) < (a : Int) + 4 := by omega
          clear hkl hstop
          by_cases hd0 : D = 0
          · have e1 : ((k : Int) == (a : Int) + 1) = true := by have := HK.out; rw [beq_iff_eq]; omega
            have HF : Hid (r = (0, 0, 4)) := Lib.hid (by rw [← HR.out, if_pos hd0])
            clear hc9 HR
            go_wp2
            (try simp only [Exit.inBlock, Exit.then]); refine bodyPost_ret (results_tmp3 rfl _ _ _) rfl ?_
            rw [HF.out]
            exact ⟨rfl, 0, rfl⟩
          have e1 : ((k : Int) == (a : Int) + 1) = false := by have := HK.out; rw [beq_eq_false_iff_ne]; omega
          by_cases h255 : acc ≤ 255
          · have e2 : ¬ 255 < (acc : Int) := by omega
            have HF : Hid (r = (acc, D, 0)) := Lib.hid (by rw [← HR.out, if_neg hd0, if_pos h255])
            rw [if_pos (by omega : (acc : Int) ≤ 255)] at hc9
            clear HR
            go_wp2
            (try simp only [Exit.inBlock, Exit.then]); refine bodyPost_ret (results_tmp3 rfl _ _ _) rfl ?_
            rw [HF.out]
            refine ⟨?_, 0, rfl⟩
            unfold escT
            simp only [if_true]
            rw [← HK.out]
            rfl
          · have e2 : 255 < (acc : Int) := by omega
            have HF : Hid (r = (0, 0, 6)) := Lib.hid (by rw [← HR.out, if_neg hd0, if_neg h255])
            clear hc9 HR
            go_wp2
            (try simp only [Exit.inBlock, Exit.then]); refine bodyPost_ret (results_tmp3 rfl _ _ _) rfl ?_
            rw [HF.out]
            exact ⟨rfl, 0, rfl⟩
      · have h1' : ¬ (k : Int) < (s.size : Int) := by omega
        clear hkl hstop
        by_cases hd0 : D = 0
        · have e1 : ((k : Int) == (a : Int) + 1) = true := by have := HK.out; rw [beq_iff_eq]; omega
          have HF : Hid (r = (0, 0, 4)) := Lib.hid (by rw [← HR.out, if_pos hd0])
          clear hc9 HR
          go_wp2
          (try simp only [Exit.inBlock, Exit.then]); refine bodyPost_ret (results_tmp3 rfl _ _ _) rfl ?_
          rw [HF.out]
          exact ⟨rfl, 0, rfl⟩
        have e1 : ((k : Int) == (a : Int) + 1) = false := by have := HK.out; rw [beq_eq_false_iff_ne]; omega
        by_cases h255 : acc ≤ 255
        · have e2 : ¬ 255 < (acc : Int) := by omega
          have HF : Hid (r = (acc, D, 0)) := Lib.hid (by rw [← HR.out, if_neg hd0, if_pos h255])
          rw [if_pos (by omega : (acc : Int) ≤ 255)] at hc9
          clear HR
          go_wp2
          (try simp only [Exit.inBlock, Exit.then]); refine bodyPost_ret (results_tmp3 rfl _ _ _) rfl ?_
          rw [HF.out]
          refine ⟨?_, 0, rfl⟩
          unfold escT
          simp only [if_true]
          rw [← HK.out]
          rfl
        · have e2 : 255 < (acc : Int) := by omega
          have HF : Hid (r = (0, 0, 6)) := Lib.hid (by rw [← HR.out, if_neg hd0, if_neg h255])
          clear hc9 HR
          go_wp2
          (try simp only [Exit.inBlock, Exit.then]); refine bodyPost_ret (results_tmp3 rfl _ _ _) rfl ?_
          rw [HF.out]
          exact ⟨rfl, 0, rfl⟩

/-- What the reference's escape says: as the code's, but for the bytes that are read where there is an error. -/
theorem rescape_any (s : ByteArray) (a : Nat) (w : World) (hs : s.size ≤ 4000000000) (ha : a < s.size) :
    RescSaid s a w (escR (s.data.toList.drop (a + 1))) := by
  have hll : s.data.toList.length = s.size := by simp
  by_cases h : a + 1 < s.size
  · have hdr : s.data.toList.drop (a + 1) = s[a + 1] :: s.data.toList.drop (a + 2) := by rw [List.drop_eq_getElem_cons (by omega)]; rfl
    have said : ∀ r r' : Nat × Nat × Int, r.1 = r'.1 → r.2.2 = r'.2.2 → (r.2.2 = 0 → r.2.1 = r'.2.1) → RescSaid s a w r → RescSaid s a w r' := by
      intro r r' e1 e2 e3 hh
      have : escT a r = escT a r' := by
        unfold escT
        rw [e1, e2]
        by_cases h0 : r'.2.2 = 0
        · rw [if_pos h0, if_pos h0, e3 (e2.trans h0)]
        · rw [if_neg h0, if_neg h0]
      unfold RescSaid at hh ⊢
      rw [← this]; exact hh
    have D := fun n0 n1 n2 n3 n4 n9 => resc_dec s a w hs h n0 n1 n2 n3 n4 n9
    rw [hdr] at D ⊢
    unfold escR
    simp only []
    cases hd : dgt s[a + 1] with
    | true =>
      have hcb : 48 ≤ s[a + 1].toNat ∧ s[a + 1].toNat ≤ 57 := of_decide_eq_true hd
      have nx : ∀ n : Nat, 57 < n ∨ n < 48 → n < 256 → s[a + 1] ≠ UInt8.ofNat n := fun n hn hl e => by rw [e] at hcb; simp at hcb; omega
      have D2 := D (nx 110 (by omega) (by omega)) (nx 116 (by omega) (by omega)) (nx 92 (by omega) (by omega)) (nx 39 (by omega) (by omega)) (nx 34 (by omega) (by omega)) (nx 120 (by omega) (by omega))
      have hdn : dn (s[a + 1] :: s.data.toList.drop (a + 2)) ≠ 0 := by
        unfold dn; rw [List.take_succ_cons, cntP_yes hd]; omega
      rw [if_neg hdn] at D2
      rw [if_pos rfl]
      by_cases hv : decV (s[a + 1] :: s.data.toList.drop (a + 2)) ≤ 255
      · rw [if_pos hv] at D2 ⊢; exact D2
      · rw [if_neg hv] at D2 ⊢
        exact said _ _ rfl rfl (fun h => absurd h (show (6 : Int) ≠ 0 by decide)) D2
    | false =>
      rw [if_neg (by simp)]
      by_cases n0 : s[a + 1] = 110
      · rw [if_pos n0]; exact resc_110 s a w hs h n0
      rw [if_neg n0]
      by_cases n1 : s[a + 1] = 116
      · rw [if_pos n1]; exact resc_116 s a w hs h n1
      rw [if_neg n1]
      by_cases n2 : s[a + 1] = 92
      · rw [if_pos n2]; exact resc_92 s a w hs h n2
      rw [if_neg n2]
      by_cases n3 : s[a + 1] = 39
      · rw [if_pos n3]; exact resc_39 s a w hs h n3
      rw [if_neg n3]
      by_cases n4 : s[a + 1] = 34
      · rw [if_pos n4]; exact resc_34 s a w hs h n4
      rw [if_neg n4]
      by_cases n9 : s[a + 1] = 120
      · rw [if_pos n9]; exact resc_x s a w hs h n9
      rw [if_neg n9]
      have D2 := D n0 n1 n2 n3 n4 n9
      have hdn : dn (s[a + 1] :: s.data.toList.drop (a + 2)) = 0 := by
        unfold dn; rw [List.take_succ_cons, cntP_no hd]
      rw [if_pos hdn] at D2
      exact said _ _ rfl rfl (fun h => absurd h (show (4 : Int) ≠ 0 by decide)) D2
  · rw [List.drop_eq_nil_of_le (by omega)]
    exact resc_end s a w hs (by omega) ha
end Go.Proofs.YtbcbddglgfakpaaGreatDoor
