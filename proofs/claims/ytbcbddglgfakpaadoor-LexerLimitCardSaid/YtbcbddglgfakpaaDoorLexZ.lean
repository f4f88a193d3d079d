/- Contracts of layer 3: escapes. -/
import Derived.Test.YtbcbddglgfakpaaDoorLexY
namespace Go.Proofs.YtbcbddglgfakpaaDoor
open Go.RowKit M3
set_option linter.unusedVariables false
/-- What an escape is: the bytes behind the backslash; its byte, how many bytes are read, its error. -/
def escR (l : List UInt8) : Nat × Nat × Int := match l with
  | [] => (0, 0, 4)
  | c :: t =>
    if dgt c = true then (if decV (c :: t) ≤ 255 then (decV (c :: t), dn (c :: t), 0) else (0, dn (c :: t), 6))
    else if c = 110 then (10, 1, 0) else if c = 116 then (9, 1, 0) else if c = 92 then (92, 1, 0) else if c = 39 then (39, 1, 0) else if c = 34 then (34, 1, 0)
    else if c = 120 then (if (hexR t).isSome = true then ((hexR t).getD 0, 3, 0) else (0, 1, 4))
    else (0, 1, 4)
def EscSaid (b : Nat) (s : ByteArray) (m ln : Nat) (w : World) (r : Nat × Nat × Int) : Prop :=
  Calls Tryd.prog 59 #[.pointer (some ⟨b, 0, none⟩)] w fun e w' => e = .returned (.tuple #[.int .u8 (r.1 : Int), .int .i64 r.2.2]) ∧ Sc b s (m + r.2.1) ln w' ∧ w.grownBy w' (some b)

set_option maxHeartbeats 4000000 in
set_option maxRecDepth 100000 in
theorem esc_end (b : Nat) (s : ByteArray) (a m ln : Nat) (w : World) (hm : a + 1 = m) (hs : s.size ≤ 70000) (ha : m ≤ s.size) (hSc : Sc b s a ln w) (hE : Vrs w) (h0 : m = s.size) :
    EscSaid b s m ln w (0, 0, 4) := by
  unfold EscSaid
  have k0 := hSc.c0
  have k1 := hSc.c1
  have f1 := hSc.fz 1
  have hw : IntKind.i64.wrap ((a : Int) + 1) = (m : Int) := by simp only [IntKind.wrap]; simp [IntKind.signed, IntKind.bits]; omega
  have ha1 : (a : Int) + 1 = (m : Int) := by omega
  have hq : ((m : Int) == (s.size : Int)) = true := by rw [beq_iff_eq]; omega
  go_enter Tryd.func59, Tryd.ntmps59
  go_wp2
  go_name_world V hV
  have hsv : Sc b s m ln V := by rw [← hV]; exact hSc.set1 m _ (by first | rfl | (congr 1; omega))
  have hgv : w.grownBy V (some b) := by rw [← hV]; exact grow_set (World.grownBy.refl _ _) _ _
  have HS := Lib.hid fun n1 => hsv.drewN n1
  have HG := Lib.hid fun n1 => grow_drewN hgv n1
  have HE := Lib.hid fun (W : World) (h : W.heap = V.heap) => (hE.kept hgv (fun b' e => by cases e; exact ⟨_, _, _, hSc⟩)).heap h
  clear hV k0 k1 f1 hw
  have k0 := hsv.c0
  have k1 := hsv.c1
  have f1 := hsv.fz 1
  clear hgv
  go_quiet (fail)
  go_wp2
  go_ret2
  exact ⟨rfl, HS.out _, HG.out _⟩

set_option maxHeartbeats 4000000 in
set_option maxRecDepth 100000 in
theorem esc_dec (b : Nat) (s : ByteArray) (a m ln : Nat) (w : World) (hm : a + 1 = m) (hs : s.size ≤ 70000) (ha : m ≤ s.size) (hSc : Sc b s a ln w) (hE : Vrs w) (h0 : m < s.size) (hd : dgt s[m] = true) (v n : Nat) (E : Int) (HDC : Hid (∀ W, Sc b s m ln W → Vrs W → Calls Tryd.prog 67 #[.pointer (some ⟨b, 0, none⟩)] W fun e w' => e = .returned (.tuple #[.int .u8 (v : Int), .int .i64 E]) ∧ Sc b s (m + n) ln w' ∧ W.grownBy w' (some b))) :
    EscSaid b s m ln w (v, n, E) := by
  unfold EscSaid
  have k0 := hSc.c0
  have k1 := hSc.c1
  have f1 := hSc.fz 1
  have hw : IntKind.i64.wrap ((a : Int) + 1) = (m : Int) := by simp only [IntKind.wrap]; simp [IntKind.signed, IntKind.bits]; omega
  have ha1 : (a : Int) + 1 = (m : Int) := by omega
  have hq : ((m : Int) == (s.size : Int)) = false := by rw [beq_eq_false_iff_ne]; omega
  have hlt : (m : Int) < (s.size : Int) := by omega
  have hm0 : 0 ≤ (m : Int) := by omega
  have HD := Lib.hid fun w => (show Calls _ _ _ _ _ from by have := digit3_any s[m] w; rw [hd] at this; exact this)
  go_enter Tryd.func59, Tryd.ntmps59
  go_wp2
  go_name_world V hV
  have hsv : Sc b s m ln V := by rw [← hV]; exact hSc.set1 m _ (by first | rfl | (congr 1; omega))
  have hgv : w.grownBy V (some b) := by rw [← hV]; exact grow_set (World.grownBy.refl _ _) _ _
  have HS := Lib.hid fun n1 => hsv.drewN n1
  have HG := Lib.hid fun n1 => grow_drewN hgv n1
  have HE := Lib.hid fun (W : World) (h : W.heap = V.heap) => (hE.kept hgv (fun b' e => by cases e; exact ⟨_, _, _, hSc⟩)).heap h
  clear hV k0 k1 f1 hw
  have k0 := hsv.c0
  have k1 := hsv.c1
  have f1 := hsv.fz 1
  clear hgv
  go_quiet (fail)
  go_wp2
  go_quiet (fail)
  go_wp2_with (first | (go_at_call 31; (with_reducible refine (HD.out _).mono ?_); rintro e w3 ⟨rfl, rfl⟩) | (go_at_call 67; (with_reducible refine (HDC.out _ ?_ ?_).mono ?_); exact HS.out _; exact HE.out _ (by simp [World.heap_drewN]); rintro e w4 ⟨rfl, h4, g4⟩))
  go_ret2
  exact ⟨rfl, h4, World.grownBy.trans (HG.out _) g4⟩

set_option maxHeartbeats 4000000 in
set_option maxRecDepth 100000 in
theorem esc_n (b : Nat) (s : ByteArray) (a m ln : Nat) (w : World) (hm : a + 1 = m) (hs : s.size ≤ 70000) (ha : m ≤ s.size) (hSc : Sc b s a ln w) (hE : Vrs w) (h0 : m < s.size) (hd : dgt s[m] = false) (hc : s[m] = 110) :
    EscSaid b s m ln w (10, 1, 0) := by
  unfold EscSaid
  have k0 := hSc.c0
  have k1 := hSc.c1
  have f1 := hSc.fz 1
  have hw : IntKind.i64.wrap ((a : Int) + 1) = (m : Int) := by simp only [IntKind.wrap]; simp [IntKind.signed, IntKind.bits]; omega
  have ha1 : (a : Int) + 1 = (m : Int) := by omega
  have hq : ((m : Int) == (s.size : Int)) = false := by rw [beq_eq_false_iff_ne]; omega
  have hlt : (m : Int) < (s.size : Int) := by omega
  have hm0 : 0 ≤ (m : Int) := by omega
  have HD := Lib.hid fun w => (show Calls _ _ _ _ _ from by have := digit3_any s[m] w; rw [hd] at this; exact this)
  have hcb := byte_bd3 s[m]
  have hcc : (s[m].toNat : Int) = 110 := by rw [hc]; rfl
  go_enter Tryd.func59, Tryd.ntmps59
  go_wp2
  go_name_world V hV
  have hsv : Sc b s m ln V := by rw [← hV]; exact hSc.set1 m _ (by first | rfl | (congr 1; omega))
  have hgv : w.grownBy V (some b) := by rw [← hV]; exact grow_set (World.grownBy.refl _ _) _ _
  have HS := Lib.hid fun n1 => hsv.drewN n1
  have HG := Lib.hid fun n1 => grow_drewN hgv n1
  have HE := Lib.hid fun (W : World) (h : W.heap = V.heap) => (hE.kept hgv (fun b' e => by cases e; exact ⟨_, _, _, hSc⟩)).heap h
  clear hV k0 k1 f1 hw
  have k0 := hsv.c0
  have k1 := hsv.c1
  have f1 := hsv.fz 1
  clear hgv
  rw [hcc] at HD
  go_quiet (fail)
  go_wp2
  go_quiet (fail)
  go_wp2_with ((go_at_call 31; (with_reducible refine (HD.out _).mono ?_); rintro e w3 ⟨rfl, rfl⟩))
  go_ret2
  exact ⟨rfl, (HS.out _).set1 (m + 1) _ (by push_cast; rfl), grow_set (HG.out _) _ _⟩

set_option maxHeartbeats 4000000 in
set_option maxRecDepth 100000 in
theorem esc_t (b : Nat) (s : ByteArray) (a m ln : Nat) (w : World) (hm : a + 1 = m) (hs : s.size ≤ 70000) (ha : m ≤ s.size) (hSc : Sc b s a ln w) (hE : Vrs w) (h0 : m < s.size) (hd : dgt s[m] = false) (hc : s[m] = 116) :
    EscSaid b s m ln w (9, 1, 0) := by
  unfold EscSaid
  have k0 := hSc.c0
  have k1 := hSc.c1
  have f1 := hSc.fz 1
  have hw : IntKind.i64.wrap ((a : Int) + 1) = (m : Int) := by simp only [IntKind.wrap]; simp [IntKind.signed, IntKind.bits]; omega
  have ha1 : (a : Int) + 1 = (m : Int) := by omega
  have hq : ((m : Int) == (s.size : Int)) = false := by rw [beq_eq_false_iff_ne]; omega
  have hlt : (m : Int) < (s.size : Int) := by omega
  have hm0 : 0 ≤ (m : Int) := by omega
  have HD := Lib.hid fun w => (show Calls _ _ _ _ _ from by have := digit3_any s[m] w; rw [hd] at this; exact this)
  have hcb := byte_bd3 s[m]
  have hcc : (s[m].toNat : Int) = 116 := by rw [hc]; rfl
  go_enter Tryd.func59, Tryd.ntmps59
  go_wp2
  go_name_world V hV
  have hsv : Sc b s m ln V := by rw [← hV]; exact hSc.set1 m _ (by first | rfl | (congr 1; omega))
  have hgv : w.grownBy V (some b) := by rw [← hV]; exact grow_set (World.grownBy.refl _ _) _ _
  have HS := Lib.hid fun n1 => hsv.drewN n1
  have HG := Lib.hid fun n1 => grow_drewN hgv n1
  have HE := Lib.hid fun (W : World) (h : W.heap = V.heap) => (hE.kept hgv (fun b' e => by cases e; exact ⟨_, _, _, hSc⟩)).heap h
  clear hV k0 k1 f1 hw
  have k0 := hsv.c0
  have k1 := hsv.c1
  have f1 := hsv.fz 1
  clear hgv
  rw [hcc] at HD
  go_quiet (fail)
  go_wp2
  go_quiet (fail)
  go_wp2_with ((go_at_call 31; (with_reducible refine (HD.out _).mono ?_); rintro e w3 ⟨rfl, rfl⟩))
  go_ret2
  exact ⟨rfl, (HS.out _).set1 (m + 1) _ (by push_cast; rfl), grow_set (HG.out _) _ _⟩

set_option maxHeartbeats 4000000 in
set_option maxRecDepth 100000 in
theorem esc_b (b : Nat) (s : ByteArray) (a m ln : Nat) (w : World) (hm : a + 1 = m) (hs : s.size ≤ 70000) (ha : m ≤ s.size) (hSc : Sc b s a ln w) (hE : Vrs w) (h0 : m < s.size) (hd : dgt s[m] = false) (hc : s[m] = 92) :
    EscSaid b s m ln w (92, 1, 0) := by
  unfold EscSaid
  have k0 := hSc.c0
  have k1 := hSc.c1
  have f1 := hSc.fz 1
  have hw : IntKind.i64.wrap ((a : Int) + 1) = (m : Int) := by simp only [IntKind.wrap]; simp [IntKind.signed, IntKind.bits]; omega
  have ha1 : (a : Int) + 1 = (m : Int) := by omega
  have hq : ((m : Int) == (s.size : Int)) = false := by rw [beq_eq_false_iff_ne]; omega
  have hlt : (m : Int) < (s.size : Int) := by omega
  have hm0 : 0 ≤ (m : Int) := by omega
  have HD := Lib.hid fun w => (show Calls _ _ _ _ _ from by have := digit3_any s[m] w; rw [hd] at this; exact this)
  have hcb := byte_bd3 s[m]
  have hcc : (s[m].toNat : Int) = 92 := by rw [hc]; rfl
  go_enter Tryd.func59, Tryd.ntmps59
  go_wp2
  go_name_world V hV
  have hsv : Sc b s m ln V := by rw [← hV]; exact hSc.set1 m _ (by first | rfl | (congr 1; omega))
  have hgv : w.grownBy V (some b) := by rw [← hV]; exact grow_set (World.grownBy.refl _ _) _ _
  have HS := Lib.hid fun n1 => hsv.drewN n1
  have HG := Lib.hid fun n1 => grow_drewN hgv n1
  have HE := Lib.hid fun (W : World) (h : W.heap = V.heap) => (hE.kept hgv (fun b' e => by cases e; exact ⟨_, _, _, hSc⟩)).heap h
  clear hV k0 k1 f1 hw
  have k0 := hsv.c0
  have k1 := hsv.c1
  have f1 := hsv.fz 1
  clear hgv
  rw [hcc] at HD
  go_quiet (fail)
  go_wp2
  go_quiet (fail)
  go_wp2_with ((go_at_call 31; (with_reducible refine (HD.out _).mono ?_); rintro e w3 ⟨rfl, rfl⟩))
  go_ret2
  exact ⟨rfl, (HS.out _).set1 (m + 1) _ (by push_cast; rfl), grow_set (HG.out _) _ _⟩

set_option maxHeartbeats 4000000 in
set_option maxRecDepth 100000 in
theorem esc_q (b : Nat) (s : ByteArray) (a m ln : Nat) (w : World) (hm : a + 1 = m) (hs : s.size ≤ 70000) (ha : m ≤ s.size) (hSc : Sc b s a ln w) (hE : Vrs w) (h0 : m < s.size) (hd : dgt s[m] = false) (hc : s[m] = 39) :
    EscSaid b s m ln w (39, 1, 0) := by
  unfold EscSaid
  have k0 := hSc.c0
  have k1 := hSc.c1
  have f1 := hSc.fz 1
  have hw : IntKind.i64.wrap ((a : Int) + 1) = (m : Int) := by simp only [IntKind.wrap]; simp [IntKind.signed, IntKind.bits]; omega
  have ha1 : (a : Int) + 1 = (m : Int) := by omega
  have hq : ((m : Int) == (s.size : Int)) = false := by rw [beq_eq_false_iff_ne]; omega
  have hlt : (m : Int) < (s.size : Int) := by omega
  have hm0 : 0 ≤ (m : Int) := by omega
  have HD := Lib.hid fun w => (show Calls _ _ _ _ _ from by have := digit3_any s[m] w; rw [hd] at this; exact this)
  have hcb := byte_bd3 s[m]
  have hcc : (s[m].toNat : Int) = 39 := by rw [hc]; rfl
  go_enter Tryd.func59, Tryd.ntmps59
  go_wp2
  go_name_world V hV
  have hsv : Sc b s m ln V := by rw [← hV]; exact hSc.set1 m _ (by first | rfl | (congr 1; omega))
  have hgv : w.grownBy V (some b) := by rw [← hV]; exact grow_set (World.grownBy.refl _ _) _ _
  have HS := Lib.hid fun n1 => hsv.drewN n1
  have HG := Lib.hid fun n1 => grow_drewN hgv n1
  have HE := Lib.hid fun (W : World) (h : W.heap = V.heap) => (hE.kept hgv (fun b' e => by cases e; exact ⟨_, _, _, hSc⟩)).heap h
  clear hV k0 k1 f1 hw
  have k0 := hsv.c0
  have k1 := hsv.c1
  have f1 := hsv.fz 1
  clear hgv
  rw [hcc] at HD
  go_quiet (fail)
  go_wp2
  go_quiet (fail)
  go_wp2_with ((go_at_call 31; (with_reducible refine (HD.out _).mono ?_); rintro e w3 ⟨rfl, rfl⟩))
  go_ret2
  exact ⟨rfl, (HS.out _).set1 (m + 1) _ (by push_cast; rfl), grow_set (HG.out _) _ _⟩

set_option maxHeartbeats 4000000 in
set_option maxRecDepth 100000 in
theorem esc_d (b : Nat) (s : ByteArray) (a m ln : Nat) (w : World) (hm : a + 1 = m) (hs : s.size ≤ 70000) (ha : m ≤ s.size) (hSc : Sc b s a ln w) (hE : Vrs w) (h0 : m < s.size) (hd : dgt s[m] = false) (hc : s[m] = 34) :
    EscSaid b s m ln w (34, 1, 0) := by
  unfold EscSaid
  have k0 := hSc.c0
  have k1 := hSc.c1
  have f1 := hSc.fz 1
  have hw : IntKind.i64.wrap ((a : Int) + 1) = (m : Int) := by simp only [IntKind.wrap]; simp [IntKind.signed, IntKind.bits]; omega
  have ha1 : (a : Int) + 1 = (m : Int) := by omega
  have hq : ((m : Int) == (s.size : Int)) = false := by rw [beq_eq_false_iff_ne]; omega
  have hlt : (m : Int) < (s.size : Int) := by omega
  have hm0 : 0 ≤ (m : Int) := by omega
  have HD := Lib.hid fun w => (show Calls _ _ _ _ _ from by have := digit3_any s[m] w; rw [hd] at this; exact this)
  have hcb := byte_bd3 s[m]
  have hcc : (s[m].toNat : Int) = 34 := by rw [hc]; rfl
  go_enter Tryd.func59, Tryd.ntmps59
  go_wp2
  go_name_world V hV
  have hsv : Sc b s m ln V := by rw [← hV]; exact hSc.set1 m _ (by first | rfl | (congr 1; omega))
  have hgv : w.grownBy V (some b) := by rw [← hV]; exact grow_set (World.grownBy.refl _ _) _ _
  have HS := Lib.hid fun n1 => hsv.drewN n1
  have HG := Lib.hid fun n1 => grow_drewN hgv n1
  have HE := Lib.hid fun (W : World) (h : W.heap = V.heap) => (hE.kept hgv (fun b' e => by cases e; exact ⟨_, _, _, hSc⟩)).heap h
  clear hV k0 k1 f1 hw
  have k0 := hsv.c0
  have k1 := hsv.c1
  have f1 := hsv.fz 1
  clear hgv
  rw [hcc] at HD
  go_quiet (fail)
  go_wp2
  go_quiet (fail)
  go_wp2_with ((go_at_call 31; (with_reducible refine (HD.out _).mono ?_); rintro e w3 ⟨rfl, rfl⟩))
  go_ret2
  exact ⟨rfl, (HS.out _).set1 (m + 1) _ (by push_cast; rfl), grow_set (HG.out _) _ _⟩

set_option maxHeartbeats 4000000 in
set_option maxRecDepth 100000 in
theorem esc_x (b : Nat) (s : ByteArray) (a m ln : Nat) (w : World) (hm : a + 1 = m) (hs : s.size ≤ 70000) (ha : m ≤ s.size) (hSc : Sc b s a ln w) (hE : Vrs w) (h0 : m < s.size) (hd : dgt s[m] = false) (hc : s[m] = 120) (v n : Nat) (E : Int) (HHX : Hid (∀ W, Sc b s (m + 1) ln W → Vrs W → Calls Tryd.prog 68 #[.pointer (some ⟨b, 0, none⟩)] W fun e w' => e = .returned (.tuple #[.int .u8 (v : Int), .int .i64 E]) ∧ Sc b s (m + n) ln w' ∧ W.grownBy w' (some b))) :
    EscSaid b s m ln w (v, n, E) := by
  unfold EscSaid
  have k0 := hSc.c0
  have k1 := hSc.c1
  have f1 := hSc.fz 1
  have hw : IntKind.i64.wrap ((a : Int) + 1) = (m : Int) := by simp only [IntKind.wrap]; simp [IntKind.signed, IntKind.bits]; omega
  have ha1 : (a : Int) + 1 = (m : Int) := by omega
  have hq : ((m : Int) == (s.size : Int)) = false := by rw [beq_eq_false_iff_ne]; omega
  have hlt : (m : Int) < (s.size : Int) := by omega
  have hm0 : 0 ≤ (m : Int) := by omega
  have HD := Lib.hid fun w => (show Calls _ _ _ _ _ from by have := digit3_any s[m] w; rw [hd] at this; exact this)
  have hcb := byte_bd3 s[m]
  have hcc : (s[m].toNat : Int) = 120 := by rw [hc]; rfl
  go_enter Tryd.func59, Tryd.ntmps59
  go_wp2
  go_name_world V hV
  have hsv : Sc b s m ln V := by rw [← hV]; exact hSc.set1 m _ (by first | rfl | (congr 1; omega))
  have hgv : w.grownBy V (some b) := by rw [← hV]; exact grow_set (World.grownBy.refl _ _) _ _
  have HS := Lib.hid fun n1 => hsv.drewN n1
  have HG := Lib.hid fun n1 => grow_drewN hgv n1
  have HE := Lib.hid fun (W : World) (h : W.heap = V.heap) => (hE.kept hgv (fun b' e => by cases e; exact ⟨_, _, _, hSc⟩)).heap h
  clear hV k0 k1 f1 hw
  have k0 := hsv.c0
  have k1 := hsv.c1
  have f1 := hsv.fz 1
  clear hgv
  rw [hcc] at HD
  have HS2 := Lib.hid fun n => (HS.out n).set1 (m + 1) (.int .i64 ((m : Int) + 1)) (by push_cast; rfl)
  have HG2 := Lib.hid fun n => grow_set (HG.out n) 1 (.int .i64 ((m : Int) + 1))
  have HE2 := Lib.hid fun n => hE.kept (HG2.out n) (fun b' e => by cases e; exact ⟨_, _, _, hSc⟩)
  go_quiet (fail)
  go_wp2
  go_quiet (fail)
  go_wp2_with (first | (go_at_call 31; (with_reducible refine (HD.out _).mono ?_); rintro e w3 ⟨rfl, rfl⟩) | (go_at_call 68; (with_reducible refine (HHX.out _ ?_ ?_).mono ?_); exact HS2.out _; exact HE2.out _; rintro e w4 ⟨rfl, h4, g4⟩))
  go_ret2
  exact ⟨rfl, h4, World.grownBy.trans (HG2.out _) g4⟩

set_option maxHeartbeats 4000000 in
set_option maxRecDepth 100000 in
theorem esc_o (b : Nat) (s : ByteArray) (a m ln : Nat) (w : World) (hm : a + 1 = m) (hs : s.size ≤ 70000) (ha : m ≤ s.size) (hSc : Sc b s a ln w) (hE : Vrs w) (h0 : m < s.size) (hd : dgt s[m] = false) (n1 : s[m] ≠ 110) (n2 : s[m] ≠ 116) (n3 : s[m] ≠ 92) (n4 : s[m] ≠ 39) (n5 : s[m] ≠ 34) (n6 : s[m] ≠ 120) :
    EscSaid b s m ln w (0, 1, 4) := by
  unfold EscSaid
  have k0 := hSc.c0
  have k1 := hSc.c1
  have f1 := hSc.fz 1
  have hw : IntKind.i64.wrap ((a : Int) + 1) = (m : Int) := by simp only [IntKind.wrap]; simp [IntKind.signed, IntKind.bits]; omega
  have ha1 : (a : Int) + 1 = (m : Int) := by omega
  have hq : ((m : Int) == (s.size : Int)) = false := by rw [beq_eq_false_iff_ne]; omega
  have hlt : (m : Int) < (s.size : Int) := by omega
  have hm0 : 0 ≤ (m : Int) := by omega
  have HD := Lib.hid fun w => (show Calls _ _ _ _ _ from by have := digit3_any s[m] w; rw [hd] at this; exact this)
  have hcb := byte_bd3 s[m]
  have g1 : ((s[m].toNat : Int) == 110) = false := by rw [beq_eq_false_iff_ne]; intro h; exact n1 (UInt8.toNat_inj.1 (by show s[m].toNat = 110; omega))
  have g2 : ((s[m].toNat : Int) == 116) = false := by rw [beq_eq_false_iff_ne]; intro h; exact n2 (UInt8.toNat_inj.1 (by show s[m].toNat = 116; omega))
  have g3 : ((s[m].toNat : Int) == 92) = false := by rw [beq_eq_false_iff_ne]; intro h; exact n3 (UInt8.toNat_inj.1 (by show s[m].toNat = 92; omega))
  have g4 : ((s[m].toNat : Int) == 39) = false := by rw [beq_eq_false_iff_ne]; intro h; exact n4 (UInt8.toNat_inj.1 (by show s[m].toNat = 39; omega))
  have g5 : ((s[m].toNat : Int) == 34) = false := by rw [beq_eq_false_iff_ne]; intro h; exact n5 (UInt8.toNat_inj.1 (by show s[m].toNat = 34; omega))
  have g6 : ((s[m].toNat : Int) == 120) = false := by rw [beq_eq_false_iff_ne]; intro h; exact n6 (UInt8.toNat_inj.1 (by show s[m].toNat = 120; omega))
  go_enter Tryd.func59, Tryd.ntmps59
  go_wp2
  go_name_world V hV
  have hsv : Sc b s m ln V := by rw [← hV]; exact hSc.set1 m _ (by first | rfl | (congr 1; omega))
  have hgv : w.grownBy V (some b) := by rw [← hV]; exact grow_set (World.grownBy.refl _ _) _ _
  have HS := Lib.hid fun n1 => hsv.drewN n1
  have HG := Lib.hid fun n1 => grow_drewN hgv n1
  have HE := Lib.hid fun (W : World) (h : W.heap = V.heap) => (hE.kept hgv (fun b' e => by cases e; exact ⟨_, _, _, hSc⟩)).heap h
  clear hV k0 k1 f1 hw
  have k0 := hsv.c0
  have k1 := hsv.c1
  have f1 := hsv.fz 1
  clear hgv
  go_quiet (fail)
  go_wp2
  go_quiet (fail)
  go_wp2_with (go_at_call 31; (with_reducible refine (HD.out _).mono ?_); rintro e w3 ⟨rfl, rfl⟩)
  go_ret2
  exact ⟨rfl, (HS.out _).set1 (m + 1) _ (by push_cast; rfl), grow_set (HG.out _) _ _⟩

theorem escape_any (b : Nat) (s : ByteArray) (a ln : Nat) (w : World) (hs : s.size ≤ 70000) (ha : a + 1 ≤ s.size) (hSc : Sc b s a ln w) (hE : Vrs w) :
    EscSaid b s (a + 1) ln w (escR (s.data.toList.drop (a + 1))) := by
  obtain ⟨m, hm⟩ : ∃ m, a + 1 = m := ⟨_, rfl⟩
  rw [hm] at ha ⊢
  have hll : s.data.toList.length = s.size := by simp
  by_cases h0 : m < s.size
  · have hdr : s.data.toList.drop m = s[m] :: s.data.toList.drop (m + 1) := by rw [List.drop_eq_getElem_cons (by omega)]; rfl
    rw [hdr]
    unfold escR
    simp only []
    rw [← hdr]
    cases hd : dgt s[m] with
    | true =>
      rw [if_pos rfl]
      have D := fun W h1 h2 => decimal_any b s m ln W hs h0 hd h1 h2
      by_cases hv : decV (s.data.toList.drop m) ≤ 255
      · simp only [if_pos hv] at D ⊢
        exact esc_dec b s a m ln w hm hs ha hSc hE h0 hd _ _ _ (Lib.hid D)
      · simp only [if_neg hv] at D ⊢
        exact esc_dec b s a m ln w hm hs ha hSc hE h0 hd 0 _ _ (Lib.hid D)
    | false =>
      rw [if_neg (by simp)]
      by_cases n1 : s[m] = 110
      · rw [if_pos n1]; exact esc_n b s a m ln w hm hs ha hSc hE h0 hd n1
      rw [if_neg n1]
      by_cases n2 : s[m] = 116
      · rw [if_pos n2]; exact esc_t b s a m ln w hm hs ha hSc hE h0 hd n2
      rw [if_neg n2]
      by_cases n3 : s[m] = 92
      · rw [if_pos n3]; exact esc_b b s a m ln w hm hs ha hSc hE h0 hd n3
      rw [if_neg n3]
      by_cases n4 : s[m] = 39
      · rw [if_pos n4]; exact esc_q b s a m ln w hm hs ha hSc hE h0 hd n4
      rw [if_neg n4]
      by_cases n5 : s[m] = 34
      · rw [if_pos n5]; exact esc_d b s a m ln w hm hs ha hSc hE h0 hd n5
      rw [if_neg n5]
      by_cases n6 : s[m] = 120
      · rw [if_pos n6]
        have D := fun W h1 h2 => hex_any b s (m + 1) ln W hs (by omega) h1 h2
        cases hx : hexR (s.data.toList.drop (m + 1)) with
        | some u =>
          rw [hx] at D
          exact esc_x b s a m ln w hm hs ha hSc hE h0 hd n6 u 3 0 (Lib.hid D)
        | none =>
          rw [hx] at D
          exact esc_x b s a m ln w hm hs ha hSc hE h0 hd n6 0 1 4 (Lib.hid D)
      rw [if_neg n6]
      exact esc_o b s a m ln w hm hs ha hSc hE h0 hd n1 n2 n3 n4 n5 n6
  · have h1 : m = s.size := by omega
    rw [List.drop_eq_nil_of_le (by omega)]
    exact esc_end b s a m ln w hm hs ha hSc hE h1
end Go.Proofs.YtbcbddglgfakpaaDoor
