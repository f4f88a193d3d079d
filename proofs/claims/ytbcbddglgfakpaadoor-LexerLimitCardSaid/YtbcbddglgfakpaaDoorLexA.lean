/- Contracts of layer 3: tests of bytes, runs of bytes. -/
import Derived.Test.YtbcbddglgfakpaaDoorProg
import Derived.Test.YtbcbddglgfakpaaDoorLexM
import Derived.WalkKit
import Derived.Below
import Derived.OwnWalk
import Derived.OneCell
import Derived.KernelRfl
import Derived.Lib.Hide
import Derived.Lib.HexFns2
import Derived.Maps.AppendAt
import Derived.Deep.AppendLies
namespace Go.Proofs.YtbcbddglgfakpaaDoor
open Go.RowKit M3
set_option linter.unusedVariables false
theorem byte_bd3 (c : UInt8) : 0 ≤ (c.toNat : Int) ∧ (c.toNat : Int) ≤ 255 := by have := c.toNat_lt; omega

theorem digit3_any (c : UInt8) (w : World) :
    Calls Tryd.prog 31 #[.int .u8 (c.toNat : Int)] w fun e w' => e = .returned (.bool (dgt c)) ∧ w = w' := by
  have hcb := byte_bd3 c
  by_cases h1 : 48 ≤ c.toNat
  · by_cases h2 : c.toNat ≤ 57
    · have HX : Hid (dgt c = true) := Lib.hid (decide_eq_true ⟨h1, h2⟩)
      have g1 : 48 ≤ (c.toNat : Int) := by omega
      have g2 : (c.toNat : Int) ≤ 57 := by omega
      go_enter Tryd.func31, Tryd.ntmps31
      go_wp2
      go_ret
      exact ⟨by rw [HX.out]; rfl, rfl⟩
    · have HX : Hid (dgt c = false) := Lib.hid (decide_eq_false (by omega))
      have g1 : 48 ≤ (c.toNat : Int) := by omega
      have g2 : ¬ (c.toNat : Int) ≤ 57 := by omega
      go_enter Tryd.func31, Tryd.ntmps31
      go_wp2
      go_ret
      exact ⟨by rw [HX.out]; rfl, rfl⟩
  · have HX : Hid (dgt c = false) := Lib.hid (decide_eq_false (by omega))
    have g1 : ¬ 48 ≤ (c.toNat : Int) := by omega
    go_enter Tryd.func31, Tryd.ntmps31
    go_wp2
    go_ret
    exact ⟨by rw [HX.out]; rfl, rfl⟩

theorem word3_any (c : UInt8) (w : World) :
    Calls Tryd.prog 33 #[.int .u8 (c.toNat : Int)] w fun e w' => e = .returned (.bool (wrd c)) ∧ w = w' := by
  have hcb := byte_bd3 c
  have hd := digit3_any c
  rcases (show (0 ≤ c.toNat ∧ c.toNat ≤ 47) ∨ (48 ≤ c.toNat ∧ c.toNat ≤ 57) ∨ (58 ≤ c.toNat ∧ c.toNat ≤ 64) ∨ (65 ≤ c.toNat ∧ c.toNat ≤ 90) ∨ (91 ≤ c.toNat ∧ c.toNat ≤ 94) ∨ (95 ≤ c.toNat ∧ c.toNat ≤ 95) ∨ (96 ≤ c.toNat ∧ c.toNat ≤ 96) ∨ (97 ≤ c.toNat ∧ c.toNat ≤ 122) ∨ (123 ≤ c.toNat ∧ c.toNat ≤ 255) from by have := c.toNat_lt; omega) with ⟨h1, h2⟩ | ⟨h1, h2⟩ | ⟨h1, h2⟩ | ⟨h1, h2⟩ | ⟨h1, h2⟩ | ⟨h1, h2⟩ | ⟨h1, h2⟩ | ⟨h1, h2⟩ | ⟨h1, h2⟩
  · have HX : Hid (wrd c = false) := Lib.hid (decide_eq_false (by omega))
    have g1 : 0 ≤ (c.toNat : Int) := by omega
    have g2 : (c.toNat : Int) ≤ 47 := by omega
    have g4 : (c.toNat : Int) ≤ 90 := by omega
    have g5 : (c.toNat : Int) ≤ 122 := by omega
    have g6 : ¬ 65 ≤ (c.toNat : Int) := by omega
    have g7 : ¬ 97 ≤ (c.toNat : Int) := by omega
    have g3 : ((c.toNat : Int) == 95) = false := by first | (rw [beq_iff_eq]; omega) | (rw [beq_eq_false_iff_ne]; omega)
    have D1 : Hid (∀ w, Calls Tryd.prog 31 #[.int .u8 (c.toNat : Int)] w fun e w' => e = .returned (.bool false) ∧ w = w') := Lib.hid (by rw [show dgt c = false from decide_eq_false (by omega)] at hd; exact hd)
    clear hd h1 h2
    generalize (c.toNat : Int) = n at *
    go_enter Tryd.func33, Tryd.ntmps33
    go_wp2_with (go_at_call 31; (with_reducible refine (D1.out _).mono ?_); rintro e w0 ⟨rfl, rfl⟩)
    go_ret
    exact ⟨by rw [HX.out]; rfl, rfl⟩
  · have HX : Hid (wrd c = true) := Lib.hid (decide_eq_true (by omega))
    have g1 : 48 ≤ (c.toNat : Int) := by omega
    have g2 : (c.toNat : Int) ≤ 57 := by omega
    have g4 : (c.toNat : Int) ≤ 90 := by omega
    have g5 : (c.toNat : Int) ≤ 122 := by omega
    have g6 : ¬ 65 ≤ (c.toNat : Int) := by omega
    have g7 : ¬ 97 ≤ (c.toNat : Int) := by omega
    have g3 : ((c.toNat : Int) == 95) = false := by first | (rw [beq_iff_eq]; omega) | (rw [beq_eq_false_iff_ne]; omega)
    have D1 : Hid (∀ w, Calls Tryd.prog 31 #[.int .u8 (c.toNat : Int)] w fun e w' => e = .returned (.bool true) ∧ w = w') := Lib.hid (by rw [show dgt c = true from decide_eq_true (by omega)] at hd; exact hd)
    clear hd h1 h2
    generalize (c.toNat : Int) = n at *
    go_enter Tryd.func33, Tryd.ntmps33
    go_wp2_with (go_at_call 31; (with_reducible refine (D1.out _).mono ?_); rintro e w0 ⟨rfl, rfl⟩)
    go_ret
    exact ⟨by rw [HX.out]; rfl, rfl⟩
  · have HX : Hid (wrd c = false) := Lib.hid (decide_eq_false (by omega))
    have g1 : 58 ≤ (c.toNat : Int) := by omega
    have g2 : (c.toNat : Int) ≤ 64 := by omega
    have g4 : (c.toNat : Int) ≤ 90 := by omega
    have g5 : (c.toNat : Int) ≤ 122 := by omega
    have g6 : ¬ 65 ≤ (c.toNat : Int) := by omega
    have g7 : ¬ 97 ≤ (c.toNat : Int) := by omega
    have g3 : ((c.toNat : Int) == 95) = false := by first | (rw [beq_iff_eq]; omega) | (rw [beq_eq_false_iff_ne]; omega)
    have D1 : Hid (∀ w, Calls Tryd.prog 31 #[.int .u8 (c.toNat : Int)] w fun e w' => e = .returned (.bool false) ∧ w = w') := Lib.hid (by rw [show dgt c = false from decide_eq_false (by omega)] at hd; exact hd)
    clear hd h1 h2
    generalize (c.toNat : Int) = n at *
    go_enter Tryd.func33, Tryd.ntmps33
    go_wp2_with (go_at_call 31; (with_reducible refine (D1.out _).mono ?_); rintro e w0 ⟨rfl, rfl⟩)
    go_ret
    exact ⟨by rw [HX.out]; rfl, rfl⟩
  · have HX : Hid (wrd c = true) := Lib.hid (decide_eq_true (by omega))
    have g1 : 65 ≤ (c.toNat : Int) := by omega
    have g2 : (c.toNat : Int) ≤ 90 := by omega
    have g4 : (c.toNat : Int) ≤ 90 := by omega
    have g5 : (c.toNat : Int) ≤ 122 := by omega
    have g6 : 65 ≤ (c.toNat : Int) := by omega
    have g7 : ¬ 97 ≤ (c.toNat : Int) := by omega
    have g3 : ((c.toNat : Int) == 95) = false := by first | (rw [beq_iff_eq]; omega) | (rw [beq_eq_false_iff_ne]; omega)
    have D1 : Hid (∀ w, Calls Tryd.prog 31 #[.int .u8 (c.toNat : Int)] w fun e w' => e = .returned (.bool false) ∧ w = w') := Lib.hid (by rw [show dgt c = false from decide_eq_false (by omega)] at hd; exact hd)
    clear hd h1 h2
    generalize (c.toNat : Int) = n at *
    go_enter Tryd.func33, Tryd.ntmps33
    go_wp2_with (go_at_call 31; (with_reducible refine (D1.out _).mono ?_); rintro e w0 ⟨rfl, rfl⟩)
    go_ret
    exact ⟨by rw [HX.out]; rfl, rfl⟩
  · have HX : Hid (wrd c = false) := Lib.hid (decide_eq_false (by omega))
    have g1 : 91 ≤ (c.toNat : Int) := by omega
    have g2 : (c.toNat : Int) ≤ 94 := by omega
    have g4 : ¬ (c.toNat : Int) ≤ 90 := by omega
    have g5 : (c.toNat : Int) ≤ 122 := by omega
    have g6 : 65 ≤ (c.toNat : Int) := by omega
    have g7 : ¬ 97 ≤ (c.toNat : Int) := by omega
    have g3 : ((c.toNat : Int) == 95) = false := by first | (rw [beq_iff_eq]; omega) | (rw [beq_eq_false_iff_ne]; omega)
    have D1 : Hid (∀ w, Calls Tryd.prog 31 #[.int .u8 (c.toNat : Int)] w fun e w' => e = .returned (.bool false) ∧ w = w') := Lib.hid (by rw [show dgt c = false from decide_eq_false (by omega)] at hd; exact hd)
    clear hd h1 h2
    generalize (c.toNat : Int) = n at *
    go_enter Tryd.func33, Tryd.ntmps33
    go_wp2_with (go_at_call 31; (with_reducible refine (D1.out _).mono ?_); rintro e w0 ⟨rfl, rfl⟩)
    go_ret
    exact ⟨by rw [HX.out]; rfl, rfl⟩
  · have HX : Hid (wrd c = true) := Lib.hid (decide_eq_true (by omega))
    have g1 : 95 ≤ (c.toNat : Int) := by omega
    have g2 : (c.toNat : Int) ≤ 95 := by omega
    have g4 : ¬ (c.toNat : Int) ≤ 90 := by omega
    have g5 : (c.toNat : Int) ≤ 122 := by omega
    have g6 : 65 ≤ (c.toNat : Int) := by omega
    have g7 : ¬ 97 ≤ (c.toNat : Int) := by omega
    have g3 : ((c.toNat : Int) == 95) = true := by first | (rw [beq_iff_eq]; omega) | (rw [beq_eq_false_iff_ne]; omega)
    have D1 : Hid (∀ w, Calls Tryd.prog 31 #[.int .u8 (c.toNat : Int)] w fun e w' => e = .returned (.bool false) ∧ w = w') := Lib.hid (by rw [show dgt c = false from decide_eq_false (by omega)] at hd; exact hd)
    clear hd h1 h2
    generalize (c.toNat : Int) = n at *
    go_enter Tryd.func33, Tryd.ntmps33
    go_wp2_with (go_at_call 31; (with_reducible refine (D1.out _).mono ?_); rintro e w0 ⟨rfl, rfl⟩)
    go_ret
    exact ⟨by rw [HX.out]; rfl, rfl⟩
  · have HX : Hid (wrd c = false) := Lib.hid (decide_eq_false (by omega))
    have g1 : 96 ≤ (c.toNat : Int) := by omega
    have g2 : (c.toNat : Int) ≤ 96 := by omega
    have g4 : ¬ (c.toNat : Int) ≤ 90 := by omega
    have g5 : (c.toNat : Int) ≤ 122 := by omega
    have g6 : 65 ≤ (c.toNat : Int) := by omega
    have g7 : ¬ 97 ≤ (c.toNat : Int) := by omega
    have g3 : ((c.toNat : Int) == 95) = false := by first | (rw [beq_iff_eq]; omega) | (rw [beq_eq_false_iff_ne]; omega)
    have D1 : Hid (∀ w, Calls Tryd.prog 31 #[.int .u8 (c.toNat : Int)] w fun e w' => e = .returned (.bool false) ∧ w = w') := Lib.hid (by rw [show dgt c = false from decide_eq_false (by omega)] at hd; exact hd)
    clear hd h1 h2
    generalize (c.toNat : Int) = n at *
    go_enter Tryd.func33, Tryd.ntmps33
    go_wp2_with (go_at_call 31; (with_reducible refine (D1.out _).mono ?_); rintro e w0 ⟨rfl, rfl⟩)
    go_ret
    exact ⟨by rw [HX.out]; rfl, rfl⟩
  · have HX : Hid (wrd c = true) := Lib.hid (decide_eq_true (by omega))
    have g1 : 97 ≤ (c.toNat : Int) := by omega
    have g2 : (c.toNat : Int) ≤ 122 := by omega
    have g4 : ¬ (c.toNat : Int) ≤ 90 := by omega
    have g5 : (c.toNat : Int) ≤ 122 := by omega
    have g6 : 65 ≤ (c.toNat : Int) := by omega
    have g7 : 97 ≤ (c.toNat : Int) := by omega
    have g3 : ((c.toNat : Int) == 95) = false := by first | (rw [beq_iff_eq]; omega) | (rw [beq_eq_false_iff_ne]; omega)
    have D1 : Hid (∀ w, Calls Tryd.prog 31 #[.int .u8 (c.toNat : Int)] w fun e w' => e = .returned (.bool false) ∧ w = w') := Lib.hid (by rw [show dgt c = false from decide_eq_false (by omega)] at hd; exact hd)
    clear hd h1 h2
    generalize (c.toNat : Int) = n at *
    go_enter Tryd.func33, Tryd.ntmps33
    go_wp2_with (go_at_call 31; (with_reducible refine (D1.out _).mono ?_); rintro e w0 ⟨rfl, rfl⟩)
    go_ret
    exact ⟨by rw [HX.out]; rfl, rfl⟩
  · have HX : Hid (wrd c = false) := Lib.hid (decide_eq_false (by omega))
    have g1 : 123 ≤ (c.toNat : Int) := by omega
    have g2 : (c.toNat : Int) ≤ 255 := by omega
    have g4 : ¬ (c.toNat : Int) ≤ 90 := by omega
    have g5 : ¬ (c.toNat : Int) ≤ 122 := by omega
    have g6 : 65 ≤ (c.toNat : Int) := by omega
    have g7 : 97 ≤ (c.toNat : Int) := by omega
    have g3 : ((c.toNat : Int) == 95) = false := by first | (rw [beq_iff_eq]; omega) | (rw [beq_eq_false_iff_ne]; omega)
    have D1 : Hid (∀ w, Calls Tryd.prog 31 #[.int .u8 (c.toNat : Int)] w fun e w' => e = .returned (.bool false) ∧ w = w') := Lib.hid (by rw [show dgt c = false from decide_eq_false (by omega)] at hd; exact hd)
    clear hd h1 h2
    generalize (c.toNat : Int) = n at *
    go_enter Tryd.func33, Tryd.ntmps33
    go_wp2_with (go_at_call 31; (with_reducible refine (D1.out _).mono ?_); rintro e w0 ⟨rfl, rfl⟩)
    go_ret
    exact ⟨by rw [HX.out]; rfl, rfl⟩

/-- The scanner in block b. -/
def Sc (b : Nat) (s : ByteArray) (at' ln : Nat) (w : World) : Prop := w.heap[b]? = some (.cells #[.string s, .int .i64 (at' : Int), .int .i64 (ln : Int)] 53 (0, 0))
theorem Sc.lt {b : Nat} {s : ByteArray} {k ln : Nat} {w : World} (h : Sc b s k ln w) : b < w.heap.size := by
  have := Array.getElem?_eq_some_iff.1 h; exact this.1
theorem Sc.c0 {b : Nat} {s : ByteArray} {k ln : Nat} {w : World} (h : Sc b s k ln w) : w.cell? ⟨b, 0, none⟩ = some (.string s) := by unfold Sc at h; simp [World.cell?, h]
theorem Sc.c1 {b : Nat} {s : ByteArray} {k ln : Nat} {w : World} (h : Sc b s k ln w) : w.cell? ⟨b, 1, none⟩ = some (.int .i64 (k : Int)) := by unfold Sc at h; simp [World.cell?, h]
theorem Sc.c2 {b : Nat} {s : ByteArray} {k ln : Nat} {w : World} (h : Sc b s k ln w) : w.cell? ⟨b, 2, none⟩ = some (.int .i64 (ln : Int)) := by unfold Sc at h; simp [World.cell?, h]
theorem Sc.fz {b : Nat} {s : ByteArray} {k ln : Nat} {w : World} (h : Sc b s k ln w) (o : Nat) : w.frozen? ⟨b, o, none⟩ = false := by unfold Sc at h; simp [World.frozen?, h]
theorem Sc.set1 {b : Nat} {s : ByteArray} {k ln : Nat} {w : World} (h : Sc b s k ln w) (j : Nat) (v : Value) (hv : v = .int .i64 (j : Int)) : Sc b s j ln (w.setCell ⟨b, 1, none⟩ v) := by
  subst hv
  exact heap_setCell_same w b 1 _ _ _ h
theorem Sc.set2 {b : Nat} {s : ByteArray} {k ln : Nat} {w : World} (h : Sc b s k ln w) (j : Nat) (v : Value) (hv : v = .int .i64 (j : Int)) : Sc b s k j (w.setCell ⟨b, 2, none⟩ v) := by
  subst hv
  exact heap_setCell_same w b 2 _ _ _ h
theorem Sc.drew {b : Nat} {s : ByteArray} {k ln : Nat} {w : World} (h : Sc b s k ln w) : Sc b s k ln w.drew := h
theorem Sc.kept {b : Nat} {s : ByteArray} {k ln : Nat} {w w' : World} {r : Option Nat} (h : Sc b s k ln w) (hg : w.grownBy w' r) (hr : r ≠ some b) : Sc b s k ln w' := by
  unfold Sc at *; rw [hg.block b (Sc.lt h) (fun e => hr e.symm)]; exact h
def atOf (b : Nat) (w : World) : Nat := match w.cell? ⟨b, 1, none⟩ with | some (.int _ n) => n.toNat | _ => 0
theorem Sc.atOf {b : Nat} {s : ByteArray} {k ln : Nat} {w : World} (h : Sc b s k ln w) : atOf b w = k := by unfold Go.Proofs.YtbcbddglgfakpaaDoor.atOf; rw [h.c1]; simp
/-- A captured list of bytes. -/
structure Lst (w : World) (B : Nat) (l : List UInt8) : Prop where
  ex : ∃ g, g < w.heap.size ∧ B < w.heap.size ∧ w.cell? ⟨B, 0, none⟩ = some (.slice (some ⟨g, 0, none⟩) l.length l.length) ∧ ∀ (j : Nat) (h : j < l.length), w.cell? ⟨g, j, none⟩ = some (.int .u8 (l[j].toNat : Int))

theorem oneOf_any (g n : Nat) (w : World) :
    Calls Tryd.prog 46 #[.slice (some ⟨g, 0, none⟩) n n] w fun e w' => e = .returned (.func (.func 56) #[] #[.pointer (some ⟨w.heap.size, 0, none⟩)]) ∧ w' = w.alloc (.cells #[.slice (some ⟨g, 0, none⟩) n n] 42) := by
  have hmf : ∀ (fn : Fn) (first cap : Array Value) (w : World), (Instr.makeFunc fn first cap).run Tryd.prog w = .ok (.func fn first cap) w := fun _ _ _ _ => rfl
  go_enter Tryd.func46, Tryd.ntmps46
  go_wp2
  go_ret
  exact ⟨rfl, rfl⟩
set_option maxHeartbeats 1000000 in
theorem oneOf1_any (B : Nat) (l : List UInt8) (c : UInt8) (w : World) (hL : Lst w B l) (hl : l.length ≤ 1000) :
    Calls Tryd.prog 56 #[.int .u8 (c.toNat : Int), .pointer (some ⟨B, 0, none⟩)] w fun e w' => e = .returned (.bool (has l c)) ∧ w = w' := by
  obtain ⟨g, hg, hB, hc0, hcs⟩ := hL.ex
  have HC := Lib.hid hcs
  clear hcs
  go_enter Tryd.func56, Tryd.ntmps56
  go_wp2
  go_loop [8] (fun vi => ∃ k : Nat, k ≤ l.length ∧ vi = .int .i64 k ∧ Hid (∀ (j : Nat) (hj : j < l.length), j < k → l[j] ≠ c)) (fun vi => l.length - (intOf vi).toNat)
  case atStart => exact ⟨0, Nat.zero_le _, rfl, Lib.hid (fun j _ h => by omega)⟩
  case round =>
    obtain ⟨k, hk, rfl, HN⟩ := hrel
    by_cases hkl : k < l.length
    · have hcj := HC.out k hkl
      cases hcc : ((c.toNat : Int) == (l[k].toNat : Int)) with
      | true =>
        have HR : Hid (has l c = true) := Lib.hid (by
          show l.contains c = true
          rw [List.contains_iff_mem]
          have e : l[k] = c := UInt8.toNat_inj.1 (by have := beq_iff_eq.1 hcc; omega)
          rw [← e]; exact List.getElem_mem _)
        generalize (l[k].toNat : Int) = C at *
        go_wp2
        go_ret
        exact ⟨by rw [HR.out]; rfl, rfl⟩
      | false =>
        have HN2 : Hid (∀ (j : Nat) (hj : j < l.length), j < k + 1 → l[j] ≠ c) := Lib.hid fun j hj hjk => by
          by_cases h : j < k
          · exact HN.out j hj h
          · obtain rfl : j = k := by omega
            intro e; rw [e] at hcc; simp at hcc
        generalize (l[k].toNat : Int) = C at *
        go_wp2
        go_round
        case rel => exact ⟨k + 1, by omega, by go_num, HN2⟩
        case measure => simp [intOf]; omega
    · have HR : Hid (has l c = false) := Lib.hid (by
        show l.contains c = false
        rw [Bool.eq_false_iff]; intro h
        obtain ⟨j, hj, e⟩ := List.mem_iff_getElem.1 (List.contains_iff_mem.1 h)
        exact HN.out j hj (by omega) e)
      go_wp2
      go_ret
      exact ⟨by rw [HR.out]; rfl, rfl⟩
end Go.Proofs.YtbcbddglgfakpaaDoor
