/- Contracts of layer 4: tests of bytes. -/
import Derived.Test.YtkbcaklleiapdaaDoorProg
import Derived.Test.YtkbcaklleiapdaaDoorPatP
import Derived.WalkKit
import Derived.Below
import Derived.OwnWalk
import Derived.OneCell
import Derived.KernelRfl
import Derived.Lib.Hide
import Derived.Lib.HexFns2
import Derived.Maps.AppendAt
import Derived.Deep.AppendLies
import Derived.WalkSmall
import Derived.BigQuiet
import Derived.Deep.DeepCutAuto
import Derived.Deep.QuietTactic
import Derived.Deep.RegionHeld3
import Derived.Deep.RegionWith
import Derived.Lib.ItoaWalk
import Derived.Shelf.Abstract
namespace Go.Proofs.YtkbcaklleiapdaaDoor
open Go.RowKit Go.Shelf M4
set_option linter.unusedVariables false
theorem byte_bd4 (c : UInt8) : 0 ≤ (c.toNat : Int) ∧ (c.toNat : Int) ≤ 255 := by have := c.toNat_lt; omega
theorem mk_func (fn : Fn) (first cap : Array Value) (w : World) : (Instr.makeFunc fn first cap).run Tryd.prog w = .ok (.func fn first cap) w := rfl
/-- The blocks from lo on and below hi are as they were. -/
structure Kp (lo hi : Nat) (w W : World) : Prop where
  size : w.heap.size ≤ W.heap.size
  block : ∀ g, lo ≤ g → g < hi → W.heap[g]? = w.heap[g]?
theorem Kp.refl (lo hi : Nat) (w : World) : Kp lo hi w w := ⟨Nat.le_refl _, fun _ _ _ => rfl⟩
theorem Kp.trans {lo hi : Nat} {a b c : World} (h : Kp lo hi a b) (k : Kp lo hi b c) : Kp lo hi a c := ⟨Nat.le_trans h.size k.size, fun g h1 h2 => (k.block g h1 h2).trans (h.block g h1 h2)⟩
theorem Kp.below {lo hi n : Nat} {w W : World} (h : Below n w W) (hn : hi ≤ n) : Kp lo hi w W := ⟨h.size, fun g _ h2 => h.block g (by omega)⟩
theorem Kp.grown {lo hi : Nat} {w W : World} {r : Option Nat} (h : w.grownBy W r) (hh : hi ≤ w.heap.size) (hr : ∀ b, r = some b → b < lo ∨ hi ≤ b) : Kp lo hi w W :=
  ⟨h.size, fun g h1 h2 => h.block g (by omega) (fun e => by have := hr g e.symm; omega)⟩
theorem Kp.less {lo hi lo' hi' : Nat} {w W : World} (h : Kp lo' hi' w W) (h1 : lo' ≤ lo) (h2 : hi ≤ hi') : Kp lo hi w W := ⟨h.size, fun g h3 h4 => h.block g (by omega) (by omega)⟩
theorem Kp.cell {lo hi : Nat} {w W : World} (h : Kp lo hi w W) {b o : Nat} (h1 : lo ≤ b) (h2 : b < hi) : W.cell? ⟨b, o, none⟩ = w.cell? ⟨b, o, none⟩ := World.cell?_of_block (w := w) (h.block b h1 h2)
/-- A captured list of ranges. -/
structure RLst (lo hi : Nat) (w : World) (B : Nat) (rs : List (UInt8 × UInt8)) : Prop where
  ex : ∃ g, lo ≤ g ∧ g < hi ∧ lo ≤ B ∧ B < hi ∧ hi ≤ w.heap.size ∧ w.cell? ⟨B, 0, none⟩ = some (.slice (some ⟨g, 0, none⟩) rs.length rs.length) ∧ ∀ (j : Nat) (h : j < rs.length), w.cell? ⟨g, j, none⟩ = some (.string ⟨#[rs[j].1, rs[j].2]⟩)
theorem RLst.kept {lo hi : Nat} {w w' : World} {B : Nat} {rs : List (UInt8 × UInt8)} (h : RLst lo hi w B rs) (hb : Kp lo hi w w') : RLst lo hi w' B rs := by
  obtain ⟨g, h1, h2, h3, h4, h5, h6, h7⟩ := h.ex
  have := hb.size
  exact ⟨g, h1, h2, h3, h4, by omega, by rw [hb.cell h3 h4]; exact h6, fun j hj => by rw [hb.cell h1 h2]; exact h7 j hj⟩

set_option maxHeartbeats 1000000 in
theorem within1_any (B : Nat) (rs : List (UInt8 × UInt8)) (c : UInt8) (w : World) (hL : ∃ lo hi, RLst lo hi w B rs) (hl : rs.length ≤ 1000) :
    Calls Tryd.prog 51 #[.int .u8 (c.toNat : Int), .pointer (some ⟨B, 0, none⟩)] w fun e w' => e = .returned (.bool (inR rs c)) ∧ w = w' := by
  obtain ⟨lo, hi, hL⟩ := hL
  obtain ⟨g, _, _, _, _, _, hc0, hcs⟩ := hL.ex
  have HC := Lib.hid hcs
  have hcb := byte_bd4 c
  clear hcs
  go_enter Tryd.func51, Tryd.ntmps51
  go_wp2
  go_loop [8] (fun vi => ∃ k : Nat, k ≤ rs.length ∧ vi = .int .i64 k ∧ Hid (inR rs c = inR (rs.drop k) c)) (fun vi => rs.length - (intOf vi).toNat)
  case atStart => exact ⟨0, Nat.zero_le _, rfl, Lib.hid (by rw [List.drop_zero])⟩
  case round =>
    obtain ⟨k, hk, rfl, HN⟩ := hrel
    by_cases hkl : k < rs.length
    · have hkl' : (k : Int) < (rs.length : Int) := by omega
      have hcj := HC.out k hkl
      have hn := HN.out
      rw [List.drop_eq_getElem_cons hkl, inR_cons] at hn
      obtain ⟨r, hr⟩ : ∃ r, rs[k] = r := ⟨_, rfl⟩
      rw [hr] at hcj hn
      obtain ⟨s, hs⟩ : ∃ s : ByteArray, ⟨#[r.1, r.2]⟩ = s := ⟨_, rfl⟩
      rw [hs] at hcj
      have z : s.size = 2 := by rw [← hs]; rfl
      have z0 : (0 : Int) < (s.size : Int) := by omega
      have z1 : (1 : Int) < (s.size : Int) := by omega
      have s0 : (s[0].toNat : Int) = (r.1.toNat : Int) := by subst hs; rfl
      have s1 : (s[1].toNat : Int) = (r.2.toNat : Int) := by subst hs; rfl
      clear hs hr
      by_cases h1 : r.1.toNat ≤ c.toNat
      · have g1 : (r.1.toNat : Int) ≤ (c.toNat : Int) := by omega
        have g1n : decide (r.1.toNat ≤ c.toNat) = true := decide_eq_true h1
        by_cases h2 : c.toNat ≤ r.2.toNat
        · have g2 : (c.toNat : Int) ≤ (r.2.toNat : Int) := by omega
          have HR : Hid (inR rs c = true) := Lib.hid (by rw [hn, decide_eq_true ⟨h1, h2⟩, Bool.true_or])
          clear hn HN g1n
          go_wp2
          go_ret
          exact ⟨by rw [HR.out]; rfl, rfl⟩
        · have g2 : ¬ (c.toNat : Int) ≤ (r.2.toNat : Int) := by omega
          have HR : Hid (inR rs c = inR (rs.drop (k + 1)) c) := Lib.hid (by rw [hn, decide_eq_false (fun h => h2 h.2), Bool.false_or])
          clear hn HN g1n
          go_wp2
          go_round
          case rel => exact ⟨k + 1, by omega, by go_num, HR⟩
          case measure => simp [intOf]; omega
      · have g1 : ¬ (r.1.toNat : Int) ≤ (c.toNat : Int) := by omega
        have HR : Hid (inR rs c = inR (rs.drop (k + 1)) c) := Lib.hid (by rw [hn, decide_eq_false (fun h => h1 h.1), Bool.false_or])
        clear hn HN
        go_wp2
        go_round
        case rel => exact ⟨k + 1, by omega, by go_num, HR⟩
        case measure => simp [intOf]; omega
    · have hkl' : ¬ (k : Int) < (rs.length : Int) := by omega
      have HR : Hid (inR rs c = false) := Lib.hid (by rw [HN.out, List.drop_eq_nil_of_le (by omega)]; rfl)
      clear HN
      go_wp2
      go_ret
      exact ⟨by rw [HR.out]; rfl, rfl⟩
theorem within_any (p : Option Addr) (n cap : Nat) (w : World) :
    Calls Tryd.prog 35 #[.slice p n cap] w fun e w' => e = .returned (.func (.func 51) #[] #[.pointer (some ⟨w.heap.size, 0, none⟩)]) ∧ w' = w.alloc (.cells #[.slice p n cap] 101) := by
  have hmf := mk_func
  go_enter Tryd.func35, Tryd.ntmps35
  go_wp2
  go_ret
  exact ⟨rfl, rfl⟩
theorem only1_any (B : Nat) (x c : UInt8) (w : World) (h : w.cell? ⟨B, 0, none⟩ = some (.int .u8 (x.toNat : Int))) :
    Calls Tryd.prog 99 #[.int .u8 (c.toNat : Int), .pointer (some ⟨B, 0, none⟩)] w fun e w' => e = .returned (.bool (c == x)) ∧ w = w' := by
  cases hcx : ((c.toNat : Int) == (x.toNat : Int)) with
  | true =>
    have HR : Hid ((c == x) = true) := Lib.hid (by rw [beq_iff_eq]; exact UInt8.toNat_inj.1 (by have := beq_iff_eq.1 hcx; omega))
    go_enter Tryd.func99, Tryd.ntmps99
    go_wp2
    go_ret
    exact ⟨by rw [HR.out]; rfl, rfl⟩
  | false =>
    have HR : Hid ((c == x) = false) := Lib.hid (by rw [beq_eq_false_iff_ne]; intro e; rw [e] at hcx; simp at hcx)
    go_enter Tryd.func99, Tryd.ntmps99
    go_wp2
    go_ret
    exact ⟨by rw [HR.out]; rfl, rfl⟩
theorem only_any (x : UInt8) (w : World) :
    Calls Tryd.prog 88 #[.int .u8 (x.toNat : Int)] w fun e w' => e = .returned (.func (.func 99) #[] #[.pointer (some ⟨w.heap.size, 0, none⟩)]) ∧ w' = w.alloc (.cells #[.int .u8 (x.toNat : Int)] 5) := by
  have hmf := mk_func
  go_enter Tryd.func88, Tryd.ntmps88
  go_wp2
  go_ret
  exact ⟨rfl, rfl⟩
theorem not_any (F : FuncId) (fst caps : Array Value) (w : World) :
    Calls Tryd.prog 106 #[.func (.func F) fst caps] w fun e w' => e = .returned (.func (.func 109) #[] #[.pointer (some ⟨w.heap.size, 0, none⟩)]) ∧ w' = w.alloc (.cells #[.func (.func F) fst caps] 73) := by
  have hmf := mk_func
  go_enter Tryd.func106, Tryd.ntmps106
  go_wp2
  go_ret
  exact ⟨rfl, rfl⟩
theorem true1_any (c : UInt8) (w : World) : Calls Tryd.prog 86 #[.int .u8 (c.toNat : Int)] w fun e w' => e = .returned (.bool true) ∧ w = w' := by
  go_enter Tryd.func86, Tryd.ntmps86
  go_wp2
  go_ret
  exact ⟨rfl, rfl⟩
theorem app2 (a b : Value) : ((#[] : Array Value).push a ++ #[b] : Array Value) = #[a, b] := rfl
theorem app0 (a : Value) : ((#[] : Array Value).push a ++ #[] : Array Value) = #[a] := rfl
theorem app1 (a b : Value) : (#[a].push b ++ #[] : Array Value) = #[a, b] := rfl
/-- A function value that tests bytes; what it captures lies in the blocks from lo on and below hi. -/
structure TV (lo hi : Nat) (w : World) (v : Value) (P : UInt8 → Bool) : Prop where
  ex : hi ≤ w.heap.size ∧ ∃ (F : FuncId) (fst caps : Array Value), v = .func (.func F) fst caps ∧ (∀ args w, (callFunc F args).run Tryd.prog w = .ok (.enter F args) w) ∧
    ∀ W, Kp lo hi w W → ∀ c : UInt8, Calls Tryd.prog F (fst.push (.int .u8 (c.toNat : Int)) ++ caps) W fun e w' => e = .returned (.bool (P c)) ∧ ∃ n, w' = W.drewN n
theorem TV.kept {lo hi : Nat} {w w' : World} {v : Value} {P : UInt8 → Bool} (h : TV lo hi w v P) (hb : Kp lo hi w w') : TV lo hi w' v P := by
  obtain ⟨h0, F, fst, caps, h1, h2, h3⟩ := h.ex
  have := hb.size
  exact ⟨by omega, F, fst, caps, h1, h2, fun W hW c => h3 W (hb.trans hW) c⟩
theorem TV.wide {lo hi lo' hi' : Nat} {w : World} {v : Value} {P : UInt8 → Bool} (h : TV lo hi w v P) (h1 : lo' ≤ lo) (h2 : hi ≤ hi') (h3 : hi' ≤ w.heap.size) : TV lo' hi' w v P := by
  obtain ⟨h0, F, fst, caps, h4, h5, h6⟩ := h.ex
  exact ⟨h3, F, fst, caps, h4, h5, fun W hW c => h6 W (hW.less h1 h2) c⟩
theorem tv_within {lo hi : Nat} {w : World} {B : Nat} {rs : List (UInt8 × UInt8)} (hL : RLst lo hi w B rs) (hl : rs.length ≤ 1000) : TV lo hi w (.func (.func 51) #[] #[.pointer (some ⟨B, 0, none⟩)]) (inR rs) := by
  obtain ⟨_, _, _, _, _, h5, _⟩ := hL.ex
  exact ⟨h5, _, _, _, rfl, enters_of Tryd.func51 (by kernel_rfl) rfl, fun W hW c => by rw [app2]; exact (within1_any B rs c W ⟨_, _, hL.kept hW⟩ hl).mono fun e w' ⟨h1, h2⟩ => ⟨h1, 0, h2.symm⟩⟩
theorem tv_only {lo hi : Nat} {w : World} {B : Nat} {x : UInt8} (h1 : lo ≤ B) (h2 : B < hi) (h3 : hi ≤ w.heap.size) (h : w.cell? ⟨B, 0, none⟩ = some (.int .u8 (x.toNat : Int))) : TV lo hi w (.func (.func 99) #[] #[.pointer (some ⟨B, 0, none⟩)]) (fun c => c == x) :=
  ⟨h3, _, _, _, rfl, enters_of Tryd.func99 (by kernel_rfl) rfl, fun W hW c => by rw [app2]; exact (only1_any B x c W (by rw [hW.cell h1 h2]; exact h)).mono fun e w' ⟨h1, h2⟩ => ⟨h1, 0, h2.symm⟩⟩
theorem tv_true (lo hi : Nat) (w : World) (h : hi ≤ w.heap.size) : TV lo hi w (.func (.func 86) #[] #[]) (fun _ => true) :=
  ⟨h, _, _, _, rfl, enters_of Tryd.func86 (by kernel_rfl) rfl, fun W hW c => by rw [app0]; exact (true1_any c W).mono fun e w' ⟨h1, h2⟩ => ⟨h1, 0, h2.symm⟩⟩
set_option maxHeartbeats 1000000 in
theorem not1_any (lo hi B : Nat) (v : Value) (P : UInt8 → Bool) (c : UInt8) (w : World) (h : w.cell? ⟨B, 0, none⟩ = some v) (hT : TV lo hi w v P) :
    Calls Tryd.prog 109 #[.int .u8 (c.toNat : Int), .pointer (some ⟨B, 0, none⟩)] w fun e w' => e = .returned (.bool (!P c)) ∧ ∃ n, w' = w.drewN n := by
  obtain ⟨_, F, fst, caps, rfl, hF, hC⟩ := hT.ex
  have H1 := Lib.hid (hC w (Kp.refl _ _ _) c)
  go_enter Tryd.func109, Tryd.ntmps109
  go_wp2_with (go_at_fn F; (with_reducible refine (H1.out).mono ?_); rintro e w1 ⟨rfl, n, rfl⟩)
  go_ret
  exact ⟨rfl, n, rfl⟩
theorem tv_not {lo hi hi' : Nat} {w : World} {B : Nat} {v : Value} {P : UInt8 → Bool} (h1 : lo ≤ B) (h2 : B < hi') (h3 : hi ≤ hi') (h4 : hi' ≤ w.heap.size) (h : w.cell? ⟨B, 0, none⟩ = some v) (hT : TV lo hi w v P) : TV lo hi' w (.func (.func 109) #[] #[.pointer (some ⟨B, 0, none⟩)]) (fun c => !P c) :=
  ⟨h4, _, _, _, rfl, enters_of Tryd.func109 (by kernel_rfl) rfl, fun W hW c => by rw [app2]; exact not1_any lo hi B v P c W (by rw [hW.cell h1 h2]; exact h) (hT.kept (hW.less (Nat.le_refl _) h3))⟩
end Go.Proofs.YtkbcaklleiapdaaDoor
