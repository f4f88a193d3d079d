/- Contracts of layer 4: sets of bytes. -/
import Derived.Test.YtkbcaklleiapdaaDoorPatE
import Derived.BigRegion
namespace Go.Proofs.YtkbcaklleiapdaaDoor
open Go.RowKit M4
set_option linter.unusedVariables false
theorem bv_and (a b : BitVec 64) : bits .and .u64 (a.toNat : Int) (b.toNat : Int) = ((a &&& b).toNat : Int) := by
  show IntKind.u64.wrap ((BitVec.ofInt 64 (a.toNat : Int) &&& BitVec.ofInt 64 (b.toNat : Int)).toNat : Int) = _
  rw [BitVec.ofInt_natCast, BitVec.ofInt_natCast, BitVec.ofNat_toNat, BitVec.ofNat_toNat, BitVec.setWidth_eq, BitVec.setWidth_eq]
  have := (a &&& b).isLt
  simp only [IntKind.wrap]; simp [IntKind.signed, IntKind.bits] at *; omega
theorem bv_or (a b : BitVec 64) : bits .or .u64 (a.toNat : Int) (b.toNat : Int) = ((a ||| b).toNat : Int) := by
  show IntKind.u64.wrap ((BitVec.ofInt 64 (a.toNat : Int) ||| BitVec.ofInt 64 (b.toNat : Int)).toNat : Int) = _
  rw [BitVec.ofInt_natCast, BitVec.ofInt_natCast, BitVec.ofNat_toNat, BitVec.ofNat_toNat, BitVec.setWidth_eq, BitVec.setWidth_eq]
  have := (a ||| b).isLt
  simp only [IntKind.wrap]; simp [IntKind.signed, IntKind.bits] at *; omega
def one1 (j : Nat) : BitVec 64 := 1#64 <<< j
theorem one1_nat (j : Nat) (h : j < 64) : (one1 j).toNat = 2 ^ j := by
  have : 2 ^ j < 2 ^ 64 := Nat.pow_lt_pow_right (by decide) h
  unfold one1
  rw [BitVec.toNat_shiftLeft, Nat.shiftLeft_eq]
  simp
  exact this
theorem wrap_one1 (j : Nat) (h : j < 64) : IntKind.u64.wrap ((2 : Int) ^ j) = ((one1 j).toNat : Int) := by
  rw [one1_nat j h]
  have : 2 ^ j < 2 ^ 64 := Nat.pow_lt_pow_right (by decide) h
  have e : ((2 : Int) ^ j) = ((2 ^ j : Nat) : Int) := by simp
  rw [e]
  generalize 2 ^ j = m at *
  simp only [IntKind.wrap]; simp [IntKind.signed, IntKind.bits]; omega
theorem one1_bit (j i : Nat) (hi : i < 64) : (one1 j).getLsbD i = decide (i = j) := by
  unfold one1
  rw [BitVec.getLsbD_shiftLeft]
  by_cases h : i = j
  · subst h; simp [hi]
  · by_cases h2 : i < j
    · simp [h2, h]
    · simp [h2, h, hi]
      omega
theorem test1 (a : BitVec 64) (j : Nat) (h : j < 64) : (((a &&& one1 j).toNat : Int) != 0) = a.getLsbD j := by
  cases hb : a.getLsbD j with
  | true =>
    rw [bne_iff_ne]
    intro e
    have e2 : a &&& one1 j = 0#64 := BitVec.eq_of_toNat_eq (Int.natCast_eq_zero.1 e)
    have := congrArg (fun v => v.getLsbD j) e2
    simp [one1_bit j j h, hb] at this
  | false =>
    rw [bne_eq_false_iff_eq]
    have e2 : a &&& one1 j = 0#64 := BitVec.eq_of_getLsbD_eq fun i hi => by
      rw [BitVec.getLsbD_and, one1_bit j i hi]
      by_cases e : i = j
      · subst e; simp [hb]
      · simp [e]
    rw [e2]; rfl
/-- A set of bytes in a block. -/
def BSb (B : Nat) (f : Nat → BitVec 64) (w : World) : Prop := w.heap[B]? = some (.cells #[.int .u64 ((f 0).toNat : Int), .int .u64 ((f 1).toNat : Int), .int .u64 ((f 2).toNat : Int), .int .u64 ((f 3).toNat : Int)] 131 (0, 0))
def bitS (f : Nat → BitVec 64) (c : UInt8) : Bool := (f (c.toNat / 64)).getLsbD (c.toNat % 64)
theorem BSb.lt {B : Nat} {f : Nat → BitVec 64} {w : World} (h : BSb B f w) : B < w.heap.size := (Array.getElem?_eq_some_iff.1 h).1
theorem BSb.cell {B : Nat} {f : Nat → BitVec 64} {w : World} (h : BSb B f w) (i : Nat) (hi : i < 4) : w.cell? ⟨B, i, none⟩ = some (.int .u64 ((f i).toNat : Int)) := by
  unfold BSb at h
  match i, hi with
  | 0, _ => simp [World.cell?, h]
  | 1, _ => simp [World.cell?, h]
  | 2, _ => simp [World.cell?, h]
  | 3, _ => simp [World.cell?, h]
theorem BSb.fz {B : Nat} {f : Nat → BitVec 64} {w : World} (h : BSb B f w) (i : Nat) : w.frozen? ⟨B, i, none⟩ = false := by unfold BSb at h; simp [World.frozen?, h]
theorem BSb.kept {B lo hi : Nat} {f : Nat → BitVec 64} {w w' : World} (h : BSb B f w) (hk : Kp lo hi w w') (h1 : lo ≤ B) (h2 : B < hi) : BSb B f w' := by unfold BSb at *; rw [hk.block B h1 h2]; exact h
theorem BSb.grown {B : Nat} {f : Nat → BitVec 64} {w w' : World} {r : Option Nat} (h : BSb B f w) (hg : w.grownBy w' r) (hr : r ≠ some B) : BSb B f w' := by have := h.lt; unfold BSb at *; rw [hg.block B this (fun e => hr e.symm)]; exact h
theorem BSb.drewN {B : Nat} {f : Nat → BitVec 64} {w : World} (h : BSb B f w) (n : Nat) : BSb B f (w.drewN n) := by unfold BSb at *; simpa using h
theorem BSb.heap {B : Nat} {f : Nat → BitVec 64} {w w' : World} (h : BSb B f w) (e : w'.heap = w.heap) : BSb B f w' := by unfold BSb at *; rw [e]; exact h
def updB (f : Nat → BitVec 64) (k : Nat) : Nat → BitVec 64 := fun i => if i = k / 64 then f i ||| one1 (k % 64) else f i
theorem BSb.upd {B : Nat} {f : Nat → BitVec 64} {w : World} (h : BSb B f w) (k : Nat) (hk : k < 256) (v : Value) (hv : v = .int .u64 ((f (k / 64) ||| one1 (k % 64)).toNat : Int)) : BSb B (updB f k) (w.setCell ⟨B, k / 64, none⟩ v) := by
  subst hv
  have := set_same w B (k / 64) _ _ (.int .u64 ((f (k / 64) ||| one1 (k % 64)).toNat : Int)) h
  unfold BSb
  rw [this]
  have h4 : k / 64 < 4 := by omega
  unfold updB
  generalize one1 (k % 64) = o
  generalize k / 64 = i at *
  match i, h4 with
  | 0, _ => rfl
  | 1, _ => rfl
  | 2, _ => rfl
  | 3, _ => rfl
theorem upd_bit (f : Nat → BitVec 64) (k : Nat) (c : UInt8) : bitS (updB f k) c = (bitS f c || decide (c.toNat = k)) := by
  unfold bitS updB
  have hl : c.toNat % 64 < 64 := Nat.mod_lt _ (by decide)
  by_cases h : c.toNat / 64 = k / 64
  · rw [if_pos h, BitVec.getLsbD_or, one1_bit _ _ hl]
    congr 1
    rw [decide_eq_decide]
    omega
  · rw [if_neg h, decide_eq_false (fun e => h (by rw [e])), Bool.or_false]
theorem and63 (k : Nat) (hk : k < 1000) : bits .and .i64 (k : Int) 63 = ((k % 64 : Nat) : Int) := by
  show IntKind.i64.wrap ((BitVec.ofInt 64 (k : Int) &&& BitVec.ofInt 64 63).toNat : Int) = _
  rw [BitVec.toNat_and, BitVec.toNat_ofInt, BitVec.toNat_ofInt]
  rw [show (63 % (2 ^ 64 : Nat) : Int).toNat = 2 ^ 6 - 1 by decide, Nat.and_two_pow_sub_one_eq_mod]
  simp only [IntKind.wrap]; simp [IntKind.signed, IntKind.bits]; omega
theorem has_any (B : Nat) (f : Nat → BitVec 64) (c : UInt8) (w : World) (h : BSb B f w) :
    Calls Tryd.prog 83 #[.pointer (some ⟨B, 0, none⟩), .int .u8 (c.toNat : Int)] w fun e w' => e = .returned (.bool (bitS f c)) ∧ w = w' := by
  have hcb := byte_bd4 c
  have hl : c.toNat % 64 < 64 := Nat.mod_lt _ (by decide)
  have hc := h.cell (c.toNat / 64) (by omega)
  have HR : Hid ((bits BinOp.and IntKind.u64 ((f (c.toNat / 64)).toNat : Int) (IntKind.u64.wrap (2 ^ (c.toNat % 64))) != 0) = bitS f c) := Lib.hid (by
    rw [wrap_one1 _ hl, bv_and, test1 _ _ hl]; rfl)
  go_enter Tryd.func83, Tryd.ntmps83
  go_wp2
  go_ret
  exact ⟨congrArg (fun b => Ending.returned (Value.bool b)) HR.out, rfl⟩
theorem set1_any (B : Nat) (f : Nat → BitVec 64) (c : UInt8) (w : World) (h : BSb B f w) :
    Calls Tryd.prog 84 #[.int .u8 (c.toNat : Int), .pointer (some ⟨B, 0, none⟩)] w fun e w' => e = .returned (.bool (!bitS f c)) ∧ w = w' := by
  have H1 := Lib.hid (has_any B f c w h)
  go_enter Tryd.func84, Tryd.ntmps84
  go_wp2_with (go_at_call 83; (with_reducible refine (H1.out).mono ?_); rintro e w1 ⟨rfl, hw⟩; subst w1)
  go_ret
  exact ⟨rfl, rfl⟩

set_option maxHeartbeats 1000000 in
theorem addRange_any (B : Nat) (f : Nat → BitVec 64) (x y : UInt8) (w : World) (h : BSb B f w) :
    Calls Tryd.prog 97 #[.pointer (some ⟨B, 0, none⟩), .int .u8 (x.toNat : Int), .int .u8 (y.toNat : Int)] w fun e w' => e = .returned (.tuple #[]) ∧ (∃ f', BSb B f' w' ∧ ∀ c, bitS f' c = (bitS f c || inR [(x, y)] c)) ∧ w.grownBy w' (some B) := by
  have hx := byte_bd4 x
  have hy := byte_bd4 y
  go_enter Tryd.func97, Tryd.ntmps97
  go_wp2
  go_loopw [6] (fun vi wr => ∃ (k : Nat) (f' : Nat → BitVec 64), x.toNat ≤ k ∧ (k ≤ y.toNat + 1 ∨ k = x.toNat) ∧ vi = .int .i64 k ∧ Hid (BSb B f' wr) ∧ Hid (∀ c, bitS f' c = (bitS f c || decide (x.toNat ≤ c.toNat ∧ c.toNat < k))) ∧ Hid (w.grownBy wr (some B))) (fun vi _ => 300 - (intOf vi).toNat)
  case atStart => exact ⟨x.toNat, f, Nat.le_refl _, Or.inr rfl, rfl, Lib.hid h, Lib.hid (fun c => by rw [decide_eq_false (by omega), Bool.or_false]), Lib.hid (World.grownBy.refl _ _)⟩
  case round =>
    obtain ⟨k, f', hxk, hky, rfl, HB, HS, HG⟩ := hrel
    rename World => W0
    by_cases hlt : k ≤ y.toNat
    · have hlt' : (k : Int) ≤ (y.toNat : Int) := by omega
      have hl : k % 64 < 64 := Nat.mod_lt _ (by decide)
      have hc := HB.out.cell (k / 64) (by omega)
      have hf := HB.out.fz (k / 64)
      have HO : Hid (bits BinOp.or IntKind.u64 ((f' (k / 64)).toNat : Int) (IntKind.u64.wrap (2 ^ (k % 64))) = ((f' (k / 64) ||| one1 (k % 64)).toNat : Int)) := Lib.hid (by rw [wrap_one1 _ hl, bv_or])
      have hky2 : k < 256 := by omega
      have a63 := and63 k (by omega)
      have d0 : 0 ≤ (k : Int) / 64 := by omega
      have d1 : (k : Int) / 64 < 4 := by omega
      have d2 : ((k : Int) / 64).toNat = k / 64 := by omega
      clear h hky
      go_wp2
      go_region
      rw [HO.out]
      simp only [Exit.inBlock, Exit.then]
      have HV := Lib.hid (BSb.upd (HB.out.heap (w' := W0.drew) rfl) k hky2 _ rfl)
      have HGV := Lib.hid (World.grownBy.trans HG.out (grow_set4 (grow_drewN4 (World.grownBy.refl W0 (some B)) 1) (k / 64) (.int .u64 ((f' (k / 64) ||| one1 (k % 64)).toNat : Int))))
      go_wp2
      go_roundw
      case rel => exact ⟨k + 1, updB f' k, by omega, by omega, by go_num, HV, Lib.hid (fun c => by
        rw [upd_bit, HS.out c, Bool.or_assoc]; congr 1
        rw [← Bool.decide_or, decide_eq_decide]; omega), HGV⟩
      case measure => simp [intOf]; omega
    · have hlt' : ¬ (k : Int) ≤ (y.toNat : Int) := by omega
      clear h
      go_wp2
      first | go_end0 | (refine bodyPost_ret (results_none rfl _ _ _) rfl ?_)
      refine ⟨rfl, ⟨f', HB.out, fun c => ?_⟩, HG.out⟩
      rw [HS.out c, inR1]
      congr 1
      rw [decide_eq_decide]
      omega

set_option maxHeartbeats 2000000 in
theorem addAll_any (B lo hi : Nat) (f : Nat → BitVec 64) (v : Value) (P : UInt8 → Bool) (w : World) (h : BSb B f w) (hT : TV lo hi w v P) (hB : B < lo ∨ hi ≤ B) :
    Calls Tryd.prog 96 #[.pointer (some ⟨B, 0, none⟩), v] w fun e w' => e = .returned (.tuple #[]) ∧ (∃ f', BSb B f' w' ∧ ∀ c, bitS f' c = (bitS f c || P c)) ∧ w.grownBy w' (some B) := by
  obtain ⟨hhi, F, fst, caps, hv, hF, hC⟩ := hT.ex
  subst hv
  have HC := Lib.hid hC
  clear hC hT
  go_enter Tryd.func96, Tryd.ntmps96
  go_wp2
  go_loopw [5] (fun vi wr => ∃ (k : Nat) (f' : Nat → BitVec 64), k ≤ 256 ∧ vi = .int .i64 k ∧ Hid (BSb B f' wr) ∧ Hid (∀ c, bitS f' c = (bitS f c || (P c && decide (c.toNat < k)))) ∧ Hid (w.grownBy wr (some B))) (fun vi _ => 300 - (intOf vi).toNat)
  case atStart => exact ⟨0, f, by omega, rfl, Lib.hid h, Lib.hid (fun c => by rw [decide_eq_false (by omega), Bool.and_false, Bool.or_false]), Lib.hid (World.grownBy.refl _ _)⟩
  case round =>
    obtain ⟨k, f', hk, rfl, HB, HS, HG⟩ := hrel
    rename World => W0
    clear h
    by_cases hlt : k < 256
    · have hlt' : (k : Int) < 256 := by omega
      obtain ⟨d, hd⟩ : ∃ d : UInt8, d.toNat = k := ⟨UInt8.ofNat k, by simp; omega⟩
      have C1 := Lib.hid (HC.out W0 (Kp.grown HG.out hhi (fun b e => by cases e; exact hB)) d)
      have hu : IntKind.u8.wrap (k : Int) = (d.toNat : Int) := by rw [hd]; simp only [IntKind.wrap]; simp [IntKind.signed, IntKind.bits]; omega
      have HD := Lib.hid hd
      clear hd
      cases hp : P d with
      | true =>
        rw [hp] at C1
        have hl : k % 64 < 64 := Nat.mod_lt _ (by decide)
        have hc := HB.out.cell (k / 64) (by omega)
        have hf := HB.out.fz (k / 64)
        have HO : Hid (bits BinOp.or IntKind.u64 ((f' (k / 64)).toNat : Int) (IntKind.u64.wrap (2 ^ (k % 64))) = ((f' (k / 64) ||| one1 (k % 64)).toNat : Int)) := Lib.hid (by rw [wrap_one1 _ hl, bv_or])
        have a63 := and63 k (by omega)
        have d0 : 0 ≤ (k : Int) / 64 := by omega
        have d1 : (k : Int) / 64 < 4 := by omega
        have d2 : ((k : Int) / 64).toNat = k / 64 := by omega
        go_upto_region 4 with (go_at_fn F; (with_reducible refine (C1.out).mono ?_); rintro e w1 ⟨rfl, n, rfl⟩)
        go_region
        rw [HO.out]
        simp only [Exit.inBlock, Exit.then]
        have HV := Lib.hid (BSb.upd (HB.out.heap (w' := (W0.drewN n).drew) (by simp)) k hlt _ rfl)
        have HGV := Lib.hid (World.grownBy.trans HG.out (grow_set4 (grow_drewN4 (grow_drewN4 (World.grownBy.refl W0 (some B)) n) 1) (k / 64) (.int .u64 ((f' (k / 64) ||| one1 (k % 64)).toNat : Int))))
        go_wp2
        go_roundw
        case rel => exact ⟨k + 1, updB f' k, by omega, by go_num, HV, Lib.hid (fun c => by
          rw [upd_bit, HS.out c, Bool.or_assoc]; congr 1
          by_cases e : c.toNat = k
          · have : c = d := UInt8.toNat_inj.1 (by rw [HD.out]; exact e)
            subst this
            simp [hp, e]
          · rw [decide_eq_false e, Bool.or_false]
            congr 1
            rw [decide_eq_decide]; omega), HGV⟩
        case measure => simp [intOf]; omega
      | false =>
        rw [hp] at C1
        have HV := Lib.hid fun n => HB.out.drewN n
        have HGV := Lib.hid fun n => grow_drewN4 HG.out n
        go_wp2_with (go_at_fn F; (with_reducible refine (C1.out).mono ?_); rintro e w1 ⟨rfl, n, rfl⟩)
        go_roundw
        case rel => exact ⟨k + 1, f', by omega, by go_num, Lib.hid (HV.out _), Lib.hid (fun c => by
          rw [HS.out c]; congr 1
          by_cases e : c.toNat = k
          · have : c = d := UInt8.toNat_inj.1 (by rw [HD.out]; exact e)
            subst this
            simp [hp]
          · congr 1
            rw [decide_eq_decide]; omega), Lib.hid (HGV.out _)⟩
        case measure => simp [intOf]; omega
    · have hlt' : ¬ (k : Int) < 256 := by omega
      go_wp2
      first | go_end0 | (refine bodyPost_ret (results_none rfl _ _ _) rfl ?_)
      refine ⟨rfl, ⟨f', HB.out, fun c => ?_⟩, HG.out⟩
      rw [HS.out c]
      congr 1
      have := c.toNat_lt
      rw [decide_eq_true (by omega), Bool.and_true]
end Go.Proofs.YtkbcaklleiapdaaDoor
