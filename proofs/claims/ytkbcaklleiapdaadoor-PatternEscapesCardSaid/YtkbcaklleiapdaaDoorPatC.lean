/- Contracts of layer 4: what % and a byte test. -/
import Derived.Test.YtkbcaklleiapdaaDoorPatB
namespace Go.Proofs.YtkbcaklleiapdaaDoor
open Go.RowKit M4
set_option linter.unusedVariables false
theorem neq_nilF (w : World) : (binOp BinOp.neq 73 Value.nilFunc Value.nilFunc).run Tryd.prog w = .ok (.bool false) w := by kernel_rfl
theorem neq_func (F : FuncId) (fst caps : Array Value) (w : World) : (binOp BinOp.neq 73 (Value.func (.func F) fst caps) Value.nilFunc).run Tryd.prog w = .ok (.bool true) w := by kernel_rfl

set_option maxHeartbeats 8000000 in
set_option maxRecDepth 100000 in
theorem pair_any (x : UInt8) (w : World) :
    Calls Tryd.prog 98 #[.int .u8 (x.toNat : Int)] w fun e w' => ∃ v, e = .returned v ∧ PairSaid w.heap.size x v w' ∧ Below w.heap.size w w' := by
  have hxb := byte_bd4 x
  cases hz : inR [(97, 122)] x with
  | true =>
    have C1 := Lib.hid fun W => class_any x W
    have HP : Hid (pairP x = (cls x).map inR) := Lib.hid (by unfold pairP; rw [if_pos hz])
    go_enter Tryd.func98, Tryd.ntmps98
    go_wp2_with (first | (go_at_call 35; (with_reducible refine (within_any _ _ _ _).mono ?_); rintro e w2 ⟨rfl, rfl⟩) | (go_at_call 51; (with_reducible refine (within1_any _ [(97, 122)] x _ ?_ (by decide)).mono ?_); exact ⟨_, _, rlst_new rfl rfl rfl⟩; rintro e w3 ⟨rfl, h3⟩; subst w3) | (go_at_call 105; (with_reducible refine (C1.out _).mono ?_); rintro e w4 ⟨v, rfl, hcs, hb4⟩))
    go_ret
    refine ⟨_, rfl, ?_, Below.trans (((Below.refl _ _).alloc (Nat.le_refl _) _).alloc (by simp) _) (hb4.mono (by simp; omega))⟩
    unfold PairSaid
    unfold ClsSaid at hcs
    rw [HP.out]
    cases hc : cls x with
    | some rs => rw [hc] at hcs; exact hcs.wide (by simp; omega) (Nat.le_refl _) (Nat.le_refl _)
    | none => rw [hc] at hcs; exact hcs
  | false =>
    cases hZ : inR [(65, 90)] x with
    | true =>
      have hr : 65 ≤ x.toNat ∧ x.toNat ≤ 90 := by rw [inR1] at hZ; exact of_decide_eq_true hZ
      have C1 := Lib.hid fun W => class_any (x - 65 + 97) W
      have hy : ((x - 65 + 97).toNat : Int) = (x.toNat : Int) - 65 + 97 := by
        rw [UInt8.toNat_add, UInt8.toNat_sub_of_le _ _ (UInt8.le_iff_toNat_le.2 (by show 65 ≤ x.toNat; exact hr.1))]; simp; omega
      have HP : Hid (pairP x = (cls (x - 65 + 97)).map fun rs c => !inR rs c) := Lib.hid (by unfold pairP; rw [if_neg (by simp [hz]), if_pos hZ])
      generalize x - 65 + 97 = y at *
      have u1 : IntKind.u8.wrap ((x.toNat : Int) - 65) = (x.toNat : Int) - 65 := by simp only [IntKind.wrap]; simp [IntKind.signed, IntKind.bits]; omega
      have u2 : IntKind.u8.wrap ((x.toNat : Int) - 65 + 97) = (y.toNat : Int) := by rw [hy]; simp only [IntKind.wrap]; simp [IntKind.signed, IntKind.bits]; omega
      have u3 : (x.toNat : Int) - 65 + 97 = (y.toNat : Int) := hy.symm
      have u4 : IntKind.u8.wrap (y.toNat : Int) = (y.toNat : Int) := by have := byte_bd4 y; simp only [IntKind.wrap]; simp [IntKind.signed, IntKind.bits]; omega
      have hr1 := hr.1
      have hr2 := hr.2
      clear hy hr
      go_enter Tryd.func98, Tryd.ntmps98
      go_upto_region 3 with (first | (go_at_call 35; (with_reducible refine (within_any _ _ _ _).mono ?_); rintro e w2 ⟨rfl, rfl⟩) | (go_at_call 51; (with_reducible refine (within1_any _ [(97, 122)] x _ ?_ (by decide)).mono ?_); exact ⟨_, _, rlst_new rfl rfl rfl⟩; rintro e w3 ⟨rfl, h3⟩; subst w3))
      go_name_world V hV
      have HBV : Hid (Below w.heap.size w V) := Lib.hid (by rw [← hV]; exact ((Below.refl _ _).alloc (Nat.le_refl _) _).alloc (by simp) _)
      clear hV
      go_upto_region 5 with (first | (go_at_call 35; (with_reducible refine (within_any _ _ _ _).mono ?_); rintro e w2 ⟨rfl, rfl⟩) | (go_at_call 51; (with_reducible refine (within1_any _ [(65, 90)] x _ ?_ (by decide)).mono ?_); exact ⟨_, _, rlst_new rfl rfl rfl⟩; rintro e w3 ⟨rfl, h3⟩; subst w3) | (go_at_call 105; (with_reducible refine (C1.out _).mono ?_); rintro e w4 ⟨v, rfl, hcs, hb4⟩))
      have HB4 : Hid (Below w.heap.size w w4) := Lib.hid (HBV.out.trans ((Below.trans (((Below.refl _ _).alloc (Nat.le_refl _) _).alloc (by simp) _) (hb4.mono (by simp; omega))).mono HBV.out.size))
      unfold ClsSaid at hcs
      cases hc : cls y with
      | some rs =>
        rw [hc] at hcs
        obtain ⟨_, F, fst, caps, hve, hF, hT⟩ := hcs.ex
        subst hve
        have HT := Lib.hid hcs
        have HQ : Hid (pairP x = some fun c => !inR rs c) := Lib.hid (by rw [HP.out, hc]; rfl)
        clear hcs hT hb4
        have hnf := neq_func F fst caps
        go_wp2_with (go_at_call 106; (with_reducible refine (not_any _ _ _ _).mono ?_); rintro e w5 ⟨rfl, rfl⟩)
        go_ret
        refine ⟨_, rfl, ?_, HB4.out.alloc HB4.out.size _⟩
        unfold PairSaid
        rw [HQ.out]
        exact tv_not (by have := HB4.out.size; omega) (by simp) (by simp) (Nat.le_refl _) (by unfold World.cell?; rw [heap_new]; rfl) ((HT.out.kept (Kp.below ((Below.refl _ _).alloc (Nat.le_refl _) _) (Nat.le_refl _))).wide (by have := HBV.out.size; simp; omega) (Nat.le_refl _) (by simp))
      | none =>
        rw [hc] at hcs
        have hv : v = .nilFunc := hcs
        subst hv
        have HQ : Hid (pairP x = none) := Lib.hid (by rw [HP.out, hc]; rfl)
        clear hcs hb4
        have hnf := neq_nilF
        go_wp2
        go_ret
        exact ⟨_, rfl, by unfold PairSaid; rw [HQ.out]; rfl, HB4.out⟩
    | false =>
      have HB0 := Lib.hid fun (W : World) (h : Below w.heap.size w W) => h
      cases h9 : inR [(48, 57)] x with
      | true =>
        have HQ : Hid (pairP x = none) := Lib.hid (by unfold pairP; rw [if_neg (by simp [hz]), if_neg (by simp [hZ]), if_pos h9])
        go_enter Tryd.func98, Tryd.ntmps98
        go_upto_region 3 with (first | (go_at_call 35; (with_reducible refine (within_any _ _ _ _).mono ?_); rintro e w2 ⟨rfl, rfl⟩) | (go_at_call 51; (with_reducible refine (within1_any _ [(97, 122)] x _ ?_ (by decide)).mono ?_); exact ⟨_, _, rlst_new rfl rfl rfl⟩; rintro e w3 ⟨rfl, h3⟩; subst w3))
        go_name_world V hV
        have HBV : Hid (Below w.heap.size w V) := Lib.hid (by rw [← hV]; exact ((Below.refl _ _).alloc (Nat.le_refl _) _).alloc (by simp) _)
        clear hV
        go_upto_region 8 with (first | (go_at_call 35; (with_reducible refine (within_any _ _ _ _).mono ?_); rintro e w2 ⟨rfl, rfl⟩) | (go_at_call 51; (with_reducible refine (within1_any _ [(65, 90)] x _ ?_ (by decide)).mono ?_); exact ⟨_, _, rlst_new rfl rfl rfl⟩; rintro e w3 ⟨rfl, h3⟩; subst w3))
        go_name_world V2 hV2
        have HBV2 : Hid (Below w.heap.size w V2) := Lib.hid (by rw [← hV2]; exact (HBV.out.alloc HBV.out.size _).alloc (by have := HBV.out.size; simp; omega) _)
        clear hV2
        go_wp2_with (first | (go_at_call 35; (with_reducible refine (within_any _ _ _ _).mono ?_); rintro e w2 ⟨rfl, rfl⟩) | (go_at_call 51; (with_reducible refine (within1_any _ [(48, 57)] x _ ?_ (by decide)).mono ?_); exact ⟨_, _, rlst_new rfl rfl rfl⟩; rintro e w3 ⟨rfl, h3⟩; subst w3))
        go_ret
        exact ⟨_, rfl, by unfold PairSaid; rw [HQ.out]; rfl, (HBV2.out.alloc HBV2.out.size _).alloc (by have := HBV2.out.size; simp; omega) _⟩
      | false =>
        have HQ : Hid (pairP x = some fun c => c == x) := Lib.hid (by unfold pairP; rw [if_neg (by simp [hz]), if_neg (by simp [hZ]), if_neg (by simp [h9])])
        go_enter Tryd.func98, Tryd.ntmps98
        go_upto_region 3 with (first | (go_at_call 35; (with_reducible refine (within_any _ _ _ _).mono ?_); rintro e w2 ⟨rfl, rfl⟩) | (go_at_call 51; (with_reducible refine (within1_any _ [(97, 122)] x _ ?_ (by decide)).mono ?_); exact ⟨_, _, rlst_new rfl rfl rfl⟩; rintro e w3 ⟨rfl, h3⟩; subst w3))
        go_name_world V hV
        have HBV : Hid (Below w.heap.size w V) := Lib.hid (by rw [← hV]; exact ((Below.refl _ _).alloc (Nat.le_refl _) _).alloc (by simp) _)
        clear hV
        go_upto_region 8 with (first | (go_at_call 35; (with_reducible refine (within_any _ _ _ _).mono ?_); rintro e w2 ⟨rfl, rfl⟩) | (go_at_call 51; (with_reducible refine (within1_any _ [(65, 90)] x _ ?_ (by decide)).mono ?_); exact ⟨_, _, rlst_new rfl rfl rfl⟩; rintro e w3 ⟨rfl, h3⟩; subst w3))
        go_name_world V2 hV2
        have HBV2 : Hid (Below w.heap.size w V2) := Lib.hid (by rw [← hV2]; exact (HBV.out.alloc HBV.out.size _).alloc (by have := HBV.out.size; simp; omega) _)
        clear hV2
        go_upto_region 10 with (first | (go_at_call 35; (with_reducible refine (within_any _ _ _ _).mono ?_); rintro e w2 ⟨rfl, rfl⟩) | (go_at_call 51; (with_reducible refine (within1_any _ [(48, 57)] x _ ?_ (by decide)).mono ?_); exact ⟨_, _, rlst_new rfl rfl rfl⟩; rintro e w3 ⟨rfl, h3⟩; subst w3))
        go_name_world V3 hV3
        have HBV3 : Hid (Below w.heap.size w V3) := Lib.hid (by rw [← hV3]; exact (HBV2.out.alloc HBV2.out.size _).alloc (by have := HBV2.out.size; simp; omega) _)
        clear hV3
        go_wp2_with (go_at_call 88; (with_reducible refine (only_any _ _).mono ?_); rintro e w6 ⟨rfl, rfl⟩)
        go_ret
        refine ⟨_, rfl, ?_, HBV3.out.alloc HBV3.out.size _⟩
        unfold PairSaid
        rw [HQ.out]
        exact tv_only (by have := HBV3.out.size; omega) (by simp) (Nat.le_refl _) (by unfold World.cell?; rw [heap_new]; rfl)
end Go.Proofs.YtkbcaklleiapdaaDoor
