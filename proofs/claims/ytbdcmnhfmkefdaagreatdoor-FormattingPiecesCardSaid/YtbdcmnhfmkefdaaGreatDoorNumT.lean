/- Contracts of layer 2: integers in other bases. -/
import Derived.Test.YtbdcmnhfmkefdaaGreatDoorNumL
import Derived.Sort.WalkB12
import Derived.Sort.WalkC
import Derived.Lib.ItoaWalk
import Derived.Laws.IdiomStrings
namespace Go.Proofs.YtbdcmnhfmkefdaaGreatDoor
open Go.RowKit Go.Sort M1 M2
set_option linter.unusedVariables false
theorem slice65 (B j : Nat) (hj : j < 65) (W : World) : (Instr.sliceAt 162 (.pointer (some ⟨B, 0, none⟩)) (some (.int .i64 (j : Int))) none none).run Tryz.prog W = .ok (.slice (some ⟨B, j, none⟩) (65 - j) (65 - j)) W := by
  have al : Tryz.prog.arrayLen 162 = 65 := by kernel_rfl
  have sz : (sizeOf (Tryz.prog.elem 162)).run Tryz.prog W = .ok 1 W := by kernel_rfl
  rw [run_sliceAt_array_l W 162 _ (by kernel_rfl) .i64 j (by omega) (by rw [al]; omega), sz, al]
  simp [slicedAt, Result.andThen, Addr.add, show ¬ (65 = j) by omega]
  exact fun h => h.symm
theorem dig36 (x : Nat) (h : x < 36) : ((⟨#[48, 49, 50, 51, 52, 53, 54, 55, 56, 57, 97, 98, 99, 100, 101, 102, 103, 104, 105, 106, 107, 108, 109, 110, 111, 112, 113, 114, 115, 116, 117, 118, 119, 120, 121, 122]⟩ : ByteArray)[x]'h) = dc x := by
  revert h; revert x; decide
def eB (b : UInt8) : Value := .int .u8 (b.toNat : Int)
theorem z65 : Tryz.zeroCells162 = Array.replicate 65 (.int .u8 0) := by kernel_rfl
theorem holds_65 (w : World) : Holds eB (w.alloc (.cells Tryz.zeroCells162 162)) w.heap.size 0 (Array.replicate 65 (0 : UInt8)) := fun j hj => by
  have hj' : j < 65 := by simpa using hj
  refine ⟨?_, World.frozen?_alloc_new _ _ _ _⟩
  rw [World.cell?_alloc_new, z65, Array.getElem?_replicate, Nat.zero_add, if_pos hj', getElem!_pos _ j hj]
  simp [eB]
def rowL (k : Nat) (acc : List UInt8) : Array UInt8 := (List.replicate k 0 ++ acc).toArray
theorem rowL_size (k : Nat) (acc : List UInt8) : (rowL k acc).size = k + acc.length := by simp [rowL]
theorem rowL_zero (n : Nat) : Array.replicate n (0 : UInt8) = rowL n [] := by simp [rowL]
theorem rowL_set (j : Nat) (acc : List UInt8) (x : UInt8) : (rowL (j + 1) acc).setIfInBounds j x = rowL j (x :: acc) := by
  apply Array.ext'
  simp only [rowL, List.setIfInBounds_toArray]
  rw [List.replicate_succ', List.append_assoc, List.set_append_right _ _ (by simp)]
  simp
theorem rowL_at (j : Nat) (acc : List UInt8) (t : Nat) (ht : t < acc.length) : (rowL j acc)[j + t]! = acc[t] := by
  rw [getElem!_pos _ _ (by rw [rowL_size]; omega)]
  simp [rowL]
theorem row_back (W V : World) (B N j : Nat) (acc : List UInt8) (hH : Holds eB W B 0 (rowL N [])) (hV : V = putRow eB W B 0 (rowL j acc)) (hN : j + acc.length = N) (T : TypeId) (hT : Tryz.prog.underlying T = some (.slice 5)) :
    (convert T 9 (.slice (some ⟨B, j, none⟩) acc.length acc.length)).run Tryz.prog V = .ok (.string (mkB acc)) V := by
  refine run_convert_bytes_back (P := Tryz.prog) V T 9 5 ⟨B, j, none⟩ acc.length acc hT Tryz.underlying5 Tryz.underlying9 (fun t ht => ?_)
  have h2 := holds_putRow eB W B 0 (rowL N []) (rowL j acc) hH (by rw [rowL_size, rowL_size]; simp; omega)
  have h3 := (h2 (j + t) (by rw [rowL_size]; omega)).1
  rw [← hV, rowL_at _ _ _ ht, Nat.zero_add] at h3
  have ha : (⟨B, j, none⟩ : Addr).add t = ⟨B, j + t, none⟩ := by
    unfold Addr.add; split
    · rename_i h; subst h; rfl
    · rfl
  rw [ha]; exact h3
theorem below_putRow {B : Nat} {a W : World} (enc : UInt8 → Value) (b off : Nat) (d : Array UInt8) (h : RowKit.Below B a W) (hb : B ≤ b) : RowKit.Below B a (putRow enc W b off d) := by
  refine h.trans ⟨rfl, rfl, rfl, ?_, fun k hk => ?_⟩
  · simp [putRow, mapBlock]
  · simp only [putRow, mapBlock, Array.getElem?_modify]
    rw [if_neg (by omega)]

set_option maxHeartbeats 4000000 in
set_option maxRecDepth 100000 in
theorem base_pos (n b : Nat) (w : World) (h1 : n ≤ 9223372036854775807) (hb : 2 ≤ b) (hb2 : b ≤ 36) :
    Calls Tryz.prog 109 #[.int .i64 n, .int .i64 b] w fun e w' => e = .returned (.tuple #[.string (mkB (baseL (n : Int) b)), .int .i64 0]) ∧ RowKit.Below w.heap.size w w' := by
  have HL := Lib.hid (bd_len (b := b) (u := n) hb (by omega))
  have hbl : Hid (baseL (n : Int) b = bd b n) := Lib.hid (by unfold baseL; rw [if_neg (by omega)]; simp)
  have hH := Lib.hid (holds_65 w)
  rw [rowL_zero] at hH
  obtain ⟨W1, hW1⟩ : ∃ W1, w.alloc (.cells Tryz.zeroCells162 162) = W1 := ⟨_, rfl⟩
  have hBel : RowKit.Below w.heap.size w W1 := by rw [← hW1]; exact (RowKit.Below.refl _ _).alloc (Nat.le_refl _) _
  rw [hW1] at hH
  have HW := Lib.hid hW1
  clear hW1
  go_enter Tryz.func109, Tryz.ntmps109
  go_wp2

  go_loopw [6, 8] (fun vu va wr => ∃ (u k : Nat) (acc : List UInt8), k + acc.length = 65 ∧ 2 ≤ k ∧ u ≤ 9223372036854775808 ∧ vu = .int .u64 u ∧ va = .int .i64 k ∧ Hid (bd b n = bd b u ++ acc) ∧ Hid (wr = putRow eB W1 w.heap.size 0 (rowL k acc))) (fun vu _ _ => (intOf vu).toNat)
  case atStart => exact ⟨n, 65, [], rfl, by omega, by omega, rfl, rfl, Lib.hid (by simp), Lib.hid (by rw [putRow_self eB W1 w.heap.size 0 (rowL 65 []) hH.out]; exact HW.out)⟩
  case round =>
    obtain ⟨u, k, acc, hk, hk2, hu, rfl, rfl, HB, HWr⟩ := hrel
    rename World => W0
    obtain ⟨j, rfl⟩ : ∃ j, k = j + 1 := ⟨k - 1, by omega⟩
    have hh := holds_putRow eB W1 w.heap.size 0 (rowL 65 []) (rowL (j + 1) acc) hH.out (by rw [rowL_size, rowL_size]; simp; omega)
    rw [← HWr.out] at hh
    have hj1 := hh j (by rw [rowL_size]; omega)
    rw [Nat.zero_add] at hj1
    obtain ⟨hcj, hfj⟩ := hj1
    unfold eB at hcj
    generalize (((rowL (j + 1) acc)[j]!).toNat : Int) = G at hcj
    clear hh
    have hm0 : 0 ≤ (u : Int) % (b : Int) := Int.emod_nonneg _ (by omega)
    have hm1 : (u : Int) % (b : Int) < 36 := by have := Int.emod_lt_of_pos (u : Int) (show 0 < (b : Int) by omega); omega
    have hd0 : 0 ≤ (u : Int) / (b : Int) := Int.ediv_nonneg (by omega) (by omega)
    have hd1 : (u : Int) / (b : Int) ≤ 9223372036854775808 := by have := Int.ediv_le_self (b : Int) (show 0 ≤ (u : Int) by omega); omega
    have hmn : u % b < 36 := by have := Nat.mod_lt u (show 0 < b by omega); omega
    have HV : Hid (W0.setCell ⟨w.heap.size, j, none⟩ (.int .u8 ((dc (u % b)).toNat : Int)) = putRow eB W1 w.heap.size 0 (rowL j (dc (u % b) :: acc))) := Lib.hid (by
      have h := putRow_set eB W1 w.heap.size 0 (rowL (j + 1) acc) j (dc (u % b)) (by rw [rowL_size]; omega)
      rw [rowL_set, Nat.zero_add, ← HWr.out] at h
      exact h)
    have hlen := HL.out
    rw [HB.out, List.length_append] at hlen
    have hl1 := (bd_len (b := b) (u := u) hb (by omega)).1
    by_cases hub : u < b
    · have hz : ((u : Int) / (b : Int) == 0) = true := by rw [beq_iff_eq]; exact Int.ediv_eq_zero_of_lt (by omega) (by omega)
      have HD : Hid (bd b n = dc (u % b) :: acc) := Lib.hid (by rw [HB.out, bd_small hub, Nat.mod_eq_of_lt hub]; rfl)
      go_upto_region 15 with fail
      go_name_world V hV
      rw [dig36 _ hmn, HV.out] at hV
      have HVV := Lib.hid hV.symm
      clear hV HWr HB hlen
      have hsl := slice65 w.heap.size j (by omega)
      have hcv := row_back W1 V w.heap.size 65 j (dc (u % b) :: acc) hH.out HVV.out (by simp; omega) 56 Tryz.underlying56
      rw [show (dc (u % b) :: acc).length = 65 - j by simp; omega] at hcv
      have HR : Hid (Ending.returned (.tuple #[.string (mkB (dc (u % b) :: acc)), .int .i64 0]) = .returned (.tuple #[.string (mkB (baseL (n : Int) b)), .int .i64 0])) := Lib.hid (by rw [hbl.out, HD.out])
      have HBE : Hid (RowKit.Below w.heap.size w V) := Lib.hid (by rw [HVV.out]; exact below_putRow _ _ _ _ hBel (Nat.le_refl _))
      clear HVV HD
      go_wp2
      go_ret2
      exact ⟨HR.out, HBE.out⟩
    · have hz : ((u : Int) / (b : Int) == 0) = false := by
        rw [beq_eq_false_iff_ne]; intro h
        have hh := Int.emod_add_mul_ediv (u : Int) (b : Int)
        rw [h, Int.mul_zero] at hh
        have := Int.emod_lt_of_pos (u : Int) (show 0 < (b : Int) by omega)
        omega
      have HD : Hid (bd b n = bd b (u / b) ++ (dc (u % b) :: acc)) := Lib.hid (by rw [HB.out, bd_big hb (by omega) hub, List.append_assoc]; rfl)
      have hl2 := (bd_len (b := b) (u := u / b) hb (by have := Nat.div_le_self u b; omega)).1
      have hl3 : (bd b u).length = (bd b (u / b)).length + 1 := by rw [bd_big hb (by omega) hub]; simp
      have hdl : u / b < u := Nat.div_lt_self (by omega) (by omega)
      have hj2 : 2 ≤ j := by omega
      have hHD : Hid ((u : Int) / (b : Int) = ((u / b : Nat) : Int)) := Lib.hid (by push_cast; rfl)
      clear hlen hl1 hl2 hl3 HB
      go_wp2
      go_roundw
      case rel =>
        refine ⟨u / b, j, dc (u % b) :: acc, by simp; omega, hj2, by omega, by rw [hHD.out], rfl, HD, Lib.hid ?_⟩
        rw [dig36 _ hmn]; exact HV.out
      case measure => rw [hHD.out]; simp only [intOf]; omega

set_option maxHeartbeats 4000000 in
set_option maxRecDepth 100000 in
theorem base_neg (n b : Nat) (w : World) (h0 : 1 ≤ n) (h1 : n ≤ 9223372036854775808) (hb : 2 ≤ b) (hb2 : b ≤ 36) :
    Calls Tryz.prog 109 #[.int .i64 (-(n : Int)), .int .i64 b] w fun e w' => e = .returned (.tuple #[.string (mkB (baseL (-(n : Int)) b)), .int .i64 0]) ∧ RowKit.Below w.heap.size w w' := by
  have HL := Lib.hid (bd_len (b := b) (u := n) hb (by omega))
  have hbl : Hid (baseL (-(n : Int)) b = 45 :: bd b n) := Lib.hid (by unfold baseL; rw [if_pos (by omega)]; simp)
  have hH := Lib.hid (holds_65 w)
  rw [rowL_zero] at hH
  obtain ⟨W1, hW1⟩ : ∃ W1, w.alloc (.cells Tryz.zeroCells162 162) = W1 := ⟨_, rfl⟩
  have hBel : RowKit.Below w.heap.size w W1 := by rw [← hW1]; exact (RowKit.Below.refl _ _).alloc (Nat.le_refl _) _
  rw [hW1] at hH
  have HW := Lib.hid hW1
  clear hW1
  have hw1 : IntKind.u64.wrap (-IntKind.u64.wrap (-(n : Int))) = (n : Int) := by
    have h2 : IntKind.u64.wrap (-(n : Int)) = 18446744073709551616 - n := by simp only [IntKind.wrap]; simp [IntKind.signed, IntKind.bits]; omega
    rw [h2]; simp only [IntKind.wrap]; simp [IntKind.signed, IntKind.bits]; omega
  have HW1 := Lib.hid hw1
  clear hw1
  go_enter Tryz.func109, Tryz.ntmps109
  go_wp2
  rw [HW1.out]
  go_loopw [6, 8] (fun vu va wr => ∃ (u k : Nat) (acc : List UInt8), k + acc.length = 65 ∧ 2 ≤ k ∧ u ≤ 9223372036854775808 ∧ vu = .int .u64 u ∧ va = .int .i64 k ∧ Hid (bd b n = bd b u ++ acc) ∧ Hid (wr = putRow eB W1 w.heap.size 0 (rowL k acc))) (fun vu _ _ => (intOf vu).toNat)
  case atStart => exact ⟨n, 65, [], rfl, by omega, by omega, rfl, rfl, Lib.hid (by simp), Lib.hid (by rw [putRow_self eB W1 w.heap.size 0 (rowL 65 []) hH.out]; exact HW.out)⟩
  case round =>
    obtain ⟨u, k, acc, hk, hk2, hu, rfl, rfl, HB, HWr⟩ := hrel
    rename World => W0
    obtain ⟨j, rfl⟩ : ∃ j, k = j + 1 := ⟨k - 1, by omega⟩
    have hh := holds_putRow eB W1 w.heap.size 0 (rowL 65 []) (rowL (j + 1) acc) hH.out (by rw [rowL_size, rowL_size]; simp; omega)
    rw [← HWr.out] at hh
    have hj1 := hh j (by rw [rowL_size]; omega)
    rw [Nat.zero_add] at hj1
    obtain ⟨hcj, hfj⟩ := hj1
    unfold eB at hcj
    generalize (((rowL (j + 1) acc)[j]!).toNat : Int) = G at hcj
    clear hh
    have hm0 : 0 ≤ (u : Int) % (b : Int) := Int.emod_nonneg _ (by omega)
    have hm1 : (u : Int) % (b : Int) < 36 := by have := Int.emod_lt_of_pos (u : Int) (show 0 < (b : Int) by omega); omega
    have hd0 : 0 ≤ (u : Int) / (b : Int) := Int.ediv_nonneg (by omega) (by omega)
    have hd1 : (u : Int) / (b : Int) ≤ 9223372036854775808 := by have := Int.ediv_le_self (b : Int) (show 0 ≤ (u : Int) by omega); omega
    have hmn : u % b < 36 := by have := Nat.mod_lt u (show 0 < b by omega); omega
    have HV : Hid (W0.setCell ⟨w.heap.size, j, none⟩ (.int .u8 ((dc (u % b)).toNat : Int)) = putRow eB W1 w.heap.size 0 (rowL j (dc (u % b) :: acc))) := Lib.hid (by
      have h := putRow_set eB W1 w.heap.size 0 (rowL (j + 1) acc) j (dc (u % b)) (by rw [rowL_size]; omega)
      rw [rowL_set, Nat.zero_add, ← HWr.out] at h
      exact h)
    have hlen := HL.out
    rw [HB.out, List.length_append] at hlen
    have hl1 := (bd_len (b := b) (u := u) hb (by omega)).1
    by_cases hub : u < b
    · have hz : ((u : Int) / (b : Int) == 0) = true := by rw [beq_iff_eq]; exact Int.ediv_eq_zero_of_lt (by omega) (by omega)
      have HD : Hid (bd b n = dc (u % b) :: acc) := Lib.hid (by rw [HB.out, bd_small hub, Nat.mod_eq_of_lt hub]; rfl)
      go_upto_region 12 with fail
      go_name_world V hV
      rw [dig36 _ hmn, HV.out] at hV
      have HVV := Lib.hid hV.symm
      clear hV HWr HB hlen hcj hfj
      obtain ⟨i, rfl⟩ : ∃ i, j = i + 1 := ⟨j - 1, by omega⟩
      have hh := holds_putRow eB W1 w.heap.size 0 (rowL 65 []) (rowL (i + 1) (dc (u % b) :: acc)) hH.out (by rw [rowL_size, rowL_size]; simp; omega)
      rw [← HVV.out] at hh
      have hj1 := hh i (by rw [rowL_size]; omega)
      rw [Nat.zero_add] at hj1
      obtain ⟨hcj, hfj⟩ := hj1
      unfold eB at hcj
      generalize (((rowL (i + 1) (dc (u % b) :: acc))[i]!).toNat : Int) = G2 at hcj
      clear hh
      have HV2 : Hid (V.setCell ⟨w.heap.size, i, none⟩ (.int .u8 45) = putRow eB W1 w.heap.size 0 (rowL i (45 :: dc (u % b) :: acc))) := Lib.hid (by
        have h := putRow_set eB W1 w.heap.size 0 (rowL (i + 1) (dc (u % b) :: acc)) i 45 (by rw [rowL_size]; omega)
        rw [rowL_set, Nat.zero_add, ← HVV.out] at h
        exact h)
      go_upto_region 15 with fail
      go_name_world U hU
      rw [HV2.out] at hU
      have HUU := Lib.hid hU.symm
      clear hU HV2 hcj hfj
      have hsl := slice65 w.heap.size i (by omega)
      have hcv := row_back W1 U w.heap.size 65 i (45 :: dc (u % b) :: acc) hH.out HUU.out (by simp; omega) 56 Tryz.underlying56
      rw [show (45 :: dc (u % b) :: acc).length = 65 - i by simp; omega] at hcv
      have HR : Hid (Ending.returned (.tuple #[.string (mkB (45 :: dc (u % b) :: acc)), .int .i64 0]) = .returned (.tuple #[.string (mkB (baseL (-(n : Int)) b)), .int .i64 0])) := Lib.hid (by rw [hbl.out, HD.out])
      have HBE : Hid (RowKit.Below w.heap.size w U) := Lib.hid (by rw [HUU.out]; exact below_putRow _ _ _ _ hBel (Nat.le_refl _))
      clear HUU HVV HD
      go_wp2
      go_ret2
      exact ⟨HR.out, HBE.out⟩
    · have hz : ((u : Int) / (b : Int) == 0) = false := by
        rw [beq_eq_false_iff_ne]; intro h
        have hh := Int.emod_add_mul_ediv (u : Int) (b : Int)
        rw [h, Int.mul_zero] at hh
        have := Int.emod_lt_of_pos (u : Int) (show 0 < (b : Int) by omega)
        omega
      have HD : Hid (bd b n = bd b (u / b) ++ (dc (u % b) :: acc)) := Lib.hid (by rw [HB.out, bd_big hb (by omega) hub, List.append_assoc]; rfl)
      have hl2 := (bd_len (b := b) (u := u / b) hb (by have := Nat.div_le_self u b; omega)).1
      have hl3 : (bd b u).length = (bd b (u / b)).length + 1 := by rw [bd_big hb (by omega) hub]; simp
      have hdl : u / b < u := Nat.div_lt_self (by omega) (by omega)
      have hj2 : 2 ≤ j := by omega
      have hHD : Hid ((u : Int) / (b : Int) = ((u / b : Nat) : Int)) := Lib.hid (by push_cast; rfl)
      clear hlen hl1 hl2 hl3 HB
      go_wp2
      go_roundw
      case rel =>
        refine ⟨u / b, j, dc (u % b) :: acc, by simp; omega, hj2, by omega, by rw [hHD.out], rfl, HD, Lib.hid ?_⟩
        rw [dig36 _ hmn]; exact HV.out
      case measure => rw [hHD.out]; simp only [intOf]; omega

theorem base_out (n b : Int) (w : World) (h : b < 2 ∨ 36 < b) :
    Calls Tryz.prog 109 #[.int .i64 n, .int .i64 b] w fun e w' => e = .returned (.tuple #[.string (mkB []), .int .i64 2]) ∧ RowKit.Below w.heap.size w w' := by
  by_cases h1 : b < 2
  · go_enter Tryz.func109, Tryz.ntmps109
    go_wp2
    go_ret2
    exact ⟨rfl, RowKit.Below.refl _ _⟩
  · have h2 : 36 < b := by omega
    go_enter Tryz.func109, Tryz.ntmps109
    go_wp2
    go_ret2
    exact ⟨rfl, RowKit.Below.refl _ _⟩
theorem base_any (n b : Int) (w : World) (h0 : -9223372036854775808 ≤ n) (h1 : n ≤ 9223372036854775807) :
    Calls Tryz.prog 109 #[.int .i64 n, .int .i64 b] w fun e w' => e = .returned (.tuple #[.string (mkB (baseT n b)), .int .i64 (baseE b)]) ∧ RowKit.Below w.heap.size w w' := by
  by_cases hb : 2 ≤ b ∧ b ≤ 36
  · rw [show baseT n b = baseL n b.toNat from if_pos hb, show baseE b = 0 from if_pos hb]
    obtain ⟨c, rfl⟩ := Int.eq_ofNat_of_zero_le (show 0 ≤ b by omega)
    rw [Int.toNat_natCast]
    by_cases hn : 0 ≤ n
    · obtain ⟨m, rfl⟩ := Int.eq_ofNat_of_zero_le hn
      exact base_pos m c w (by omega) (by omega) (by omega)
    · obtain ⟨m, hm⟩ : ∃ m : Nat, n = -(m : Int) := ⟨n.natAbs, by omega⟩
      subst hm
      exact base_neg m c w (by omega) (by omega) (by omega) (by omega)
  · rw [show baseT n b = [] from if_neg hb, show baseE b = 2 from if_neg hb]
    exact base_out n b w (by omega)
end Go.Proofs.YtbdcmnhfmkefdaaGreatDoor
