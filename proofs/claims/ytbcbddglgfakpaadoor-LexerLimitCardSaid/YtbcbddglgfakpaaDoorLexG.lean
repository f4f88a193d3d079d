/- Contracts of layer 3: numerals that are read. -/
import Derived.Test.YtbcbddglgfakpaaDoorLexF
import Derived.Test.YtbcbddglgfakpaaDoorNumH
namespace Go.Proofs.YtbcbddglgfakpaaDoor
open Go.RowKit M1 M2 M3
set_option linter.unusedVariables false
/-- What is read at a digit: the text, the error, the place behind. -/
def numL (l : List UInt8) (a : Nat) : List UInt8 × Int × Nat :=
  if (scanR l (a : Int)).E ≠ 0 then ([], (scanR l (a : Int)).E, a)
  else if 0 < cntP wrd (l.drop (scanR l (a : Int)).N.toNat) then ([], 4, (scanR l (a : Int)).N.toNat + cntP wrd (l.drop (scanR l (a : Int)).N.toNat))
  else ((l.drop a).take ((scanR l (a : Int)).N.toNat - a), 0, (scanR l (a : Int)).N.toNat)
theorem scan_bd {l : List UInt8} {a : Nat} (h : (scanR l (a : Int)).E = 0) : (a : Int) ≤ (scanR l (a : Int)).N ∧ (scanR l (a : Int)).N ≤ (l.length : Int) := by
  unfold scanR at h ⊢
  rw [Int.toNat_natCast] at h ⊢
  have hf := (meas_wf (l.drop a)).2.2.2
  rw [List.length_drop] at hf
  split at h
  · cases h
  · rename_i h0
    rw [if_neg h0]
    split at h
    · cases h
    · rename_i h1
      rw [if_neg h1]
      split at h
      · rename_i h2
        rw [if_pos h2]
        show (a : Int) ≤ (a : Int) + _ ∧ (a : Int) + _ ≤ _
        omega
      · rename_i h2; exact absurd h h2

set_option maxHeartbeats 4000000 in
theorem number_e (b : Nat) (s : ByteArray) (at' ln : Nat) (P Q : Int) (E : Int) (hE : (E == 0) = false) (w : World) (hs : s.size ≤ 4000000000) (ha : at' ≤ s.size) (Z : Int) (hSc : Sc b s at' ln w)
    (C1 : Hid (∀ w, Calls Tryd.prog 58 #[.string s, .int .i64 (at' : Int)] w fun e w' => e = .returned (.tuple #[.agg #[.int .i64 P, .int .i64 Q], .int .i64 Z, .int .i64 E]) ∧ Below w.heap.size w w'))
    : Calls Tryd.prog 48 #[.pointer (some ⟨b, 0, none⟩)] w fun e w' => e = .returned (.tuple #[.string ⟨#[]⟩, .int .i64 E]) ∧ Sc b s at' ln w' ∧ w.grownBy w' (some b) := by
  have k0 := hSc.c0
  have k1 := hSc.c1
  have hbl := hSc.lt
  go_enter Tryd.func48, Tryd.ntmps48
  go_upto_region 3 with (go_at_call 58; (with_reducible refine (C1.out _).mono ?_); rintro e w1 ⟨rfl, hb1⟩)
  go_name_world V hV
  have hbV : Below w.heap.size w V := by rw [← hV]; exact hb1.alloc (by have := hb1.size; omega) _
  have HSV := Lib.hid (hSc.kept (grow_below hbV none) (by simp))
  have HGV := Lib.hid (grow_below hbV (some b))
  clear hb1 hV hbV k0 k1
  go_wp2
  go_ret2
  exact ⟨rfl, HSV.out, HGV.out⟩

set_option maxHeartbeats 4000000 in
theorem number_w (b : Nat) (s : ByteArray) (at' ln M : Nat) (P Q : Int) (n2 : Nat) (x : ByteArray) (hx : (x.toList == []) = false) (w : World) (hs : s.size ≤ 4000000000) (ha : at' ≤ s.size) (hM1 : at' ≤ M) (hM2 : M ≤ s.size) (hSc : Sc b s at' ln w)
    (C1 : Hid (∀ w, Calls Tryd.prog 58 #[.string s, .int .i64 (at' : Int)] w fun e w' => e = .returned (.tuple #[.agg #[.int .i64 P, .int .i64 Q], .int .i64 (M : Int), .int .i64 0]) ∧ Below w.heap.size w w'))
    (T1 : Hid (∀ w, Sc b s M ln w → Calls Tryd.prog 32 #[.pointer (some ⟨b, 0, none⟩), .func (.func 33) #[] #[]] w fun e w' => e = .returned (.string x) ∧ Sc b s (M + n2) ln w' ∧ w.grownBy w' (some b)))
    : Calls Tryd.prog 48 #[.pointer (some ⟨b, 0, none⟩)] w fun e w' => e = .returned (.tuple #[.string ⟨#[]⟩, .int .i64 4]) ∧ Sc b s (M + n2) ln w' ∧ w.grownBy w' (some b) := by
  have k0 := hSc.c0
  have k1 := hSc.c1
  have hbl := hSc.lt
  have hM1' : (at' : Int) ≤ (M : Int) := by omega
  have hM2' : (M : Int) ≤ (s.size : Int) := by omega
  go_enter Tryd.func48, Tryd.ntmps48
  go_upto_region 3 with (go_at_call 58; (with_reducible refine (C1.out _).mono ?_); rintro e w1 ⟨rfl, hb1⟩)
  go_name_world V hV
  have hbV : Below w.heap.size w V := by rw [← hV]; exact hb1.alloc (by have := hb1.size; omega) _
  have HSV := Lib.hid (hSc.kept (grow_below hbV none) (by simp))
  have HGV := Lib.hid (grow_below hbV (some b))
  clear hb1 hV hbV k0 k1
  have k0 := HSV.out.c0
  have f1 := HSV.out.fz 1
  have k1 := HSV.out.c1
  have HS1 := Lib.hid (HSV.out.set1 M (.int .i64 (M : Int)) rfl)
  have HG1 := Lib.hid (grow_set HGV.out 1 (.int .i64 (M : Int)))
  go_wp2_with (go_at_call 32; (with_reducible refine (T1.out _ HS1.out).mono ?_); rintro e w5 ⟨rfl, hs5, hg5⟩; have j0 := hs5.c0)
  go_ret2
  exact ⟨rfl, hs5, World.grownBy.trans HG1.out hg5⟩

set_option maxHeartbeats 4000000 in
theorem number_o (b : Nat) (s : ByteArray) (at' ln M : Nat) (P Q : Int) (n2 : Nat) (hn2 : n2 = 0) (w : World) (hs : s.size ≤ 4000000000) (ha : at' ≤ s.size) (hM1 : at' ≤ M) (hM2 : M ≤ s.size) (hSc : Sc b s at' ln w)
    (C1 : Hid (∀ w, Calls Tryd.prog 58 #[.string s, .int .i64 (at' : Int)] w fun e w' => e = .returned (.tuple #[.agg #[.int .i64 P, .int .i64 Q], .int .i64 (M : Int), .int .i64 0]) ∧ Below w.heap.size w w'))
    (T1 : Hid (∀ w, Sc b s M ln w → Calls Tryd.prog 32 #[.pointer (some ⟨b, 0, none⟩), .func (.func 33) #[] #[]] w fun e w' => e = .returned (.string ⟨#[]⟩) ∧ Sc b s (M + n2) ln w' ∧ w.grownBy w' (some b)))
    : Calls Tryd.prog 48 #[.pointer (some ⟨b, 0, none⟩)] w fun e w' => e = .returned (.tuple #[.string (s.extract at' M), .int .i64 0]) ∧ Sc b s M ln w' ∧ w.grownBy w' (some b) := by
  have k0 := hSc.c0
  have k1 := hSc.c1
  have hbl := hSc.lt
  have hM1' : (at' : Int) ≤ (M : Int) := by omega
  have hM2' : (M : Int) ≤ (s.size : Int) := by omega
  go_enter Tryd.func48, Tryd.ntmps48
  go_upto_region 3 with (go_at_call 58; (with_reducible refine (C1.out _).mono ?_); rintro e w1 ⟨rfl, hb1⟩)
  go_name_world V hV
  have hbV : Below w.heap.size w V := by rw [← hV]; exact hb1.alloc (by have := hb1.size; omega) _
  have HSV := Lib.hid (hSc.kept (grow_below hbV none) (by simp))
  have HGV := Lib.hid (grow_below hbV (some b))
  clear hb1 hV hbV k0 k1
  have k0 := HSV.out.c0
  have f1 := HSV.out.fz 1
  have k1 := HSV.out.c1
  have HS1 := Lib.hid (HSV.out.set1 M (.int .i64 (M : Int)) rfl)
  have HG1 := Lib.hid (grow_set HGV.out 1 (.int .i64 (M : Int)))
  go_wp2_with (go_at_call 32; (with_reducible refine (T1.out _ HS1.out).mono ?_); rintro e w5 ⟨rfl, hs5, hg5⟩; have j0 := hs5.c0)
  go_ret2
  exact ⟨rfl, by rw [hn2] at hs5; exact hs5, World.grownBy.trans HG1.out hg5⟩

theorem number3_any (b : Nat) (s : ByteArray) (at' ln : Nat) (w : World) (hs : s.size ≤ 4000000000) (ha : at' ≤ s.size) (hSc : Sc b s at' ln w) :
    Calls Tryd.prog 48 #[.pointer (some ⟨b, 0, none⟩)] w fun e w' => e = .returned (.tuple #[.string (bs (numL s.data.toList at').1), .int .i64 (numL s.data.toList at').2.1]) ∧ Sc b s (numL s.data.toList at').2.2 ln w' ∧ w.grownBy w' (some b) := by
  have C0 := fun w => scan_any s (at' : Int) w hs
  have hll : s.data.toList.length = s.size := by simp
  by_cases hE : (scanR s.data.toList (at' : Int)).E = 0
  · obtain ⟨h1, h2⟩ := scan_bd hE
    rw [hll] at h2
    obtain ⟨M, hM⟩ := Int.eq_ofNat_of_zero_le (show 0 ≤ (scanR s.data.toList (at' : Int)).N by omega)
    have hM' : (scanR s.data.toList (at' : Int)).N.toNat = M := by rw [hM]; rfl
    have T0 := fun w h => take_word b s M ln w hs (by omega) h
    by_cases hn : 0 < cntP wrd (s.data.toList.drop M)
    · have hv : numL s.data.toList at' = ([], 4, M + cntP wrd (s.data.toList.drop M)) := by unfold numL; rw [if_neg (by simp [hE]), hM', if_pos hn]
      rw [hv]
      rw [hE, hM] at C0
      have hle := cntP_le wrd (s.data.toList.drop M)
      refine number_w b s at' ln M _ _ _ _ ?_ w hs ha (by omega) (by omega) hSc (Lib.hid C0) (Lib.hid T0)
      rw [toList_data, bs_list, beq_eq_false_iff_ne]
      intro h
      have := congrArg List.length h
      rw [List.length_take, List.length_nil] at this
      omega
    · have h0 : cntP wrd (s.data.toList.drop M) = 0 := by omega
      have hv : numL s.data.toList at' = ((s.data.toList.drop at').take (M - at'), 0, M) := by unfold numL; rw [if_neg (by simp [hE]), hM', if_neg hn]
      rw [hv, ← ext_bs]
      rw [hE, hM] at C0
      rw [h0] at T0
      exact number_o b s at' ln M _ _ 0 rfl w hs ha (by omega) (by omega) hSc (Lib.hid C0) (Lib.hid T0)
  · have hv : numL s.data.toList at' = ([], (scanR s.data.toList (at' : Int)).E, at') := by unfold numL; rw [if_pos hE]
    rw [hv]
    exact number_e b s at' ln _ _ _ (beq_eq_false_iff_ne.2 hE) w hs ha _ hSc (Lib.hid C0)
end Go.Proofs.YtbcbddglgfakpaaDoor
