/- Contracts of layer 3: the other tests, the loop over a run of bytes. -/
import Derived.Test.YtbcbddglgfakpaaDoorLexA
import Derived.Deep.QuietTactic
import Derived.BigQuiet
import Derived.Laws.EntriesVeiled
namespace Go.Proofs.YtbcbddglgfakpaaDoor
open Go.RowKit M3
set_option linter.unusedVariables false
structure Non (w : World) (L : Nat) (l : List UInt8) : Prop where
  ex : ∃ B, L < w.heap.size ∧ w.cell? ⟨L, 0, none⟩ = some (.func (.func 56) #[] #[.pointer (some ⟨B, 0, none⟩)]) ∧ Lst w B l
theorem Lst.kept {w w' : World} {B : Nat} {l : List UInt8} {r : Option Nat} (h : Lst w B l) (hg : w.grownBy w' r) (hr : ∀ b, r = some b → ∃ s k ln, Sc b s k ln w) : Lst w' B l := by
  obtain ⟨g, hgs, hB, hc, hcs⟩ := h.ex
  refine ⟨g, Nat.lt_of_lt_of_le hgs hg.size, Nat.lt_of_lt_of_le hB hg.size, hg.cell hc ?_, fun j hj => ?_⟩
  · intro e
    obtain ⟨s, k, ln, hs⟩ := hr B e.symm
    rw [hs.c0] at hc; cases hc
  · by_cases e : some g = r
    · obtain ⟨s, k, ln, hs⟩ := hr g e.symm
      have h0 := hcs 0 (by omega)
      rw [hs.c0] at h0; cases h0
    · exact hg.cell (hcs j hj) e
theorem Non.kept {w w' : World} {L : Nat} {l : List UInt8} {r : Option Nat} (h : Non w L l) (hg : w.grownBy w' r) (hr : ∀ b, r = some b → ∃ s k ln, Sc b s k ln w) : Non w' L l := by
  obtain ⟨B, hL, hc, hl⟩ := h.ex
  refine ⟨B, Nat.lt_of_lt_of_le hL hg.size, hg.cell hc ?_, hl.kept hg hr⟩
  intro e
  obtain ⟨s, k, ln, hs⟩ := hr L e.symm
  rw [hs.c0] at hc; cases hc
theorem grow_set {w w' : World} {b : Nat} (h : w.grownBy w' (some b)) (o : Nat) (v : Value) : w.grownBy (w'.setCell ⟨b, o, none⟩ v) (some b) :=
  ⟨h.os, h.tape, h.output, by simpa [World.setCell] using h.size, fun k hk hne => (RowKit.Below.heap_setCell _ _ _ _ (by intro e; exact hne (by rw [e]))).trans (h.block k hk hne)⟩
theorem grow_drew {w w' : World} {row : Option Nat} (h : w.grownBy w' row) : w.grownBy w'.drew row := ⟨h.os, h.tape, h.output, h.size, h.block⟩
theorem grow_drewN {w w' : World} {row : Option Nat} (h : w.grownBy w' row) (n : Nat) : w.grownBy (w'.drewN n) row := ⟨h.os, by simpa using h.tape, h.output, by simpa using h.size, fun k hk hr => by simpa using h.block k hk hr⟩
theorem Sc.drewN {b : Nat} {s : ByteArray} {k ln : Nat} {w : World} (h : Sc b s k ln w) (n : Nat) : Sc b s k ln (w.drewN n) := by unfold Sc at *; simpa using h
theorem grow_below {w w' : World} (h : RowKit.Below w.heap.size w w') (r : Option Nat) : w.grownBy w' r := ⟨h.os, h.tape, h.output, h.size, fun k hk _ => h.block k hk⟩
theorem noneOf_any (g : Nat) (l : List UInt8) (w : World) (hg : g < w.heap.size) (hl : ∀ (j : Nat) (h : j < l.length), w.cell? ⟨g, j, none⟩ = some (.int .u8 (l[j].toNat : Int))) :
    Calls Tryd.prog 47 #[.slice (some ⟨g, 0, none⟩) l.length l.length] w fun e w' => e = .returned (.func (.func 57) #[] #[.pointer (some ⟨w.heap.size + 1, 0, none⟩)]) ∧ Non w' (w.heap.size + 1) l ∧ RowKit.Below w.heap.size w w' := by
  have hmf : ∀ (fn : Fn) (first cap : Array Value) (w : World), (Instr.makeFunc fn first cap).run Tryd.prog w = .ok (.func fn first cap) w := fun _ _ _ _ => rfl
  generalize hW : (w.alloc (.cells #[.slice (some ⟨g, 0, none⟩) l.length l.length] 42)) = W1
  have hz : W1.heap.size = w.heap.size + 1 := by rw [← hW]; simp
  have hb : RowKit.Below w.heap.size w W1 := by rw [← hW]; exact (RowKit.Below.refl _ _).alloc (Nat.le_refl _) _
  have hB : Lst W1 w.heap.size l := ⟨g, by omega, by omega, by rw [← hW]; simp, fun j hj => by rw [RowKit.Below.cell hb (p := ⟨g, j, none⟩) hg]; exact hl j hj⟩
  have O1 : Hid (Calls Tryd.prog 46 #[.slice (some ⟨g, 0, none⟩) l.length l.length] w fun e w' => e = .returned (.func (.func 56) #[] #[.pointer (some ⟨w.heap.size, 0, none⟩)]) ∧ w' = W1) := Lib.hid (by rw [← hW]; exact oneOf_any g l.length w)
  clear hW
  have hc : (W1.alloc (.cells #[.nilFunc] 56)).cell? ⟨W1.heap.size, 0, none⟩ = some .nilFunc := by simp
  have hf : (W1.alloc (.cells #[.nilFunc] 56)).frozen? ⟨W1.heap.size, 0, none⟩ = false := by simp
  have HB := Lib.hid hb
  have HBB := Lib.hid hB
  have HZ := Lib.hid hz
  clear hb hB hz hl hg
  generalize hV : W1.alloc (.cells #[.nilFunc] 56) = V at *
  have HV := Lib.hid hV
  go_enter Tryd.func47, Tryd.ntmps47
  go_wp2_with (go_at_call 46; (with_reducible refine (O1.out).mono ?_); rintro e w1 ⟨rfl, rfl⟩)
  go_ret
  have hb2 : RowKit.Below w1.heap.size w1 (V.setCell ⟨w1.heap.size, 0, none⟩ (.func (.func 56) #[] #[.pointer (some ⟨w.heap.size, 0, none⟩)])) := by
    rw [← HV.out]; exact ((RowKit.Below.refl _ _).alloc (Nat.le_refl _) _).setCell (Nat.le_refl _) _
  have hN : Non (V.setCell ⟨w1.heap.size, 0, none⟩ (.func (.func 56) #[] #[.pointer (some ⟨w.heap.size, 0, none⟩)])) (w.heap.size + 1) l := by
    refine ⟨w.heap.size, ?_, ?_, HBB.out.kept (grow_below hb2 none) (fun _ h => by cases h)⟩
    · rw [← HV.out]; simp; rw [HZ.out]; omega
    · rw [← HZ.out]; go_simp
  refine ⟨?_, hN, HB.out.trans (hb2.mono (by rw [HZ.out]; omega))⟩
  show Ending.returned (.func (.func 57) #[] #[.pointer (some ⟨w1.heap.size, 0, none⟩)]) = _
  rw [HZ.out]
theorem noneOf1_any (L : Nat) (l : List UInt8) (c : UInt8) (w : World) (hL : Non w L l) (hl : l.length ≤ 1000) :
    Calls Tryd.prog 57 #[.int .u8 (c.toNat : Int), .pointer (some ⟨L, 0, none⟩)] w fun e w' => e = .returned (.bool (nah l c)) ∧ w = w' := by
  obtain ⟨B, hLs, hc, hl2⟩ := hL.ex
  have O1 := Lib.hid (oneOf1_any B l c w hl2 hl)
  have hn : nah l c = !has l c := rfl
  rw [hn]
  generalize has l c = hh at *
  clear hn
  go_enter Tryd.func57, Tryd.ntmps57
  go_wp2_with (go_at_call 56; (with_reducible refine (O1.out).mono ?_); rintro e w1 ⟨rfl, rfl⟩)
  go_ret
  exact ⟨rfl, rfl⟩

set_option maxHeartbeats 4000000 in
theorem take_word (b : Nat) (s : ByteArray) (at' ln : Nat) (w : World) (hs : s.size ≤ 4000000000) (ha : at' ≤ s.size) (hSc : Sc b s at' ln w) :
    Calls Tryd.prog 32 #[.pointer (some ⟨b, 0, none⟩), .func (.func 33) #[] #[]] w fun e w' => e = .returned (.string (bs ((s.data.toList.drop at').take (cntP wrd (s.data.toList.drop at'))))) ∧ Sc b s (at' + cntP wrd (s.data.toList.drop at')) ln w' ∧ w.grownBy w' (some b) := by
  have k0 := hSc.c0
  have k1 := hSc.c1
  go_enter Tryd.func32, Tryd.ntmps32
  go_wp2
  clear k0 k1
  go_loopw [10] (fun _ wr => ∃ k : Nat, at' ≤ k ∧ k ≤ s.size ∧ Hid (Sc b s k ln wr) ∧ Hid (w.grownBy wr (some b)) ∧ Hid (cntP wrd (s.data.toList.drop at') = (k - at') + cntP wrd (s.data.toList.drop k))) (fun _ wr => s.size - atOf b wr)
  case atStart => exact ⟨at', Nat.le_refl _, ha, Lib.hid hSc, Lib.hid (World.grownBy.refl _ _), Lib.hid (by simp)⟩
  case round =>
    obtain ⟨k, hak, hks, HS, HG, HC⟩ := hrel
    rename World => W0
    have k0 := HS.out.c0
    have k1 := HS.out.c1
    have f1 := HS.out.fz 1
    have hat := HS.out.atOf
    by_cases hlt : k < s.size
    · have hlt' : (k : Int) < (s.size : Int) := by omega
      have hcb := byte_bd3 s[k]
      have hll : s.data.toList.length = s.size := by simp
      have hcd := cntP_drop (P := wrd) (l := s.data.toList) (k := k) (by omega)
      have hse : s.data.toList[k]'(by omega) = s[k] := by simp; rfl
      rw [hse] at hcd
      have TT : ∀ r, wrd s[k] = r → ∀ n, Calls Tryd.prog 33 #[.int .u8 (s[k].toNat : Int)] (W0.drewN n) fun e w' => e = .returned (.bool r) ∧ ∃ m, w' = W0.drewN m := fun r h n => by have := word3_any s[k] (W0.drewN n); rw [h] at this; exact this.mono fun e w' ⟨h1, h2⟩ => ⟨h1, n, h2.symm⟩
      cases hP : wrd s[k] with
      | true =>
        rw [if_pos hP] at hcd
        have HN : Hid (cntP wrd (s.data.toList.drop at') = (k + 1 - at') + cntP wrd (s.data.toList.drop (k + 1))) := Lib.hid (by rw [HC.out, hcd]; omega)
        have HT := Lib.hid (TT true hP)
        clear hcd HC hse hll TT hP
        have HS2 := Lib.hid fun n => ((HS.out.drewN n).set1 (k + 1) (.int .i64 ((k : Int) + 1)) (by push_cast; rfl))
        have HG2 := Lib.hid fun n => (grow_set (grow_drewN HG.out n) 1 (.int .i64 ((k : Int) + 1)))
        go_wp2
        go_quiet (first | (go_at_call 33; with_reducible exact HT.out _))
        go_wp2
        go_roundw
        case rel => exact ⟨k + 1, by omega, by omega, Lib.hid (HS2.out _), Lib.hid (HG2.out _), HN⟩
        case measure => rw [(HS2.out _).atOf, hat]; omega
      | false =>
        rw [if_neg (by simp [hP])] at hcd
        have HN : Hid (cntP wrd (s.data.toList.drop at') = k - at') := Lib.hid (by rw [HC.out, hcd]; omega)
        have HT := Lib.hid (TT false hP)
        clear hcd HC hse hll TT hP
        go_wp2
        go_quiet (first | (go_at_call 33; with_reducible exact HT.out _))
        go_wp2
        have hak' : (at' : Int) ≤ (k : Int) := by omega
        have hks' : (k : Int) ≤ (s.size : Int) := by omega
        have HS3 := Lib.hid fun n m => (HS.out.drewN n).drewN m
        have HG3 := Lib.hid fun n m => grow_drewN (grow_drewN HG.out n) m
        have HR : Hid (Ending.returned (.string (s.extract at' k)) = .returned (.string (bs ((s.data.toList.drop at').take (cntP wrd (s.data.toList.drop at')))))) := Lib.hid (by rw [HN.out, ext_bs])
        go_quiet (fail)
        go_wp2
        go_ret
        refine ⟨HR.out, ?_, ?_⟩
        · rw [HN.out, show at' + (k - at') = k by omega]; exact HS3.out _ _
        · exact HG3.out _ _
    · have HN : Hid (cntP wrd (s.data.toList.drop at') = k - at') := Lib.hid (by rw [HC.out, cntP_len (by simp; omega)]; omega)
      have hlt' : decide ((k : Int) < (s.size : Int)) = false := decide_eq_false (by omega)
      clear HC
      go_wp2
      go_quiet (fail)
      go_wp2
      have hak' : (at' : Int) ≤ (k : Int) := by omega
      have hks' : (k : Int) ≤ (s.size : Int) := by omega
      have HS3 := Lib.hid fun n m => (HS.out.drewN n).drewN m
      have HG3 := Lib.hid fun n m => grow_drewN (grow_drewN HG.out n) m
      have HR : Hid (Ending.returned (.string (s.extract at' k)) = .returned (.string (bs ((s.data.toList.drop at').take (cntP wrd (s.data.toList.drop at')))))) := Lib.hid (by rw [HN.out, ext_bs])
      go_quiet (fail)
      go_wp2
      go_ret
      refine ⟨HR.out, ?_, ?_⟩
      · rw [HN.out, show at' + (k - at') = k by omega]; exact HS3.out _ _
      · exact HG3.out _ _

set_option maxHeartbeats 4000000 in
theorem take_oneOf (b : Nat) (s : ByteArray) (at' ln : Nat) (w : World) (hs : s.size ≤ 4000000000) (ha : at' ≤ s.size) (hSc : Sc b s at' ln w) (B : Nat) (l : List UInt8) (hL : Lst w B l) (hl : l.length ≤ 1000) :
    Calls Tryd.prog 32 #[.pointer (some ⟨b, 0, none⟩), .func (.func 56) #[] #[.pointer (some ⟨B, 0, none⟩)]] w fun e w' => e = .returned (.string (bs ((s.data.toList.drop at').take (cntP (has l) (s.data.toList.drop at'))))) ∧ Sc b s (at' + cntP (has l) (s.data.toList.drop at')) ln w' ∧ w.grownBy w' (some b) := by
  have k0 := hSc.c0
  have k1 := hSc.c1
  go_enter Tryd.func32, Tryd.ntmps32
  go_wp2
  clear k0 k1
  go_loopw [10] (fun _ wr => ∃ k : Nat, at' ≤ k ∧ k ≤ s.size ∧ Hid (Sc b s k ln wr) ∧ Hid (w.grownBy wr (some b)) ∧ Hid (cntP (has l) (s.data.toList.drop at') = (k - at') + cntP (has l) (s.data.toList.drop k))) (fun _ wr => s.size - atOf b wr)
  case atStart => exact ⟨at', Nat.le_refl _, ha, Lib.hid hSc, Lib.hid (World.grownBy.refl _ _), Lib.hid (by simp)⟩
  case round =>
    obtain ⟨k, hak, hks, HS, HG, HC⟩ := hrel
    rename World => W0
    have k0 := HS.out.c0
    have k1 := HS.out.c1
    have f1 := HS.out.fz 1
    have hat := HS.out.atOf
    by_cases hlt : k < s.size
    · have hlt' : (k : Int) < (s.size : Int) := by omega
      have hcb := byte_bd3 s[k]
      have hll : s.data.toList.length = s.size := by simp
      have hcd := cntP_drop (P := (has l)) (l := s.data.toList) (k := k) (by omega)
      have hse : s.data.toList[k]'(by omega) = s[k] := by simp; rfl
      rw [hse] at hcd
      have HL0 := Lib.hid fun n => hL.kept (grow_drewN HG.out n) (fun b' e => by cases e; exact ⟨_, _, _, hSc⟩)
      have TT : ∀ r, has l s[k] = r → ∀ n, Calls Tryd.prog 56 #[.int .u8 (s[k].toNat : Int), .pointer (some ⟨B, 0, none⟩)] (W0.drewN n) fun e w' => e = .returned (.bool r) ∧ ∃ m, w' = W0.drewN m := fun r h n => by have := oneOf1_any B l s[k] (W0.drewN n) (HL0.out n) hl; rw [h] at this; exact this.mono fun e w' ⟨h1, h2⟩ => ⟨h1, n, h2.symm⟩
      cases hP : (has l) s[k] with
      | true =>
        rw [if_pos hP] at hcd
        have HN : Hid (cntP (has l) (s.data.toList.drop at') = (k + 1 - at') + cntP (has l) (s.data.toList.drop (k + 1))) := Lib.hid (by rw [HC.out, hcd]; omega)
        have HT := Lib.hid (TT true hP)
        clear hcd HC hse hll TT hP
        have HS2 := Lib.hid fun n => ((HS.out.drewN n).set1 (k + 1) (.int .i64 ((k : Int) + 1)) (by push_cast; rfl))
        have HG2 := Lib.hid fun n => (grow_set (grow_drewN HG.out n) 1 (.int .i64 ((k : Int) + 1)))
        go_wp2
        go_quiet (first | (go_at_call 56; with_reducible exact HT.out _))
        go_wp2
        go_roundw
        case rel => exact ⟨k + 1, by omega, by omega, Lib.hid (HS2.out _), Lib.hid (HG2.out _), HN⟩
        case measure => rw [(HS2.out _).atOf, hat]; omega
      | false =>
        rw [if_neg (by simp [hP])] at hcd
        have HN : Hid (cntP (has l) (s.data.toList.drop at') = k - at') := Lib.hid (by rw [HC.out, hcd]; omega)
        have HT := Lib.hid (TT false hP)
        clear hcd HC hse hll TT hP
        go_wp2
        go_quiet (first | (go_at_call 56; with_reducible exact HT.out _))
        go_wp2
        have hak' : (at' : Int) ≤ (k : Int) := by omega
        have hks' : (k : Int) ≤ (s.size : Int) := by omega
        have HS3 := Lib.hid fun n m => (HS.out.drewN n).drewN m
        have HG3 := Lib.hid fun n m => grow_drewN (grow_drewN HG.out n) m
        have HR : Hid (Ending.returned (.string (s.extract at' k)) = .returned (.string (bs ((s.data.toList.drop at').take (cntP (has l) (s.data.toList.drop at')))))) := Lib.hid (by rw [HN.out, ext_bs])
        go_quiet (fail)
        go_wp2
        go_ret
        refine ⟨HR.out, ?_, ?_⟩
        · rw [HN.out, show at' + (k - at') = k by omega]; exact HS3.out _ _
        · exact HG3.out _ _
    · have HN : Hid (cntP (has l) (s.data.toList.drop at') = k - at') := Lib.hid (by rw [HC.out, cntP_len (by simp; omega)]; omega)
      have hlt' : decide ((k : Int) < (s.size : Int)) = false := decide_eq_false (by omega)
      clear HC
      go_wp2
      go_quiet (fail)
      go_wp2
      have hak' : (at' : Int) ≤ (k : Int) := by omega
      have hks' : (k : Int) ≤ (s.size : Int) := by omega
      have HS3 := Lib.hid fun n m => (HS.out.drewN n).drewN m
      have HG3 := Lib.hid fun n m => grow_drewN (grow_drewN HG.out n) m
      have HR : Hid (Ending.returned (.string (s.extract at' k)) = .returned (.string (bs ((s.data.toList.drop at').take (cntP (has l) (s.data.toList.drop at')))))) := Lib.hid (by rw [HN.out, ext_bs])
      go_quiet (fail)
      go_wp2
      go_ret
      refine ⟨HR.out, ?_, ?_⟩
      · rw [HN.out, show at' + (k - at') = k by omega]; exact HS3.out _ _
      · exact HG3.out _ _

set_option maxHeartbeats 4000000 in
theorem take_noneOf (b : Nat) (s : ByteArray) (at' ln : Nat) (w : World) (hs : s.size ≤ 4000000000) (ha : at' ≤ s.size) (hSc : Sc b s at' ln w) (B : Nat) (l : List UInt8) (hL : Non w B l) (hl : l.length ≤ 1000) :
    Calls Tryd.prog 32 #[.pointer (some ⟨b, 0, none⟩), .func (.func 57) #[] #[.pointer (some ⟨B, 0, none⟩)]] w fun e w' => e = .returned (.string (bs ((s.data.toList.drop at').take (cntP (nah l) (s.data.toList.drop at'))))) ∧ Sc b s (at' + cntP (nah l) (s.data.toList.drop at')) ln w' ∧ w.grownBy w' (some b) := by
  have k0 := hSc.c0
  have k1 := hSc.c1
  go_enter Tryd.func32, Tryd.ntmps32
  go_wp2
  clear k0 k1
  go_loopw [10] (fun _ wr => ∃ k : Nat, at' ≤ k ∧ k ≤ s.size ∧ Hid (Sc b s k ln wr) ∧ Hid (w.grownBy wr (some b)) ∧ Hid (cntP (nah l) (s.data.toList.drop at') = (k - at') + cntP (nah l) (s.data.toList.drop k))) (fun _ wr => s.size - atOf b wr)
  case atStart => exact ⟨at', Nat.le_refl _, ha, Lib.hid hSc, Lib.hid (World.grownBy.refl _ _), Lib.hid (by simp)⟩
  case round =>
    obtain ⟨k, hak, hks, HS, HG, HC⟩ := hrel
    rename World => W0
    have k0 := HS.out.c0
    have k1 := HS.out.c1
    have f1 := HS.out.fz 1
    have hat := HS.out.atOf
    by_cases hlt : k < s.size
    · have hlt' : (k : Int) < (s.size : Int) := by omega
      have hcb := byte_bd3 s[k]
      have hll : s.data.toList.length = s.size := by simp
      have hcd := cntP_drop (P := (nah l)) (l := s.data.toList) (k := k) (by omega)
      have hse : s.data.toList[k]'(by omega) = s[k] := by simp; rfl
      rw [hse] at hcd
      have HL0 := Lib.hid fun n => hL.kept (grow_drewN HG.out n) (fun b' e => by cases e; exact ⟨_, _, _, hSc⟩)
      have TT : ∀ r, nah l s[k] = r → ∀ n, Calls Tryd.prog 57 #[.int .u8 (s[k].toNat : Int), .pointer (some ⟨B, 0, none⟩)] (W0.drewN n) fun e w' => e = .returned (.bool r) ∧ ∃ m, w' = W0.drewN m := fun r h n => by have := noneOf1_any B l s[k] (W0.drewN n) (HL0.out n) hl; rw [h] at this; exact this.mono fun e w' ⟨h1, h2⟩ => ⟨h1, n, h2.symm⟩
      cases hP : (nah l) s[k] with
      | true =>
        rw [if_pos hP] at hcd
        have HN : Hid (cntP (nah l) (s.data.toList.drop at') = (k + 1 - at') + cntP (nah l) (s.data.toList.drop (k + 1))) := Lib.hid (by rw [HC.out, hcd]; omega)
        have HT := Lib.hid (TT true hP)
        clear hcd HC hse hll TT hP
        have HS2 := Lib.hid fun n => ((HS.out.drewN n).set1 (k + 1) (.int .i64 ((k : Int) + 1)) (by push_cast; rfl))
        have HG2 := Lib.hid fun n => (grow_set (grow_drewN HG.out n) 1 (.int .i64 ((k : Int) + 1)))
        go_wp2
        go_quiet (first | (go_at_call 57; with_reducible exact HT.out _))
        go_wp2
        go_roundw
        case rel => exact ⟨k + 1, by omega, by omega, Lib.hid (HS2.out _), Lib.hid (HG2.out _), HN⟩
        case measure => rw [(HS2.out _).atOf, hat]; omega
      | false =>
        rw [if_neg (by simp [hP])] at hcd
        have HN : Hid (cntP (nah l) (s.data.toList.drop at') = k - at') := Lib.hid (by rw [HC.out, hcd]; omega)
        have HT := Lib.hid (TT false hP)
        clear hcd HC hse hll TT hP
        go_wp2
        go_quiet (first | (go_at_call 57; with_reducible exact HT.out _))
        go_wp2
        have hak' : (at' : Int) ≤ (k : Int) := by omega
        have hks' : (k : Int) ≤ (s.size : Int) := by omega
        have HS3 := Lib.hid fun n m => (HS.out.drewN n).drewN m
        have HG3 := Lib.hid fun n m => grow_drewN (grow_drewN HG.out n) m
        have HR : Hid (Ending.returned (.string (s.extract at' k)) = .returned (.string (bs ((s.data.toList.drop at').take (cntP (nah l) (s.data.toList.drop at')))))) := Lib.hid (by rw [HN.out, ext_bs])
        go_quiet (fail)
        go_wp2
        go_ret
        refine ⟨HR.out, ?_, ?_⟩
        · rw [HN.out, show at' + (k - at') = k by omega]; exact HS3.out _ _
        · exact HG3.out _ _
    · have HN : Hid (cntP (nah l) (s.data.toList.drop at') = k - at') := Lib.hid (by rw [HC.out, cntP_len (by simp; omega)]; omega)
      have hlt' : decide ((k : Int) < (s.size : Int)) = false := decide_eq_false (by omega)
      clear HC
      go_wp2
      go_quiet (fail)
      go_wp2
      have hak' : (at' : Int) ≤ (k : Int) := by omega
      have hks' : (k : Int) ≤ (s.size : Int) := by omega
      have HS3 := Lib.hid fun n m => (HS.out.drewN n).drewN m
      have HG3 := Lib.hid fun n m => grow_drewN (grow_drewN HG.out n) m
      have HR : Hid (Ending.returned (.string (s.extract at' k)) = .returned (.string (bs ((s.data.toList.drop at').take (cntP (nah l) (s.data.toList.drop at')))))) := Lib.hid (by rw [HN.out, ext_bs])
      go_quiet (fail)
      go_wp2
      go_ret
      refine ⟨HR.out, ?_, ?_⟩
      · rw [HN.out, show at' + (k - at') = k by omega]; exact HS3.out _ _
      · exact HG3.out _ _
end Go.Proofs.YtbcbddglgfakpaaDoor
