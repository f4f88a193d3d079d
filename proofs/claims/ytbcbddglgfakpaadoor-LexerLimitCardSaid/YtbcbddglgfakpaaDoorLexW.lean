/- Contracts of layer 3: decimal escapes, their digits. -/
import Derived.Test.YtbcbddglgfakpaaDoorLexB
import Derived.Deep.RegionWith
import Derived.StillTailTactics
import Derived.Test.YtbcbddglgfakpaaDoorLexH
namespace Go.Proofs.YtbcbddglgfakpaaDoor
open Go.RowKit M3
set_option linter.unusedVariables false
/-- A captured number. -/
def Lf (c : Nat) (v : Int) (w : World) : Prop := w.heap[c]? = some (.cells #[.int .i64 v] 3 (0, 0))
theorem Lf.c0 {c : Nat} {v : Int} {w : World} (h : Lf c v w) : w.cell? ⟨c, 0, none⟩ = some (.int .i64 v) := by unfold Lf at h; simp [World.cell?, h]
theorem Lf.fz {c : Nat} {v : Int} {w : World} (h : Lf c v w) : w.frozen? ⟨c, 0, none⟩ = false := by unfold Lf at h; simp [World.frozen?, h]
theorem Lf.lt {c : Nat} {v : Int} {w : World} (h : Lf c v w) : c < w.heap.size := (Array.getElem?_eq_some_iff.1 h).1
theorem Lf.set {c : Nat} {v : Int} {w : World} (h : Lf c v w) (u : Int) : Lf c u (w.setCell ⟨c, 0, none⟩ (.int .i64 u)) := heap_setCell_same w c 0 _ _ _ h
theorem Lf.heap {c : Nat} {v : Int} {w w' : World} (h : Lf c v w) (e : w'.heap = w.heap) : Lf c v w' := by unfold Lf at *; rw [e]; exact h
theorem dec1_any (c : Nat) (v : Int) (x : UInt8) (w : World) (hL : Lf c v w) (h0 : -1000 ≤ v) (h1 : v ≤ 1000) :
    Calls Tryd.prog 74 #[.int .u8 (x.toNat : Int), .pointer (some ⟨c, 0, none⟩)] w fun e w' => e = .returned (.bool (decide (1 ≤ v) && dgt x)) ∧ w' = w.setCell ⟨c, 0, none⟩ (.int .i64 (v - 1)) := by
  have c0 := hL.c0
  have f0 := hL.fz
  have hcb := byte_bd3 x
  have G := Lib.hid fun w => digit3_any x w
  by_cases h : 1 ≤ v
  · have h' : 0 ≤ v - 1 := by omega
    have HD : Hid (decide (1 ≤ v) = true) := Lib.hid (decide_eq_true h)
    generalize dgt x = d at *
    clear h
    go_enter Tryd.func74, Tryd.ntmps74
    go_wp2_with (go_at_call 31; (with_reducible refine (G.out _).mono ?_); rintro e w1 ⟨rfl, rfl⟩)
    go_ret
    exact ⟨by rw [HD.out]; simp, rfl⟩
  · have h' : ¬ 0 ≤ v - 1 := by omega
    have HD : Hid (decide (1 ≤ v) = false) := Lib.hid (decide_eq_false h)
    clear h
    go_enter Tryd.func74, Tryd.ntmps74
    go_wp2_with (go_at_call 31; (with_reducible refine (G.out _).mono ?_); rintro e w1 ⟨rfl, rfl⟩)
    go_ret
    exact ⟨by rw [HD.out]; simp, rfl⟩
theorem Lf.other {c : Nat} {v : Int} {w : World} (h : Lf c v w) {j : Nat} (hj : c ≠ j) (o : Nat) (u : Value) : Lf c v (w.setCell ⟨j, o, none⟩ u) := by
  unfold Lf at *; rw [RowKit.Below.heap_setCell _ _ _ _ (by simpa using hj)]; exact h
theorem Lf.kept {c : Nat} {v : Int} {w w' : World} {r : Option Nat} (h : Lf c v w) (hg : w.grownBy w' r) (hr : r ≠ some c) : Lf c v w' := by
  unfold Lf at *; rw [hg.block c (Array.getElem?_eq_some_iff.1 h).1 (fun e => hr e.symm)]; exact h
/-- The digits of a decimal escape. -/
def dn (l : List UInt8) : Nat := cntP dgt (l.take 3)
theorem cntT {l : List UInt8} {k j : Nat} (hk : k < l.length) : cntP dgt ((l.drop k).take j) = if (decide (1 ≤ j) && dgt l[k]) = true then cntP dgt ((l.drop (k + 1)).take (j - 1)) + 1 else 0 := by
  rw [List.drop_eq_getElem_cons hk]
  match j with
  | 0 => rfl
  | j + 1 => rw [List.take_succ_cons, Nat.add_sub_cancel]; simp only [Nat.le_add_left, decide_true, Bool.true_and]; rfl
set_option maxHeartbeats 4000000 in
set_option maxRecDepth 100000 in
theorem take_dec (b c : Nat) (s : ByteArray) (at' ln : Nat) (w0 w : World) (hs : s.size ≤ 4000000000) (ha : at' ≤ s.size) (hSc : Sc b s at' ln w) (hL : Lf c 3 w) (hc : w0.heap.size ≤ c) (hb : b < w0.heap.size) (hG : w0.grownBy w (some b)) :
    Calls Tryd.prog 32 #[.pointer (some ⟨b, 0, none⟩), .func (.func 74) #[] #[.pointer (some ⟨c, 0, none⟩)]] w fun e w' => e = .returned (.string (bs ((s.data.toList.drop at').take (dn (s.data.toList.drop at'))))) ∧ Sc b s (at' + dn (s.data.toList.drop at')) ln w' ∧ w0.grownBy w' (some b) := by
  have k0 := hSc.c0
  have k1 := hSc.c1
  go_enter Tryd.func32, Tryd.ntmps32
  go_wp2
  clear k0 k1
  go_loopw [10] (fun _ wr => ∃ k : Nat, at' ≤ k ∧ k ≤ s.size ∧ k - at' ≤ 3 ∧ Hid (Sc b s k ln wr) ∧ Hid (Lf c (3 - ((k : Int) - at')) wr) ∧ Hid (w0.grownBy wr (some b)) ∧ Hid (dn (s.data.toList.drop at') = (k - at') + cntP dgt ((s.data.toList.drop k).take (3 - (k - at'))))) (fun _ wr => s.size - atOf b wr)
  case atStart => exact ⟨at', Nat.le_refl _, ha, by omega, Lib.hid hSc, Lib.hid (by simpa using hL), Lib.hid hG, Lib.hid (by simp [dn])⟩
  case round =>
    obtain ⟨k, hak, hks, hk3, HS, HL, HG, HC⟩ := hrel
    rename World => W0
    clear hSc hL hG
    have k0 := HS.out.c0
    have k1 := HS.out.c1
    have hat := HS.out.atOf
    have hak' : (at' : Int) ≤ (k : Int) := by omega
    have hks' : (k : Int) ≤ (s.size : Int) := by omega
    by_cases hlt : k < s.size
    · have hlt' : (k : Int) < (s.size : Int) := by omega
      have hcb := byte_bd3 s[k]
      have hll : s.data.toList.length = s.size := by simp
      have hcd := cntT (l := s.data.toList) (k := k) (j := 3 - (k - at')) (by omega)
      have hse : s.data.toList[k]'(by omega) = s[k] := by simp; rfl
      rw [hse] at hcd
      have hvv : decide (1 ≤ 3 - (k - at')) = decide ((1 : Int) ≤ 3 - ((k : Int) - at')) := by apply decide_eq_decide.2; omega
      rw [hvv] at hcd
      have T0 : ∀ W : World, W.heap = W0.heap → w0.grownBy W (some b) → Calls Tryd.prog 74 #[.int .u8 (s[k].toNat : Int), .pointer (some ⟨c, 0, none⟩)] W fun e w' => e = .returned (.bool (decide ((1 : Int) ≤ 3 - ((k : Int) - at')) && dgt s[k])) ∧ Sc b s k ln w' ∧ Lf c (3 - ((k : Int) - at') - 1) w' ∧ w0.grownBy w' (some b) := fun W e hg =>
        (dec1_any c (3 - ((k : Int) - at')) s[k] W (HL.out.heap e) (by omega) (by omega)).mono fun e' w' ⟨h1, h2⟩ => ⟨h1, by rw [h2]; exact ((HS.out.heap e).kept (grow_set (World.grownBy.refl W (some c)) 0 _) (by simp; omega)), by rw [h2]; exact (HL.out.heap e).set _, by rw [h2]; exact grow_new hg hc _ _⟩
      have HR1 : Hid ((decide ((1 : Int) ≤ 3 - ((k : Int) - at')) && dgt s[k]) = true → k - at' + 1 ≤ 3) := Lib.hid (by
        intro h; have := of_decide_eq_true (Bool.and_eq_true_iff.1 h).1; omega)
      generalize (decide ((1 : Int) ≤ 3 - ((k : Int) - at')) && dgt s[k]) = r at *
      clear hvv hse hll
      generalize hvd : (3 - ((k : Int) - at')) = v at *
      have HV := Lib.hid hvd
      clear hvd
      cases r with
      | true =>
        have hk4 := HR1.out rfl
        rw [if_pos rfl] at hcd
        have HN : Hid (dn (s.data.toList.drop at') = (k + 1 - at') + cntP dgt ((s.data.toList.drop (k + 1)).take (3 - (k + 1 - at')))) := Lib.hid (by rw [HC.out, hcd, show 3 - (k - at') - 1 = 3 - (k + 1 - at') by omega]; omega)
        have HT := Lib.hid T0
        clear hcd HC T0
        go_wp2
        go_still_tail 21, (by kernel_rfl)
        change wpList _ _ _ _ _ W0.drew
        go_wp2_with (go_at_call 74; (with_reducible refine (HT.out _ ?_ ?_).mono ?_); rfl; exact grow_drew HG.out; rintro e w1 ⟨rfl, hs1, hl1, hg1⟩; have q1 := hs1.c1; have q0 := hs1.c0; have f1 := hs1.fz 1)
        all_goals (
          have hs1 := ‹Sc b s k ln _›
          have hl1 := ‹Lf c (v - 1) _›
          have hg1 := ‹World.grownBy w0 _ (some b)›
          go_wp2
          go_roundw
          case rel => exact ⟨k + 1, by omega, by omega, by omega, Lib.hid (hs1.set1 (k + 1) _ (by push_cast; rfl)), Lib.hid (by have := hl1; rw [show v - 1 = 3 - (((k + 1 : Nat) : Int) - at') by rw [← HV.out]; push_cast; omega] at this; exact this.other (by omega) _ _), Lib.hid (grow_set hg1 1 _), HN⟩
          case measure => rw [(hs1.set1 (k + 1) _ (by push_cast; rfl)).atOf, hat]; omega)
      | false =>
        rw [if_neg (by simp)] at hcd
        have HN : Hid (dn (s.data.toList.drop at') = k - at') := Lib.hid (by rw [HC.out, hcd]; omega)
        have HT := Lib.hid T0
        have HR : Hid (Ending.returned (.string (s.extract at' k)) = .returned (.string (bs ((s.data.toList.drop at').take (dn (s.data.toList.drop at')))))) := Lib.hid (by rw [HN.out, ext_bs])
        clear hcd HC T0
        go_wp2
        go_still_tail 21, (by kernel_rfl)
        change wpList _ _ _ _ _ W0.drew
        go_wp2_with (go_at_call 74; (with_reducible refine (HT.out _ ?_ ?_).mono ?_); rfl; exact grow_drew HG.out; rintro e w1 ⟨rfl, hs1, hl1, hg1⟩; have q1 := hs1.c1; have q0 := hs1.c0; have f1 := hs1.fz 1)
        all_goals (
          have hs1 := ‹Sc b s k ln _›
          have hg1 := ‹World.grownBy w0 _ (some b)›
          go_wp2
          go_quiet (fail)
          go_wp2
          go_ret
          refine ⟨HR.out, ?_, ?_⟩
          · rw [HN.out, show at' + (k - at') = k by omega]; exact hs1.drewN _
          · exact grow_drewN hg1 _)
    · have HN : Hid (dn (s.data.toList.drop at') = k - at') := Lib.hid (by rw [HC.out, List.drop_eq_nil_of_le (by simp; omega)]; simp [cntP])
      have hlt' : decide ((k : Int) < (s.size : Int)) = false := decide_eq_false (by omega)
      have HR : Hid (Ending.returned (.string (s.extract at' k)) = .returned (.string (bs ((s.data.toList.drop at').take (dn (s.data.toList.drop at')))))) := Lib.hid (by rw [HN.out, ext_bs])
      clear HC
      go_wp2
      go_quiet (fail)
      go_wp2
      go_quiet (fail)
      go_wp2
      go_ret
      refine ⟨HR.out, ?_, ?_⟩
      · rw [HN.out, show at' + (k - at') = k by omega]; exact (HS.out.drewN _).drewN _
      · exact grow_drewN (grow_drewN HG.out _) _
end Go.Proofs.YtbcbddglgfakpaaDoor
