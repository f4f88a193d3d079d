/- Contracts of layer 4: the byte behind %. -/
import Derived.Test.YtkbcaklleiapdaaDoorPatD
import Derived.StillTailTactics
namespace Go.Proofs.YtkbcaklleiapdaaDoor
open Go.RowKit M4
set_option linter.unusedVariables false
theorem eql_nilF (w : World) : (binOp BinOp.eql 73 Value.nilFunc Value.nilFunc).run Tryd.prog w = .ok (.bool true) w := by kernel_rfl
theorem eql_func (F : FuncId) (fst caps : Array Value) (w : World) : (binOp BinOp.eql 73 (Value.func (.func F) fst caps) Value.nilFunc).run Tryd.prog w = .ok (.bool false) w := by kernel_rfl
theorem grow_below4 {w w' : World} (h : Below w.heap.size w w') (r : Option Nat) : w.grownBy w' r := ⟨h.os, h.tape, h.output, h.size, fun k hk _ => h.block k hk⟩

set_option maxHeartbeats 4000000 in
set_option maxRecDepth 100000 in
theorem pairR_any (b : Nat) (p : ByteArray) (k : Nat) (st op : Value) (w : World) (hp : p.size ≤ 1000000) (hk : k ≤ p.size) (h : Rd b p k st op w) :
    Calls Tryd.prog 87 #[.pointer (some ⟨b, 0, none⟩)] w fun e w' => ∃ v, e = .returned (.tuple #[v, .int .i64 (if (pairL p.data.toList k).isSome = true then 0 else 4)]) ∧ Rd b p (if (pairL p.data.toList k).isSome = true then k + 1 else k) st op w' ∧ (match pairL p.data.toList k with | some P => TV w.heap.size w'.heap.size w' v P | none => v = .nilFunc) ∧ w.grownBy w' (some b) := by
  have hll : p.data.toList.length = p.size := Array.length_toList
  have c0 := h.c0
  have c1 := h.c1
  have HD := Lib.hid fun n => h.drewN n
  have HG := Lib.hid fun n => grow_drewN4 (World.grownBy.refl w (some b)) n
  by_cases hkl : k < p.size
  · have hkl' : (k : Int) < (p.size : Int) := by omega
    have hk0 : 0 ≤ (k : Int) := by omega
    have hq : ((k : Int) == (p.size : Int)) = false := by rw [beq_eq_false_iff_ne]; omega
    have hge : p.data.toList[k]? = some p[k] := by rw [List.getElem?_eq_getElem (by omega)]; rfl
    obtain ⟨x, hx⟩ : ∃ x, p[k] = x := ⟨_, rfl⟩
    have hxi : (p[k].toNat : Int) = (x.toNat : Int) := by rw [hx]
    have hpl : pairL p.data.toList k = pairP x := by unfold pairL; rw [hge, hx]
    rw [hpl]
    have P1 := Lib.hid fun W => pair_any x W
    have hlt := h.lt
    have HH := Lib.hid h
    clear hge hx hpl h
    cases hpp : pairP x with
    | some P =>
      simp only [Option.isSome_some, if_true]
      go_enter Tryd.func87, Tryd.ntmps87
      go_wp2
      go_quiet (fail)
      go_upto_region 3 with fail
      go_name_world V hV
      have HV : Hid (Rd b p k st op V) := Lib.hid (by rw [← hV]; exact HD.out _)
      have HGV : Hid (w.grownBy V (some b)) := Lib.hid (by rw [← hV]; exact HG.out _)
      clear hV HD HG c0 c1 HH
      have c0 := HV.out.c0
      have c1 := HV.out.c1
      go_still_tail 9, (by kernel_rfl)
      change wpList _ _ _ _ _ V.drew
      have P2 := Lib.hid fun W => (P1.out W).mono fun e w' (h : ∃ v, e = .returned v ∧ PairSaid W.heap.size x v w' ∧ Below W.heap.size W w') => (by
        obtain ⟨v, h1, h2, h3⟩ := h
        unfold PairSaid at h2
        rw [hpp] at h2
        obtain ⟨_, F, fst, caps, rfl, _⟩ := h2.ex
        exact ⟨F, fst, caps, h1, h2, h3⟩ : ∃ F fst caps, e = .returned (.func (.func F) fst caps) ∧ TV W.heap.size w'.heap.size w' (.func (.func F) fst caps) P ∧ Below W.heap.size W w')
      clear P1 hpp
      go_upto_region 4 with (go_at_call 98; (with_reducible refine (P2.out _).mono ?_); rintro e w3 ⟨F, fst, caps, rfl, hT, hb3⟩)
      have hnf := eql_func F fst caps
      have hzV := HGV.out.size
      have hbv : Below V.heap.size V w3 := Below.trans (Below.drew (Below.refl _ V)) hb3
      have h3 := HV.out.kept (grow_below4 hbv none) (by simp)
      have hT2 : TV w.heap.size w3.heap.size w3 (.func (.func F) fst caps) P := hT.wide (by simpa using hzV) (Nat.le_refl _) (Nat.le_refl _)
      have hG3 := World.grownBy.trans HGV.out (grow_below4 hbv (some b))
      have H3 := Lib.hid h3
      have HT := Lib.hid hT2
      have HG3 := Lib.hid hG3
      clear c0 c1 hb3 hT hT2 hG3 h3 hbv
      have c0 := H3.out.c0
      have c1 := H3.out.c1
      have f1 := H3.out.fz 1
      have hw : IntKind.i64.wrap ((k : Int) + 1) = ((k + 1 : Nat) : Int) := by simp only [IntKind.wrap]; simp [IntKind.signed, IntKind.bits]; omega
      go_wp2
      (try simp only [Exit.inBlock, Exit.then])
      refine bodyPost_ret (results_tmp2 rfl _ _ _) rfl ?_
      refine ⟨_, rfl, H3.out.set1 (k + 1) _ (by first | rfl | (push_cast; rfl)), ?_, grow_set4 HG3.out _ _⟩
      have hk := HT.out.kept (Kp.grown (grow_set4 (World.grownBy.refl w3 (some b)) 1 (.int .i64 ((k : Int) + 1))) (Nat.le_refl _) (fun b' e => by cases e; left; exact hlt))
      exact hk.wide (Nat.le_refl _) (by simp [World.setCell]) (Nat.le_refl _)
    | none =>
      simp only [Option.isSome_none, Bool.false_eq_true, if_false]
      go_enter Tryd.func87, Tryd.ntmps87
      go_wp2
      go_quiet (fail)
      go_upto_region 3 with fail
      go_name_world V hV
      have HV : Hid (Rd b p k st op V) := Lib.hid (by rw [← hV]; exact HD.out _)
      have HGV : Hid (w.grownBy V (some b)) := Lib.hid (by rw [← hV]; exact HG.out _)
      clear hV HD HG c0 c1 HH
      have c0 := HV.out.c0
      have c1 := HV.out.c1
      go_still_tail 9, (by kernel_rfl)
      change wpList _ _ _ _ _ V.drew
      have P2 := Lib.hid fun W => (P1.out W).mono fun e w' (h : ∃ v, e = .returned v ∧ PairSaid W.heap.size x v w' ∧ Below W.heap.size W w') => (by
        obtain ⟨v, h1, h2, h3⟩ := h
        unfold PairSaid at h2
        rw [hpp] at h2
        rw [h2] at h1
        exact ⟨h1, h3⟩ : e = .returned .nilFunc ∧ Below W.heap.size W w')
      have hnf := eql_nilF
      clear P1 hpp
      go_wp2_with (go_at_call 98; (with_reducible refine (P2.out _).mono ?_); rintro e w3 ⟨rfl, hb3⟩)
      have hg3 : V.grownBy w3 none := grow_below4 (Below.trans (Below.drew (Below.refl _ V)) hb3) none
      (try simp only [Exit.inBlock, Exit.then])
      refine bodyPost_ret (results_tmp2 rfl _ _ _) rfl ?_
      exact ⟨.nilFunc, rfl, HV.out.kept hg3 (by simp), rfl, World.grownBy.trans HGV.out (grow_below4 (Below.trans (Below.drew (Below.refl _ V)) hb3) _)⟩
  · have hq : ((k : Int) == (p.size : Int)) = true := by rw [beq_iff_eq]; omega
    have hpl : pairL p.data.toList k = none := by unfold pairL; rw [List.getElem?_eq_none (by omega)]
    rw [hpl]
    clear h hpl
    go_enter Tryd.func87, Tryd.ntmps87
    go_wp2
    go_quiet (fail)
    go_wp2
    (try simp only [Exit.inBlock, Exit.then])
    refine bodyPost_ret (results_tmp2 rfl _ _ _) rfl ?_
    exact ⟨.nilFunc, rfl, HD.out _, rfl, HG.out _⟩
end Go.Proofs.YtkbcaklleiapdaaDoor
