/- Contracts of layer 4: %f. -/
import Derived.Test.YtkbcaklleiapdaaDoorPatU
import Derived.BigRegion
import Derived.StillTailTactics
namespace Go.Proofs.YtkbcaklleiapdaaDoor
open Go.RowKit M4
set_option linter.unusedVariables false

set_option maxHeartbeats 8000000 in
set_option maxRecDepth 100000 in
theorem once_5 (E : Env) (m : Caps) (left : Int) (j i : Nat) (it : Itm) (gi cap : Nat) (w : World) (hs : E.s.size ≤ 1000000) (hi : i ≤ E.s.size) (hl : 0 ≤ left ∧ left ≤ 1000000) (hj : E.g.its[j]? = some it) (hiv : E.iv = .slice (some ⟨gi, 0, none⟩) E.g.its.length cap) (h : Mat E m left w) (hk : it.kind = 5) :
    Calls Tryd.prog 70 #[.pointer (some ⟨E.b, 0, none⟩), .pointer (some ⟨gi, j * 6, none⟩), .int .i64 (i : Int)] w fun e w' => OnceSaid E m left i it e w' ∧ Ch [E.b, E.cb] w w' := by
  obtain ⟨l1, l2⟩ := hl
  have m0 := h.c 0
  have m5 := h.c 5
  have m7 := h.c 7
  simp at m0 m5 m7
  obtain ⟨gi', cap', v, hiv', hv, hcs⟩ := items_cell h hj
  obtain ⟨rfl, rfl⟩ : gi' = gi ∧ cap' = cap := by rw [hiv] at hiv'; cases hiv'; exact ⟨rfl, rfl⟩
  have c0 : w.cell? ⟨gi', j * 6, none⟩ = some (.int .i64 (it.kind : Int)) := hcs 0 (by decide)
  have c1 : w.cell? ⟨gi', j * 6 + 1, none⟩ = some v := hcs 1 (by decide)
  have c3 : w.cell? ⟨gi', j * 6 + 3, none⟩ = some (.int .u8 (it.x.toNat : Int)) := hcs 3 (by decide)
  have c4 : w.cell? ⟨gi', j * 6 + 4, none⟩ = some (.int .u8 (it.y.toNat : Int)) := hcs 4 (by decide)
  have c5 : w.cell? ⟨gi', j * 6 + 5, none⟩ = some (.int .i64 (it.cap : Int)) := hcs 5 (by decide)
  have HM := Lib.hid h
  obtain ⟨lo, hi', hN, hT⟩ := h.tv j it v hj hv (Or.inr hk)
  have hlo := hT.ex.1
  obtain ⟨_, F, fst, caps, hvf, hF, hC⟩ := hT.ex
  subst hvf
  rw [hk] at c0
  have hw1 := i64w ((i : Int) - 1) (by omega)
  have HD := Lib.hid fun n => h.drewN n
  obtain ⟨c1', hc1⟩ : ∃ c, at0 E.s.data.toList ((i : Int) - 1) = c := ⟨_, rfl⟩
  obtain ⟨c2, hc2⟩ : ∃ c, at0 E.s.data.toList (i : Int) = c := ⟨_, rfl⟩
  have HO : Hid (onceM E.s.data.toList it i m = if (!it.P c1' && it.P c2) = true then (some (i, m), 0) else (none, 0)) := Lib.hid (by unfold onceM; rw [hk]; simp only []; rw [hc1, hc2])
  have B1 := Lib.hid fun n => (by have := byteAt_any E.s ((i : Int) - 1) (w.drewN n) hs (by omega) (by omega); rw [hc1] at this; exact Calls.quiet_of_same this : Calls Tryd.prog 80 #[.string E.s, .int .i64 ((i : Int) - 1)] (w.drewN n) fun e w' => e = .returned (.int .u8 (c1'.toNat : Int)) ∧ ∃ m, w' = w.drewN m)
  have B2 := Lib.hid fun n => (by have := byteAt_any E.s (i : Int) (w.drewN n) hs (by omega) (by omega); rw [hc2] at this; exact Calls.quiet_of_same this : Calls Tryd.prog 80 #[.string E.s, .int .i64 (i : Int)] (w.drewN n) fun e w' => e = .returned (.int .u8 (c2.toNat : Int)) ∧ ∃ m, w' = w.drewN m)
  clear hc1 hc2
  have c1e : True := trivial
  cases hp1 : it.P c1' with
  | true =>
    cases hp2 : it.P c2 with
    | true =>
        have C1 : Hid (∀ n, Calls Tryd.prog F (fst.push (.int .u8 (c1'.toNat : Int)) ++ caps) (w.drewN n) fun e w' => e = .returned (.bool true) ∧ ∃ n', w' = (w.drewN n).drewN n') := Lib.hid (fun n => by have := hC (w.drewN n) (Kp.below (Ch.drewN (Ch.refl [] w) n).below hlo) c1'; rw [hp1] at this; exact this)
        have C2 : Hid (∀ n, Calls Tryd.prog F (fst.push (.int .u8 (c2.toNat : Int)) ++ caps) (w.drewN n) fun e w' => e = .returned (.bool true) ∧ ∃ n', w' = (w.drewN n).drewN n') := Lib.hid (fun n => by have := hC (w.drewN n) (Kp.below (Ch.drewN (Ch.refl [] w) n).below hlo) c2; rw [hp2] at this; exact this)
        have HP1 := Lib.hid hp1
        have HP2 := Lib.hid hp2
        clear h hj hcs hv hiv hiv'
        clear hk hT hC hp1 hp2
        go_enter Tryd.func70, Tryd.ntmps70
        go_wp2
        go_quiet (first | (go_at_call 80; first | with_reducible exact B1.out _ | with_reducible exact B2.out _) | (go_at_fn F; first | with_reducible exact Calls.quiet_of (C1.out _) | with_reducible exact Calls.quiet_of (C2.out _)))
        go_wp2
        go_ret2
        exact ⟨once_no l1 (by rw [HO.out, if_neg (by rw [HP1.out]; simp)]) _ rfl (HD.out _), (Ch.refl _ w).drewN _⟩
    | false =>
        have C1 : Hid (∀ n, Calls Tryd.prog F (fst.push (.int .u8 (c1'.toNat : Int)) ++ caps) (w.drewN n) fun e w' => e = .returned (.bool true) ∧ ∃ n', w' = (w.drewN n).drewN n') := Lib.hid (fun n => by have := hC (w.drewN n) (Kp.below (Ch.drewN (Ch.refl [] w) n).below hlo) c1'; rw [hp1] at this; exact this)
        have C2 : Hid (∀ n, Calls Tryd.prog F (fst.push (.int .u8 (c2.toNat : Int)) ++ caps) (w.drewN n) fun e w' => e = .returned (.bool false) ∧ ∃ n', w' = (w.drewN n).drewN n') := Lib.hid (fun n => by have := hC (w.drewN n) (Kp.below (Ch.drewN (Ch.refl [] w) n).below hlo) c2; rw [hp2] at this; exact this)
        have HP1 := Lib.hid hp1
        have HP2 := Lib.hid hp2
        clear h hj hcs hv hiv hiv'
        clear hk hT hC hp1 hp2
        go_enter Tryd.func70, Tryd.ntmps70
        go_wp2
        go_quiet (first | (go_at_call 80; first | with_reducible exact B1.out _ | with_reducible exact B2.out _) | (go_at_fn F; first | with_reducible exact Calls.quiet_of (C1.out _) | with_reducible exact Calls.quiet_of (C2.out _)))
        go_wp2
        go_ret2
        exact ⟨once_no l1 (by rw [HO.out, if_neg (by rw [HP1.out]; simp)]) _ rfl (HD.out _), (Ch.refl _ w).drewN _⟩
  | false =>
    cases hp2 : it.P c2 with
    | true =>
        have C1 : Hid (∀ n, Calls Tryd.prog F (fst.push (.int .u8 (c1'.toNat : Int)) ++ caps) (w.drewN n) fun e w' => e = .returned (.bool false) ∧ ∃ n', w' = (w.drewN n).drewN n') := Lib.hid (fun n => by have := hC (w.drewN n) (Kp.below (Ch.drewN (Ch.refl [] w) n).below hlo) c1'; rw [hp1] at this; exact this)
        have C2 : Hid (∀ n, Calls Tryd.prog F (fst.push (.int .u8 (c2.toNat : Int)) ++ caps) (w.drewN n) fun e w' => e = .returned (.bool true) ∧ ∃ n', w' = (w.drewN n).drewN n') := Lib.hid (fun n => by have := hC (w.drewN n) (Kp.below (Ch.drewN (Ch.refl [] w) n).below hlo) c2; rw [hp2] at this; exact this)
        have HP1 := Lib.hid hp1
        have HP2 := Lib.hid hp2
        clear h hj hcs hv hiv hiv'
        clear hk hT hC hp1 hp2
        go_enter Tryd.func70, Tryd.ntmps70
        go_wp2
        go_quiet (first | (go_at_call 80; first | with_reducible exact B1.out _ | with_reducible exact B2.out _) | (go_at_fn F; first | with_reducible exact Calls.quiet_of (C1.out _) | with_reducible exact Calls.quiet_of (C2.out _)))
        go_wp2
        go_ret2
        exact ⟨once_yes l1 (by rw [HO.out, if_pos (by rw [HP1.out, HP2.out]; rfl)]) rfl (HD.out _), (Ch.refl _ w).drewN _⟩
    | false =>
        have C1 : Hid (∀ n, Calls Tryd.prog F (fst.push (.int .u8 (c1'.toNat : Int)) ++ caps) (w.drewN n) fun e w' => e = .returned (.bool false) ∧ ∃ n', w' = (w.drewN n).drewN n') := Lib.hid (fun n => by have := hC (w.drewN n) (Kp.below (Ch.drewN (Ch.refl [] w) n).below hlo) c1'; rw [hp1] at this; exact this)
        have C2 : Hid (∀ n, Calls Tryd.prog F (fst.push (.int .u8 (c2.toNat : Int)) ++ caps) (w.drewN n) fun e w' => e = .returned (.bool false) ∧ ∃ n', w' = (w.drewN n).drewN n') := Lib.hid (fun n => by have := hC (w.drewN n) (Kp.below (Ch.drewN (Ch.refl [] w) n).below hlo) c2; rw [hp2] at this; exact this)
        have HP1 := Lib.hid hp1
        have HP2 := Lib.hid hp2
        clear h hj hcs hv hiv hiv'
        clear hk hT hC hp1 hp2
        go_enter Tryd.func70, Tryd.ntmps70
        go_wp2
        go_quiet (first | (go_at_call 80; first | with_reducible exact B1.out _ | with_reducible exact B2.out _) | (go_at_fn F; first | with_reducible exact Calls.quiet_of (C1.out _) | with_reducible exact Calls.quiet_of (C2.out _)))
        go_wp2
        go_ret2
        exact ⟨once_no l1 (by rw [HO.out, if_neg (by rw [HP2.out]; simp)]) _ rfl (HD.out _), (Ch.refl _ w).drewN _⟩
end Go.Proofs.YtkbcaklleiapdaaDoor
