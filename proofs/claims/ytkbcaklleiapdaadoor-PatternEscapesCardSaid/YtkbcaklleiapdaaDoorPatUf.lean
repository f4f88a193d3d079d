/- Contracts of layer 4: %b and %1. -/
import Derived.Test.YtkbcaklleiapdaaDoorPatUb
import Derived.BigRegion
import Derived.StillTailTactics
import Derived.Deep.RegionWith
namespace Go.Proofs.YtkbcaklleiapdaaDoor
open Go.RowKit M4
set_option linter.unusedVariables false


set_option maxHeartbeats 80000000 in
set_option maxRecDepth 100000 in
theorem once_4_out (E : Env) (m : Caps) (left : Int) (j i : Nat) (it : Itm) (gi cap : Nat) (w : World) (hs : E.s.size ≤ 1000000) (hi : i ≤ E.s.size) (hl : 0 ≤ left ∧ left ≤ 1000000) (hj : E.g.its[j]? = some it) (hiv : E.iv = .slice (some ⟨gi, 0, none⟩) E.g.its.length cap) (h : Mat E m left w) (hk : it.kind = 4) (hx : E.s.data.toList[i]? = some it.x) (N : Nat) (o : Option Nat) (hN : ¬ (N : Int) ≤ left) (hb : balL it.x it.y (E.s.data.toList.drop (i + 1)) 1 (i + 1) = (o, N)) :
    Calls Tryd.prog 70 #[.pointer (some ⟨E.b, 0, none⟩), .pointer (some ⟨gi, j * 6, none⟩), .int .i64 (i : Int)] w fun e w' => OnceSaid E m left i it e w' ∧ Ch [E.b, E.cb] w w' := by
  obtain ⟨l1, l2⟩ := hl
  have m0 := h.c 0
  have m5 := h.c 5
  have m7 := h.c 7
  simp at m0 m5 m7
  obtain ⟨gi', cap', v, hiv', hv, hcs⟩ := items_cell h hj
  obtain ⟨rfl, rfl⟩ : gi' = gi ∧ cap' = cap := by rw [hiv] at hiv'; cases hiv'; exact ⟨rfl, rfl⟩
  have c0 : w.cell? ⟨gi', j * 6, none⟩ = some (.int .i64 (it.kind : Int)) := hcs 0 (by decide)
  have c1 : w.cell? ⟨gi', j * 6 + 1, none⟩ = some v := hcs 1 (by decide)
  have c3 : w.cell? ⟨gi', j * 6 + 3, none⟩ = some (.int .u8 (it.x.toNat : Int)) := hcs 3 (by decide)
  have c4 : w.cell? ⟨gi', j * 6 + 4, none⟩ = some (.int .u8 (it.y.toNat : Int)) := hcs 4 (by decide)
  have c5 : w.cell? ⟨gi', j * 6 + 5, none⟩ = some (.int .i64 (it.cap : Int)) := hcs 5 (by decide)
  have HM := Lib.hid h
  rw [hk] at c0
  have HO : Hid (onceM E.s.data.toList it i m = ((o).map fun k => (k, m), N)) := Lib.hid (by unfold onceM; rw [hk]; simp only []; rw [if_pos hx, hb])
  have B0 := balanced_yes E m left i it.x it.y w.drew hs ⟨l1, l2⟩ hx (h.drewN 1)
  rw [hb] at B0
  have B1 := Lib.hid (B0.mono fun e w' (g : BalSaid E m left _ _ e w' ∧ Ch [E.b] w.drew w') => (by
    have g1 := g.1
    unfold BalSaid at g1
    simp only [] at g1
    rw [if_neg hN] at g1
    exact ⟨g1.1, g1.2, g.2⟩ : e = .returned (.tuple #[.int .i64 0, .bool false]) ∧ Mat E m (-1) w' ∧ Ch [E.b] w.drew w'))
  have HN := Lib.hid hN
  clear h hj hcs hv hiv hiv'
  clear hk hx hb B0 hN
  go_enter Tryd.func70, Tryd.ntmps70
  go_upto_region 12 with fail
  go_region_with (go_at_call 81; (with_reducible refine (B1.out).mono ?_); rintro e w2 ⟨rfl, hM2, hc2⟩)
  all_goals (
    go_wp2
    go_ret2
    refine ⟨?_, (Ch.drew (Ch.refl _ w)).trans (hc2.mono (by simp))⟩
    unfold OnceSaid
    rw [HO.out]
    simp only []
    rw [if_neg (by have := HN.out; omega)]; exact ⟨⟨0, rfl⟩, hM2⟩)

end Go.Proofs.YtkbcaklleiapdaaDoor
