/- Layer 18: the walk of RegistryReuses. -/
import Derived.Test.YtbfeahafogbbhaaRegE
import Derived.Test.YtbfeahafogbbhaaRegV
namespace Go.Proofs.Ytbfeahafogbbhaa
open Go.RowKit Go.Joins M1
set_option linter.unusedVariables false
def o5 : V5 := ⟨8, 0, 0, ⟨#[]⟩, 5⟩
theorem o5_ok : okV o5 = true ∧ o5.k ≠ 0 := by decide +kernel
def bC (U : List Bool) : List Value := U.map (fun b => .bool b)
/-- The registry, the law's box, its marks and its list of released references. -/
structure Rs (w : World) (t : Nat) (vk vf : Value) (K : List V5) (F : List Int) (R u m1 : Nat) (U : List Bool) (pf : Value) (fr : List Int) (W : World) : Prop where
  rg : Rg w.heap.size t vk vf (.map none) K F W
  gd : Gd K F
  ch : Ch [] w W
  bx : Blk 33 R #[.int .i64 8, .int .i64 0, .int .i64 0, .string ⟨#[]⟩, .int .i64 5] W
  us : W.ownsRow w.heap.size 4 1 (.slice (some ⟨u, 0, none⟩) m1 m1) m1 (bC U)
  fr : W.ownsRow w.heap.size 3 1 pf fr.length (iC fr)
  ap : ∀ g ∈ R :: u :: ob pf, g ∉ rgS t vk vf
def Rx (w : World) (t : Nat) (K : List V5) (F : List Int) (R u m1 : Nat) (U : List Bool) (pf : Value) (fr : List Int) (W : World) : Prop := ∃ vk vf, Rs w t vk vf K F R u m1 U pf fr W
variable {w W W1 : World} {t R u m1 : Nat} {K K1 : List V5} {F F1 fr fr1 : List Int} {U U1 : List Bool} {pf pf1 : Value}
theorem Rx.said {vk vf : Value} (h : Rs w t vk vf K F R u m1 U pf fr W) (hg : Gd K1 F1) (hs : RgSaid w.heap.size t vk vf (.map none) K1 F1 W W1) : Rx w t K1 F1 R u m1 U pf fr W1 := by
  obtain ⟨⟨vk', vf', k1, k2⟩, k3⟩ := hs
  refine ⟨vk', vf', k1, hg, h.ch.fresh (fun g q => (h.rg.lt g q).1) k3, h.bx.ch k3 (h.ap R (by simp)), k3.ownB h.us (fun g q => h.ap g (by simp [Go.Proofs.Ytbfeahafogbbhaa.ob, Value.ownBlock] at q; subst q; simp)), k3.ownB h.fr (fun g q => h.ap g (by simp [q])), fun g q hm => ?_⟩
  rcases k2 g hm with z | z
  · exact h.ap g q z
  · simp only [List.mem_cons] at q
    rcases q with rfl | rfl | q
    · have := h.bx.lt; omega
    · have := (own_lo (g := g) h.us (mem_ob.2 rfl)).2; omega
    · have := (own_lo h.fr q).2; omega
theorem Rs.ne {vk vf : Value} (h : Rs w t vk vf K F R u m1 U pf fr W) : u ≠ R ∧ R ∉ ob pf ∧ u ∉ ob pf :=
  ⟨ob_blk h.us h.bx (by decide) u (mem_ob.2 rfl), fun q => ob_blk h.fr h.bx (by decide) R q rfl, ob_ob h.us h.fr (by decide) u (mem_ob.2 rfl)⟩
theorem Rx.step (h : Rx w t K F R u m1 U pf fr W) (hc : Ch [] W W1) : Rx w t K F R u m1 U pf fr W1 := by
  obtain ⟨vk, vf, h⟩ := h
  exact ⟨vk, vf, h.rg.ch0 hc, h.gd, h.ch.trans hc, h.bx.ch hc (not_nil _), hc.ownB h.us (fun g _ => not_nil g), hc.ownB h.fr (fun g _ => not_nil g), h.ap⟩
theorem Rx.mark (h : Rx w t K F R u m1 U pf fr W) (j : Nat) (b : Bool) : Rx w t K F R u m1 (U.set j b) pf fr (W.setCell ⟨u, j, none⟩ (.bool b)) := by
  obtain ⟨vk, vf, h⟩ := h
  obtain ⟨n1, n2, n3⟩ := h.ne
  have hc : Ch [u] W (W.setCell ⟨u, j, none⟩ (.bool b)) := (Ch.refl [u] W).set u j _ (.inl (by simp))
  have hu := own_set h.us j (.bool b)
  refine ⟨vk, vf, h.rg.ch hc (fun g q hm => by simp at hm; subst hm; exact h.ap g (by simp) q), h.gd, h.ch.fresh (fun g q => by simp at q; subst q; exact (own_lo (g := g) h.us (mem_ob.2 rfl)).1) hc, h.bx.ch hc (by simpa using fun e => n1 e.symm), ?_, hc.ownB h.fr (fun g q hm => by simp at hm; subst hm; exact n3 q), h.ap⟩
  have e : bC (U.set j b) = (bC U).set j (.bool b) := by unfold bC; rw [List.map_set]
  rw [e]; exact hu
theorem Rx.grow (h : Rx w t K F R u m1 U pf fr W) (hc : Ch (ob pf) W W1) (hr : W1.ownsRow w.heap.size 3 1 pf1 fr1.length (iC fr1)) (hn : ∀ g ∈ ob pf1, g ∈ ob pf ∨ W.heap.size ≤ g) : Rx w t K F R u m1 U pf1 fr1 W1 := by
  obtain ⟨vk, vf, h⟩ := h
  obtain ⟨n1, n2, n3⟩ := h.ne
  refine ⟨vk, vf, h.rg.ch hc (fun g q hm => h.ap g (by simp [hm]) q), h.gd, h.ch.fresh (fun g q => (own_lo h.fr q).1) hc, h.bx.ch hc n2, hc.ownB h.us (fun g q hm => by simp [Go.Proofs.Ytbfeahafogbbhaa.ob, Value.ownBlock] at q; subst q; exact n3 hm), hr, fun g q hm => ?_⟩
  simp only [List.mem_cons] at q
  rcases q with rfl | rfl | q
  · exact h.ap g (by simp) hm
  · exact h.ap g (by simp) hm
  · rcases hn g q with z | z
    · exact h.ap g (by simp [z]) hm
    · have := (h.rg.lt g hm).2; omega
theorem rx_ref (h : Rx w t K F R u m1 U pf fr W) (hu : ¬ (K.length : Int) - (F.length : Int) = 1000) :
    Calls Try.prog 18 #[.pointer (some ⟨t, 0, none⟩), .agg #[.int .i64 8, .int .i64 0, .int .i64 0, .string ⟨#[]⟩, .int .i64 5]] W fun e w' => e = .returned (.tuple #[.int .i64 (refR K F), .int .i64 0]) ∧ Rx w t (refK K F o5) F.dropLast R u m1 U pf fr w' := by
  obtain ⟨vk, vf, h⟩ := h
  have hl := h.gd.len
  have ht := h.gd.top
  refine (ref_ok _ t vk vf _ K F W h.rg h.gd o5 h.ch.size o5_ok.1 o5_ok.2 hu).mono ?_
  rintro e w' ⟨rfl, hs⟩
  exact ⟨rfl, Rx.said h (gd_ref h.gd o5_ok.2 (by omega)) hs⟩
theorem rx_un (h : Rx w t K F R u m1 U pf fr W) (r : Int) (hr : heldB K r = true) :
    Calls Try.prog 21 #[.pointer (some ⟨t, 0, none⟩), .int .i64 r] W fun e w' => e = .returned (.int .i64 0) ∧ Rx w t (unK K r) (F ++ [r]) R u m1 U pf fr w' := by
  obtain ⟨vk, vf, h⟩ := h
  refine (unref_ok _ t vk vf _ K F W h.rg h.gd r hr h.ch.size).mono ?_
  rintro e w' ⟨rfl, hs⟩
  exact ⟨rfl, Rx.said h (gd_un h.gd hr) hs⟩
theorem rx_unbad (h : Rx w t K F R u m1 U pf fr W) (r : Int) (hr : heldB K r = false) (h0 : r ≠ 0) :
    Calls Try.prog 21 #[.pointer (some ⟨t, 0, none⟩), .int .i64 r] W fun e w' => e = .returned (.int .i64 6) ∧ Rx w t K F R u m1 U pf fr w' := by
  obtain ⟨vk, vf, h⟩ := h
  have e6 : valE K r = 6 := by unfold valE; rw [if_neg h0, hr]; rfl
  have := unref_bad _ t vk vf _ K F W h.rg h.gd r hr
  rw [e6] at this
  refine this.mono ?_
  rintro e w' ⟨rfl, hs⟩
  exact ⟨rfl, Rx.said h h.gd hs⟩
theorem rx_len (h : Rx w t K F R u m1 U pf fr W) :
    Calls Try.prog 17 #[.pointer (some ⟨t, 0, none⟩)] W fun e w' => e = .returned (.int .i64 ((K.length : Int) - (F.length : Int))) ∧ Rx w t K F R u m1 U pf fr w' := by
  have h0 := h
  obtain ⟨vk, vf, h⟩ := h
  refine (glen_none _ t vk vf K F W h.rg h.gd).mono ?_
  rintro e w' ⟨rfl, hs⟩
  exact ⟨rfl, h0.step hs⟩
theorem Rx.chw (h : Rx w t K F R u m1 U pf fr W) : Ch [] w W := by obtain ⟨vk, vf, h⟩ := h; exact h.ch
theorem Rx.box (h : Rx w t K F R u m1 U pf fr W) : Blk 33 R #[.int .i64 8, .int .i64 0, .int .i64 0, .string ⟨#[]⟩, .int .i64 5] W := by obtain ⟨vk, vf, h⟩ := h; exact h.bx
theorem Rx.use (h : Rx w t K F R u m1 U pf fr W) : W.ownsRow w.heap.size 4 1 (.slice (some ⟨u, 0, none⟩) m1 m1) m1 (bC U) := by obtain ⟨vk, vf, h⟩ := h; exact h.us
theorem Rx.frr (h : Rx w t K F R u m1 U pf fr W) : W.ownsRow w.heap.size 3 1 pf fr.length (iC fr) := by obtain ⟨vk, vf, h⟩ := h; exact h.fr
/-- The mark of a reference. -/
theorem Rx.at (h : Rx w t K F R u m1 U pf fr W) (hU : U.length = m1) (j : Nat) (hj : j < m1) : W.cell? ⟨u, j, none⟩ = some (.bool (U.getD j false)) ∧ W.frozen? ⟨u, j, none⟩ = false ∧ u < W.heap.size := by
  refine ⟨?_, h.use.frozenAt j, (own_lo (g := u) h.use (mem_ob.2 rfl)).2⟩
  rw [h.use.cellAt j (by omega)]
  simp [bC, List.getD, hU, hj]
/-- What the marks say. -/
def Mk (m : Nat) (K : List V5) (U : List Bool) : Prop := K.length = m ∧ U.length = m + 1 ∧ ∀ r : Nat, 1 ≤ r → r ≤ m → U.getD r false = heldB K (r : Int)
theorem mk_un {m : Nat} {K : List V5} {U : List Bool} (h : Mk m K U) {r : Nat} (h1 : 1 ≤ r) (h2 : r ≤ m) : Mk m (unK K (r : Int)) (U.set r false) := by
  obtain ⟨a, b, c⟩ := h
  refine ⟨by unfold unK; simpa using a, by simpa using b, fun s s1 s2 => ?_⟩
  by_cases he : s = r
  · subst he
    have e1 : (U.set s false).getD s false = false := by unfold List.getD; rw [List.getElem?_set_self (by omega)]; rfl
    have e2 : heldB (unK K (s : Int)) (s : Int) = false := by
      unfold heldB unK
      rw [List.getElem?_set_self (by omega)]
      simp [show v5z.k = 0 from rfl]
    rw [e1, e2]
  · have e1 : (U.set r false).getD s false = U.getD s false := by unfold List.getD; rw [List.getElem?_set_ne (fun e => he e.symm)]
    rw [e1, c s s1 s2]
    unfold heldB unK
    have hne : ¬ ((r : Int).toNat - 1 = (s : Int).toNat - 1) := by omega
    simp only [List.length_set, List.getElem?_set_ne hne]
theorem held_rep (m r : Nat) (h1 : 1 ≤ r) (h2 : r ≤ m) : heldB (List.replicate m o5) (r : Int) = true := by
  unfold heldB
  have : ((r : Int).toNat - 1) < m := by omega
  rw [List.getElem?_replicate, if_pos this]
  simp [h2, show o5.k = 8 from rfl]
  omega
end Go.Proofs.Ytbfeahafogbbhaa
