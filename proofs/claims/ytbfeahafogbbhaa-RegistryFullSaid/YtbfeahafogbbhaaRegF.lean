/- Layer 18: a registry with names, since a world. -/
import Derived.Test.YtbfeahafogbbhaaRegL
import Derived.Test.YtbfeahafogbbhaaRegFm
import Derived.Test.YtbfeahafogbbhaaShelf
namespace Go.Proofs.Ytbfeahafogbbhaa
open Go.RowKit Go.Joins M1
set_option linter.unusedVariables false
def FW (w : World) (t : Nat) (K : List V5) (F : List Int) (N : MP) (W : World) : Prop := ∃ vk vf vm, Rg w.heap.size t vk vf vm K F W ∧ Nm w.heap.size vm N W ∧ Gd K F ∧ Ch [] w W
variable {w W W1 : World} {t : Nat} {K K1 : List V5} {F F1 : List Int} {N N1 : MP}
theorem FW.ch (h : FW w t K F N W) : Ch [] w W := by obtain ⟨vk, vf, vm, h1, h2, h3, h4⟩ := h; exact h4
theorem FW.step (h : FW w t K F N W) (hc : Ch [] W W1) : FW w t K F N W1 := by
  obtain ⟨vk, vf, vm, h1, h2, h3, h4⟩ := h
  exact ⟨vk, vf, vm, h1.ch0 hc, h2.ch hc (fun g _ => not_nil g), h3, h4.trans hc⟩
theorem fw_said {vk vf vm : Value} (h1 : Rg w.heap.size t vk vf vm K F W) (h2 : Nm w.heap.size vm N W) (h4 : Ch [] w W) (hg : Gd K1 F1) (hs : RgSaid w.heap.size t vk vf vm K1 F1 W W1) : FW w t K1 F1 N W1 := by
  obtain ⟨⟨vk', vf', k1, k2⟩, k3⟩ := hs
  exact ⟨vk', vf', vm, k1, h2.ch k3 (fun g hg hm => h2.free h1 g hm hg), hg, h4.fresh (fun g hg => (h1.lt g hg).1) k3⟩
theorem nm_lo {B : Nat} {vm : Value} (h : Nm B vm N W) : ∀ g ∈ nmS vm, B ≤ g := by
  intro g hg
  rcases h.mp with ⟨rfl, _⟩ | ⟨g', rfl, h2, _⟩
  · simp [nmS] at hg
  · simp [nmS] at hg; subst hg; exact h2
theorem fw_put_said {vk vf vm : Value} (h1 : Rg w.heap.size t vk vf vm K F W) (h2 : Nm w.heap.size vm N W) (h3 : Gd K F) (h4 : Ch [] w W) (hs : PutSaid w.heap.size t vk vf vm K F N1 W W1) : FW w t K F N1 W1 := by
  obtain ⟨vm', k1, k2, k3, k4⟩ := hs
  exact ⟨vk, vf, vm', k1, k2, h3, h4.fresh (fun g hg => by
    simp only [List.mem_cons] at hg
    rcases hg with rfl | hg
    · exact h1.lo
    · exact nm_lo h2 g hg) k4⟩
theorem fw_new (w : World) : Calls Try.prog 12 #[] w fun e w' => ∃ t, e = .returned (.pointer (some ⟨t, 0, none⟩)) ∧ FW w t [] [] [] w' := by
  refine (gnew_any w.heap.size w (Nat.le_refl _)).mono ?_
  rintro e w' ⟨rfl, hs, hb⟩
  exact ⟨_, rfl, _, _, _, hs, Nm.nil _ _, gd_nil, Ch.of_below hb⟩
theorem fw_ref (h : FW w t K F N W) (x : V5) (hx : okV x = true) (hk : ¬ x.k = 0) (hu : ¬ (K.length : Int) - (F.length : Int) = 1000) :
    Calls Try.prog 18 #[.pointer (some ⟨t, 0, none⟩), .agg #[.int .i64 x.k, .int .i64 x.p, .int .i64 x.q, .string x.s, .int .i64 x.r]] W fun e w' => e = .returned (.tuple #[.int .i64 (refR K F), .int .i64 0]) ∧ FW w t (refK K F x) F.dropLast N w' := by
  obtain ⟨vk, vf, vm, h1, h2, h3, h4⟩ := h
  have hl := h3.len
  have ht := h3.top
  refine (ref_ok _ t vk vf vm K F W h1 h3 x h4.size hx hk hu).mono ?_
  rintro e w' ⟨rfl, hs⟩
  exact ⟨rfl, fw_said h1 h2 h4 (gd_ref h3 hk (by omega)) hs⟩
theorem fw_full (h : FW w t K F N W) (x : V5) (hx : okV x = true) (hk : ¬ x.k = 0) (hu : (K.length : Int) - (F.length : Int) = 1000) :
    Calls Try.prog 18 #[.pointer (some ⟨t, 0, none⟩), .agg #[.int .i64 x.k, .int .i64 x.p, .int .i64 x.q, .string x.s, .int .i64 x.r]] W fun e w' => e = .returned (.tuple #[.int .i64 0, .int .i64 17]) ∧ FW w t K F N w' := by
  obtain ⟨vk, vf, vm, h1, h2, h3, h4⟩ := h
  refine (ref_full _ t vk vf vm K F W h1 h3 x h4.size hx hk hu).mono ?_
  rintro e w' ⟨rfl, hs⟩
  exact ⟨rfl, fw_said h1 h2 h4 h3 hs⟩
theorem fw_put (h : FW w t K F N W) (nm : ByteArray) (x : V5) :
    Calls Try.prog 22 #[.pointer (some ⟨t, 0, none⟩), .string nm, .agg #[.int .i64 x.k, .int .i64 x.p, .int .i64 x.q, .string x.s, .int .i64 x.r]] W fun e w' => e = .returned (.int .i64 (putE nm x N)) ∧ FW w t K F (putN nm x N) w' := by
  obtain ⟨vk, vf, vm, h1, h2, h3, h4⟩ := h
  refine (put_any _ t vk vf vm K F N W h1 h2 h4.size nm x).mono ?_
  rintro e w' ⟨rfl, hs⟩
  exact ⟨rfl, fw_put_said h1 h2 h3 h4 hs⟩
theorem fw_len (h : FW w t K F N W) :
    Calls Try.prog 17 #[.pointer (some ⟨t, 0, none⟩)] W fun e w' => e = .returned (.int .i64 ((K.length : Int) - (F.length : Int) + (N.length : Int))) ∧ FW w t K F N w' := by
  have h0 := h
  obtain ⟨vk, vf, vm, h1, h2, h3, h4⟩ := h
  refine (glen_any _ t vk vf vm K F N W h1 h3 h2).mono ?_
  rintro e w' ⟨rfl, hs⟩
  exact ⟨rfl, h0.step hs⟩
theorem fw_unref (h : FW w t K F N W) (r : Int) (hr : heldB K r = true) :
    Calls Try.prog 21 #[.pointer (some ⟨t, 0, none⟩), .int .i64 r] W fun e w' => e = .returned (.int .i64 0) ∧ FW w t (unK K r) (F ++ [r]) N w' := by
  obtain ⟨vk, vf, vm, h1, h2, h3, h4⟩ := h
  refine (unref_ok _ t vk vf vm K F W h1 h3 r hr h4.size).mono ?_
  rintro e w' ⟨rfl, hs⟩
  exact ⟨rfl, fw_said h1 h2 h4 (gd_un h3 hr) hs⟩
theorem rep_n (i : Nat) (hi : i ≤ 1000) (w : World) :
    Calls Try.prog 23 #[.string ⟨#[110]⟩, .int .i64 (i : Int)] w fun e w' => e = .returned (.string (nmB i)) ∧ Below w.heap.size w w' := by
  refine (Try.strings_Repeat ⟨#[110]⟩ i w (by omega) (by show 1 * i ≤ _; omega)).mono ?_
  rintro e w' ⟨rfl, hb⟩
  have e1 : ∀ i : Nat, Lib.repeatL [(110 : UInt8)] i = List.replicate i 110 := fun i => by
    induction i with
    | zero => rfl
    | succ i ih => simp [Lib.repeatL, List.replicate_succ, ih]
  refine ⟨?_, hb⟩
  show Ending.returned (Value.string ⟨(Lib.repeatL [(110 : UInt8)] i).toArray⟩) = _
  rw [e1]; rfl
end Go.Proofs.Ytbfeahafogbbhaa
