/- Layer 17: the walk of StackShares. -/
import Derived.Test.YtibggoikjlnnkaaStkO
namespace Go.Proofs.Ytibggoikjlnnkaa
open Go.RowKit Go.Joins M1
set_option linter.unusedVariables false
/-- A row beside the stack changes. -/
theorem Fl.drop {T : TypeId} {w W W' : World} {t lim : Nat} {l : List V5} {v : Value} {L : List V5} {rs : List (Value × List V5)} (h : Fl T w t l lim ((v, L) :: rs) W) (hd : ∀ r ∈ rs, ∀ g ∈ ob r.1, g ∉ ob v) (hc : Ch (ob v) W W') : Fl T w t l lim rs W' := by
  obtain ⟨va, h1, h2, h3⟩ := h
  have hv0 := h2 (v, L) (by simp)
  exact ⟨va, h1.ch hc (fun g hg hm => hv0.2 g hm hg), fun r hr => by have := h2 r (by simp [hr]); exact ⟨hc.ownB this.1 (hd r hr), this.2⟩, h3.fresh (fun g hg => (own_lo hv0.1 hg).1) hc⟩
theorem Fl.row0 {T : TypeId} {w W : World} {t lim : Nat} {l : List V5} {v : Value} {L : List V5} {rs : List (Value × List V5)} (h : Fl T w t l lim ((v, L) :: rs) W) : W.ownsRow w.heap.size 35 5 v L.length (L.flatMap vC) := by
  obtain ⟨va, h1, h2, h3⟩ := h
  exact (h2 (v, L) (by simp)).1
/-- What the law's same says of two rows that hold the same list. -/
theorem same_rows {T : TypeId} {w : World} {t lim : Nat} {l L : List V5} {rs : List (Value × List V5)} (a b : Value) (W : World) (h : Fl T w t l lim rs W) (ha : (a, L) ∈ rs) (hb : (b, L) ∈ rs) (hL : L.length ≤ 1000000) :
    Calls Try.prog 17 #[a, b] W fun e w' => e = .returned (.bool true) ∧ Fl T w t l lim rs w' := by
  refine (same_any a b L L W (h.vals ha) (h.vals hb) hL hL).mono ?_
  rintro e w' ⟨rfl, hc⟩
  exact ⟨by simp, h.step hc⟩
set_option maxHeartbeats 8000000 in
theorem walk (p0 : Option Addr) (c0 : Nat) (l0 : List V5) (n : Int) (wn : (Lit.int .u8 n).wf = true) (w : World) (hl : l0.length ≤ maxLen)
    (hp : 0 < l0.length → ∃ g o, p0 = some ⟨g, o, none⟩ ∧ g < w.heap.size ∧ ∀ (j m : Nat) (hj : j < l0.length), m < 5 → w.cell? ⟨g, o + j * 5 + m, none⟩ = (vC l0[j])[m]?) :
    Calls Try.prog 7 #[.slice p0 l0.length c0, .int .u8 n] w fun e w' => e = .returned (.bool true) ∧ Below w.heap.size w w' := by
  have hn : 0 ≤ n ∧ n ≤ 255 := by simpa [Lit.wf, IntKind.min, IntKind.max, IntKind.signed, IntKind.bits] using wn
  have QF := Lib.hid (filled_any (.slice p0 l0.length c0) l0 w ⟨p0, c0, rfl, hp⟩ hl)
  have HLN : Hid ((flF l0 60).length ≤ 60) := Lib.hid (flF_len l0 60)
  have QN := Lib.hid (fun (n : Int) W => number_any n W)
  have QA := Lib.hid fun W => awake_any W
  clear hp hl wn
  go_enter Try.func7, Try.ntmps7
  go_upto_region 2 with (go_at_call 20; (with_reducible refine (QF.out).mono ?_); rintro e w1 ⟨t, p, c, rfl, hf⟩; have HF1 := Lib.hid hf; clear hf)
  clear QF
  generalize flF l0 60 = vs at *
  have QL : Hid (∀ rs W, Fl 63 w t vs 1000 rs W → Calls Try.prog 18 #[.pointer (some ⟨t, 0, none⟩)] W fun e w' => ∃ p c, e = .returned (.slice p vs.length c) ∧ Fl 63 w t vs 1000 ((.slice p vs.length c, vs) :: rs) w' ∧ (∀ g ∈ ob (.slice p vs.length c), W.heap.size ≤ g) ∧ Ch [] W w') := Lib.hid fun rs W h => flist h
  go_upto_region 5 with (go_at_call 18; (with_reducible refine (QL.out _ _ HF1.out).mono ?_); rintro e w2 ⟨pa, ca, rfl, hf, hlo, hc⟩; have HF2 := Lib.hid hf; have HLO := Lib.hid hlo; clear hf hlo hc)
  by_cases h0 : vs.length = 0
  · have h0' : (vs.length : Int) = 0 := by omega
    rw [h0] at HF2 HF1 QL HLO ⊢
    clear h0 h0'
    go_wp2_with (go_at_call 10; (with_reducible refine (QA.out _).mono ?_); rintro e w3 ⟨rfl, hs⟩; have HC3 : Hid (Ch [] w w3) := Lib.hid (HF2.out.ch.trans hs); clear hs)
    go_ret
    exact ⟨rfl, HC3.out.below⟩
  · have h0' : ¬ (vs.length : Int) = 0 := by omega
    have h0'' : ((vs.length : Int) == 0) = false := by rw [beq_eq_false_iff_ne]; exact h0'
    obtain ⟨ga, hga⟩ : ∃ ga, pa = some ⟨ga, 0, none⟩ := by
      obtain ⟨va, h1, h2, h3⟩ := HF2.out
      have := (h2 (.slice pa vs.length ca, vs) (by simp)).1
      obtain ⟨g, cap, e, _⟩ := this.form (Nat.pos_of_ne_zero h0)
      injection e with e1
      exact ⟨g, e1⟩
    subst hga
    have hm := HLN.out
    obtain ⟨i, hi⟩ : ∃ i : Nat, i = (n.tmod (vs.length : Int)).toNat := ⟨_, rfl⟩
    have hv0 : (0 : Int) < (vs.length : Int) := by
      rcases Nat.eq_zero_or_pos vs.length with q | q
      · exact absurd q h0
      · exact Int.natCast_pos.2 q
    have htm := Int.tmod_lt_of_pos n hv0
    have htn : 0 ≤ n.tmod (vs.length : Int) := Int.tmod_nonneg _ hn.1
    have hiv : i < vs.length := by omega
    have e1 : n.tmod (vs.length : Int) = (i : Int) := by omega
    have HI := Lib.hid (And.intro hiv hm)
    have e2 : IntKind.i64.wrap (n.tmod (vs.length : Int)) = (i : Int) := by rw [e1]; exact IntWalk.i64_in _ (by omega)
    have e3 : IntKind.i64.wrap n = n := IntWalk.i64_in _ (by omega)
    have e4 : IntKind.i64.wrap ((i : Int) + 1) = (i : Int) + 1 := IntWalk.i64_in _ (by omega)
    have hk1 : (i : Int) < (vs.length : Int) := by omega
    have hk0 : (0 : Int) ≤ (i : Int) := by omega
    clear hn hm hi htm htn h0
    go_upto_region 9 with (go_at_call 28; (with_reducible refine (QN.out _ _).mono ?_); rintro e w3 ⟨rfl, hb⟩; have HF3 := Lib.hid (HF2.out.step (Ch.of_below hb)); clear hb; have hrow := HF3.out.row0; have hgl := (own_lo hrow (mem_ob.2 rfl)).2; obtain ⟨y, hy⟩ : ∃ y, y = vs[i]'HI.out.1 := ⟨_, rfl⟩; have hv : ∀ q, q < 5 → w3.cell? ⟨ga, i * 5 + q, none⟩ = (vC y)[q]? := (fun q hq => by rw [hrow.cellAt (i * 5 + q) (by have := HI.out.1; omega), flat_at vC 5 vC_len _ i q HI.out.1 hq, hy]); have d0 : w3.cell? ⟨ga, i * 5, none⟩ = some (.int .i64 y.k) := hv 0 (by omega); have d1 : w3.cell? ⟨ga, i * 5 + 1, none⟩ = some (.int .i64 y.p) := hv 1 (by omega); have d2 : w3.cell? ⟨ga, i * 5 + 2, none⟩ = some (.int .i64 y.q) := hv 2 (by omega); have d3 : w3.cell? ⟨ga, i * 5 + 3, none⟩ = some (.string y.s) := hv 3 (by omega); have d4 : w3.cell? ⟨ga, i * 5 + 4, none⟩ = some (.int .i64 y.r) := hv 4 (by omega); have f0 := hrow.frozenAt (i * 5); have f1 := hrow.frozenAt (i * 5 + 1); have f2 := hrow.frozenAt (i * 5 + 2); have f3 := hrow.frozenAt (i * 5 + 3); have f4 := hrow.frozenAt (i * 5 + 4); clear hv hy hrow)
    have HF4 : Hid (Fl 63 w t vs 1000 [(.slice p vs.length c, vs)] (((((w3.setCell ⟨ga, i * 5, none⟩ (.int .i64 2)).setCell ⟨ga, i * 5 + 1, none⟩ (.int .i64 77)).setCell ⟨ga, i * 5 + 2, none⟩ (.int .i64 1)).setCell ⟨ga, i * 5 + 3, none⟩ (.string ⟨#[]⟩)).setCell ⟨ga, i * 5 + 4, none⟩ (.int .i64 0))) := Lib.hid (HF3.out.drop (fun r hr g hg hm => by
      simp at hr; subst hr
      have h1 := HF1.out.rowlt (by simp) g hg
      have h2 := HLO.out g hm
      omega) (stL_ch (S := [ga]) (by simp) (vC (nV 77)) (i * 5) (Ch.refl _ _)))
    generalize (((((w3.setCell ⟨ga, i * 5, none⟩ (.int .i64 2)).setCell ⟨ga, i * 5 + 1, none⟩ (.int .i64 77)).setCell ⟨ga, i * 5 + 2, none⟩ (.int .i64 1)).setCell ⟨ga, i * 5 + 3, none⟩ (.string ⟨#[]⟩)).setCell ⟨ga, i * 5 + 4, none⟩ (.int .i64 0)) = w4 at *
    clear d0 d1 d2 d3 d4 f0 f1 f2 f3 f4 hgl
    have QS : Hid (∀ a b rs W, Fl 63 w t vs 1000 rs W → (a, vs) ∈ rs → (b, vs) ∈ rs → Calls Try.prog 17 #[a, b] W fun e w' => e = .returned (.bool true) ∧ Fl 63 w t vs 1000 rs w') := Lib.hid fun a b rs W h ha hb => same_rows a b W h ha hb (by have := HI.out.2; omega)
    go_upto_region 11 with (first | (go_at_call 18; (with_reducible refine (QL.out _ _ HF4.out).mono ?_); rintro e w5 ⟨p5, c5, rfl, hf, hlo, hc⟩; have HF5 := Lib.hid hf; clear hf hlo hc) | (go_at_call 17; (with_reducible refine (QS.out _ _ _ _ HF5.out (by simp) (by simp)).mono ?_); rintro e w6 ⟨rfl, hf⟩; have HF6 := Lib.hid (hf.sub (rs' := [(.slice p vs.length c, vs)]) (fun r hr => by simp at hr; simp [hr])); clear hf))
    have e78 : putE vs ((i : Int) + 1) (nV 78) = 0 := by
      unfold putE absI
      rw [if_pos ⟨by omega, by omega⟩]
      rfl
    have QP : Hid (∀ rs W, Fl 63 w t vs 1000 rs W → Calls Try.prog 29 #[.pointer (some ⟨t, 0, none⟩), .int .i64 ((i : Int) + 1), .agg #[.int .i64 2, .int .i64 78, .int .i64 1, .string ⟨#[]⟩, .int .i64 0]] W fun e w' => e = .returned (.int .i64 0) ∧ ∃ vs', Fl 63 w t vs' 1000 rs w') := Lib.hid fun rs W h => by
      have := fput h ((i : Int) + 1) (nV 78)
      rw [e78] at this
      exact this.mono fun e w' hh => ⟨hh.1, _, hh.2⟩
    have QZ : Hid (∀ rs vs' W, Fl 63 w t vs' 1000 rs W → Calls Try.prog 30 #[.pointer (some ⟨t, 0, none⟩), .int .i64 0] W fun e w' => e = .returned (.int .i64 0) ∧ ∃ vs', Fl 63 w t vs' 1000 rs w') := Lib.hid fun rs vs' W h => by
      have := fsettop h 0
      exact this.mono fun e w' hh => ⟨hh.1, _, hh.2⟩
    have QS2 : Hid (∀ a b rs vs' W, Fl 63 w t vs' 1000 rs W → (a, vs) ∈ rs → (b, vs) ∈ rs → Calls Try.prog 17 #[a, b] W fun e w' => e = .returned (.bool true) ∧ Fl 63 w t vs' 1000 rs w') := Lib.hid fun a b rs vs' W h ha hb => same_rows a b W h ha hb (by have := HI.out.2; omega)
    clear e78
    go_wp2_with (first | (go_at_call 18; (with_reducible refine (QL.out _ _ HF6.out).mono ?_); rintro e w7 ⟨p7, c7, rfl, hf, hlo, hc⟩; have HF7 := Lib.hid hf; clear hf hlo hc) | (go_at_call 28; (with_reducible refine (QN.out _ _).mono ?_); rintro e w8 ⟨rfl, hb⟩; have HF8 := Lib.hid (HF7.out.step (Ch.of_below hb)); clear hb) | (go_at_call 29; (with_reducible refine (QP.out _ _ HF8.out).mono ?_); rintro e w9 ⟨rfl, vs9, hf⟩; have HF9 := Lib.hid hf; clear hf) | (go_at_call 30; (with_reducible refine (QZ.out _ _ _ HF9.out).mono ?_); rintro e w10 ⟨rfl, vs10, hf⟩; have HF10 := Lib.hid hf; clear hf) | (go_at_call 17; (with_reducible refine (QS2.out _ _ _ _ _ HF10.out (by simp) (by simp)).mono ?_); rintro e w11 ⟨rfl, hf⟩; have HF11 := Lib.hid hf; clear hf) | (go_at_call 10; (with_reducible refine (QA.out _).mono ?_); rintro e w12 ⟨rfl, hs⟩; have HC12 : Hid (Ch [] w w12) := Lib.hid (HF11.out.ch.trans hs); clear hs))
    go_ret
    exact ⟨rfl, HC12.out.below⟩
end Go.Proofs.Ytibggoikjlnnkaa
