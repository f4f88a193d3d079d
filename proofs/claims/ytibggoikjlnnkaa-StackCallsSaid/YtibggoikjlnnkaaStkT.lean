/- Layer 17: the walk of StackTurns. -/
import Derived.Test.YtibggoikjlnnkaaStkS
namespace Go.Proofs.Ytibggoikjlnnkaa
open Go.RowKit Go.Joins M1
set_option linter.unusedVariables false
/-- A box beside the stack is a row of one value. -/
theorem Fl.box {T : TypeId} {w W : World} {t lim : Nat} {l : List V5} {rs : List (Value × List V5)} (h : Fl T w t l lim rs W) (x : V5) : Fl T w t l lim ((.slice (some ⟨W.heap.size, 0, none⟩) 1 1, [x]) :: rs) (W.alloc (.cells #[.int .i64 x.k, .int .i64 x.p, .int .i64 x.q, .string x.s, .int .i64 x.r] 35)) := by
  obtain ⟨va, h1, h2, h3⟩ := h
  have hc : Ch [] W (W.alloc (.cells #[.int .i64 x.k, .int .i64 x.p, .int .i64 x.q, .string x.s, .int .i64 x.r] 35)) := (Ch.refl [] W).alloc _
  refine ⟨va, h1.ch0 hc, fun r hr => ?_, h3.trans hc⟩
  simp only [List.mem_cons] at hr
  rcases hr with rfl | hr
  · refine ⟨World.ownsRow_lit (w := W) #[.int .i64 x.k, .int .i64 x.p, .int .i64 x.q, .string x.s, .int .i64 x.r] 1 (e := 35) (size := 5) h3.size (by decide) rfl, fun g hg hm => ?_⟩
    simp [Go.Proofs.Ytibggoikjlnnkaa.ob, Value.ownBlock] at hg
    have := (h1.lt g hm).2
    omega
  · exact ⟨hc.ownB (h2 r hr).1 (fun g _ => not_nil g), (h2 r hr).2⟩
theorem Fl.cellr {T : TypeId} {w W : World} {t lim : Nat} {l : List V5} {rs : List (Value × List V5)} (h : Fl T w t l lim rs W) {g n c : Nat} {L : List V5} (hr : (.slice (some ⟨g, 0, none⟩) n c, L) ∈ rs) (hn : L.length = n) (k : Nat) (x : V5) (hx : L[k]? = some x) :
    ∀ q, q < 5 → W.cell? ⟨g, k * 5 + q, none⟩ = (vC x)[q]? := by
  intro q hq
  obtain ⟨va, h1, h2, h3⟩ := h
  obtain ⟨hk, e⟩ := List.getElem?_eq_some_iff.1 hx
  have := (h2 _ hr).1
  subst hn
  rw [this.cellAt (k * 5 + q) (by omega), flat_at vC 5 vC_len _ k q hk hq, e]
theorem tmod2 (n : Int) (m : Nat) (hm : 0 < m) : (n.tmod (m : Int) + (m : Int)).tmod (m : Int) = ((rotN n m : Nat) : Int) := by
  have h1 := Int.tmod_lt_of_pos n (show (0 : Int) < (m : Int) by omega)
  have h2 := Int.tmod_lt_of_pos (-n) (show (0 : Int) < (m : Int) by omega)
  rw [Int.neg_tmod] at h2
  have hf := tmod_fix n (m : Int) (by omega)
  have hr := rotN_lt (n := n) hm
  rw [rotN_eq hm, ← hf, Int.tmod_eq_emod_of_nonneg (by omega)]
  split
  · rw [Int.emod_eq_of_lt (by omega) (by omega)]
  · rename_i hh
    rw [show n.tmod (m : Int) + (m : Int) = n.tmod (m : Int) + (m : Int) * 1 by omega, Int.add_mul_emod_self_left, Int.emod_eq_of_lt (by omega) (by omega)]
set_option maxHeartbeats 8000000 in
theorem walkT (p0 : Option Addr) (c0 : Nat) (l0 : List V5) (n8 : Int) (wn8 : (Lit.int .u8 n8).wf = true) (n : Int) (wn : (Lit.int .i32 n).wf = true) (w : World) (hl : l0.length ≤ maxLen)
    (hp : 0 < l0.length → ∃ g o, p0 = some ⟨g, o, none⟩ ∧ g < w.heap.size ∧ ∀ (j m : Nat) (hj : j < l0.length), m < 5 → w.cell? ⟨g, o + j * 5 + m, none⟩ = (vC l0[j])[m]?) :
    Calls Try.prog 4 #[.slice p0 l0.length c0, .int .u8 n8, .int .i32 n] w fun e w' => e = .returned (.bool true) ∧ Below w.heap.size w w' := by
  have hn8 : 0 ≤ n8 ∧ n8 ≤ 255 := by simpa [Lit.wf, IntKind.min, IntKind.max, IntKind.signed, IntKind.bits] using wn8
  have hn : -2147483648 ≤ n ∧ n ≤ 2147483647 := by simpa [Lit.wf, IntKind.min, IntKind.max, IntKind.signed, IntKind.bits] using wn
  have QF := Lib.hid (filled_any (.slice p0 l0.length c0) l0 w ⟨p0, c0, rfl, hp⟩ hl)
  have HLN : Hid ((flF l0 60).length ≤ 60) := Lib.hid (flF_len l0 60)
  have QA := Lib.hid fun W => awake_any W
  obtain ⟨k, hk⟩ : ∃ k : Nat, k = (n8.tmod 60).toNat := ⟨_, rfl⟩
  have htn : 0 ≤ n8.tmod 60 := Int.tmod_nonneg _ hn8.1
  have htm := Int.tmod_lt_of_pos n8 (show (0 : Int) < 60 by decide)
  have e1 : n8.tmod 60 = (k : Int) := by omega
  have hk60 : k < 60 := by omega
  have e3 : IntKind.i64.wrap n8 = n8 := IntWalk.i64_in _ (by omega)
  have e4 : IntKind.i64.wrap n = n := IntWalk.i64_in _ (by omega)
  have e5 : IntKind.i64.wrap (-n) = -n := IntWalk.i64_in _ (by omega)
  clear hp hl wn wn8 hk htn htm
  go_enter Try.func4, Try.ntmps4
  go_upto_region 4 with (go_at_call 20; (with_reducible refine (QF.out).mono ?_); rintro e w1 ⟨t, p, c, rfl, hf⟩; have HF1 := Lib.hid hf; clear hf)
  clear QF
  generalize flF l0 60 = vs at *
  by_cases hkv : k < vs.length
  · have hm := HLN.out
    obtain ⟨m, hm1⟩ : ∃ m, m = vs.length - k := ⟨_, rfl⟩
    have hmp : 0 < m := by omega
    have hto := tmod2 n m hmp
    obtain ⟨tq, hto1⟩ : ∃ tq, tq = rotN n m := ⟨_, rfl⟩
    have htol : tq < m := by rw [hto1]; exact rotN_lt hmp
    rw [← hto1] at hto
    have hsub : (vs.length : Int) - (k : Int) = (m : Int) := by omega
    have hb1 := Int.tmod_lt_of_pos n (show (0 : Int) < (m : Int) by omega)
    have hb2 := Int.tmod_lt_of_pos (-n) (show (0 : Int) < (m : Int) by omega)
    rw [Int.neg_tmod] at hb2
    obtain ⟨x, hx⟩ : ∃ x, x = vs[k] := ⟨_, rfl⟩
    have HX : Hid (vs[k]? = some x) := Lib.hid (by rw [hx, List.getElem?_eq_getElem hkv])
    obtain ⟨L, hL⟩ : ∃ L, L = rotL vs k n := ⟨_, rfl⟩
    have hLl : L.length = vs.length := by rw [hL]; exact rotL_len _ _ _
    have hr1 : atE vs ((k : Int) + 1) = 0 ∧ rotateL vs ((k : Int) + 1) n = L := by
      unfold atE rotateL; rw [absI_pos hkv]; exact ⟨rfl, hL.symm⟩
    have hat : atV L ((k : Int) + 1 + (tq : Int)) = x ∧ atE L ((k : Int) + 1 + (tq : Int)) = 0 := by
      have ha : absI L.length ((k : Int) + 1 + (tq : Int)) = some (k + tq) := by
        rw [hLl, show (k : Int) + 1 + (tq : Int) = ((k + tq : Nat) : Int) + 1 by omega]; exact absI_pos (by omega)
      unfold atV atE; rw [ha]
      have := rotL_at vs k n hkv
      rw [← hL, ← hm1, ← hto1, HX.out] at this
      simp [List.getD, this]
    have hr2 : atE L ((k : Int) - (vs.length : Int)) = 0 ∧ rotateL L ((k : Int) - (vs.length : Int)) (-n) = vs := by
      have ha : absI L.length ((k : Int) - (vs.length : Int)) = some k := by rw [hLl]; exact absI_neg hkv _ rfl
      unfold atE rotateL; rw [ha]
      exact ⟨rfl, by simp only; rw [hL]; exact rotL_back vs k n hkv⟩
    have Q1 : Hid (∀ rs W, Fl 63 w t vs 1000 rs W → Calls Try.prog 21 #[.pointer (some ⟨t, 0, none⟩), .int .i64 ((k : Int) + 1), .int .i64 n] W fun e w' => e = .returned (.int .i64 0) ∧ Fl 63 w t L 1000 rs w') := Lib.hid fun rs W h => by
      have := frotate h ((k : Int) + 1) n
      rw [hr1.1, hr1.2] at this
      exact this
    have Q2 : Hid (∀ rs W, Fl 63 w t L 1000 rs W → Calls Try.prog 22 #[.pointer (some ⟨t, 0, none⟩), .int .i64 ((k : Int) + 1 + (tq : Int))] W fun e w' => e = .returned (.tuple #[.agg #[.int .i64 x.k, .int .i64 x.p, .int .i64 x.q, .string x.s, .int .i64 x.r], .int .i64 0]) ∧ Fl 63 w t L 1000 rs w') := Lib.hid fun rs W h => by
      have := fat h ((k : Int) + 1 + (tq : Int))
      rw [hat.1, hat.2] at this
      exact this
    have Q3 : Hid (∀ rs W, Fl 63 w t L 1000 rs W → Calls Try.prog 21 #[.pointer (some ⟨t, 0, none⟩), .int .i64 ((k : Int) - (vs.length : Int)), .int .i64 (-n)] W fun e w' => e = .returned (.int .i64 0) ∧ Fl 63 w t vs 1000 rs w') := Lib.hid fun rs W h => by
      have := frotate h ((k : Int) - (vs.length : Int)) (-n)
      rw [hr2.1, hr2.2] at this
      exact this
    have QL : Hid (∀ rs W, Fl 63 w t vs 1000 rs W → Calls Try.prog 18 #[.pointer (some ⟨t, 0, none⟩)] W fun e w' => ∃ p c, e = .returned (.slice p vs.length c) ∧ Fl 63 w t vs 1000 ((.slice p vs.length c, vs) :: rs) w' ∧ (∀ g ∈ ob (.slice p vs.length c), W.heap.size ≤ g) ∧ Ch [] W w') := Lib.hid fun rs W h => flist h
    have QS : Hid (∀ a b rs W, Fl 63 w t vs 1000 rs W → (a, vs) ∈ rs → (b, vs) ∈ rs → Calls Try.prog 17 #[a, b] W fun e w' => e = .returned (.bool true) ∧ Fl 63 w t vs 1000 rs w') := Lib.hid fun a b rs W h ha hb => same_rows a b W h ha hb (by have := HLN.out; omega)
    have EQ := fun W => neq_v5 x W
    obtain ⟨gv, hgv⟩ : ∃ gv, p = some ⟨gv, 0, none⟩ := by
      obtain ⟨va, h1, h2, h3⟩ := HF1.out
      have := (h2 (.slice p vs.length c, vs) (by simp)).1
      obtain ⟨g, cap, e, _⟩ := this.form (show 0 < vs.length by omega)
      injection e with e1
      exact ⟨g, e1⟩
    subst hgv
    have hkl : (k : Int) < (vs.length : Int) := by omega
    have e6 : IntKind.i64.wrap ((k : Int) - (vs.length : Int)) = (k : Int) - (vs.length : Int) := IntWalk.i64_in _ (by omega)
    have hk0 : (0 : Int) ≤ (k : Int) := by omega
    have hmz : ¬ (m : Int) = 0 := by omega
    have hgeq : ¬ (vs.length : Int) ≤ (k : Int) := by omega
    clear hm1 hto1 hx hL hLl hr1 hat hr2 hn8
    go_upto_region 12 with (first | (go_at_call 21; (with_reducible refine (Q1.out _ _ HF1.out).mono ?_); rintro e w2 ⟨rfl, hf⟩; have HF2 := Lib.hid hf; clear hf) | (go_at_call 22; (with_reducible refine (Q2.out _ _ HF2.out).mono ?_); rintro e w3 ⟨rfl, hf⟩; have HF3 := Lib.hid (hf.box x); clear hf))
    obtain ⟨r1, hr1⟩ : ∃ r1, r1 = w3.heap.size := ⟨_, rfl⟩
    rw [← hr1] at HF3 ⊢
    have HR1 := Lib.hid hr1
    clear hr1
    generalize (w3.alloc (.cells #[.int .i64 x.k, .int .i64 x.p, .int .i64 x.q, .string x.s, .int .i64 x.r] 35)) = w4 at *
    have HSF : Hid (∀ l W, Fl 63 w t l 1000 [(.slice (some ⟨r1, 0, none⟩) 1 1, [x]), (.slice (some ⟨gv, 0, none⟩) vs.length c, vs)] W → (W.cell? ⟨r1, 0, none⟩ = some (.int .i64 x.k) ∧ W.cell? ⟨r1, 1, none⟩ = some (.int .i64 x.p) ∧ W.cell? ⟨r1, 2, none⟩ = some (.int .i64 x.q) ∧ W.cell? ⟨r1, 3, none⟩ = some (.string x.s) ∧ W.cell? ⟨r1, 4, none⟩ = some (.int .i64 x.r)) ∧ (W.cell? ⟨gv, k * 5, none⟩ = some (.int .i64 x.k) ∧ W.cell? ⟨gv, k * 5 + 1, none⟩ = some (.int .i64 x.p) ∧ W.cell? ⟨gv, k * 5 + 2, none⟩ = some (.int .i64 x.q) ∧ W.cell? ⟨gv, k * 5 + 3, none⟩ = some (.string x.s) ∧ W.cell? ⟨gv, k * 5 + 4, none⟩ = some (.int .i64 x.r))) := Lib.hid fun l W h => by
      have h1 := h.cellr (g := r1) (n := 1) (c := 1) (L := [x]) (by simp) rfl 0 x rfl
      have h2 := h.cellr (g := gv) (n := vs.length) (c := c) (L := vs) (by simp) rfl k x HX.out
      simp only [Nat.zero_mul, Nat.zero_add] at h1
      exact ⟨⟨h1 0 (by omega), h1 1 (by omega), h1 2 (by omega), h1 3 (by omega), h1 4 (by omega)⟩, ⟨h2 0 (by omega), h2 1 (by omega), h2 2 (by omega), h2 3 (by omega), h2 4 (by omega)⟩⟩
    have hF4 := HF3.out.step (Ch.refl [] w4).drew
    have hS4 := HSF.out _ _ hF4
    have Q4 : Hid (∀ W, Fl 63 w t L 1000 [(.slice (some ⟨r1, 0, none⟩) 1 1, [x]), (.slice (some ⟨gv, 0, none⟩) vs.length c, vs)] W → Calls Try.prog 21 #[.pointer (some ⟨t, 0, none⟩), .int .i64 ((k : Int) - (vs.length : Int)), .int .i64 (-n)] W fun e w' => e = .returned (.int .i64 0) ∧ Fl 63 w t vs 1000 [(.slice (some ⟨r1, 0, none⟩) 1 1, [x]), (.slice (some ⟨gv, 0, none⟩) vs.length c, vs)] w' ∧ ((w'.cell? ⟨r1, 0, none⟩ = some (.int .i64 x.k) ∧ w'.cell? ⟨r1, 1, none⟩ = some (.int .i64 x.p) ∧ w'.cell? ⟨r1, 2, none⟩ = some (.int .i64 x.q) ∧ w'.cell? ⟨r1, 3, none⟩ = some (.string x.s) ∧ w'.cell? ⟨r1, 4, none⟩ = some (.int .i64 x.r)) ∧ (w'.cell? ⟨gv, k * 5, none⟩ = some (.int .i64 x.k) ∧ w'.cell? ⟨gv, k * 5 + 1, none⟩ = some (.int .i64 x.p) ∧ w'.cell? ⟨gv, k * 5 + 2, none⟩ = some (.int .i64 x.q) ∧ w'.cell? ⟨gv, k * 5 + 3, none⟩ = some (.string x.s) ∧ w'.cell? ⟨gv, k * 5 + 4, none⟩ = some (.int .i64 x.r)))) := Lib.hid fun W h => (Q3.out _ W h).mono fun e w' hh => ⟨hh.1, hh.2, HSF.out _ _ hh.2⟩
    go_region_held3 (fun w' => (w'.cell? ⟨r1, 0, none⟩ = some (.int .i64 x.k) ∧ w'.cell? ⟨r1, 1, none⟩ = some (.int .i64 x.p) ∧ w'.cell? ⟨r1, 2, none⟩ = some (.int .i64 x.q) ∧ w'.cell? ⟨r1, 3, none⟩ = some (.string x.s) ∧ w'.cell? ⟨r1, 4, none⟩ = some (.int .i64 x.r)) ∧ (w'.cell? ⟨gv, k * 5, none⟩ = some (.int .i64 x.k) ∧ w'.cell? ⟨gv, k * 5 + 1, none⟩ = some (.int .i64 x.p) ∧ w'.cell? ⟨gv, k * 5 + 2, none⟩ = some (.int .i64 x.q) ∧ w'.cell? ⟨gv, k * 5 + 3, none⟩ = some (.string x.s) ∧ w'.cell? ⟨gv, k * 5 + 4, none⟩ = some (.int .i64 x.r))) (first | assumption | exact hS4) (first | (go_at_call 21; (with_reducible refine (Q4.out _ (by assumption)).mono ?_); rintro e w5 ⟨rfl, hf5, hS5⟩))
    all_goals (
      have HF5 := Lib.hid (‹Fl 63 w t vs 1000 _ _›)
      go_wp2_with (first | (go_at_call 18; (with_reducible refine (QL.out _ _ HF5.out).mono ?_); rintro e w10 ⟨p5, c5, rfl, hf, hlo, hc⟩; have HF10 := Lib.hid hf; clear hf hlo hc) | (go_at_call 17; (with_reducible refine (QS.out _ _ _ _ HF10.out (by simp) (by simp)).mono ?_); rintro e w11 ⟨rfl, hf⟩; have HF11 := Lib.hid hf; clear hf) | (go_at_call 10; (with_reducible refine (QA.out _).mono ?_); rintro e w12 ⟨rfl, hs⟩; have HC12 : Hid (Ch [] w w12) := Lib.hid (HF11.out.ch.trans hs); clear hs))
      go_ret
      exact ⟨rfl, HC12.out.below⟩)
  · have hgeq : (vs.length : Int) ≤ (k : Int) := by omega
    clear hn hn8
    go_wp2_with (go_at_call 10; (with_reducible refine (QA.out _).mono ?_); rintro e w3 ⟨rfl, hs⟩; have HC3 : Hid (Ch [] w w3) := Lib.hid (HF1.out.ch.trans hs); clear hs)
    go_ret
    exact ⟨rfl, HC3.out.below⟩
end Go.Proofs.Ytibggoikjlnnkaa
