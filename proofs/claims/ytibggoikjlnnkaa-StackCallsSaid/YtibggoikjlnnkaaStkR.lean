/- Layer 17: the walk of StackBounds (2). -/
import Derived.Test.YtibggoikjlnnkaaStkQ
namespace Go.Proofs.Ytibggoikjlnnkaa
open Go.RowKit Go.Joins M1
set_option linter.unusedVariables false
set_option maxHeartbeats 16000000 in
theorem walk_ok (lim : Nat) (h1 : 1 ≤ lim) (h2 : lim ≤ 1000) (p0 : Option Addr) (c0 : Nat) (l0 : List Cl) (w : World) (hl : l0.length ≤ maxLen) (h : Cls w (.slice p0 l0.length c0) l0) :
    Calls Try.prog 6 #[.int .i64 (lim : Int), .slice p0 l0.length c0] w fun e w' => e = .returned (.bool true) ∧ Below w.heap.size w w' := by
  have QN : Hid (Calls Try.prog 11 #[.int .i64 (lim : Int)] w fun e w' => ∃ t, e = .returned (.tuple #[.pointer (some ⟨t, 0, none⟩), .int .i64 0]) ∧ Fl 63 w t [] lim [] w') := Lib.hid (by
    refine (sknew_ok w.heap.size lim w (Nat.le_refl _) h1 h2).mono ?_
    rintro e w' ⟨rfl, hs, hb⟩
    exact ⟨_, rfl, ⟨_, hs, fun r hr => (by simp at hr), Ch.of_below hb⟩⟩)
  have QG := Lib.hid fun W (hW : Ch [] w W) => long_any p0 c0 l0 W hl (h.below hW)
  have QA := Lib.hid fun W => awake_any W
  obtain ⟨p', c', e, hp⟩ := h.form
  injection e with e1 e2 e3
  subst e1 e3
  have HP := Lib.hid hp
  have hl2 : l0.length ≤ 9223372036854775807 := hl
  have g1 : (1 : Int) ≤ (lim : Int) := by omega
  have g2 : (lim : Int) ≤ 1000 := by omega
  clear h hp hl h1 h2
  go_enter Try.func6, Try.ntmps6
  go_upto_region 4 with (go_at_call 11; (with_reducible refine (QN.out).mono ?_); rintro e w1 ⟨t, rfl, hf⟩; have HF1 := Lib.hid hf; clear hf)
  go_wp2_with (first | (go_at_call 9; (with_reducible refine (QG.out _ HF1.out.ch).mono ?_); rintro e w2 ⟨⟨b, rfl⟩, hc⟩; have HF2 := Lib.hid (HF1.out.step hc); clear hc; cases b) | (go_at_call 10; (with_reducible refine (QA.out _).mono ?_); rintro e w3 ⟨rfl, hs⟩; have HC3 : Hid (Ch [] w w3) := Lib.hid (HF2.out.ch.trans hs); clear hs))
  rotate_left
  · go_ret
    exact ⟨rfl, HC3.out.below⟩
  go_loopw [36] (fun v36 wr => ∃ (k : Nat) (l : List V5), k ≤ l0.length ∧ v36 = .int .i64 (k : Int) ∧ Hid (Fl 63 w t l lim [] wr)) (fun v36 _ => l0.length - (intOf v36).toNat)
  case atStart => exact ⟨0, [], Nat.zero_le _, rfl, HF2⟩
  case round =>
    obtain ⟨k, l, hk, rfl, HF⟩ := hrel
    rename World => wr
    by_cases hlt : k < l0.length
    · have HK := Lib.hid hlt
      have hi1 : (k : Int) < (l0.length : Int) := by omega
      have hi0 : (0 : Int) ≤ (k : Int) := by omega
      obtain ⟨g1, o1, rfl, hg1, k1⟩ := HP.out (by omega)
      obtain ⟨c, hc⟩ : ∃ c, c = l0[k] := ⟨_, rfl⟩
      have HCL : Hid (∀ W, Ch [] w W → (∀ j, j < 8 → W.cell? ⟨g1, o1 + k * 8 + j, none⟩ = (clC c)[j]?) ∧ g1 < W.heap.size) := Lib.hid fun W hW => ⟨fun j hj => (hW.below.cell (p := ⟨g1, _, none⟩) hg1).trans (by rw [hc]; exact k1 k j hlt hj), Nat.lt_of_lt_of_le hg1 hW.size⟩
      have HLL : Hid (l.length ≤ lim) := Lib.hid HF.out.len.1
      obtain ⟨rm, hrm⟩ : ∃ rm, rm = roomE l lim 1 := ⟨_, rfl⟩
      have HRM := Lib.hid hrm
      have QL : Hid (∀ l rs W, Fl 63 w t l lim rs W → Calls Try.prog 18 #[.pointer (some ⟨t, 0, none⟩)] W fun e w' => ∃ p c, e = .returned (.slice p l.length c) ∧ Fl 63 w t l lim ((.slice p l.length c, l) :: rs) w' ∧ (∀ g ∈ ob (.slice p l.length c), W.heap.size ≤ g) ∧ Ch [] W w') := Lib.hid fun l rs W h => flist h
      have QR : Hid (∀ rs W, Fl 63 w t l lim rs W → Calls Try.prog 27 #[.pointer (some ⟨t, 0, none⟩), .int .i64 1] W fun e w' => e = .returned (.int .i64 rm) ∧ Fl 63 w t l lim rs w') := Lib.hid fun rs W h => by
        have := froom h 1
        rw [← hrm] at this
        exact this
      have QT : Hid (∀ l rs W, Fl 63 w t l lim rs W → Calls Try.prog 15 #[.pointer (some ⟨t, 0, none⟩)] W fun e w' => e = .returned (.int .i64 (l.length : Int)) ∧ Fl 63 w t l lim rs w') := Lib.hid fun l rs W h => ftop h
      have QS : Hid (∀ a b L l rs W, Fl 63 w t l lim rs W → (a, L) ∈ rs → (b, L) ∈ rs → L.length ≤ 1000000 → Calls Try.prog 17 #[a, b] W fun e w' => e = .returned (.bool true) ∧ Fl 63 w t l lim rs w') := Lib.hid fun a b L l rs W h ha hb hL => by
        refine (same_any a b L L W (h.vals ha) (h.vals hb) hL hL).mono ?_
        rintro e w' ⟨rfl, hc⟩
        exact ⟨by simp, h.step hc⟩
      clear k1 hc hrm hlt
      by_cases hE : progE lim l c = 0
      · obtain ⟨l', hl2⟩ : ∃ l', l' = progL lim l c := ⟨_, rfl⟩
        obtain ⟨pe, hpe⟩ : ∃ pe, pe = progE lim l c := ⟨_, rfl⟩
        obtain ⟨pn, hpn⟩ : ∃ pn, pn = progN l c := ⟨_, rfl⟩
        obtain ⟨pv, hpv⟩ : ∃ pv, pv = progV l c := ⟨_, rfl⟩
        have QP : Hid (∀ rs W, Fl 63 w t l lim rs W → Calls Try.prog 13 #[.pointer (some ⟨t, 0, none⟩), .agg #[.int .i64 c.k, .int .i64 c.n, .int .i64 c.m, .int .i64 c.v.k, .int .i64 c.v.p, .int .i64 c.v.q, .string c.v.s, .int .i64 c.v.r]] W fun e w' => e = .returned (.tuple #[.int .i64 pn, .agg #[.int .i64 pv.k, .int .i64 pv.p, .int .i64 pv.q, .string pv.s, .int .i64 pv.r], .int .i64 0]) ∧ Fl 63 w t l' lim rs w') := Lib.hid fun rs W h => by
          have := fprog h c
          rw [← hl2, hE, ← hpn, ← hpv] at this
          exact this
        have HPE : Hid (0 = progE lim l c) := Lib.hid (by first | exact hpe | exact hE.symm)
        clear hl2 hpe hpn hpv hE
        go_upto_region 12 with (first | (go_at_call 18; (with_reducible refine (QL.out _ _ _ HF.out).mono ?_); rintro e wL ⟨pL, cL, rfl, hf, hlo, hc⟩; have HF := Lib.hid hf; clear hf hlo hc) | (go_at_call 27; (with_reducible refine (QR.out _ _ HF.out).mono ?_); rintro e wR ⟨rfl, hf⟩; have HF := Lib.hid hf; have hmr := (HCL.out wR HF.out.ch).1; have hgr := (HCL.out wR HF.out.ch).2; have r0 : wR.cell? ⟨g1, o1 + k * 8, none⟩ = some (.int .i64 c.k) := hmr 0 (by omega); have r1 : wR.cell? ⟨g1, o1 + k * 8 + 1, none⟩ = some (.int .i64 c.n) := hmr 1 (by omega); have r2 : wR.cell? ⟨g1, o1 + k * 8 + 2, none⟩ = some (.int .i64 c.m) := hmr 2 (by omega); have r3 : wR.cell? ⟨g1, o1 + k * 8 + 3, none⟩ = some (.int .i64 c.v.k) := hmr 3 (by omega); have r4 : wR.cell? ⟨g1, o1 + k * 8 + 4, none⟩ = some (.int .i64 c.v.p) := hmr 4 (by omega); have r5 : wR.cell? ⟨g1, o1 + k * 8 + 5, none⟩ = some (.int .i64 c.v.q) := hmr 5 (by omega); have r6 : wR.cell? ⟨g1, o1 + k * 8 + 6, none⟩ = some (.string c.v.s) := hmr 6 (by omega); have r7 : wR.cell? ⟨g1, o1 + k * 8 + 7, none⟩ = some (.int .i64 c.v.r) := hmr 7 (by omega); clear hf hmr) | (go_at_call 13; (with_reducible refine (QP.out _ _ HF.out).mono ?_); rintro e wP ⟨rfl, hf⟩; have HF := Lib.hid (hf.step ((Ch.refl [] wP).alloc (.cells #[.int .i64 pv.k, .int .i64 pv.p, .int .i64 pv.q, .string pv.s, .int .i64 pv.r] 35))); clear hf r0 r1 r2 r3 r4 r5 r6 r7 hgr))
        have htl : Hid (l'.length ≤ lim ∧ lim ≤ 1000) := Lib.hid HF.out.len
        have ht1 : ¬ (lim : Int) < (l'.length : Int) := by have := htl.out.1; omega
        go_upto_region 14 with (first | (go_at_call 18; (with_reducible refine (QL.out _ _ _ HF.out).mono ?_); rintro e wL ⟨pL, cL, rfl, hf, hlo, hc⟩; have HF := Lib.hid hf; clear hf hlo hc) | (go_at_call 17; (with_reducible refine (QS.out _ _ l _ _ _ HF.out (by simp) (by simp) (by have := htl.out; omega)).mono ?_); rintro e wS ⟨rfl, hf⟩; have HF := Lib.hid hf; clear hf) | (go_at_call 15; (with_reducible refine (QT.out _ _ _ HF.out).mono ?_); rintro e wT ⟨rfl, hf⟩; have HF := Lib.hid hf; clear hf))
        have hm := (HCL.out _ HF.out.ch).1
        have hgm := (HCL.out _ HF.out.ch).2
        have q0 : wL.cell? ⟨g1, o1 + k * 8, none⟩ = some (.int .i64 c.k) := hm 0 (by omega)
        have q1 : wL.cell? ⟨g1, o1 + k * 8 + 1, none⟩ = some (.int .i64 c.n) := hm 1 (by omega)
        have q2 : wL.cell? ⟨g1, o1 + k * 8 + 2, none⟩ = some (.int .i64 c.m) := hm 2 (by omega)
        have q3 : wL.cell? ⟨g1, o1 + k * 8 + 3, none⟩ = some (.int .i64 c.v.k) := hm 3 (by omega)
        have q4 : wL.cell? ⟨g1, o1 + k * 8 + 4, none⟩ = some (.int .i64 c.v.p) := hm 4 (by omega)
        have q5 : wL.cell? ⟨g1, o1 + k * 8 + 5, none⟩ = some (.int .i64 c.v.q) := hm 5 (by omega)
        have q6 : wL.cell? ⟨g1, o1 + k * 8 + 6, none⟩ = some (.string c.v.s) := hm 6 (by omega)
        have q7 : wL.cell? ⟨g1, o1 + k * 8 + 7, none⟩ = some (.int .i64 c.v.r) := hm 7 (by omega)
        clear hm
        obtain ⟨ck, hck⟩ : ∃ ck, ck = c.k := ⟨_, rfl⟩
        have HCK := Lib.hid hck
        rw [← hck] at q0
        clear hck
        by_cases hk : ck = 0
        · cases hok : okV c.v with
          | true =>
            have QV : Hid (∀ W, Calls Try.prog 23 #[.agg #[.int .i64 c.v.k, .int .i64 c.v.p, .int .i64 c.v.q, .string c.v.s, .int .i64 c.v.r]] W fun e w' => e = .returned (.bool true) ∧ Below W.heap.size W w') := Lib.hid fun W => by rw [← (show okV c.v = true from hok)]; exact rvalid5 c.v.k c.v.p c.v.q c.v.s c.v.r W
            have hrm : (0 : Int) = rm := by
              rw [HPE.out, HRM.out]
              unfold progE
              rw [if_pos (show c.k = 0 by rw [← HCK.out]; exact hk)]
              exact push_room lim l c.v hok HLL.out
            have HRE : Hid ((0 : Int) = rm) := Lib.hid hrm
            have hr2 : ((0 : Int) != rm) = false := by rw [hrm]; simp
            clear hok hrm
            subst hk
            go_wp2_with (go_at_call 23; (with_reducible refine (QV.out _).mono ?_); rintro e wV ⟨rfl, hb⟩; have HF := Lib.hid (HF.out.step (Ch.of_below hb)); clear hb)
            go_roundw
            case rel => exact ⟨k + 1, _, by have := HK.out; omega, by go_num, Lib.hid (HF.out.sub (fun r hr => by simp at hr))⟩
            case measure => have := HK.out; simp [intOf]; omega
          | false =>
            have QV : Hid (∀ W, Calls Try.prog 23 #[.agg #[.int .i64 c.v.k, .int .i64 c.v.p, .int .i64 c.v.q, .string c.v.s, .int .i64 c.v.r]] W fun e w' => e = .returned (.bool false) ∧ Below W.heap.size W w') := Lib.hid fun W => by rw [← (show okV c.v = false from hok)]; exact rvalid5 c.v.k c.v.p c.v.q c.v.s c.v.r W
            clear hok
            subst hk
            go_wp2_with (go_at_call 23; (with_reducible refine (QV.out _).mono ?_); rintro e wV ⟨rfl, hb⟩; have HF := Lib.hid (HF.out.step (Ch.of_below hb)); clear hb)
            go_roundw
            case rel => exact ⟨k + 1, _, by have := HK.out; omega, by go_num, Lib.hid (HF.out.sub (fun r hr => by simp at hr))⟩
            case measure => have := HK.out; simp [intOf]; omega
        · have hk2 : (ck == 0) = false := by rw [beq_eq_false_iff_ne]; exact hk
          go_wp2
          go_roundw
          case rel => exact ⟨k + 1, _, by have := HK.out; omega, by go_num, Lib.hid (HF.out.sub (fun r hr => by simp at hr))⟩
          case measure => have := HK.out; simp [intOf]; omega
      · have hl2 : progL lim l c = l := prog_err lim l c hE
        obtain ⟨pe, hpe⟩ : ∃ pe, pe = progE lim l c := ⟨_, rfl⟩
        obtain ⟨pn, hpn⟩ : ∃ pn, pn = progN l c := ⟨_, rfl⟩
        obtain ⟨pv, hpv⟩ : ∃ pv, pv = progV l c := ⟨_, rfl⟩
        have QP : Hid (∀ rs W, Fl 63 w t l lim rs W → Calls Try.prog 13 #[.pointer (some ⟨t, 0, none⟩), .agg #[.int .i64 c.k, .int .i64 c.n, .int .i64 c.m, .int .i64 c.v.k, .int .i64 c.v.p, .int .i64 c.v.q, .string c.v.s, .int .i64 c.v.r]] W fun e w' => e = .returned (.tuple #[.int .i64 pn, .agg #[.int .i64 pv.k, .int .i64 pv.p, .int .i64 pv.q, .string pv.s, .int .i64 pv.r], .int .i64 pe]) ∧ Fl 63 w t l lim rs w') := Lib.hid fun rs W h => by
          have := fprog h c
          rw [hl2, ← hpe, ← hpn, ← hpv] at this
          exact this
        have HPE : Hid (pe = progE lim l c) := Lib.hid (by first | exact hpe | exact hE.symm)
        have he1 : ¬ pe = 0 := by rw [hpe]; exact hE
        have he2 : (pe != 0) = true := by rw [bne_iff_ne]; exact he1
        clear hl2 hpe hpn hpv hE
        go_upto_region 12 with (first | (go_at_call 18; (with_reducible refine (QL.out _ _ _ HF.out).mono ?_); rintro e wL ⟨pL, cL, rfl, hf, hlo, hc⟩; have HF := Lib.hid hf; clear hf hlo hc) | (go_at_call 27; (with_reducible refine (QR.out _ _ HF.out).mono ?_); rintro e wR ⟨rfl, hf⟩; have HF := Lib.hid hf; have hmr := (HCL.out wR HF.out.ch).1; have hgr := (HCL.out wR HF.out.ch).2; have r0 : wR.cell? ⟨g1, o1 + k * 8, none⟩ = some (.int .i64 c.k) := hmr 0 (by omega); have r1 : wR.cell? ⟨g1, o1 + k * 8 + 1, none⟩ = some (.int .i64 c.n) := hmr 1 (by omega); have r2 : wR.cell? ⟨g1, o1 + k * 8 + 2, none⟩ = some (.int .i64 c.m) := hmr 2 (by omega); have r3 : wR.cell? ⟨g1, o1 + k * 8 + 3, none⟩ = some (.int .i64 c.v.k) := hmr 3 (by omega); have r4 : wR.cell? ⟨g1, o1 + k * 8 + 4, none⟩ = some (.int .i64 c.v.p) := hmr 4 (by omega); have r5 : wR.cell? ⟨g1, o1 + k * 8 + 5, none⟩ = some (.int .i64 c.v.q) := hmr 5 (by omega); have r6 : wR.cell? ⟨g1, o1 + k * 8 + 6, none⟩ = some (.string c.v.s) := hmr 6 (by omega); have r7 : wR.cell? ⟨g1, o1 + k * 8 + 7, none⟩ = some (.int .i64 c.v.r) := hmr 7 (by omega); clear hf hmr) | (go_at_call 13; (with_reducible refine (QP.out _ _ HF.out).mono ?_); rintro e wP ⟨rfl, hf⟩; have HF := Lib.hid (hf.step ((Ch.refl [] wP).alloc (.cells #[.int .i64 pv.k, .int .i64 pv.p, .int .i64 pv.q, .string pv.s, .int .i64 pv.r] 35))); clear hf r0 r1 r2 r3 r4 r5 r6 r7 hgr))
        have htl : Hid (l.length ≤ lim ∧ lim ≤ 1000) := Lib.hid HF.out.len
        have ht1 : ¬ (lim : Int) < (l.length : Int) := by have := htl.out.1; omega
        go_upto_region 14 with (first | (go_at_call 18; (with_reducible refine (QL.out _ _ _ HF.out).mono ?_); rintro e wL ⟨pL, cL, rfl, hf, hlo, hc⟩; have HF := Lib.hid hf; clear hf hlo hc) | (go_at_call 17; (with_reducible refine (QS.out _ _ l _ _ _ HF.out (by simp) (by simp) (by have := htl.out; omega)).mono ?_); rintro e wS ⟨rfl, hf⟩; have HF := Lib.hid hf; clear hf) | (go_at_call 15; (with_reducible refine (QT.out _ _ _ HF.out).mono ?_); rintro e wT ⟨rfl, hf⟩; have HF := Lib.hid hf; clear hf))
        have hm := (HCL.out _ HF.out.ch).1
        have hgm := (HCL.out _ HF.out.ch).2
        have q0 : wL.cell? ⟨g1, o1 + k * 8, none⟩ = some (.int .i64 c.k) := hm 0 (by omega)
        have q1 : wL.cell? ⟨g1, o1 + k * 8 + 1, none⟩ = some (.int .i64 c.n) := hm 1 (by omega)
        have q2 : wL.cell? ⟨g1, o1 + k * 8 + 2, none⟩ = some (.int .i64 c.m) := hm 2 (by omega)
        have q3 : wL.cell? ⟨g1, o1 + k * 8 + 3, none⟩ = some (.int .i64 c.v.k) := hm 3 (by omega)
        have q4 : wL.cell? ⟨g1, o1 + k * 8 + 4, none⟩ = some (.int .i64 c.v.p) := hm 4 (by omega)
        have q5 : wL.cell? ⟨g1, o1 + k * 8 + 5, none⟩ = some (.int .i64 c.v.q) := hm 5 (by omega)
        have q6 : wL.cell? ⟨g1, o1 + k * 8 + 6, none⟩ = some (.string c.v.s) := hm 6 (by omega)
        have q7 : wL.cell? ⟨g1, o1 + k * 8 + 7, none⟩ = some (.int .i64 c.v.r) := hm 7 (by omega)
        clear hm
        obtain ⟨ck, hck⟩ : ∃ ck, ck = c.k := ⟨_, rfl⟩
        have HCK := Lib.hid hck
        rw [← hck] at q0
        clear hck
        by_cases hk : ck = 0
        · cases hok : okV c.v with
          | true =>
            have QV : Hid (∀ W, Calls Try.prog 23 #[.agg #[.int .i64 c.v.k, .int .i64 c.v.p, .int .i64 c.v.q, .string c.v.s, .int .i64 c.v.r]] W fun e w' => e = .returned (.bool true) ∧ Below W.heap.size W w') := Lib.hid fun W => by rw [← (show okV c.v = true from hok)]; exact rvalid5 c.v.k c.v.p c.v.q c.v.s c.v.r W
            have hrm : pe = rm := by
              rw [HPE.out, HRM.out]
              unfold progE
              rw [if_pos (show c.k = 0 by rw [← HCK.out]; exact hk)]
              exact push_room lim l c.v hok HLL.out
            have HRE : Hid (pe = rm) := Lib.hid hrm
            have hr2 : (pe != rm) = false := by rw [hrm]; simp
            clear hok hrm
            subst hk
            go_wp2_with (go_at_call 23; (with_reducible refine (QV.out _).mono ?_); rintro e wV ⟨rfl, hb⟩; have HF := Lib.hid (HF.out.step (Ch.of_below hb)); clear hb)
            go_roundw
            case rel => exact ⟨k + 1, _, by have := HK.out; omega, by go_num, Lib.hid (HF.out.sub (fun r hr => by simp at hr))⟩
            case measure => have := HK.out; simp [intOf]; omega
          | false =>
            have QV : Hid (∀ W, Calls Try.prog 23 #[.agg #[.int .i64 c.v.k, .int .i64 c.v.p, .int .i64 c.v.q, .string c.v.s, .int .i64 c.v.r]] W fun e w' => e = .returned (.bool false) ∧ Below W.heap.size W w') := Lib.hid fun W => by rw [← (show okV c.v = false from hok)]; exact rvalid5 c.v.k c.v.p c.v.q c.v.s c.v.r W
            clear hok
            subst hk
            go_wp2_with (go_at_call 23; (with_reducible refine (QV.out _).mono ?_); rintro e wV ⟨rfl, hb⟩; have HF := Lib.hid (HF.out.step (Ch.of_below hb)); clear hb)
            go_roundw
            case rel => exact ⟨k + 1, _, by have := HK.out; omega, by go_num, Lib.hid (HF.out.sub (fun r hr => by simp at hr))⟩
            case measure => have := HK.out; simp [intOf]; omega
        · have hk2 : (ck == 0) = false := by rw [beq_eq_false_iff_ne]; exact hk
          go_wp2
          go_roundw
          case rel => exact ⟨k + 1, _, by have := HK.out; omega, by go_num, Lib.hid (HF.out.sub (fun r hr => by simp at hr))⟩
          case measure => have := HK.out; simp [intOf]; omega
    · have hi1 : ¬ (k : Int) < (l0.length : Int) := by omega
      go_wp2_with (go_at_call 10; (with_reducible refine (QA.out _).mono ?_); rintro e w3 ⟨rfl, hs⟩; have HC3 : Hid (Ch [] w w3) := Lib.hid (HF.out.ch.trans hs); clear hs)
      go_ret
      exact ⟨rfl, HC3.out.below⟩
theorem walkB (n : Int) (wn : (Lit.int .i64 n).wf = true) (p0 : Option Addr) (c0 : Nat) (l0 : List Cl) (w : World) (hl : l0.length ≤ maxLen)
    (hp : 0 < l0.length → ∃ g o, p0 = some ⟨g, o, none⟩ ∧ g < w.heap.size ∧ ∀ (j m : Nat) (hj : j < l0.length), m < 8 → w.cell? ⟨g, o + j * 8 + m, none⟩ = (clC l0[j])[m]?) :
    Calls Try.prog 6 #[.int .i64 n, .slice p0 l0.length c0] w fun e w' => e = .returned (.bool true) ∧ Below w.heap.size w w' := by
  by_cases hn : n < 1 ∨ 1000 < n
  · exact walk_bad n p0 c0 l0 w hn hl ⟨p0, c0, rfl, hp⟩
  · obtain ⟨lim, rfl⟩ : ∃ lim : Nat, n = (lim : Int) := ⟨n.toNat, by omega⟩
    exact walk_ok lim (by omega) (by omega) p0 c0 l0 w hl ⟨p0, c0, rfl, hp⟩
end Go.Proofs.Ytibggoikjlnnkaa
