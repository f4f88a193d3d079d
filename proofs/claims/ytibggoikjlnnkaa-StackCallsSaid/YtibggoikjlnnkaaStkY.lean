/- Layer 17: two stacks beside each other; the walk of StackCalls. -/
import Derived.Test.YtibggoikjlnnkaaStkX
import Derived.Test.YtibggoikjlnnkaaStkT
import Derived.Test.YtibggoikjlnnkaaStkR
namespace Go.Proofs.Ytibggoikjlnnkaa
open Go.RowKit Go.Joins M1
set_option linter.unusedVariables false
/-- The code's stack, the reference's, and rows beside them. -/
def Tw (w : World) (t1 t2 : Nat) (l1 l2 : List V5) (lim : Nat) (rs : List (Value × List V5)) (W : World) : Prop :=
  ∃ va1 va2, Sk 63 w.heap.size t1 va1 l1 lim W ∧ Sk 65 w.heap.size t2 va2 l2 lim W ∧ (∀ g ∈ skS t1 va1, g ∉ skS t2 va2) ∧ (∀ r ∈ rs, W.ownsRow w.heap.size 35 5 r.1 r.2.length (r.2.flatMap vC) ∧ ∀ g ∈ ob r.1, g ∉ skS t1 va1 ∧ g ∉ skS t2 va2) ∧ Ch [] w W
theorem Tw.step {w W W' : World} {t1 t2 lim : Nat} {l1 l2 : List V5} {rs : List (Value × List V5)} (h : Tw w t1 t2 l1 l2 lim rs W) (hc : Ch [] W W') : Tw w t1 t2 l1 l2 lim rs W' := by
  obtain ⟨va1, va2, h1, h2, h3, h4, h5⟩ := h
  exact ⟨va1, va2, h1.ch0 hc, h2.ch0 hc, h3, fun r hr => ⟨hc.ownB (h4 r hr).1 (fun g _ => not_nil g), (h4 r hr).2⟩, h5.trans hc⟩
theorem Tw.sub {w W : World} {t1 t2 lim : Nat} {l1 l2 : List V5} {rs rs' : List (Value × List V5)} (h : Tw w t1 t2 l1 l2 lim rs W) (hs : ∀ r ∈ rs', r ∈ rs) : Tw w t1 t2 l1 l2 lim rs' W := by
  obtain ⟨va1, va2, h1, h2, h3, h4, h5⟩ := h
  exact ⟨va1, va2, h1, h2, h3, fun r hr => h4 r (hs r hr), h5⟩
theorem Tw.ch {w W : World} {t1 t2 lim : Nat} {l1 l2 : List V5} {rs : List (Value × List V5)} (h : Tw w t1 t2 l1 l2 lim rs W) : Ch [] w W := by
  obtain ⟨va1, va2, h1, h2, h3, h4, h5⟩ := h; exact h5
theorem Tw.len {w W : World} {t1 t2 lim : Nat} {l1 l2 : List V5} {rs : List (Value × List V5)} (h : Tw w t1 t2 l1 l2 lim rs W) : l1.length ≤ 1000 ∧ l2.length ≤ 1000 := by
  obtain ⟨va1, va2, h1, h2, h3, h4, h5⟩ := h; exact ⟨Nat.le_trans h1.le h1.top, Nat.le_trans h2.le h2.top⟩
theorem Tw.vals {w W : World} {t1 t2 lim : Nat} {l1 l2 : List V5} {rs : List (Value × List V5)} (h : Tw w t1 t2 l1 l2 lim rs W) {r : Value × List V5} (hr : r ∈ rs) : ValsA W r.1 r.2 := by
  obtain ⟨va1, va2, h1, h2, h3, h4, h5⟩ := h; exact ValsA.of_row (h4 r hr).1
theorem Tw.said1 {w W W' : World} {t1 t2 lim : Nat} {va1 va2 : Value} {l1 l2 l' : List V5} {rs : List (Value × List V5)} (h1 : Sk 63 w.heap.size t1 va1 l1 lim W) (h2 : Sk 65 w.heap.size t2 va2 l2 lim W) (h3 : ∀ g ∈ skS t1 va1, g ∉ skS t2 va2) (h4 : ∀ r ∈ rs, W.ownsRow w.heap.size 35 5 r.1 r.2.length (r.2.flatMap vC) ∧ ∀ g ∈ ob r.1, g ∉ skS t1 va1 ∧ g ∉ skS t2 va2) (h5 : Ch [] w W) (h : SkSaid 63 w.heap.size t1 va1 l' lim W W') : Tw w t1 t2 l' l2 lim rs W' := by
  obtain ⟨⟨va', k1, k2⟩, k3⟩ := h
  refine ⟨va', va2, k1, h2.ch k3 (fun g hg hm => h3 g hm hg), fun g hg hm => ?_, fun r hr => ⟨k3.ownB (h4 r hr).1 (fun g hg => ((h4 r hr).2 g hg).1), fun g hg => ⟨fun hm => ?_, ((h4 r hr).2 g hg).2⟩⟩, h5.fresh (fun g hg => (h1.lt g hg).1) k3⟩
  · rcases k2 g hg with q | q
    · exact h3 g q hm
    · have := (h2.lt g hm).2; omega
  · rcases k2 g hm with q | q
    · exact ((h4 r hr).2 g hg).1 q
    · have := (own_lo (h4 r hr).1 hg).2; omega
theorem Tw.said2 {w W W' : World} {t1 t2 lim : Nat} {va1 va2 : Value} {l1 l2 l' : List V5} {rs : List (Value × List V5)} (h1 : Sk 63 w.heap.size t1 va1 l1 lim W) (h2 : Sk 65 w.heap.size t2 va2 l2 lim W) (h3 : ∀ g ∈ skS t1 va1, g ∉ skS t2 va2) (h4 : ∀ r ∈ rs, W.ownsRow w.heap.size 35 5 r.1 r.2.length (r.2.flatMap vC) ∧ ∀ g ∈ ob r.1, g ∉ skS t1 va1 ∧ g ∉ skS t2 va2) (h5 : Ch [] w W) (h : SkSaid 65 w.heap.size t2 va2 l' lim W W') : Tw w t1 t2 l1 l' lim rs W' := by
  obtain ⟨⟨va', k1, k2⟩, k3⟩ := h
  refine ⟨va1, va', h1.ch k3 (fun g hg hm => h3 g hg hm), k1, fun g hg hm => ?_, fun r hr => ⟨k3.ownB (h4 r hr).1 (fun g hg => ((h4 r hr).2 g hg).2), fun g hg => ⟨((h4 r hr).2 g hg).1, fun hm => ?_⟩⟩, h5.fresh (fun g hg => (h2.lt g hg).1) k3⟩
  · rcases k2 g hm with q | q
    · exact h3 g hg q
    · have := (h1.lt g hg).2; omega
  · rcases k2 g hm with q | q
    · exact ((h4 r hr).2 g hg).2 q
    · have := (own_lo (h4 r hr).1 hg).2; omega
theorem Tw.add {w W W' : World} {t1 t2 lim : Nat} {l1 l2 : List V5} {rs : List (Value × List V5)} (h : Tw w t1 t2 l1 l2 lim rs W) (hc : Ch [] W W') (v : Value) (L : List V5) (ho : W'.ownsRow W.heap.size 35 5 v L.length (L.flatMap vC)) : Tw w t1 t2 l1 l2 lim ((v, L) :: rs) W' := by
  obtain ⟨va1, va2, h1, h2, h3, h4, h5⟩ := h
  refine ⟨va1, va2, h1.ch0 hc, h2.ch0 hc, h3, fun r hr => ?_, h5.trans hc⟩
  simp only [List.mem_cons] at hr
  rcases hr with rfl | hr
  · refine ⟨⟨ho.1, ?_⟩, fun g hg => ?_⟩
    · rcases ho.2 with q | ⟨g, cap, cur, e, q1, q2⟩
      · exact .inl q
      · exact .inr ⟨g, cap, cur, e, Nat.le_trans h5.size q1, q2⟩
    · have q1 := (own_lo ho hg).1
      exact ⟨fun hm => by have := (h1.lt g hm).2; omega, fun hm => by have := (h2.lt g hm).2; omega⟩
  · exact ⟨hc.ownB (h4 r hr).1 (fun g _ => not_nil g), (h4 r hr).2⟩
theorem Tw.box {w W : World} {t1 t2 lim : Nat} {l1 l2 : List V5} {rs : List (Value × List V5)} (h : Tw w t1 t2 l1 l2 lim rs W) (x : V5) : Tw w t1 t2 l1 l2 lim ((.slice (some ⟨W.heap.size, 0, none⟩) 1 1, [x]) :: rs) (W.alloc (.cells #[.int .i64 x.k, .int .i64 x.p, .int .i64 x.q, .string x.s, .int .i64 x.r] 35)) :=
  h.add ((Ch.refl [] W).alloc _) _ [x] (World.ownsRow_lit (w := W) #[.int .i64 x.k, .int .i64 x.p, .int .i64 x.q, .string x.s, .int .i64 x.r] 1 (e := 35) (size := 5) (Nat.le_refl _) (by decide) rfl)
theorem Tw.cellr {w W : World} {t1 t2 lim : Nat} {l1 l2 : List V5} {rs : List (Value × List V5)} (h : Tw w t1 t2 l1 l2 lim rs W) {g : Nat} (x : V5) (hr : (.slice (some ⟨g, 0, none⟩) 1 1, [x]) ∈ rs) : (∀ q, q < 5 → W.cell? ⟨g, q, none⟩ = (vC x)[q]?) ∧ g < W.heap.size := by
  obtain ⟨va1, va2, h1, h2, h3, h4, h5⟩ := h
  have := (h4 _ hr).1
  refine ⟨fun q hq => ?_, (own_lo this (mem_ob.2 rfl)).2⟩
  have h9 := this.cellAt q (by simp; omega)
  rw [h9]
  simp
theorem tprog1 {w W : World} {t1 t2 lim : Nat} {l l2 : List V5} {rs : List (Value × List V5)} (h : Tw w t1 t2 l l2 lim rs W) (c : Cl) :
    Calls Try.prog 13 #[.pointer (some ⟨t1, 0, none⟩), .agg #[.int .i64 c.k, .int .i64 c.n, .int .i64 c.m, .int .i64 c.v.k, .int .i64 c.v.p, .int .i64 c.v.q, .string c.v.s, .int .i64 c.v.r]] W fun e w' => e = .returned (.tuple #[.int .i64 (progN l c), .agg #[.int .i64 (progV l c).k, .int .i64 (progV l c).p, .int .i64 (progV l c).q, .string (progV l c).s, .int .i64 (progV l c).r], .int .i64 (progE lim l c)]) ∧ Tw w t1 t2 (progL lim l c) l2 lim rs w' := by
  obtain ⟨va1, va2, h1, h2, h3, h4, h5⟩ := h
  refine (prog_all _ t1 va1 l lim W h1 h5.size c).mono ?_
  rintro e w' ⟨rfl, hs⟩
  exact ⟨rfl, Tw.said1 h1 h2 h3 h4 h5 hs⟩
theorem tprog2 {w W : World} {t1 t2 lim : Nat} {l1 l : List V5} {rs : List (Value × List V5)} (h : Tw w t1 t2 l1 l lim rs W) (c : Cl) :
    Calls Try.prog 14 #[.pointer (some ⟨t2, 0, none⟩), .agg #[.int .i64 c.k, .int .i64 c.n, .int .i64 c.m, .int .i64 c.v.k, .int .i64 c.v.p, .int .i64 c.v.q, .string c.v.s, .int .i64 c.v.r]] W fun e w' => e = .returned (.tuple #[.int .i64 (progN l c), .agg #[.int .i64 (progV l c).k, .int .i64 (progV l c).p, .int .i64 (progV l c).q, .string (progV l c).s, .int .i64 (progV l c).r], .int .i64 (progE lim l c)]) ∧ Tw w t1 t2 l1 (progL lim l c) lim rs w' := by
  obtain ⟨va1, va2, h1, h2, h3, h4, h5⟩ := h
  refine (rprog_all _ t2 va2 l lim W h2 h5.size c).mono ?_
  rintro e w' ⟨rfl, hs⟩
  exact ⟨rfl, Tw.said2 h1 h2 h3 h4 h5 hs⟩
theorem ttop1 {w W : World} {t1 t2 lim : Nat} {l1 l2 : List V5} {rs : List (Value × List V5)} (h : Tw w t1 t2 l1 l2 lim rs W) :
    Calls Try.prog 15 #[.pointer (some ⟨t1, 0, none⟩)] W fun e w' => e = .returned (.int .i64 (l1.length : Int)) ∧ Tw w t1 t2 l1 l2 lim rs w' := by
  have h0 := h
  obtain ⟨va1, va2, h1, h2, h3, h4, h5⟩ := h
  refine (top_any _ t1 va1 l1 lim W h1).mono ?_
  rintro e w' ⟨rfl, rfl⟩
  exact ⟨rfl, h0⟩
theorem tlist1 {w W : World} {t1 t2 lim : Nat} {l1 l2 : List V5} {rs : List (Value × List V5)} (h : Tw w t1 t2 l1 l2 lim rs W) :
    Calls Try.prog 18 #[.pointer (some ⟨t1, 0, none⟩)] W fun e w' => ∃ p c, e = .returned (.slice p l1.length c) ∧ Tw w t1 t2 l1 l2 lim ((.slice p l1.length c, l1) :: rs) w' := by
  have h0 := h
  obtain ⟨va1, va2, h1, h2, h3, h4, h5⟩ := h
  refine (list_any _ t1 va1 l1 lim W h1).mono ?_
  rintro e w' ⟨⟨v', rfl, ho⟩, hs⟩
  obtain ⟨p, c, rfl⟩ := ownB_form ho
  exact ⟨p, c, rfl, h0.add (Ch.of_below hs) _ _ ho⟩
theorem ttop2 {w W : World} {t1 t2 lim : Nat} {l1 l2 : List V5} {rs : List (Value × List V5)} (h : Tw w t1 t2 l1 l2 lim rs W) :
    Calls Try.prog 16 #[.pointer (some ⟨t2, 0, none⟩)] W fun e w' => e = .returned (.int .i64 (l2.length : Int)) ∧ Tw w t1 t2 l1 l2 lim rs w' := by
  have h0 := h
  obtain ⟨va1, va2, h1, h2, h3, h4, h5⟩ := h
  refine (rtop_any _ t2 va2 l2 lim W h2).mono ?_
  rintro e w' ⟨rfl, rfl⟩
  exact ⟨rfl, h0⟩
theorem tlist2 {w W : World} {t1 t2 lim : Nat} {l1 l2 : List V5} {rs : List (Value × List V5)} (h : Tw w t1 t2 l1 l2 lim rs W) :
    Calls Try.prog 19 #[.pointer (some ⟨t2, 0, none⟩)] W fun e w' => ∃ p c, e = .returned (.slice p l2.length c) ∧ Tw w t1 t2 l1 l2 lim ((.slice p l2.length c, l2) :: rs) w' := by
  have h0 := h
  obtain ⟨va1, va2, h1, h2, h3, h4, h5⟩ := h
  refine (rlist_any _ t2 va2 l2 lim W h2).mono ?_
  rintro e w' ⟨⟨v', rfl, ho⟩, hs⟩
  obtain ⟨p, c, rfl⟩ := ownB_form ho
  exact ⟨p, c, rfl, h0.add (Ch.of_below hs) _ _ ho⟩
set_option maxHeartbeats 16000000 in
theorem walkC_ok (lim : Nat) (h1 : 1 ≤ lim) (h2 : lim ≤ 1000) (p0 : Option Addr) (c0 : Nat) (l0 : List Cl) (w : World) (hl : l0.length ≤ maxLen) (h : Cls w (.slice p0 l0.length c0) l0) :
    Calls Try.prog 3 #[.int .i64 (lim : Int), .slice p0 l0.length c0] w fun e w' => e = .returned (.bool true) ∧ Below w.heap.size w w' := by
  have QG := Lib.hid (long_any p0 c0 l0 w hl h)
  have QN1 : Hid (∀ W, Ch [] w W → Calls Try.prog 11 #[.int .i64 (lim : Int)] W fun e w' => e = .returned (.tuple #[.pointer (some ⟨W.heap.size, 0, none⟩), .int .i64 0]) ∧ Sk 63 w.heap.size W.heap.size (.slice none 0 0) [] lim w' ∧ Below W.heap.size W w') := Lib.hid fun W hc => sknew_ok w.heap.size lim W hc.size h1 h2
  have QN2 : Hid (∀ W, Ch [] w W → Calls Try.prog 12 #[.int .i64 (lim : Int)] W fun e w' => e = .returned (.tuple #[.pointer (some ⟨W.heap.size, 0, none⟩), .int .i64 0]) ∧ Sk 65 w.heap.size W.heap.size (.slice none 0 0) [] lim w' ∧ Below W.heap.size W w') := Lib.hid fun W hc => rsknew_ok w.heap.size lim W hc.size h1 h2
  have QA := Lib.hid fun W => awake_any W
  obtain ⟨p', c', e, hp⟩ := h.form
  injection e with e1 e2 e3
  subst e1 e3
  have HP := Lib.hid hp
  have hl2 : l0.length ≤ 9223372036854775807 := hl
  clear h hp hl h1 h2
  go_enter Try.func3, Try.ntmps3
  go_wp2_with (first | (go_at_call 9; (with_reducible refine (QG.out).mono ?_); rintro e w2 ⟨⟨b, rfl⟩, hc⟩; have HC2 := Lib.hid hc; clear hc; cases b) | (go_at_call 10; (with_reducible refine (QA.out _).mono ?_); rintro e w3 ⟨rfl, hs⟩; have HC3 : Hid (Ch [] w w3) := Lib.hid (HC2.out.trans hs); clear hs) | (go_at_call 11; (with_reducible refine (QN1.out _ HC2.out).mono ?_); rintro e w4 ⟨rfl, hs, hb⟩; have HS4 := Lib.hid hs; have HB4 := Lib.hid hb; have HC4 : Hid (Ch [] w w4) := Lib.hid (HC2.out.trans (Ch.of_below hb)); clear hs hb) | (go_at_call 12; (with_reducible refine (QN2.out _ HC4.out).mono ?_); rintro e w5 ⟨rfl, hs, hb⟩; have HS5 := Lib.hid hs; have HB5 := Lib.hid hb; have HC5 : Hid (Ch [] w w5) := Lib.hid (HC4.out.trans (Ch.of_below hb)); clear hs hb))
  rotate_left
  · go_ret
    exact ⟨rfl, HC3.out.below⟩
  obtain ⟨t1, ht1⟩ : ∃ t1, t1 = w2.heap.size := ⟨_, rfl⟩
  obtain ⟨t2, ht2⟩ : ∃ t2, t2 = w4.heap.size := ⟨_, rfl⟩
  have HF0 : Hid (Tw w t1 t2 [] [] lim [] w5) := Lib.hid (by
    rw [ht1, ht2]
    have hlt := HS4.out.blk.lt
    refine ⟨_, _, HS4.out.below HB5.out, HS5.out, fun g hg hm => ?_, fun r hr => (by simp at hr), HC5.out⟩
    simp [skS, Go.Proofs.Ytibggoikjlnnkaa.ob, Value.ownBlock] at hg hm
    omega)
  rw [← ht1, ← ht2]
  clear ht1 ht2 HS4 HS5 HB4 HB5
  go_loopw [41] (fun v41 wr => ∃ (k : Nat) (l : List V5), k ≤ l0.length ∧ v41 = .int .i64 (k : Int) ∧ Hid (Tw w t1 t2 l l lim [] wr)) (fun v41 _ => l0.length - (intOf v41).toNat)
  case atStart => exact ⟨0, [], Nat.zero_le _, rfl, HF0⟩
  case round =>
    obtain ⟨k, l, hk, rfl, HF⟩ := hrel
    rename World => wr
    by_cases hlt : k < l0.length
    · have HK := Lib.hid hlt
      have hi1 : (k : Int) < (l0.length : Int) := by omega
      have hi0 : (0 : Int) ≤ (k : Int) := by omega
      obtain ⟨g1, o1, rfl, hg1, k1⟩ := HP.out (by omega)
      obtain ⟨c, hc⟩ : ∃ c, c = l0[k] := ⟨_, rfl⟩
      have HCL : Hid (∀ W, Ch [] w W → (∀ j, j < 8 → W.cell? ⟨g1, o1 + k * 8 + j, none⟩ = (clC c)[j]?) ∧ g1 < W.heap.size) := Lib.hid fun W hW => ⟨fun j hj => (hW.below.cell (p := ⟨g1, _, none⟩) hg1).trans (by rw [hc]; exact k1 k j hlt hj), Nat.lt_of_lt_of_le hg1 hW.size⟩
      obtain ⟨l', hl'⟩ : ∃ l', l' = progL lim l c := ⟨_, rfl⟩
      obtain ⟨pe, hpe⟩ : ∃ pe, pe = progE lim l c := ⟨_, rfl⟩
      obtain ⟨pn, hpn⟩ : ∃ pn, pn = progN l c := ⟨_, rfl⟩
      obtain ⟨pv, hpv⟩ : ∃ pv, pv = progV l c := ⟨_, rfl⟩
      have QP : Hid (∀ l2 rs W, Tw w t1 t2 l l2 lim rs W → Calls Try.prog 13 #[.pointer (some ⟨t1, 0, none⟩), .agg #[.int .i64 c.k, .int .i64 c.n, .int .i64 c.m, .int .i64 c.v.k, .int .i64 c.v.p, .int .i64 c.v.q, .string c.v.s, .int .i64 c.v.r]] W fun e w' => e = .returned (.tuple #[.int .i64 pn, .agg #[.int .i64 pv.k, .int .i64 pv.p, .int .i64 pv.q, .string pv.s, .int .i64 pv.r], .int .i64 pe]) ∧ Tw w t1 t2 l' l2 lim rs w') := Lib.hid fun l2 rs W h => by
        have := tprog1 h c
        rw [← hl', ← hpe, ← hpn, ← hpv] at this
        exact this
      have QD : Hid (∀ l1 rs W, Tw w t1 t2 l1 l lim rs W → Calls Try.prog 14 #[.pointer (some ⟨t2, 0, none⟩), .agg #[.int .i64 c.k, .int .i64 c.n, .int .i64 c.m, .int .i64 c.v.k, .int .i64 c.v.p, .int .i64 c.v.q, .string c.v.s, .int .i64 c.v.r]] W fun e w' => e = .returned (.tuple #[.int .i64 pn, .agg #[.int .i64 pv.k, .int .i64 pv.p, .int .i64 pv.q, .string pv.s, .int .i64 pv.r], .int .i64 pe]) ∧ Tw w t1 t2 l1 l' lim rs w') := Lib.hid fun l1 rs W h => by
        have := tprog2 h c
        rw [← hl', ← hpe, ← hpn, ← hpv] at this
        exact this
      have QT1 : Hid (∀ rs W, Tw w t1 t2 l' l' lim rs W → Calls Try.prog 15 #[.pointer (some ⟨t1, 0, none⟩)] W fun e w' => e = .returned (.int .i64 (l'.length : Int)) ∧ Tw w t1 t2 l' l' lim rs w') := Lib.hid fun rs W h => ttop1 h
      have QT2 : Hid (∀ rs W, Tw w t1 t2 l' l' lim rs W → Calls Try.prog 16 #[.pointer (some ⟨t2, 0, none⟩)] W fun e w' => e = .returned (.int .i64 (l'.length : Int)) ∧ Tw w t1 t2 l' l' lim rs w') := Lib.hid fun rs W h => ttop2 h
      have QL1 : Hid (∀ rs W, Tw w t1 t2 l' l' lim rs W → Calls Try.prog 18 #[.pointer (some ⟨t1, 0, none⟩)] W fun e w' => ∃ p c, e = .returned (.slice p l'.length c) ∧ Tw w t1 t2 l' l' lim ((.slice p l'.length c, l') :: rs) w') := Lib.hid fun rs W h => tlist1 h
      have QL2 : Hid (∀ rs W, Tw w t1 t2 l' l' lim rs W → Calls Try.prog 19 #[.pointer (some ⟨t2, 0, none⟩)] W fun e w' => ∃ p c, e = .returned (.slice p l'.length c) ∧ Tw w t1 t2 l' l' lim ((.slice p l'.length c, l') :: rs) w') := Lib.hid fun rs W h => tlist2 h
      have QS : Hid (∀ a b rs W, Tw w t1 t2 l' l' lim rs W → (a, l') ∈ rs → (b, l') ∈ rs → Calls Try.prog 17 #[a, b] W fun e w' => e = .returned (.bool true) ∧ Tw w t1 t2 l' l' lim rs w') := Lib.hid fun a b rs W h ha hb => by
        have hle := h.len.1
        refine (same_any a b l' l' W (h.vals ha) (h.vals hb) (by omega) (by omega)).mono ?_
        rintro e w' ⟨rfl, hc⟩
        exact ⟨by simp, h.step hc⟩
      have EQ := fun W => neq_v5 pv W
      clear k1 hc hlt hl' hpe hpn hpv
      have hmr := (HCL.out wr HF.out.ch).1
      have hgr := (HCL.out wr HF.out.ch).2
      have r0 : wr.cell? ⟨g1, o1 + k * 8, none⟩ = some (.int .i64 c.k) := hmr 0 (by omega)
      have r1 : wr.cell? ⟨g1, o1 + k * 8 + 1, none⟩ = some (.int .i64 c.n) := hmr 1 (by omega)
      have r2 : wr.cell? ⟨g1, o1 + k * 8 + 2, none⟩ = some (.int .i64 c.m) := hmr 2 (by omega)
      have r3 : wr.cell? ⟨g1, o1 + k * 8 + 3, none⟩ = some (.int .i64 c.v.k) := hmr 3 (by omega)
      have r4 : wr.cell? ⟨g1, o1 + k * 8 + 4, none⟩ = some (.int .i64 c.v.p) := hmr 4 (by omega)
      have r5 : wr.cell? ⟨g1, o1 + k * 8 + 5, none⟩ = some (.int .i64 c.v.q) := hmr 5 (by omega)
      have r6 : wr.cell? ⟨g1, o1 + k * 8 + 6, none⟩ = some (.string c.v.s) := hmr 6 (by omega)
      have r7 : wr.cell? ⟨g1, o1 + k * 8 + 7, none⟩ = some (.int .i64 c.v.r) := hmr 7 (by omega)
      clear hmr
      go_upto_region 11 with (go_at_call 13; (with_reducible refine (QP.out _ _ _ HF.out).mono ?_); rintro e w6 ⟨rfl, hf⟩; have HF6 := Lib.hid (hf.box pv); clear hf)
      clear r0 r1 r2 r3 r4 r5 r6 r7 hgr
      obtain ⟨b1, hb1⟩ : ∃ b1, b1 = w6.heap.size := ⟨_, rfl⟩
      rw [← hb1] at HF6 ⊢
      have HB1 := Lib.hid hb1
      clear hb1
      generalize (w6.alloc (.cells #[.int .i64 pv.k, .int .i64 pv.p, .int .i64 pv.q, .string pv.s, .int .i64 pv.r] 35)) = w7 at *
      have hmr := (HCL.out w7 HF6.out.ch).1
      have hgr := (HCL.out w7 HF6.out.ch).2
      have r0 : w7.cell? ⟨g1, o1 + k * 8, none⟩ = some (.int .i64 c.k) := hmr 0 (by omega)
      have r1 : w7.cell? ⟨g1, o1 + k * 8 + 1, none⟩ = some (.int .i64 c.n) := hmr 1 (by omega)
      have r2 : w7.cell? ⟨g1, o1 + k * 8 + 2, none⟩ = some (.int .i64 c.m) := hmr 2 (by omega)
      have r3 : w7.cell? ⟨g1, o1 + k * 8 + 3, none⟩ = some (.int .i64 c.v.k) := hmr 3 (by omega)
      have r4 : w7.cell? ⟨g1, o1 + k * 8 + 4, none⟩ = some (.int .i64 c.v.p) := hmr 4 (by omega)
      have r5 : w7.cell? ⟨g1, o1 + k * 8 + 5, none⟩ = some (.int .i64 c.v.q) := hmr 5 (by omega)
      have r6 : w7.cell? ⟨g1, o1 + k * 8 + 6, none⟩ = some (.string c.v.s) := hmr 6 (by omega)
      have r7 : w7.cell? ⟨g1, o1 + k * 8 + 7, none⟩ = some (.int .i64 c.v.r) := hmr 7 (by omega)
      clear hmr
      go_upto_region 12 with (go_at_call 14; (with_reducible refine (QD.out _ _ _ HF6.out).mono ?_); rintro e w8 ⟨rfl, hf⟩; have HF8 := Lib.hid (hf.box pv); clear hf)
      clear r0 r1 r2 r3 r4 r5 r6 r7 hgr
      obtain ⟨b2, hb2⟩ : ∃ b2, b2 = w8.heap.size := ⟨_, rfl⟩
      rw [← hb2] at HF8 ⊢
      have HB2 := Lib.hid hb2
      clear hb2
      generalize (w8.alloc (.cells #[.int .i64 pv.k, .int .i64 pv.p, .int .i64 pv.q, .string pv.s, .int .i64 pv.r] 35)) = w9 at *
      obtain ⟨hx1, hx2⟩ := HF8.out.cellr (g := b1) pv (by simp)
      obtain ⟨hy1, hy2⟩ := HF8.out.cellr (g := b2) pv (by simp)
      have x0 : w9.cell? ⟨b1, 0, none⟩ = some (.int .i64 pv.k) := hx1 0 (by omega)
      have x1 : w9.cell? ⟨b1, 1, none⟩ = some (.int .i64 pv.p) := hx1 1 (by omega)
      have x2 : w9.cell? ⟨b1, 2, none⟩ = some (.int .i64 pv.q) := hx1 2 (by omega)
      have x3 : w9.cell? ⟨b1, 3, none⟩ = some (.string pv.s) := hx1 3 (by omega)
      have x4 : w9.cell? ⟨b1, 4, none⟩ = some (.int .i64 pv.r) := hx1 4 (by omega)
      have y0 : w9.cell? ⟨b2, 0, none⟩ = some (.int .i64 pv.k) := hy1 0 (by omega)
      have y1 : w9.cell? ⟨b2, 1, none⟩ = some (.int .i64 pv.p) := hy1 1 (by omega)
      have y2 : w9.cell? ⟨b2, 2, none⟩ = some (.int .i64 pv.q) := hy1 2 (by omega)
      have y3 : w9.cell? ⟨b2, 3, none⟩ = some (.string pv.s) := hy1 3 (by omega)
      have y4 : w9.cell? ⟨b2, 4, none⟩ = some (.int .i64 pv.r) := hy1 4 (by omega)
      clear hx1 hy1
      go_wp2_with (first | (go_at_call 15; (with_reducible refine (QT1.out _ _ HF8.out).mono ?_); rintro e wa ⟨rfl, hf⟩; have HFA := Lib.hid hf; clear hf) | (go_at_call 16; (with_reducible refine (QT2.out _ _ HFA.out).mono ?_); rintro e wb ⟨rfl, hf⟩; have HFB := Lib.hid hf; clear hf) | (go_at_call 18; (with_reducible refine (QL1.out _ _ HFB.out).mono ?_); rintro e wc ⟨pL, cL, rfl, hf⟩; have HFC := Lib.hid hf; clear hf) | (go_at_call 19; (with_reducible refine (QL2.out _ _ HFC.out).mono ?_); rintro e wd ⟨pM, cM, rfl, hf⟩; have HFD := Lib.hid hf; clear hf) | (go_at_call 17; (with_reducible refine (QS.out _ _ _ _ HFD.out (by simp) (by simp)).mono ?_); rintro e we ⟨rfl, hf⟩; have HFE := Lib.hid hf; clear hf))
      go_roundw
      case rel => exact ⟨k + 1, l', by have := HK.out; omega, by go_num, Lib.hid (HFE.out.sub (fun r hr => by simp at hr))⟩
      case measure => have := HK.out; simp [intOf]; omega
    · have hi1 : ¬ (k : Int) < (l0.length : Int) := by omega
      go_wp2_with (go_at_call 10; (with_reducible refine (QA.out _).mono ?_); rintro e w3 ⟨rfl, hs⟩; have HC3 : Hid (Ch [] w w3) := Lib.hid (HF.out.ch.trans hs); clear hs)
      go_ret
      exact ⟨rfl, HC3.out.below⟩
set_option maxHeartbeats 16000000 in
theorem walkC_bad (n : Int) (p0 : Option Addr) (c0 : Nat) (l0 : List Cl) (w : World) (hn : n < 1 ∨ 1000 < n) (hl : l0.length ≤ maxLen) (h : Cls w (.slice p0 l0.length c0) l0) :
    Calls Try.prog 3 #[.int .i64 n, .slice p0 l0.length c0] w fun e w' => e = .returned (.bool true) ∧ Below w.heap.size w w' := by
  have QG := Lib.hid (long_any p0 c0 l0 w hl h)
  have QN1 := Lib.hid fun W => sknew_bad n W hn
  have QN2 := Lib.hid fun W => rsknew_bad n W hn
  have QA := Lib.hid fun W => awake_any W
  have QT1 := Lib.hid fun W => top_nil W
  have QT2 := Lib.hid fun W => rtop_nil W
  have QL1 := Lib.hid fun W => list_nil W
  have QL2 := Lib.hid fun W => rlist_nil W
  have QS : Hid (∀ W, Calls Try.prog 17 #[.slice none 0 0, .slice none 0 0] W fun e w' => e = .returned (.bool true) ∧ Ch [] W w') := Lib.hid fun W => (same_any (.slice none 0 0) (.slice none 0 0) [] [] W (vals_nil W 0) (vals_nil W 0) (by decide) (by decide)).mono fun e w' hh => ⟨by rw [hh.1]; rfl, hh.2⟩
  obtain ⟨p', c', e, hp⟩ := h.form
  injection e with e1 e2 e3
  subst e1 e3
  have HP := Lib.hid hp
  have hl2 : l0.length ≤ 9223372036854775807 := hl
  clear h hp hl hn
  go_enter Try.func3, Try.ntmps3
  go_wp2_with (first | (go_at_call 9; (with_reducible refine (QG.out).mono ?_); rintro e w2 ⟨⟨b, rfl⟩, hc⟩; have HC2 := Lib.hid hc; clear hc; cases b) | (go_at_call 10; (with_reducible refine (QA.out _).mono ?_); rintro e w3 ⟨rfl, hs⟩; have HC3 : Hid (Ch [] w w3) := Lib.hid (HC2.out.trans hs); clear hs) | (go_at_call 11; (with_reducible refine (QN1.out _).mono ?_); rintro e w4 ⟨rfl, rfl⟩) | (go_at_call 12; (with_reducible refine (QN2.out _).mono ?_); rintro e w5 ⟨rfl, rfl⟩))
  rotate_left
  · go_ret
    exact ⟨rfl, HC3.out.below⟩
  go_loopw [41] (fun v41 wr => ∃ (k : Nat), k ≤ l0.length ∧ v41 = .int .i64 (k : Int) ∧ Hid (Ch [] w wr)) (fun v41 _ => l0.length - (intOf v41).toNat)
  case atStart => exact ⟨0, Nat.zero_le _, rfl, HC2⟩
  case round =>
    obtain ⟨k, hk, rfl, HF⟩ := hrel
    rename World => wr
    by_cases hlt : k < l0.length
    · have HK := Lib.hid hlt
      have hi1 : (k : Int) < (l0.length : Int) := by omega
      have hi0 : (0 : Int) ≤ (k : Int) := by omega
      obtain ⟨g1, o1, rfl, hg1, k1⟩ := HP.out (by omega)
      obtain ⟨c, hc⟩ : ∃ c, c = l0[k] := ⟨_, rfl⟩
      have HCL : Hid (∀ W, Ch [] w W → (∀ j, j < 8 → W.cell? ⟨g1, o1 + k * 8 + j, none⟩ = (clC c)[j]?) ∧ g1 < W.heap.size) := Lib.hid fun W hW => ⟨fun j hj => (hW.below.cell (p := ⟨g1, _, none⟩) hg1).trans (by rw [hc]; exact k1 k j hlt hj), Nat.lt_of_lt_of_le hg1 hW.size⟩
      have QP : Hid (∀ W, Calls Try.prog 13 #[.pointer none, .agg #[.int .i64 c.k, .int .i64 c.n, .int .i64 c.m, .int .i64 c.v.k, .int .i64 c.v.p, .int .i64 c.v.q, .string c.v.s, .int .i64 c.v.r]] W fun e w' => e = .returned (.tuple #[.int .i64 0, .agg #[.int .i64 0, .int .i64 0, .int .i64 0, .string ⟨#[]⟩, .int .i64 0], .int .i64 1]) ∧ Ch [] W w') := Lib.hid fun W => cprog_nil c.k c.n c.m c.v W
      have QD : Hid (∀ W, Calls Try.prog 14 #[.pointer none, .agg #[.int .i64 c.k, .int .i64 c.n, .int .i64 c.m, .int .i64 c.v.k, .int .i64 c.v.p, .int .i64 c.v.q, .string c.v.s, .int .i64 c.v.r]] W fun e w' => e = .returned (.tuple #[.int .i64 0, .agg #[.int .i64 0, .int .i64 0, .int .i64 0, .string ⟨#[]⟩, .int .i64 0], .int .i64 1]) ∧ Ch [] W w') := Lib.hid fun W => rprog_nil c.k c.n c.m c.v W
      have EQ : ∀ W, (binOp .neq 35 (.agg #[.int .i64 0, .int .i64 0, .int .i64 0, .string ⟨#[]⟩, .int .i64 0]) (.agg #[.int .i64 0, .int .i64 0, .int .i64 0, .string ⟨#[]⟩, .int .i64 0])).run Try.prog W = .ok (.bool false) W := fun W => neq_v5 v5z W
      clear k1 hc hlt
      have hmr := (HCL.out wr HF.out).1
      have hgr := (HCL.out wr HF.out).2
      have r0 : wr.cell? ⟨g1, o1 + k * 8, none⟩ = some (.int .i64 c.k) := hmr 0 (by omega)
      have r1 : wr.cell? ⟨g1, o1 + k * 8 + 1, none⟩ = some (.int .i64 c.n) := hmr 1 (by omega)
      have r2 : wr.cell? ⟨g1, o1 + k * 8 + 2, none⟩ = some (.int .i64 c.m) := hmr 2 (by omega)
      have r3 : wr.cell? ⟨g1, o1 + k * 8 + 3, none⟩ = some (.int .i64 c.v.k) := hmr 3 (by omega)
      have r4 : wr.cell? ⟨g1, o1 + k * 8 + 4, none⟩ = some (.int .i64 c.v.p) := hmr 4 (by omega)
      have r5 : wr.cell? ⟨g1, o1 + k * 8 + 5, none⟩ = some (.int .i64 c.v.q) := hmr 5 (by omega)
      have r6 : wr.cell? ⟨g1, o1 + k * 8 + 6, none⟩ = some (.string c.v.s) := hmr 6 (by omega)
      have r7 : wr.cell? ⟨g1, o1 + k * 8 + 7, none⟩ = some (.int .i64 c.v.r) := hmr 7 (by omega)
      clear hmr
      go_upto_region 11 with (go_at_call 13; (with_reducible refine (QP.out _).mono ?_); rintro e w6 ⟨rfl, hf⟩; have HF6 : Hid (Ch [] w (w6.alloc (.cells #[.int .i64 0, .int .i64 0, .int .i64 0, .string ⟨#[]⟩, .int .i64 0] 35))) := Lib.hid ((HF.out.trans hf).alloc _); clear hf)
      clear r0 r1 r2 r3 r4 r5 r6 r7 hgr
      have HX6 : Hid (Blk 35 w6.heap.size #[.int .i64 0, .int .i64 0, .int .i64 0, .string ⟨#[]⟩, .int .i64 0] (w6.alloc (.cells #[.int .i64 0, .int .i64 0, .int .i64 0, .string ⟨#[]⟩, .int .i64 0] 35))) := Lib.hid (Blk.new _ _ _ _ rfl)
      obtain ⟨b1, hb1⟩ : ∃ b1, b1 = w6.heap.size := ⟨_, rfl⟩
      rw [← hb1] at HX6 ⊢
      have HB1 := Lib.hid hb1
      clear hb1
      generalize (w6.alloc (.cells #[.int .i64 0, .int .i64 0, .int .i64 0, .string ⟨#[]⟩, .int .i64 0] 35)) = w7 at *
      have hmr := (HCL.out w7 HF6.out).1
      have hgr := (HCL.out w7 HF6.out).2
      have r0 : w7.cell? ⟨g1, o1 + k * 8, none⟩ = some (.int .i64 c.k) := hmr 0 (by omega)
      have r1 : w7.cell? ⟨g1, o1 + k * 8 + 1, none⟩ = some (.int .i64 c.n) := hmr 1 (by omega)
      have r2 : w7.cell? ⟨g1, o1 + k * 8 + 2, none⟩ = some (.int .i64 c.m) := hmr 2 (by omega)
      have r3 : w7.cell? ⟨g1, o1 + k * 8 + 3, none⟩ = some (.int .i64 c.v.k) := hmr 3 (by omega)
      have r4 : w7.cell? ⟨g1, o1 + k * 8 + 4, none⟩ = some (.int .i64 c.v.p) := hmr 4 (by omega)
      have r5 : w7.cell? ⟨g1, o1 + k * 8 + 5, none⟩ = some (.int .i64 c.v.q) := hmr 5 (by omega)
      have r6 : w7.cell? ⟨g1, o1 + k * 8 + 6, none⟩ = some (.string c.v.s) := hmr 6 (by omega)
      have r7 : w7.cell? ⟨g1, o1 + k * 8 + 7, none⟩ = some (.int .i64 c.v.r) := hmr 7 (by omega)
      clear hmr
      go_upto_region 12 with (go_at_call 14; (with_reducible refine (QD.out _).mono ?_); rintro e w8 ⟨rfl, hf⟩; have HF8 : Hid (Ch [] w7 (w8.alloc (.cells #[.int .i64 0, .int .i64 0, .int .i64 0, .string ⟨#[]⟩, .int .i64 0] 35))) := Lib.hid (hf.alloc _); clear hf)
      clear r0 r1 r2 r3 r4 r5 r6 r7 hgr
      have HY8 : Hid (Blk 35 w8.heap.size #[.int .i64 0, .int .i64 0, .int .i64 0, .string ⟨#[]⟩, .int .i64 0] (w8.alloc (.cells #[.int .i64 0, .int .i64 0, .int .i64 0, .string ⟨#[]⟩, .int .i64 0] 35))) := Lib.hid (Blk.new _ _ _ _ rfl)
      have HX8 := Lib.hid (HX6.out.ch HF8.out (not_nil _))
      have HF9 := Lib.hid (HF6.out.trans HF8.out)
      obtain ⟨b2, hb2⟩ : ∃ b2, b2 = w8.heap.size := ⟨_, rfl⟩
      rw [← hb2] at HY8 ⊢
      have HB2 := Lib.hid hb2
      clear hb2
      generalize (w8.alloc (.cells #[.int .i64 0, .int .i64 0, .int .i64 0, .string ⟨#[]⟩, .int .i64 0] 35)) = w9 at *
      have x0 : w9.cell? ⟨b1, 0, none⟩ = some (.int .i64 0) := HX8.out.cell 0
      have x1 : w9.cell? ⟨b1, 1, none⟩ = some (.int .i64 0) := HX8.out.cell 1
      have x2 : w9.cell? ⟨b1, 2, none⟩ = some (.int .i64 0) := HX8.out.cell 2
      have x3 : w9.cell? ⟨b1, 3, none⟩ = some (.string ⟨#[]⟩) := HX8.out.cell 3
      have x4 : w9.cell? ⟨b1, 4, none⟩ = some (.int .i64 0) := HX8.out.cell 4
      have y0 : w9.cell? ⟨b2, 0, none⟩ = some (.int .i64 0) := HY8.out.cell 0
      have y1 : w9.cell? ⟨b2, 1, none⟩ = some (.int .i64 0) := HY8.out.cell 1
      have y2 : w9.cell? ⟨b2, 2, none⟩ = some (.int .i64 0) := HY8.out.cell 2
      have y3 : w9.cell? ⟨b2, 3, none⟩ = some (.string ⟨#[]⟩) := HY8.out.cell 3
      have y4 : w9.cell? ⟨b2, 4, none⟩ = some (.int .i64 0) := HY8.out.cell 4
      have hx2 := HX8.out.lt
      have hy2 := HY8.out.lt
      go_wp2_with (first | (go_at_call 15; (with_reducible refine (QT1.out _).mono ?_); rintro e wa ⟨rfl, rfl⟩) | (go_at_call 16; (with_reducible refine (QT2.out _).mono ?_); rintro e wb ⟨rfl, rfl⟩) | (go_at_call 18; (with_reducible refine (QL1.out _).mono ?_); rintro e wc ⟨rfl, rfl⟩) | (go_at_call 19; (with_reducible refine (QL2.out _).mono ?_); rintro e wd ⟨rfl, rfl⟩) | (go_at_call 17; (with_reducible refine (QS.out _).mono ?_); rintro e we ⟨rfl, hf⟩; have HFE := Lib.hid (HF9.out.trans hf); clear hf))
      go_roundw
      case rel => exact ⟨k + 1, by have := HK.out; omega, by go_num, HFE⟩
      case measure => have := HK.out; simp [intOf]; omega
    · have hi1 : ¬ (k : Int) < (l0.length : Int) := by omega
      go_wp2_with (go_at_call 10; (with_reducible refine (QA.out _).mono ?_); rintro e w3 ⟨rfl, hs⟩; have HC3 : Hid (Ch [] w w3) := Lib.hid (HF.out.trans hs); clear hs)
      go_ret
      exact ⟨rfl, HC3.out.below⟩
theorem walkC (n : Int) (wn : (Lit.int .i64 n).wf = true) (p0 : Option Addr) (c0 : Nat) (l0 : List Cl) (w : World) (hl : l0.length ≤ maxLen)
    (hp : 0 < l0.length → ∃ g o, p0 = some ⟨g, o, none⟩ ∧ g < w.heap.size ∧ ∀ (j m : Nat) (hj : j < l0.length), m < 8 → w.cell? ⟨g, o + j * 8 + m, none⟩ = (clC l0[j])[m]?) :
    Calls Try.prog 3 #[.int .i64 n, .slice p0 l0.length c0] w fun e w' => e = .returned (.bool true) ∧ Below w.heap.size w w' := by
  by_cases hn : n < 1 ∨ 1000 < n
  · exact walkC_bad n p0 c0 l0 w hn hl ⟨p0, c0, rfl, hp⟩
  · obtain ⟨lim, rfl⟩ : ∃ lim : Nat, n = (lim : Int) := ⟨n.toNat, by omega⟩
    exact walkC_ok lim (by omega) (by omega) p0 c0 l0 w hl ⟨p0, c0, rfl, hp⟩
end Go.Proofs.Ytibggoikjlnnkaa
