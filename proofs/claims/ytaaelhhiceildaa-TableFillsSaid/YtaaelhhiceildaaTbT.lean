/- Layer 13: nextElement. -/
import Derived.Test.YtaaelhhiceildaaTbP
import Derived.Test.YtaaelhhiceildaaTbS
namespace Go.Proofs.Ytaaelhhiceildaa
open Go.RowKit Go.Joins M1
set_option linter.unusedVariables false
/-- The first place from i on that is not nil, or the length. -/
def fstA (l : List V5) (i : Nat) : Nat := if h : i < l.length then (if l[i].k = 0 then fstA l (i + 1) else i) else i
termination_by l.length - i
theorem fstA_nil {l : List V5} {i : Nat} (h : i < l.length) (hz : l[i].k = 0) : fstA l i = fstA l (i + 1) := by
  rw [fstA]; rw [dif_pos h, if_pos hz]
theorem fstA_at {l : List V5} {i : Nat} (h : i < l.length) (hz : l[i].k ≠ 0) : fstA l i = i := by
  rw [fstA]; rw [dif_pos h, if_neg hz]
theorem fstA_end {l : List V5} {i : Nat} (h : ¬ i < l.length) : fstA l i = i := by
  rw [fstA]; rw [dif_neg h]
/-- What nextElement returns and leaves. -/
def neN (s : TS) (a : Nat) : Nx := match s.arr[fstA s.arr (max a s.bl)]? with
  | some x => ⟨keyV ((fstA s.arr (max a s.bl) : Nat) + 1), x, true, 0⟩
  | none => nextR s.R v5z
def neS (s : TS) (a : Nat) : TS := ⟨s.arr, if max a s.bl = s.bl then fstA s.arr (max a s.bl) else s.bl, s.R, s.st⟩
theorem tb_bl {B t : Nat} {va : Value} {b : Nat} {v m : Value} {s : TS} {W : World} (h : Tb B t va b v m s W) (n : Nat) (hn : n ≤ s.arr.length) : Tb B t va b v m ⟨s.arr, n, s.R, s.st⟩ (W.setCell ⟨t, 1, none⟩ (.int .i64 (n : Int))) ∧ Ch [t] W (W.setCell ⟨t, 1, none⟩ (.int .i64 (n : Int))) := by
  have hs : Ch [t] W (W.setCell ⟨t, 1, none⟩ (.int .i64 (n : Int))) := (Ch.refl [t] W).set t 1 _ (.inl (by simp))
  exact ⟨⟨h.blk.set 1 _, h.lo, hs.ownB h.row (fun y hy => by simp; exact (h.apr y hy).1), h.om.ch hs (fun y hy => by simp; intro e; subst e; exact h.apt hy), h.apt, h.apr, hn⟩, hs⟩
set_option maxHeartbeats 16000000 in
theorem ne_1 (B t : Nat) (va : Value) (b : Nat) (v m : Value) (s : TS) (w : World) (h : Tb B t va b v m s w) (a : Nat) (ha : a ≤ s.arr.length) (hL : s.arr.length + s.R.length ≤ 900000) (hm : s.bl ≤ a) :
    Calls Try.prog 37 #[.pointer (some ⟨t, 0, none⟩), .int .i64 (a : Int)] w fun e w' => e = .returned (NxV (neN s a)) ∧ TbSaid B t va b v m (neS s a) w w' := by
  obtain ⟨p, cap, rfl, hp⟩ := h.form
  have HT0 : Hid (Tb B t (.slice p s.arr.length cap) b v m s ((w.alloc (.cells #[.int .i64 0, .int .i64 0, .int .i64 0, .string ⟨#[]⟩, .int .i64 0] 26)).alloc (.cells #[.int .i64 0, .int .i64 0, .int .i64 0, .string ⟨#[]⟩, .int .i64 0] 26))) := Lib.hid (h.ch0 (((Ch.refl [] w).alloc _).alloc _))
  have KA0 : Hid (Blk 26 w.heap.size #[.int .i64 0, .int .i64 0, .int .i64 0, .string ⟨#[]⟩, .int .i64 0] ((w.alloc (.cells #[.int .i64 0, .int .i64 0, .int .i64 0, .string ⟨#[]⟩, .int .i64 0] 26)).alloc (.cells #[.int .i64 0, .int .i64 0, .int .i64 0, .string ⟨#[]⟩, .int .i64 0] 26))) := Lib.hid ((Blk.new w 26 _ _ rfl).ch ((Ch.refl [] _).alloc _) (not_nil _))
  have KB0 : Hid (Blk 26 (w.heap.size + 1) #[.int .i64 0, .int .i64 0, .int .i64 0, .string ⟨#[]⟩, .int .i64 0] ((w.alloc (.cells #[.int .i64 0, .int .i64 0, .int .i64 0, .string ⟨#[]⟩, .int .i64 0] 26)).alloc (.cells #[.int .i64 0, .int .i64 0, .int .i64 0, .string ⟨#[]⟩, .int .i64 0] 26))) := Lib.hid (Blk.new _ 26 _ _ (by simp))
  have HC0 : Hid (Ch [] w ((w.alloc (.cells #[.int .i64 0, .int .i64 0, .int .i64 0, .string ⟨#[]⟩, .int .i64 0] 26)).alloc (.cells #[.int .i64 0, .int .i64 0, .int .i64 0, .string ⟨#[]⟩, .int .i64 0] 26))) := Lib.hid (((Ch.refl [] w).alloc _).alloc _)
  have HNT : Hid (∀ g ∈ tbS t (.slice p s.arr.length cap) b v m, g < w.heap.size) := Lib.hid fun g hg => (h.lt g hg).2
  have HLL := Lib.hid hL
  have hbd := h.bnd
  have HM : Hid (max a s.bl = a) := Lib.hid (by omega)
  have hm2 : max (a : Int) (s.bl : Int) = (a : Int) := by omega
  have hm3 : (s.bl : Int) ≤ (a : Int) := by omega
  have hm4 : ¬ (a : Int) < (s.bl : Int) := by omega
  have HMl : Hid (a ≤ s.arr.length) := Lib.hid (by omega)
  have HKEY0 : Hid (0 < s.arr.length → ∃ g, p = some ⟨g, 0, none⟩) := Lib.hid fun h0 => by
    obtain ⟨g, h1, _⟩ := hp h0
    exact ⟨g, h1⟩
  clear h ha hp hbd hL hm
  go_enter Try.func37, Try.ntmps37
  go_upto_region 1 with fail
  generalize ((w.alloc (.cells #[.int .i64 0, .int .i64 0, .int .i64 0, .string ⟨#[]⟩, .int .i64 0] 26)).alloc (.cells #[.int .i64 0, .int .i64 0, .int .i64 0, .string ⟨#[]⟩, .int .i64 0] 26)) = w0 at *
  have c1 : w0.cell? ⟨t, 1, none⟩ = some (.int .i64 (s.bl : Int)) := HT0.out.blk.cell 1
  have c0 : w0.cell? ⟨t, 0, none⟩ = some (.slice p s.arr.length cap) := HT0.out.blk.cell 0
  have hbl := HT0.out.blk.lt
  have f1 := HT0.out.blk.fz 1
  go_wp2
  go_loopw [9] (fun v9 wr => ∃ i : Nat, v9 = .int .i64 (i : Int) ∧ Hid (i ≤ s.arr.length ∧ fstA s.arr a = fstA s.arr i) ∧ Hid (wr = w0)) (fun v9 _ => s.arr.length - (intOf v9).toNat)
  case atStart => exact ⟨a, rfl, Lib.hid ⟨HMl.out, rfl⟩, Lib.hid rfl⟩
  case round =>
    obtain ⟨i, rfl, HIF, HW⟩ := hrel
    rename World => wr
    obtain rfl : wr = w0 := HW.out
    clear HW
    have HI : Hid (i ≤ s.arr.length) := Lib.hid HIF.out.1
    by_cases hlt : i < s.arr.length
    · have hlt2 : (i : Int) < (s.arr.length : Int) := by omega
      have hi0 : (0 : Int) ≤ (i : Int) := by omega
      have di : IntKind.i64.wrap ((i : Int) + 1) = (i : Int) + 1 := IntWalk.i64_in _ (by have := HLL.out; omega)
      obtain ⟨g, rfl⟩ := HKEY0.out (by omega)
      have HGM : Hid (g ∈ tbS t (.slice (some ⟨g, 0, none⟩) s.arr.length cap) b v m) := Lib.hid (by simp [tbS, Go.Proofs.Ytaaelhhiceildaa.ob, Value.ownBlock])
      obtain ⟨x, hx⟩ : ∃ x, s.arr[i] = x := ⟨_, rfl⟩
      have HXI : Hid (s.arr[i]? = some x) := Lib.hid (by rw [List.getElem?_eq_getElem hlt, hx])
      have HKEY : Hid (∀ V1 : World, ∀ b1, Tb B t (.slice (some ⟨g, 0, none⟩) s.arr.length cap) b v m ⟨s.arr, b1, s.R, s.st⟩ V1 → ∀ W, Ch [] V1 W → ∀ c, c < 5 → W.cell? ⟨g, i * 5 + c, none⟩ = (vC x)[c]?) := Lib.hid fun V1 b1 hV W hc c h5 => by
        obtain ⟨p', cap', e', hp'⟩ := (hV.ch0 hc).form
        injection e' with e1 e2 e3
        obtain ⟨g', q1, q2, _, q3⟩ := hp' (by show 0 < s.arr.length; omega)
        have : g' = g := by rw [q1] at e1; injection e1 with e1; injection e1 with e1; exact e1.symm
        subst this
        rw [← hx]
        exact q3 i hlt c h5
      have hgl : g < wr.heap.size := (HT0.out.lt g HGM.out).2
      have d0 : wr.cell? ⟨g, i * 5, none⟩ = some (.int .i64 x.k) := HKEY.out wr s.bl HT0.out wr (Ch.refl [] wr) 0 (by omega)
      have d1 : wr.cell? ⟨g, i * 5 + 1, none⟩ = some (.int .i64 x.p) := HKEY.out wr s.bl HT0.out wr (Ch.refl [] wr) 1 (by omega)
      have d2 : wr.cell? ⟨g, i * 5 + 2, none⟩ = some (.int .i64 x.q) := HKEY.out wr s.bl HT0.out wr (Ch.refl [] wr) 2 (by omega)
      have d3 : wr.cell? ⟨g, i * 5 + 3, none⟩ = some (.string x.s) := HKEY.out wr s.bl HT0.out wr (Ch.refl [] wr) 3 (by omega)
      have d4 : wr.cell? ⟨g, i * 5 + 4, none⟩ = some (.int .i64 x.r) := HKEY.out wr s.bl HT0.out wr (Ch.refl [] wr) 4 (by omega)
      have DD : True := trivial
      by_cases hz : x.k = 0
      · have ez : (x.k == 0) = true := beq_iff_eq.2 hz
        have HST : Hid (fstA s.arr a = fstA s.arr (i + 1)) := Lib.hid (by rw [HIF.out.2, fstA_nil hlt (by rw [hx]; exact hz)])
        have HLT := Lib.hid hlt
        clear hz hx hlt DD
        go_wp2_with fail
        go_roundw
        (case rel => exact ⟨i + 1, by go_num, Lib.hid ⟨by have := HLT.out; omega, HST.out⟩, by first | exact Lib.hid rfl | exact Lib.hid trivial⟩)
        (case measure => have := HLT.out; simp [intOf]; omega)
      · have ez : (x.k == 0) = false := beq_eq_false_iff_ne.2 hz
        have HF0 : Hid (fstA s.arr a = i) := Lib.hid (by rw [HIF.out.2, fstA_at hlt (by rw [hx]; exact hz)])
        have HNE : Hid (neN s a = ⟨keyV ((i : Int) + 1), x, true, 0⟩) := Lib.hid (by unfold neN; rw [HM.out, HF0.out, HXI.out])
        have enl : ((i : Int) == (s.arr.length : Int)) = false := beq_eq_false_iff_ne.2 (by omega)
        clear hz hx hlt
        have HKV := Lib.hid HKEY.out
        clear HKEY
        go_upto_region 5 with fail
        clear d0 d1 d2 d3 d4 hgl
        by_cases hmb : a = s.bl
        · have emb : ((a : Int) == (s.bl : Int)) = true := beq_iff_eq.2 (by omega)
          have HNS : Hid (neS s a = ⟨s.arr, i, s.R, s.st⟩) := Lib.hid (by unfold neS; rw [HM.out, HF0.out, if_pos hmb])
          clear hmb
          have HTN := Lib.hid (tb_bl HT0.out i HI.out)
          go_upto_region 7 with fail
          generalize (wr.setCell ⟨t, 1, none⟩ (.int .i64 (i : Int))) = V1 at *
          have HT1 := Lib.hid HTN.out.1
          have HC1 := HTN.out.2
          have HCW : Hid (Ch (tbS t (.slice (some ⟨g, 0, none⟩) s.arr.length cap) b v m) w V1) := Lib.hid ((HC0.out.mono (fun g hg => absurd hg (not_nil g))).trans (HC1.mono (fun g hg => by simp at hg; subst hg; simp [tbS])))
          have KA1 := Lib.hid (KA0.out.ch HC1 (by have := HNT.out t (by simp [tbS]); simp; omega))
          have KB1 := Lib.hid (KB0.out.ch HC1 (by have := HNT.out t (by simp [tbS]); simp; omega))
          clear HC1 HTN c0 c1 hbl DD f1
          have HKEY := Lib.hid (HKV.out V1 _ HT1.out)
          have c0 : V1.cell? ⟨t, 0, none⟩ = some (.slice (some ⟨g, 0, none⟩) s.arr.length cap) := HT1.out.blk.cell 0
          have hbl := HT1.out.blk.lt
          have hgl : g < V1.heap.size := (HT1.out.lt g HGM.out).2
          have d0 : V1.cell? ⟨g, i * 5, none⟩ = some (.int .i64 x.k) := HKEY.out V1 (Ch.refl [] V1) 0 (by omega)
          have d1 : V1.cell? ⟨g, i * 5 + 1, none⟩ = some (.int .i64 x.p) := HKEY.out V1 (Ch.refl [] V1) 1 (by omega)
          have d2 : V1.cell? ⟨g, i * 5 + 2, none⟩ = some (.int .i64 x.q) := HKEY.out V1 (Ch.refl [] V1) 2 (by omega)
          have d3 : V1.cell? ⟨g, i * 5 + 3, none⟩ = some (.string x.s) := HKEY.out V1 (Ch.refl [] V1) 3 (by omega)
          have d4 : V1.cell? ⟨g, i * 5 + 4, none⟩ = some (.int .i64 x.r) := HKEY.out V1 (Ch.refl [] V1) 4 (by omega)
          obtain ⟨y, hy⟩ : ∃ y, keyV ((i : Int) + 1) = y := ⟨_, rfl⟩
          rw [hy] at HNE
          have HKY := Lib.hid hy
          clear hy
          have QI : Hid (∀ W, Calls Try.prog 29 #[.int .i64 ((i : Int) + 1)] W fun e w' => e = .returned (.agg #[.int .i64 y.k, .int .i64 y.p, .int .i64 y.q, .string y.s, .int .i64 y.r]) ∧ Below W.heap.size W w') := Lib.hid fun W => by rw [← HKY.out]; exact ofInt_any _ W
          have nn1 : ¬ g = w.heap.size := by have := HNT.out g HGM.out; omega
          have nn2 : ¬ g = (w.heap.size + 1) := by have := HNT.out g HGM.out; omega
          have nn3 : ¬ t = w.heap.size := by have := HNT.out t (by simp [tbS]); omega
          have nn4 : ¬ t = (w.heap.size + 1) := by have := HNT.out t (by simp [tbS]); omega
          have nn5 : ¬ w.heap.size = g := fun e => nn1 e.symm
          have nn6 : ¬ (w.heap.size + 1) = g := fun e => nn2 e.symm
          have nn7 : ¬ w.heap.size = t := fun e => nn3 e.symm
          have nn8 : ¬ (w.heap.size + 1) = t := fun e => nn4 e.symm
          go_upto_region 9 with fail
          go_region_law (go_simp; go_at_call 29; (with_reducible refine (QI.out _).mono ?_); rintro e w6 ⟨rfl, hb6⟩; (first | have HC6 : Hid (Ch [] V1 w6) := Lib.hid (Ch.of_below hb6) | have HC6 : Hid (Ch [] V1 w6) := Lib.hid (((Ch.refl [] V1).drew).trans (Ch.of_below hb6)) | have HC6 : Hid (Ch [] V1 w6) := Lib.hid (((Ch.refl [] V1).drewN _).trans (Ch.of_below hb6))); have HT6 := Lib.hid (HT1.out.ch0 HC6.out); have c0b : w6.cell? ⟨t, 0, none⟩ = some (.slice (some ⟨g, 0, none⟩) s.arr.length cap) := HT6.out.blk.cell 0; have hblb := HT6.out.blk.lt; have hglb : g < w6.heap.size := (HT6.out.lt g HGM.out).2; have e0 : w6.cell? ⟨g, i * 5, none⟩ = some (.int .i64 x.k) := HKEY.out w6 HC6.out 0 (by omega); have e1 : w6.cell? ⟨g, i * 5 + 1, none⟩ = some (.int .i64 x.p) := HKEY.out w6 HC6.out 1 (by omega); have e2 : w6.cell? ⟨g, i * 5 + 2, none⟩ = some (.int .i64 x.q) := HKEY.out w6 HC6.out 2 (by omega); have e3 : w6.cell? ⟨g, i * 5 + 3, none⟩ = some (.string x.s) := HKEY.out w6 HC6.out 3 (by omega); have e4 : w6.cell? ⟨g, i * 5 + 4, none⟩ = some (.int .i64 x.r) := HKEY.out w6 HC6.out 4 (by omega); have KA7 := Lib.hid (KA1.out.ch HC6.out (not_nil _)); have KB7 := Lib.hid (KB1.out.ch HC6.out (not_nil _)); have r0 : w6.cell? ⟨w.heap.size, 0, none⟩ = some (.int .i64 0) := KA7.out.cell 0; have r1 : w6.cell? ⟨w.heap.size, 1, none⟩ = some (.int .i64 0) := KA7.out.cell 1; have r2 : w6.cell? ⟨w.heap.size, 2, none⟩ = some (.int .i64 0) := KA7.out.cell 2; have r3 : w6.cell? ⟨w.heap.size, 3, none⟩ = some (.string ⟨#[]⟩) := KA7.out.cell 3; have r4 : w6.cell? ⟨w.heap.size, 4, none⟩ = some (.int .i64 0) := KA7.out.cell 4; have rf0 := KA7.out.fz 0; have rf1 := KA7.out.fz 1; have rf2 := KA7.out.fz 2; have rf3 := KA7.out.fz 3; have rf4 := KA7.out.fz 4; have rl := KA7.out.lt; have q0 : w6.cell? ⟨(w.heap.size + 1), 0, none⟩ = some (.int .i64 0) := KB7.out.cell 0; have q1 : w6.cell? ⟨(w.heap.size + 1), 1, none⟩ = some (.int .i64 0) := KB7.out.cell 1; have q2 : w6.cell? ⟨(w.heap.size + 1), 2, none⟩ = some (.int .i64 0) := KB7.out.cell 2; have q3 : w6.cell? ⟨(w.heap.size + 1), 3, none⟩ = some (.string ⟨#[]⟩) := KB7.out.cell 3; have q4 : w6.cell? ⟨(w.heap.size + 1), 4, none⟩ = some (.int .i64 0) := KB7.out.cell 4; have qf0 := KB7.out.fz 0; have qf1 := KB7.out.fz 1; have qf2 := KB7.out.fz 2; have qf3 := KB7.out.fz 3; have qf4 := KB7.out.fz 4; have ql := KB7.out.lt; clear hb6)
          all_goals (
            go_wp2
            rw [HNE.out, HNS.out]
            unfold NxV
            first
            | (
                show bodyPost _ _ _ Exit.ret _ (st5 (st5 w6 w.heap.size (.int .i64 y.k) (.int .i64 y.p) (.int .i64 y.q) (.string y.s) (.int .i64 y.r)) (w.heap.size + 1) (.int .i64 x.k) (.int .i64 x.p) (.int .i64 x.q) (.string x.s) (.int .i64 x.r))
                have I1 : Blk 26 w.heap.size #[.int .i64 y.k, .int .i64 y.p, .int .i64 y.q, .string y.s, .int .i64 y.r] (st5 (st5 w6 w.heap.size (.int .i64 y.k) (.int .i64 y.p) (.int .i64 y.q) (.string y.s) (.int .i64 y.r)) (w.heap.size + 1) (.int .i64 x.k) (.int .i64 x.p) (.int .i64 x.q) (.string x.s) (.int .i64 x.r)) := (st5_blk KA7.out).ch (st5_ch (S := [(w.heap.size + 1)]) (Ch.refl _ _) (.inl (by simp))) (by simp)
                have I2 : Blk 26 (w.heap.size + 1) #[.int .i64 x.k, .int .i64 x.p, .int .i64 x.q, .string x.s, .int .i64 x.r] (st5 (st5 w6 w.heap.size (.int .i64 y.k) (.int .i64 y.p) (.int .i64 y.q) (.string y.s) (.int .i64 y.r)) (w.heap.size + 1) (.int .i64 x.k) (.int .i64 x.p) (.int .i64 x.q) (.string x.s) (.int .i64 x.r)) := st5_blk (KB7.out.ch (st5_ch (S := [w.heap.size]) (Ch.refl _ _) (.inl (by simp))) (by simp))
                have HS : Hid (Ch [w.heap.size, (w.heap.size + 1)] w6 (st5 (st5 w6 w.heap.size (.int .i64 y.k) (.int .i64 y.p) (.int .i64 y.q) (.string y.s) (.int .i64 y.r)) (w.heap.size + 1) (.int .i64 x.k) (.int .i64 x.p) (.int .i64 x.q) (.string x.s) (.int .i64 x.r))) := Lib.hid (st5_ch (st5_ch (Ch.refl _ _) (.inl (by simp))) (.inl (by simp)))
                have x0 := I1.cell 0
                have x1 := I1.cell 1
                have x2 := I1.cell 2
                have x3 := I1.cell 3
                have x4 := I1.cell 4
                have y0 := I2.cell 0
                have y1 := I2.cell 1
                have y2 := I2.cell 2
                have y3 := I2.cell 3
                have y4 := I2.cell 4
                simp at x0 x1 x2 x3 x4 y0 y1 y2 y3 y4
                have HF : Hid (TbSaid B t (.slice (some ⟨g, 0, none⟩) s.arr.length cap) b v m ⟨s.arr, i, s.R, s.st⟩ w (st5 (st5 w6 w.heap.size (.int .i64 y.k) (.int .i64 y.p) (.int .i64 y.q) (.string y.s) (.int .i64 y.r)) (w.heap.size + 1) (.int .i64 x.k) (.int .i64 x.p) (.int .i64 x.q) (.string x.s) (.int .i64 x.r))) := Lib.hid (by
                  have h7 := HT1.out.ch0 HC6.out
                  exact tb_fin HCW.out (tb_after h7 (HC6.out.mono (fun g hg => absurd hg (not_nil g)))) HS.out (fun g hg => by
                    have hA := KA1.out.lt
                    have hB := KB1.out.lt
                    simp at hg
                    rcases hg with rfl | rfl
                    · exact ⟨fun hq => by have := HNT.out _ hq; omega, hA, by omega⟩
                    · exact ⟨fun hq => by have := HNT.out _ hq; omega, hB, by omega⟩))
                generalize (st5 (st5 w6 w.heap.size (.int .i64 y.k) (.int .i64 y.p) (.int .i64 y.q) (.string y.s) (.int .i64 y.r)) (w.heap.size + 1) (.int .i64 x.k) (.int .i64 x.p) (.int .i64 x.q) (.string x.s) (.int .i64 x.r)) = W9 at *
                refine bodyPost_ret (v := .tuple #[.agg #[.int .i64 y.k, .int .i64 y.p, .int .i64 y.q, .string y.s, .int .i64 y.r], .agg #[.int .i64 x.k, .int .i64 x.p, .int .i64 x.q, .string x.s, .int .i64 x.r], .bool true, .int .i64 0]) (by simp [results, Try.results37, go_sem, x0, x1, x2, x3, x4, y0, y1, y2, y3, y4]) rfl ⟨rfl, HF.out⟩)
            | (
                show bodyPost _ _ _ Exit.ret _ (st5 (st5 w6 (w.heap.size + 1) (.int .i64 x.k) (.int .i64 x.p) (.int .i64 x.q) (.string x.s) (.int .i64 x.r)) w.heap.size (.int .i64 y.k) (.int .i64 y.p) (.int .i64 y.q) (.string y.s) (.int .i64 y.r))
                have I1 : Blk 26 w.heap.size #[.int .i64 y.k, .int .i64 y.p, .int .i64 y.q, .string y.s, .int .i64 y.r] (st5 (st5 w6 (w.heap.size + 1) (.int .i64 x.k) (.int .i64 x.p) (.int .i64 x.q) (.string x.s) (.int .i64 x.r)) w.heap.size (.int .i64 y.k) (.int .i64 y.p) (.int .i64 y.q) (.string y.s) (.int .i64 y.r)) := st5_blk (KA7.out.ch (st5_ch (S := [(w.heap.size + 1)]) (Ch.refl _ _) (.inl (by simp))) (by simp))
                have I2 : Blk 26 (w.heap.size + 1) #[.int .i64 x.k, .int .i64 x.p, .int .i64 x.q, .string x.s, .int .i64 x.r] (st5 (st5 w6 (w.heap.size + 1) (.int .i64 x.k) (.int .i64 x.p) (.int .i64 x.q) (.string x.s) (.int .i64 x.r)) w.heap.size (.int .i64 y.k) (.int .i64 y.p) (.int .i64 y.q) (.string y.s) (.int .i64 y.r)) := (st5_blk KB7.out).ch (st5_ch (S := [w.heap.size]) (Ch.refl _ _) (.inl (by simp))) (by simp)
                have HS : Hid (Ch [w.heap.size, (w.heap.size + 1)] w6 (st5 (st5 w6 (w.heap.size + 1) (.int .i64 x.k) (.int .i64 x.p) (.int .i64 x.q) (.string x.s) (.int .i64 x.r)) w.heap.size (.int .i64 y.k) (.int .i64 y.p) (.int .i64 y.q) (.string y.s) (.int .i64 y.r))) := Lib.hid (st5_ch (st5_ch (Ch.refl _ _) (.inl (by simp))) (.inl (by simp)))
                have x0 := I1.cell 0
                have x1 := I1.cell 1
                have x2 := I1.cell 2
                have x3 := I1.cell 3
                have x4 := I1.cell 4
                have y0 := I2.cell 0
                have y1 := I2.cell 1
                have y2 := I2.cell 2
                have y3 := I2.cell 3
                have y4 := I2.cell 4
                simp at x0 x1 x2 x3 x4 y0 y1 y2 y3 y4
                have HF : Hid (TbSaid B t (.slice (some ⟨g, 0, none⟩) s.arr.length cap) b v m ⟨s.arr, i, s.R, s.st⟩ w (st5 (st5 w6 (w.heap.size + 1) (.int .i64 x.k) (.int .i64 x.p) (.int .i64 x.q) (.string x.s) (.int .i64 x.r)) w.heap.size (.int .i64 y.k) (.int .i64 y.p) (.int .i64 y.q) (.string y.s) (.int .i64 y.r))) := Lib.hid (by
                  have h7 := HT1.out.ch0 HC6.out
                  exact tb_fin HCW.out (tb_after h7 (HC6.out.mono (fun g hg => absurd hg (not_nil g)))) HS.out (fun g hg => by
                    have hA := KA1.out.lt
                    have hB := KB1.out.lt
                    simp at hg
                    rcases hg with rfl | rfl
                    · exact ⟨fun hq => by have := HNT.out _ hq; omega, hA, by omega⟩
                    · exact ⟨fun hq => by have := HNT.out _ hq; omega, hB, by omega⟩))
                generalize (st5 (st5 w6 (w.heap.size + 1) (.int .i64 x.k) (.int .i64 x.p) (.int .i64 x.q) (.string x.s) (.int .i64 x.r)) w.heap.size (.int .i64 y.k) (.int .i64 y.p) (.int .i64 y.q) (.string y.s) (.int .i64 y.r)) = W9 at *
                refine bodyPost_ret (v := .tuple #[.agg #[.int .i64 y.k, .int .i64 y.p, .int .i64 y.q, .string y.s, .int .i64 y.r], .agg #[.int .i64 x.k, .int .i64 x.p, .int .i64 x.q, .string x.s, .int .i64 x.r], .bool true, .int .i64 0]) (by simp [results, Try.results37, go_sem, x0, x1, x2, x3, x4, y0, y1, y2, y3, y4]) rfl ⟨rfl, HF.out⟩))
        · have emb : ((a : Int) == (s.bl : Int)) = false := beq_eq_false_iff_ne.2 (by omega)
          have HNS : Hid (neS s a = ⟨s.arr, s.bl, s.R, s.st⟩) := Lib.hid (by unfold neS; rw [HM.out, if_neg hmb])
          clear hmb
          go_upto_region 7 with fail
          obtain ⟨V1, hV1⟩ : ∃ V1, V1 = wr := ⟨_, rfl⟩
          rw [← hV1]
          have HT1 : Hid (Tb B t (.slice (some ⟨g, 0, none⟩) s.arr.length cap) b v m ⟨s.arr, s.bl, s.R, s.st⟩ V1) := Lib.hid (by rw [hV1]; exact HT0.out)
          have HCW : Hid (Ch (tbS t (.slice (some ⟨g, 0, none⟩) s.arr.length cap) b v m) w V1) := Lib.hid (by rw [hV1]; exact HC0.out.mono (fun g hg => absurd hg (not_nil g)))
          have KA1 : Hid (Blk 26 w.heap.size #[.int .i64 0, .int .i64 0, .int .i64 0, .string ⟨#[]⟩, .int .i64 0] V1) := Lib.hid (by rw [hV1]; exact KA0.out)
          have KB1 : Hid (Blk 26 (w.heap.size + 1) #[.int .i64 0, .int .i64 0, .int .i64 0, .string ⟨#[]⟩, .int .i64 0] V1) := Lib.hid (by rw [hV1]; exact KB0.out)
          clear hV1 c0 c1 hbl DD f1
          have HKEY := Lib.hid (HKV.out V1 _ HT1.out)
          have c0 : V1.cell? ⟨t, 0, none⟩ = some (.slice (some ⟨g, 0, none⟩) s.arr.length cap) := HT1.out.blk.cell 0
          have hbl := HT1.out.blk.lt
          have hgl : g < V1.heap.size := (HT1.out.lt g HGM.out).2
          have d0 : V1.cell? ⟨g, i * 5, none⟩ = some (.int .i64 x.k) := HKEY.out V1 (Ch.refl [] V1) 0 (by omega)
          have d1 : V1.cell? ⟨g, i * 5 + 1, none⟩ = some (.int .i64 x.p) := HKEY.out V1 (Ch.refl [] V1) 1 (by omega)
          have d2 : V1.cell? ⟨g, i * 5 + 2, none⟩ = some (.int .i64 x.q) := HKEY.out V1 (Ch.refl [] V1) 2 (by omega)
          have d3 : V1.cell? ⟨g, i * 5 + 3, none⟩ = some (.string x.s) := HKEY.out V1 (Ch.refl [] V1) 3 (by omega)
          have d4 : V1.cell? ⟨g, i * 5 + 4, none⟩ = some (.int .i64 x.r) := HKEY.out V1 (Ch.refl [] V1) 4 (by omega)
          obtain ⟨y, hy⟩ : ∃ y, keyV ((i : Int) + 1) = y := ⟨_, rfl⟩
          rw [hy] at HNE
          have HKY := Lib.hid hy
          clear hy
          have QI : Hid (∀ W, Calls Try.prog 29 #[.int .i64 ((i : Int) + 1)] W fun e w' => e = .returned (.agg #[.int .i64 y.k, .int .i64 y.p, .int .i64 y.q, .string y.s, .int .i64 y.r]) ∧ Below W.heap.size W w') := Lib.hid fun W => by rw [← HKY.out]; exact ofInt_any _ W
          have nn1 : ¬ g = w.heap.size := by have := HNT.out g HGM.out; omega
          have nn2 : ¬ g = (w.heap.size + 1) := by have := HNT.out g HGM.out; omega
          have nn3 : ¬ t = w.heap.size := by have := HNT.out t (by simp [tbS]); omega
          have nn4 : ¬ t = (w.heap.size + 1) := by have := HNT.out t (by simp [tbS]); omega
          have nn5 : ¬ w.heap.size = g := fun e => nn1 e.symm
          have nn6 : ¬ (w.heap.size + 1) = g := fun e => nn2 e.symm
          have nn7 : ¬ w.heap.size = t := fun e => nn3 e.symm
          have nn8 : ¬ (w.heap.size + 1) = t := fun e => nn4 e.symm
          go_upto_region 9 with fail
          go_region_law (go_simp; go_at_call 29; (with_reducible refine (QI.out _).mono ?_); rintro e w6 ⟨rfl, hb6⟩; (first | have HC6 : Hid (Ch [] V1 w6) := Lib.hid (Ch.of_below hb6) | have HC6 : Hid (Ch [] V1 w6) := Lib.hid (((Ch.refl [] V1).drew).trans (Ch.of_below hb6)) | have HC6 : Hid (Ch [] V1 w6) := Lib.hid (((Ch.refl [] V1).drewN _).trans (Ch.of_below hb6))); have HT6 := Lib.hid (HT1.out.ch0 HC6.out); have c0b : w6.cell? ⟨t, 0, none⟩ = some (.slice (some ⟨g, 0, none⟩) s.arr.length cap) := HT6.out.blk.cell 0; have hblb := HT6.out.blk.lt; have hglb : g < w6.heap.size := (HT6.out.lt g HGM.out).2; have e0 : w6.cell? ⟨g, i * 5, none⟩ = some (.int .i64 x.k) := HKEY.out w6 HC6.out 0 (by omega); have e1 : w6.cell? ⟨g, i * 5 + 1, none⟩ = some (.int .i64 x.p) := HKEY.out w6 HC6.out 1 (by omega); have e2 : w6.cell? ⟨g, i * 5 + 2, none⟩ = some (.int .i64 x.q) := HKEY.out w6 HC6.out 2 (by omega); have e3 : w6.cell? ⟨g, i * 5 + 3, none⟩ = some (.string x.s) := HKEY.out w6 HC6.out 3 (by omega); have e4 : w6.cell? ⟨g, i * 5 + 4, none⟩ = some (.int .i64 x.r) := HKEY.out w6 HC6.out 4 (by omega); have KA7 := Lib.hid (KA1.out.ch HC6.out (not_nil _)); have KB7 := Lib.hid (KB1.out.ch HC6.out (not_nil _)); have r0 : w6.cell? ⟨w.heap.size, 0, none⟩ = some (.int .i64 0) := KA7.out.cell 0; have r1 : w6.cell? ⟨w.heap.size, 1, none⟩ = some (.int .i64 0) := KA7.out.cell 1; have r2 : w6.cell? ⟨w.heap.size, 2, none⟩ = some (.int .i64 0) := KA7.out.cell 2; have r3 : w6.cell? ⟨w.heap.size, 3, none⟩ = some (.string ⟨#[]⟩) := KA7.out.cell 3; have r4 : w6.cell? ⟨w.heap.size, 4, none⟩ = some (.int .i64 0) := KA7.out.cell 4; have rf0 := KA7.out.fz 0; have rf1 := KA7.out.fz 1; have rf2 := KA7.out.fz 2; have rf3 := KA7.out.fz 3; have rf4 := KA7.out.fz 4; have rl := KA7.out.lt; have q0 : w6.cell? ⟨(w.heap.size + 1), 0, none⟩ = some (.int .i64 0) := KB7.out.cell 0; have q1 : w6.cell? ⟨(w.heap.size + 1), 1, none⟩ = some (.int .i64 0) := KB7.out.cell 1; have q2 : w6.cell? ⟨(w.heap.size + 1), 2, none⟩ = some (.int .i64 0) := KB7.out.cell 2; have q3 : w6.cell? ⟨(w.heap.size + 1), 3, none⟩ = some (.string ⟨#[]⟩) := KB7.out.cell 3; have q4 : w6.cell? ⟨(w.heap.size + 1), 4, none⟩ = some (.int .i64 0) := KB7.out.cell 4; have qf0 := KB7.out.fz 0; have qf1 := KB7.out.fz 1; have qf2 := KB7.out.fz 2; have qf3 := KB7.out.fz 3; have qf4 := KB7.out.fz 4; have ql := KB7.out.lt; clear hb6)
          all_goals (
            go_wp2
            rw [HNE.out, HNS.out]
            unfold NxV
            first
            | (
                show bodyPost _ _ _ Exit.ret _ (st5 (st5 w6 w.heap.size (.int .i64 y.k) (.int .i64 y.p) (.int .i64 y.q) (.string y.s) (.int .i64 y.r)) (w.heap.size + 1) (.int .i64 x.k) (.int .i64 x.p) (.int .i64 x.q) (.string x.s) (.int .i64 x.r))
                have I1 : Blk 26 w.heap.size #[.int .i64 y.k, .int .i64 y.p, .int .i64 y.q, .string y.s, .int .i64 y.r] (st5 (st5 w6 w.heap.size (.int .i64 y.k) (.int .i64 y.p) (.int .i64 y.q) (.string y.s) (.int .i64 y.r)) (w.heap.size + 1) (.int .i64 x.k) (.int .i64 x.p) (.int .i64 x.q) (.string x.s) (.int .i64 x.r)) := (st5_blk KA7.out).ch (st5_ch (S := [(w.heap.size + 1)]) (Ch.refl _ _) (.inl (by simp))) (by simp)
                have I2 : Blk 26 (w.heap.size + 1) #[.int .i64 x.k, .int .i64 x.p, .int .i64 x.q, .string x.s, .int .i64 x.r] (st5 (st5 w6 w.heap.size (.int .i64 y.k) (.int .i64 y.p) (.int .i64 y.q) (.string y.s) (.int .i64 y.r)) (w.heap.size + 1) (.int .i64 x.k) (.int .i64 x.p) (.int .i64 x.q) (.string x.s) (.int .i64 x.r)) := st5_blk (KB7.out.ch (st5_ch (S := [w.heap.size]) (Ch.refl _ _) (.inl (by simp))) (by simp))
                have HS : Hid (Ch [w.heap.size, (w.heap.size + 1)] w6 (st5 (st5 w6 w.heap.size (.int .i64 y.k) (.int .i64 y.p) (.int .i64 y.q) (.string y.s) (.int .i64 y.r)) (w.heap.size + 1) (.int .i64 x.k) (.int .i64 x.p) (.int .i64 x.q) (.string x.s) (.int .i64 x.r))) := Lib.hid (st5_ch (st5_ch (Ch.refl _ _) (.inl (by simp))) (.inl (by simp)))
                have x0 := I1.cell 0
                have x1 := I1.cell 1
                have x2 := I1.cell 2
                have x3 := I1.cell 3
                have x4 := I1.cell 4
                have y0 := I2.cell 0
                have y1 := I2.cell 1
                have y2 := I2.cell 2
                have y3 := I2.cell 3
                have y4 := I2.cell 4
                simp at x0 x1 x2 x3 x4 y0 y1 y2 y3 y4
                have HF : Hid (TbSaid B t (.slice (some ⟨g, 0, none⟩) s.arr.length cap) b v m ⟨s.arr, s.bl, s.R, s.st⟩ w (st5 (st5 w6 w.heap.size (.int .i64 y.k) (.int .i64 y.p) (.int .i64 y.q) (.string y.s) (.int .i64 y.r)) (w.heap.size + 1) (.int .i64 x.k) (.int .i64 x.p) (.int .i64 x.q) (.string x.s) (.int .i64 x.r))) := Lib.hid (by
                  have h7 := HT1.out.ch0 HC6.out
                  exact tb_fin HCW.out (tb_after h7 (HC6.out.mono (fun g hg => absurd hg (not_nil g)))) HS.out (fun g hg => by
                    have hA := KA1.out.lt
                    have hB := KB1.out.lt
                    simp at hg
                    rcases hg with rfl | rfl
                    · exact ⟨fun hq => by have := HNT.out _ hq; omega, hA, by omega⟩
                    · exact ⟨fun hq => by have := HNT.out _ hq; omega, hB, by omega⟩))
                generalize (st5 (st5 w6 w.heap.size (.int .i64 y.k) (.int .i64 y.p) (.int .i64 y.q) (.string y.s) (.int .i64 y.r)) (w.heap.size + 1) (.int .i64 x.k) (.int .i64 x.p) (.int .i64 x.q) (.string x.s) (.int .i64 x.r)) = W9 at *
                refine bodyPost_ret (v := .tuple #[.agg #[.int .i64 y.k, .int .i64 y.p, .int .i64 y.q, .string y.s, .int .i64 y.r], .agg #[.int .i64 x.k, .int .i64 x.p, .int .i64 x.q, .string x.s, .int .i64 x.r], .bool true, .int .i64 0]) (by simp [results, Try.results37, go_sem, x0, x1, x2, x3, x4, y0, y1, y2, y3, y4]) rfl ⟨rfl, HF.out⟩)
            | (
                show bodyPost _ _ _ Exit.ret _ (st5 (st5 w6 (w.heap.size + 1) (.int .i64 x.k) (.int .i64 x.p) (.int .i64 x.q) (.string x.s) (.int .i64 x.r)) w.heap.size (.int .i64 y.k) (.int .i64 y.p) (.int .i64 y.q) (.string y.s) (.int .i64 y.r))
                have I1 : Blk 26 w.heap.size #[.int .i64 y.k, .int .i64 y.p, .int .i64 y.q, .string y.s, .int .i64 y.r] (st5 (st5 w6 (w.heap.size + 1) (.int .i64 x.k) (.int .i64 x.p) (.int .i64 x.q) (.string x.s) (.int .i64 x.r)) w.heap.size (.int .i64 y.k) (.int .i64 y.p) (.int .i64 y.q) (.string y.s) (.int .i64 y.r)) := st5_blk (KA7.out.ch (st5_ch (S := [(w.heap.size + 1)]) (Ch.refl _ _) (.inl (by simp))) (by simp))
                have I2 : Blk 26 (w.heap.size + 1) #[.int .i64 x.k, .int .i64 x.p, .int .i64 x.q, .string x.s, .int .i64 x.r] (st5 (st5 w6 (w.heap.size + 1) (.int .i64 x.k) (.int .i64 x.p) (.int .i64 x.q) (.string x.s) (.int .i64 x.r)) w.heap.size (.int .i64 y.k) (.int .i64 y.p) (.int .i64 y.q) (.string y.s) (.int .i64 y.r)) := (st5_blk KB7.out).ch (st5_ch (S := [w.heap.size]) (Ch.refl _ _) (.inl (by simp))) (by simp)
                have HS : Hid (Ch [w.heap.size, (w.heap.size + 1)] w6 (st5 (st5 w6 (w.heap.size + 1) (.int .i64 x.k) (.int .i64 x.p) (.int .i64 x.q) (.string x.s) (.int .i64 x.r)) w.heap.size (.int .i64 y.k) (.int .i64 y.p) (.int .i64 y.q) (.string y.s) (.int .i64 y.r))) := Lib.hid (st5_ch (st5_ch (Ch.refl _ _) (.inl (by simp))) (.inl (by simp)))
                have x0 := I1.cell 0
                have x1 := I1.cell 1
                have x2 := I1.cell 2
                have x3 := I1.cell 3
                have x4 := I1.cell 4
                have y0 := I2.cell 0
                have y1 := I2.cell 1
                have y2 := I2.cell 2
                have y3 := I2.cell 3
                have y4 := I2.cell 4
                simp at x0 x1 x2 x3 x4 y0 y1 y2 y3 y4
                have HF : Hid (TbSaid B t (.slice (some ⟨g, 0, none⟩) s.arr.length cap) b v m ⟨s.arr, s.bl, s.R, s.st⟩ w (st5 (st5 w6 (w.heap.size + 1) (.int .i64 x.k) (.int .i64 x.p) (.int .i64 x.q) (.string x.s) (.int .i64 x.r)) w.heap.size (.int .i64 y.k) (.int .i64 y.p) (.int .i64 y.q) (.string y.s) (.int .i64 y.r))) := Lib.hid (by
                  have h7 := HT1.out.ch0 HC6.out
                  exact tb_fin HCW.out (tb_after h7 (HC6.out.mono (fun g hg => absurd hg (not_nil g)))) HS.out (fun g hg => by
                    have hA := KA1.out.lt
                    have hB := KB1.out.lt
                    simp at hg
                    rcases hg with rfl | rfl
                    · exact ⟨fun hq => by have := HNT.out _ hq; omega, hA, by omega⟩
                    · exact ⟨fun hq => by have := HNT.out _ hq; omega, hB, by omega⟩))
                generalize (st5 (st5 w6 (w.heap.size + 1) (.int .i64 x.k) (.int .i64 x.p) (.int .i64 x.q) (.string x.s) (.int .i64 x.r)) w.heap.size (.int .i64 y.k) (.int .i64 y.p) (.int .i64 y.q) (.string y.s) (.int .i64 y.r)) = W9 at *
                refine bodyPost_ret (v := .tuple #[.agg #[.int .i64 y.k, .int .i64 y.p, .int .i64 y.q, .string y.s, .int .i64 y.r], .agg #[.int .i64 x.k, .int .i64 x.p, .int .i64 x.q, .string x.s, .int .i64 x.r], .bool true, .int .i64 0]) (by simp [results, Try.results37, go_sem, x0, x1, x2, x3, x4, y0, y1, y2, y3, y4]) rfl ⟨rfl, HF.out⟩))
    · obtain rfl : i = s.arr.length := by have := HI.out; omega
      have hlt2 : ¬ (s.arr.length : Int) < (s.arr.length : Int) := by omega
      have HF0 : Hid (fstA s.arr a = s.arr.length) := Lib.hid (by rw [HIF.out.2, fstA_end hlt])
      have HNE : Hid (neN s a = nextR s.R v5z) := Lib.hid (by unfold neN; rw [HM.out, HF0.out, List.getElem?_eq_none (Nat.le_refl _)])
      have DD : True := trivial
      clear hlt
      go_upto_region 5 with fail
      by_cases hmb : a = s.bl
      · have emb : ((a : Int) == (s.bl : Int)) = true := beq_iff_eq.2 (by omega)
        have HNS : Hid (neS s a = ⟨s.arr, s.arr.length, s.R, s.st⟩) := Lib.hid (by unfold neS; rw [HM.out, HF0.out, if_pos hmb])
        clear hmb
        have HTN := Lib.hid (tb_bl HT0.out s.arr.length (Nat.le_refl _))
        go_upto_region 7 with fail
        generalize (wr.setCell ⟨t, 1, none⟩ (.int .i64 (s.arr.length : Int))) = V1 at *
        have HT1 := Lib.hid HTN.out.1
        have HC1 := HTN.out.2
        have HCW : Hid (Ch (tbS t (.slice p s.arr.length cap) b v m) w V1) := Lib.hid ((HC0.out.mono (fun g hg => absurd hg (not_nil g))).trans (HC1.mono (fun g hg => by simp at hg; subst hg; simp [tbS])))
        have KA1 := Lib.hid (KA0.out.ch HC1 (by have := HNT.out t (by simp [tbS]); simp; omega))
        have KB1 := Lib.hid (KB0.out.ch HC1 (by have := HNT.out t (by simp [tbS]); simp; omega))
        clear HC1 HTN c0 c1 hbl DD f1
        have c2 : V1.cell? ⟨t, 2, none⟩ = some (.pointer (some ⟨b, 0, none⟩)) := HT1.out.blk.cell 2
        have c0 : V1.cell? ⟨t, 0, none⟩ = some (.slice p s.arr.length cap) := HT1.out.blk.cell 0
        have hbl := HT1.out.blk.lt
        have QN0 := next_R B b v m s.R v5z V1 HT1.out.om (by have := HLL.out; omega)
        obtain ⟨y, hy⟩ : ∃ y, nextR s.R v5z = y := ⟨_, rfl⟩
        rw [hy] at HNE QN0
        have QN : Hid (Calls Try.prog 40 #[.pointer (some ⟨b, 0, none⟩), .agg #[.int .i64 0, .int .i64 0, .int .i64 0, .string ⟨#[]⟩, .int .i64 0]] V1 fun e w' => e = .returned (NxV y) ∧ OmR B b v m s.R w' ∧ Ch (omS b v m) V1 w') := Lib.hid QN0
        clear QN0 hy
        unfold NxV at QN
        go_wp2_with (go_simp; go_at_call 40; (with_reducible refine (QN.out).mono ?_); rintro e w7 ⟨rfl, ho7, hc7⟩; have HO7 := Lib.hid ho7; have HC7 := Lib.hid hc7; have KA7 := Lib.hid (KA1.out.ch hc7 (fun hq => by have := HNT.out w.heap.size (by simp [tbS, hq]); omega)); have KB7 := Lib.hid (KB1.out.ch hc7 (fun hq => by have := HNT.out (w.heap.size + 1) (by simp [tbS, hq]); omega)); have r0 : w7.cell? ⟨w.heap.size, 0, none⟩ = some (.int .i64 0) := KA7.out.cell 0; have r1 : w7.cell? ⟨w.heap.size, 1, none⟩ = some (.int .i64 0) := KA7.out.cell 1; have r2 : w7.cell? ⟨w.heap.size, 2, none⟩ = some (.int .i64 0) := KA7.out.cell 2; have r3 : w7.cell? ⟨w.heap.size, 3, none⟩ = some (.string ⟨#[]⟩) := KA7.out.cell 3; have r4 : w7.cell? ⟨w.heap.size, 4, none⟩ = some (.int .i64 0) := KA7.out.cell 4; have rf0 := KA7.out.fz 0; have rf1 := KA7.out.fz 1; have rf2 := KA7.out.fz 2; have rf3 := KA7.out.fz 3; have rf4 := KA7.out.fz 4; have rl := KA7.out.lt; have q0 : w7.cell? ⟨(w.heap.size + 1), 0, none⟩ = some (.int .i64 0) := KB7.out.cell 0; have q1 : w7.cell? ⟨(w.heap.size + 1), 1, none⟩ = some (.int .i64 0) := KB7.out.cell 1; have q2 : w7.cell? ⟨(w.heap.size + 1), 2, none⟩ = some (.int .i64 0) := KB7.out.cell 2; have q3 : w7.cell? ⟨(w.heap.size + 1), 3, none⟩ = some (.string ⟨#[]⟩) := KB7.out.cell 3; have q4 : w7.cell? ⟨(w.heap.size + 1), 4, none⟩ = some (.int .i64 0) := KB7.out.cell 4; have qf0 := KB7.out.fz 0; have qf1 := KB7.out.fz 1; have qf2 := KB7.out.fz 2; have qf3 := KB7.out.fz 3; have qf4 := KB7.out.fz 4; have ql := KB7.out.lt; clear ho7 hc7)
        rw [HNE.out, HNS.out]
        unfold NxV
        show bodyPost _ _ _ Exit.ret _ (st5 (st5 w7 w.heap.size (.int .i64 y.key.k) (.int .i64 y.key.p) (.int .i64 y.key.q) (.string y.key.s) (.int .i64 y.key.r)) (w.heap.size + 1) (.int .i64 y.val.k) (.int .i64 y.val.p) (.int .i64 y.val.q) (.string y.val.s) (.int .i64 y.val.r))
        have I1 : Blk 26 w.heap.size #[.int .i64 y.key.k, .int .i64 y.key.p, .int .i64 y.key.q, .string y.key.s, .int .i64 y.key.r] (st5 (st5 w7 w.heap.size (.int .i64 y.key.k) (.int .i64 y.key.p) (.int .i64 y.key.q) (.string y.key.s) (.int .i64 y.key.r)) (w.heap.size + 1) (.int .i64 y.val.k) (.int .i64 y.val.p) (.int .i64 y.val.q) (.string y.val.s) (.int .i64 y.val.r)) := (st5_blk KA7.out).ch (st5_ch (S := [(w.heap.size + 1)]) (Ch.refl _ _) (.inl (by simp))) (by simp)
        have I2 : Blk 26 (w.heap.size + 1) #[.int .i64 y.val.k, .int .i64 y.val.p, .int .i64 y.val.q, .string y.val.s, .int .i64 y.val.r] (st5 (st5 w7 w.heap.size (.int .i64 y.key.k) (.int .i64 y.key.p) (.int .i64 y.key.q) (.string y.key.s) (.int .i64 y.key.r)) (w.heap.size + 1) (.int .i64 y.val.k) (.int .i64 y.val.p) (.int .i64 y.val.q) (.string y.val.s) (.int .i64 y.val.r)) := st5_blk (KB7.out.ch (st5_ch (S := [w.heap.size]) (Ch.refl _ _) (.inl (by simp))) (by simp))
        have HS : Hid (Ch [w.heap.size, (w.heap.size + 1)] w7 (st5 (st5 w7 w.heap.size (.int .i64 y.key.k) (.int .i64 y.key.p) (.int .i64 y.key.q) (.string y.key.s) (.int .i64 y.key.r)) (w.heap.size + 1) (.int .i64 y.val.k) (.int .i64 y.val.p) (.int .i64 y.val.q) (.string y.val.s) (.int .i64 y.val.r))) := Lib.hid (st5_ch (st5_ch (Ch.refl _ _) (.inl (by simp))) (.inl (by simp)))
        have x0 := I1.cell 0
        have x1 := I1.cell 1
        have x2 := I1.cell 2
        have x3 := I1.cell 3
        have x4 := I1.cell 4
        have y0 := I2.cell 0
        have y1 := I2.cell 1
        have y2 := I2.cell 2
        have y3 := I2.cell 3
        have y4 := I2.cell 4
        simp at x0 x1 x2 x3 x4 y0 y1 y2 y3 y4
        have HF : Hid (TbSaid B t (.slice p s.arr.length cap) b v m ⟨s.arr, s.arr.length, s.R, s.st⟩ w (st5 (st5 w7 w.heap.size (.int .i64 y.key.k) (.int .i64 y.key.p) (.int .i64 y.key.q) (.string y.key.s) (.int .i64 y.key.r)) (w.heap.size + 1) (.int .i64 y.val.k) (.int .i64 y.val.p) (.int .i64 y.val.q) (.string y.val.s) (.int .i64 y.val.r))) := Lib.hid (by
          have h7 := om_tb HT1.out HO7.out HC7.out
          exact tb_fin HCW.out (tb_after h7 (HC7.out.mono (fun g hg => by simp [tbS, hg]))) HS.out (fun g hg => by
            have hA := KA1.out.lt
            have hB := KB1.out.lt
            simp at hg
            rcases hg with rfl | rfl
            · exact ⟨fun hq => by have := HNT.out _ hq; omega, hA, by omega⟩
            · exact ⟨fun hq => by have := HNT.out _ hq; omega, hB, by omega⟩))
        generalize (st5 (st5 w7 w.heap.size (.int .i64 y.key.k) (.int .i64 y.key.p) (.int .i64 y.key.q) (.string y.key.s) (.int .i64 y.key.r)) (w.heap.size + 1) (.int .i64 y.val.k) (.int .i64 y.val.p) (.int .i64 y.val.q) (.string y.val.s) (.int .i64 y.val.r)) = W9 at *
        refine bodyPost_ret (v := .tuple #[.agg #[.int .i64 y.key.k, .int .i64 y.key.p, .int .i64 y.key.q, .string y.key.s, .int .i64 y.key.r], .agg #[.int .i64 y.val.k, .int .i64 y.val.p, .int .i64 y.val.q, .string y.val.s, .int .i64 y.val.r], .bool y.ok, .int .i64 y.err]) (by simp [results, Try.results37, go_sem, x0, x1, x2, x3, x4, y0, y1, y2, y3, y4]) rfl ⟨rfl, HF.out⟩
      · have emb : ((a : Int) == (s.bl : Int)) = false := beq_eq_false_iff_ne.2 (by omega)
        have HNS : Hid (neS s a = ⟨s.arr, s.bl, s.R, s.st⟩) := Lib.hid (by unfold neS; rw [HM.out, if_neg hmb])
        clear hmb
        go_upto_region 7 with fail
        obtain ⟨V1, hV1⟩ : ∃ V1, V1 = wr := ⟨_, rfl⟩
        rw [← hV1]
        have HT1 : Hid (Tb B t (.slice p s.arr.length cap) b v m ⟨s.arr, s.bl, s.R, s.st⟩ V1) := Lib.hid (by rw [hV1]; exact HT0.out)
        have HCW : Hid (Ch (tbS t (.slice p s.arr.length cap) b v m) w V1) := Lib.hid (by rw [hV1]; exact HC0.out.mono (fun g hg => absurd hg (not_nil g)))
        have KA1 : Hid (Blk 26 w.heap.size #[.int .i64 0, .int .i64 0, .int .i64 0, .string ⟨#[]⟩, .int .i64 0] V1) := Lib.hid (by rw [hV1]; exact KA0.out)
        have KB1 : Hid (Blk 26 (w.heap.size + 1) #[.int .i64 0, .int .i64 0, .int .i64 0, .string ⟨#[]⟩, .int .i64 0] V1) := Lib.hid (by rw [hV1]; exact KB0.out)
        clear hV1 c0 c1 hbl DD f1
        have c2 : V1.cell? ⟨t, 2, none⟩ = some (.pointer (some ⟨b, 0, none⟩)) := HT1.out.blk.cell 2
        have c0 : V1.cell? ⟨t, 0, none⟩ = some (.slice p s.arr.length cap) := HT1.out.blk.cell 0
        have hbl := HT1.out.blk.lt
        have QN0 := next_R B b v m s.R v5z V1 HT1.out.om (by have := HLL.out; omega)
        obtain ⟨y, hy⟩ : ∃ y, nextR s.R v5z = y := ⟨_, rfl⟩
        rw [hy] at HNE QN0
        have QN : Hid (Calls Try.prog 40 #[.pointer (some ⟨b, 0, none⟩), .agg #[.int .i64 0, .int .i64 0, .int .i64 0, .string ⟨#[]⟩, .int .i64 0]] V1 fun e w' => e = .returned (NxV y) ∧ OmR B b v m s.R w' ∧ Ch (omS b v m) V1 w') := Lib.hid QN0
        clear QN0 hy
        unfold NxV at QN
        go_wp2_with (go_simp; go_at_call 40; (with_reducible refine (QN.out).mono ?_); rintro e w7 ⟨rfl, ho7, hc7⟩; have HO7 := Lib.hid ho7; have HC7 := Lib.hid hc7; have KA7 := Lib.hid (KA1.out.ch hc7 (fun hq => by have := HNT.out w.heap.size (by simp [tbS, hq]); omega)); have KB7 := Lib.hid (KB1.out.ch hc7 (fun hq => by have := HNT.out (w.heap.size + 1) (by simp [tbS, hq]); omega)); have r0 : w7.cell? ⟨w.heap.size, 0, none⟩ = some (.int .i64 0) := KA7.out.cell 0; have r1 : w7.cell? ⟨w.heap.size, 1, none⟩ = some (.int .i64 0) := KA7.out.cell 1; have r2 : w7.cell? ⟨w.heap.size, 2, none⟩ = some (.int .i64 0) := KA7.out.cell 2; have r3 : w7.cell? ⟨w.heap.size, 3, none⟩ = some (.string ⟨#[]⟩) := KA7.out.cell 3; have r4 : w7.cell? ⟨w.heap.size, 4, none⟩ = some (.int .i64 0) := KA7.out.cell 4; have rf0 := KA7.out.fz 0; have rf1 := KA7.out.fz 1; have rf2 := KA7.out.fz 2; have rf3 := KA7.out.fz 3; have rf4 := KA7.out.fz 4; have rl := KA7.out.lt; have q0 : w7.cell? ⟨(w.heap.size + 1), 0, none⟩ = some (.int .i64 0) := KB7.out.cell 0; have q1 : w7.cell? ⟨(w.heap.size + 1), 1, none⟩ = some (.int .i64 0) := KB7.out.cell 1; have q2 : w7.cell? ⟨(w.heap.size + 1), 2, none⟩ = some (.int .i64 0) := KB7.out.cell 2; have q3 : w7.cell? ⟨(w.heap.size + 1), 3, none⟩ = some (.string ⟨#[]⟩) := KB7.out.cell 3; have q4 : w7.cell? ⟨(w.heap.size + 1), 4, none⟩ = some (.int .i64 0) := KB7.out.cell 4; have qf0 := KB7.out.fz 0; have qf1 := KB7.out.fz 1; have qf2 := KB7.out.fz 2; have qf3 := KB7.out.fz 3; have qf4 := KB7.out.fz 4; have ql := KB7.out.lt; clear ho7 hc7)
        rw [HNE.out, HNS.out]
        unfold NxV
        show bodyPost _ _ _ Exit.ret _ (st5 (st5 w7 w.heap.size (.int .i64 y.key.k) (.int .i64 y.key.p) (.int .i64 y.key.q) (.string y.key.s) (.int .i64 y.key.r)) (w.heap.size + 1) (.int .i64 y.val.k) (.int .i64 y.val.p) (.int .i64 y.val.q) (.string y.val.s) (.int .i64 y.val.r))
        have I1 : Blk 26 w.heap.size #[.int .i64 y.key.k, .int .i64 y.key.p, .int .i64 y.key.q, .string y.key.s, .int .i64 y.key.r] (st5 (st5 w7 w.heap.size (.int .i64 y.key.k) (.int .i64 y.key.p) (.int .i64 y.key.q) (.string y.key.s) (.int .i64 y.key.r)) (w.heap.size + 1) (.int .i64 y.val.k) (.int .i64 y.val.p) (.int .i64 y.val.q) (.string y.val.s) (.int .i64 y.val.r)) := (st5_blk KA7.out).ch (st5_ch (S := [(w.heap.size + 1)]) (Ch.refl _ _) (.inl (by simp))) (by simp)
        have I2 : Blk 26 (w.heap.size + 1) #[.int .i64 y.val.k, .int .i64 y.val.p, .int .i64 y.val.q, .string y.val.s, .int .i64 y.val.r] (st5 (st5 w7 w.heap.size (.int .i64 y.key.k) (.int .i64 y.key.p) (.int .i64 y.key.q) (.string y.key.s) (.int .i64 y.key.r)) (w.heap.size + 1) (.int .i64 y.val.k) (.int .i64 y.val.p) (.int .i64 y.val.q) (.string y.val.s) (.int .i64 y.val.r)) := st5_blk (KB7.out.ch (st5_ch (S := [w.heap.size]) (Ch.refl _ _) (.inl (by simp))) (by simp))
        have HS : Hid (Ch [w.heap.size, (w.heap.size + 1)] w7 (st5 (st5 w7 w.heap.size (.int .i64 y.key.k) (.int .i64 y.key.p) (.int .i64 y.key.q) (.string y.key.s) (.int .i64 y.key.r)) (w.heap.size + 1) (.int .i64 y.val.k) (.int .i64 y.val.p) (.int .i64 y.val.q) (.string y.val.s) (.int .i64 y.val.r))) := Lib.hid (st5_ch (st5_ch (Ch.refl _ _) (.inl (by simp))) (.inl (by simp)))
        have x0 := I1.cell 0
        have x1 := I1.cell 1
        have x2 := I1.cell 2
        have x3 := I1.cell 3
        have x4 := I1.cell 4
        have y0 := I2.cell 0
        have y1 := I2.cell 1
        have y2 := I2.cell 2
        have y3 := I2.cell 3
        have y4 := I2.cell 4
        simp at x0 x1 x2 x3 x4 y0 y1 y2 y3 y4
        have HF : Hid (TbSaid B t (.slice p s.arr.length cap) b v m ⟨s.arr, s.bl, s.R, s.st⟩ w (st5 (st5 w7 w.heap.size (.int .i64 y.key.k) (.int .i64 y.key.p) (.int .i64 y.key.q) (.string y.key.s) (.int .i64 y.key.r)) (w.heap.size + 1) (.int .i64 y.val.k) (.int .i64 y.val.p) (.int .i64 y.val.q) (.string y.val.s) (.int .i64 y.val.r))) := Lib.hid (by
          have h7 := om_tb HT1.out HO7.out HC7.out
          exact tb_fin HCW.out (tb_after h7 (HC7.out.mono (fun g hg => by simp [tbS, hg]))) HS.out (fun g hg => by
            have hA := KA1.out.lt
            have hB := KB1.out.lt
            simp at hg
            rcases hg with rfl | rfl
            · exact ⟨fun hq => by have := HNT.out _ hq; omega, hA, by omega⟩
            · exact ⟨fun hq => by have := HNT.out _ hq; omega, hB, by omega⟩))
        generalize (st5 (st5 w7 w.heap.size (.int .i64 y.key.k) (.int .i64 y.key.p) (.int .i64 y.key.q) (.string y.key.s) (.int .i64 y.key.r)) (w.heap.size + 1) (.int .i64 y.val.k) (.int .i64 y.val.p) (.int .i64 y.val.q) (.string y.val.s) (.int .i64 y.val.r)) = W9 at *
        refine bodyPost_ret (v := .tuple #[.agg #[.int .i64 y.key.k, .int .i64 y.key.p, .int .i64 y.key.q, .string y.key.s, .int .i64 y.key.r], .agg #[.int .i64 y.val.k, .int .i64 y.val.p, .int .i64 y.val.q, .string y.val.s, .int .i64 y.val.r], .bool y.ok, .int .i64 y.err]) (by simp [results, Try.results37, go_sem, x0, x1, x2, x3, x4, y0, y1, y2, y3, y4]) rfl ⟨rfl, HF.out⟩
set_option maxHeartbeats 16000000 in
theorem ne_2 (B t : Nat) (va : Value) (b : Nat) (v m : Value) (s : TS) (w : World) (h : Tb B t va b v m s w) (a : Nat) (ha : a ≤ s.arr.length) (hL : s.arr.length + s.R.length ≤ 900000) (hm : a < s.bl) :
    Calls Try.prog 37 #[.pointer (some ⟨t, 0, none⟩), .int .i64 (a : Int)] w fun e w' => e = .returned (NxV (neN s a)) ∧ TbSaid B t va b v m (neS s a) w w' := by
  obtain ⟨p, cap, rfl, hp⟩ := h.form
  have HT0 : Hid (Tb B t (.slice p s.arr.length cap) b v m s ((w.alloc (.cells #[.int .i64 0, .int .i64 0, .int .i64 0, .string ⟨#[]⟩, .int .i64 0] 26)).alloc (.cells #[.int .i64 0, .int .i64 0, .int .i64 0, .string ⟨#[]⟩, .int .i64 0] 26))) := Lib.hid (h.ch0 (((Ch.refl [] w).alloc _).alloc _))
  have KA0 : Hid (Blk 26 w.heap.size #[.int .i64 0, .int .i64 0, .int .i64 0, .string ⟨#[]⟩, .int .i64 0] ((w.alloc (.cells #[.int .i64 0, .int .i64 0, .int .i64 0, .string ⟨#[]⟩, .int .i64 0] 26)).alloc (.cells #[.int .i64 0, .int .i64 0, .int .i64 0, .string ⟨#[]⟩, .int .i64 0] 26))) := Lib.hid ((Blk.new w 26 _ _ rfl).ch ((Ch.refl [] _).alloc _) (not_nil _))
  have KB0 : Hid (Blk 26 (w.heap.size + 1) #[.int .i64 0, .int .i64 0, .int .i64 0, .string ⟨#[]⟩, .int .i64 0] ((w.alloc (.cells #[.int .i64 0, .int .i64 0, .int .i64 0, .string ⟨#[]⟩, .int .i64 0] 26)).alloc (.cells #[.int .i64 0, .int .i64 0, .int .i64 0, .string ⟨#[]⟩, .int .i64 0] 26))) := Lib.hid (Blk.new _ 26 _ _ (by simp))
  have HC0 : Hid (Ch [] w ((w.alloc (.cells #[.int .i64 0, .int .i64 0, .int .i64 0, .string ⟨#[]⟩, .int .i64 0] 26)).alloc (.cells #[.int .i64 0, .int .i64 0, .int .i64 0, .string ⟨#[]⟩, .int .i64 0] 26))) := Lib.hid (((Ch.refl [] w).alloc _).alloc _)
  have HNT : Hid (∀ g ∈ tbS t (.slice p s.arr.length cap) b v m, g < w.heap.size) := Lib.hid fun g hg => (h.lt g hg).2
  have HLL := Lib.hid hL
  have hbd := h.bnd
  have HM : Hid (max a s.bl = s.bl) := Lib.hid (by omega)
  have hm2 : max (a : Int) (s.bl : Int) = (s.bl : Int) := by omega
  have hm3 : (a : Int) < (s.bl : Int) := by omega
  have hm4 : ¬ (s.bl : Int) ≤ (a : Int) := by omega
  have HMl : Hid (s.bl ≤ s.arr.length) := Lib.hid (by omega)
  have HKEY0 : Hid (0 < s.arr.length → ∃ g, p = some ⟨g, 0, none⟩) := Lib.hid fun h0 => by
    obtain ⟨g, h1, _⟩ := hp h0
    exact ⟨g, h1⟩
  clear h ha hp hbd hL hm
  go_enter Try.func37, Try.ntmps37
  go_upto_region 1 with fail
  generalize ((w.alloc (.cells #[.int .i64 0, .int .i64 0, .int .i64 0, .string ⟨#[]⟩, .int .i64 0] 26)).alloc (.cells #[.int .i64 0, .int .i64 0, .int .i64 0, .string ⟨#[]⟩, .int .i64 0] 26)) = w0 at *
  have c1 : w0.cell? ⟨t, 1, none⟩ = some (.int .i64 (s.bl : Int)) := HT0.out.blk.cell 1
  have c0 : w0.cell? ⟨t, 0, none⟩ = some (.slice p s.arr.length cap) := HT0.out.blk.cell 0
  have hbl := HT0.out.blk.lt
  have f1 := HT0.out.blk.fz 1
  go_wp2
  go_loopw [9] (fun v9 wr => ∃ i : Nat, v9 = .int .i64 (i : Int) ∧ Hid (i ≤ s.arr.length ∧ fstA s.arr s.bl = fstA s.arr i) ∧ Hid (wr = w0)) (fun v9 _ => s.arr.length - (intOf v9).toNat)
  case atStart => exact ⟨s.bl, rfl, Lib.hid ⟨HMl.out, rfl⟩, Lib.hid rfl⟩
  case round =>
    obtain ⟨i, rfl, HIF, HW⟩ := hrel
    rename World => wr
    obtain rfl : wr = w0 := HW.out
    clear HW
    have HI : Hid (i ≤ s.arr.length) := Lib.hid HIF.out.1
    by_cases hlt : i < s.arr.length
    · have hlt2 : (i : Int) < (s.arr.length : Int) := by omega
      have hi0 : (0 : Int) ≤ (i : Int) := by omega
      have di : IntKind.i64.wrap ((i : Int) + 1) = (i : Int) + 1 := IntWalk.i64_in _ (by have := HLL.out; omega)
      obtain ⟨g, rfl⟩ := HKEY0.out (by omega)
      have HGM : Hid (g ∈ tbS t (.slice (some ⟨g, 0, none⟩) s.arr.length cap) b v m) := Lib.hid (by simp [tbS, Go.Proofs.Ytaaelhhiceildaa.ob, Value.ownBlock])
      obtain ⟨x, hx⟩ : ∃ x, s.arr[i] = x := ⟨_, rfl⟩
      have HXI : Hid (s.arr[i]? = some x) := Lib.hid (by rw [List.getElem?_eq_getElem hlt, hx])
      have HKEY : Hid (∀ V1 : World, ∀ b1, Tb B t (.slice (some ⟨g, 0, none⟩) s.arr.length cap) b v m ⟨s.arr, b1, s.R, s.st⟩ V1 → ∀ W, Ch [] V1 W → ∀ c, c < 5 → W.cell? ⟨g, i * 5 + c, none⟩ = (vC x)[c]?) := Lib.hid fun V1 b1 hV W hc c h5 => by
        obtain ⟨p', cap', e', hp'⟩ := (hV.ch0 hc).form
        injection e' with e1 e2 e3
        obtain ⟨g', q1, q2, _, q3⟩ := hp' (by show 0 < s.arr.length; omega)
        have : g' = g := by rw [q1] at e1; injection e1 with e1; injection e1 with e1; exact e1.symm
        subst this
        rw [← hx]
        exact q3 i hlt c h5
      have hgl : g < wr.heap.size := (HT0.out.lt g HGM.out).2
      have d0 : wr.cell? ⟨g, i * 5, none⟩ = some (.int .i64 x.k) := HKEY.out wr s.bl HT0.out wr (Ch.refl [] wr) 0 (by omega)
      have d1 : wr.cell? ⟨g, i * 5 + 1, none⟩ = some (.int .i64 x.p) := HKEY.out wr s.bl HT0.out wr (Ch.refl [] wr) 1 (by omega)
      have d2 : wr.cell? ⟨g, i * 5 + 2, none⟩ = some (.int .i64 x.q) := HKEY.out wr s.bl HT0.out wr (Ch.refl [] wr) 2 (by omega)
      have d3 : wr.cell? ⟨g, i * 5 + 3, none⟩ = some (.string x.s) := HKEY.out wr s.bl HT0.out wr (Ch.refl [] wr) 3 (by omega)
      have d4 : wr.cell? ⟨g, i * 5 + 4, none⟩ = some (.int .i64 x.r) := HKEY.out wr s.bl HT0.out wr (Ch.refl [] wr) 4 (by omega)
      have DD : True := trivial
      by_cases hz : x.k = 0
      · have ez : (x.k == 0) = true := beq_iff_eq.2 hz
        have HST : Hid (fstA s.arr s.bl = fstA s.arr (i + 1)) := Lib.hid (by rw [HIF.out.2, fstA_nil hlt (by rw [hx]; exact hz)])
        have HLT := Lib.hid hlt
        clear hz hx hlt DD
        go_wp2_with fail
        go_roundw
        (case rel => exact ⟨i + 1, by go_num, Lib.hid ⟨by have := HLT.out; omega, HST.out⟩, by first | exact Lib.hid rfl | exact Lib.hid trivial⟩)
        (case measure => have := HLT.out; simp [intOf]; omega)
      · have ez : (x.k == 0) = false := beq_eq_false_iff_ne.2 hz
        have HF0 : Hid (fstA s.arr s.bl = i) := Lib.hid (by rw [HIF.out.2, fstA_at hlt (by rw [hx]; exact hz)])
        have HNE : Hid (neN s a = ⟨keyV ((i : Int) + 1), x, true, 0⟩) := Lib.hid (by unfold neN; rw [HM.out, HF0.out, HXI.out])
        have enl : ((i : Int) == (s.arr.length : Int)) = false := beq_eq_false_iff_ne.2 (by omega)
        clear hz hx hlt
        have HKV := Lib.hid HKEY.out
        clear HKEY
        go_upto_region 5 with fail
        clear d0 d1 d2 d3 d4 hgl
        have hmb : s.bl = s.bl := rfl
        have emb : ((s.bl : Int) == (s.bl : Int)) = true := beq_iff_eq.2 (by omega)
        have HNS : Hid (neS s a = ⟨s.arr, i, s.R, s.st⟩) := Lib.hid (by unfold neS; rw [HM.out, HF0.out, if_pos hmb])
        clear hmb
        have HTN := Lib.hid (tb_bl HT0.out i HI.out)
        go_upto_region 7 with fail
        generalize (wr.setCell ⟨t, 1, none⟩ (.int .i64 (i : Int))) = V1 at *
        have HT1 := Lib.hid HTN.out.1
        have HC1 := HTN.out.2
        have HCW : Hid (Ch (tbS t (.slice (some ⟨g, 0, none⟩) s.arr.length cap) b v m) w V1) := Lib.hid ((HC0.out.mono (fun g hg => absurd hg (not_nil g))).trans (HC1.mono (fun g hg => by simp at hg; subst hg; simp [tbS])))
        have KA1 := Lib.hid (KA0.out.ch HC1 (by have := HNT.out t (by simp [tbS]); simp; omega))
        have KB1 := Lib.hid (KB0.out.ch HC1 (by have := HNT.out t (by simp [tbS]); simp; omega))
        clear HC1 HTN c0 c1 hbl DD f1
        have HKEY := Lib.hid (HKV.out V1 _ HT1.out)
        have c0 : V1.cell? ⟨t, 0, none⟩ = some (.slice (some ⟨g, 0, none⟩) s.arr.length cap) := HT1.out.blk.cell 0
        have hbl := HT1.out.blk.lt
        have hgl : g < V1.heap.size := (HT1.out.lt g HGM.out).2
        have d0 : V1.cell? ⟨g, i * 5, none⟩ = some (.int .i64 x.k) := HKEY.out V1 (Ch.refl [] V1) 0 (by omega)
        have d1 : V1.cell? ⟨g, i * 5 + 1, none⟩ = some (.int .i64 x.p) := HKEY.out V1 (Ch.refl [] V1) 1 (by omega)
        have d2 : V1.cell? ⟨g, i * 5 + 2, none⟩ = some (.int .i64 x.q) := HKEY.out V1 (Ch.refl [] V1) 2 (by omega)
        have d3 : V1.cell? ⟨g, i * 5 + 3, none⟩ = some (.string x.s) := HKEY.out V1 (Ch.refl [] V1) 3 (by omega)
        have d4 : V1.cell? ⟨g, i * 5 + 4, none⟩ = some (.int .i64 x.r) := HKEY.out V1 (Ch.refl [] V1) 4 (by omega)
        obtain ⟨y, hy⟩ : ∃ y, keyV ((i : Int) + 1) = y := ⟨_, rfl⟩
        rw [hy] at HNE
        have HKY := Lib.hid hy
        clear hy
        have QI : Hid (∀ W, Calls Try.prog 29 #[.int .i64 ((i : Int) + 1)] W fun e w' => e = .returned (.agg #[.int .i64 y.k, .int .i64 y.p, .int .i64 y.q, .string y.s, .int .i64 y.r]) ∧ Below W.heap.size W w') := Lib.hid fun W => by rw [← HKY.out]; exact ofInt_any _ W
        have nn1 : ¬ g = w.heap.size := by have := HNT.out g HGM.out; omega
        have nn2 : ¬ g = (w.heap.size + 1) := by have := HNT.out g HGM.out; omega
        have nn3 : ¬ t = w.heap.size := by have := HNT.out t (by simp [tbS]); omega
        have nn4 : ¬ t = (w.heap.size + 1) := by have := HNT.out t (by simp [tbS]); omega
        have nn5 : ¬ w.heap.size = g := fun e => nn1 e.symm
        have nn6 : ¬ (w.heap.size + 1) = g := fun e => nn2 e.symm
        have nn7 : ¬ w.heap.size = t := fun e => nn3 e.symm
        have nn8 : ¬ (w.heap.size + 1) = t := fun e => nn4 e.symm
        go_upto_region 9 with fail
        go_region_law (go_simp; go_at_call 29; (with_reducible refine (QI.out _).mono ?_); rintro e w6 ⟨rfl, hb6⟩; (first | have HC6 : Hid (Ch [] V1 w6) := Lib.hid (Ch.of_below hb6) | have HC6 : Hid (Ch [] V1 w6) := Lib.hid (((Ch.refl [] V1).drew).trans (Ch.of_below hb6)) | have HC6 : Hid (Ch [] V1 w6) := Lib.hid (((Ch.refl [] V1).drewN _).trans (Ch.of_below hb6))); have HT6 := Lib.hid (HT1.out.ch0 HC6.out); have c0b : w6.cell? ⟨t, 0, none⟩ = some (.slice (some ⟨g, 0, none⟩) s.arr.length cap) := HT6.out.blk.cell 0; have hblb := HT6.out.blk.lt; have hglb : g < w6.heap.size := (HT6.out.lt g HGM.out).2; have e0 : w6.cell? ⟨g, i * 5, none⟩ = some (.int .i64 x.k) := HKEY.out w6 HC6.out 0 (by omega); have e1 : w6.cell? ⟨g, i * 5 + 1, none⟩ = some (.int .i64 x.p) := HKEY.out w6 HC6.out 1 (by omega); have e2 : w6.cell? ⟨g, i * 5 + 2, none⟩ = some (.int .i64 x.q) := HKEY.out w6 HC6.out 2 (by omega); have e3 : w6.cell? ⟨g, i * 5 + 3, none⟩ = some (.string x.s) := HKEY.out w6 HC6.out 3 (by omega); have e4 : w6.cell? ⟨g, i * 5 + 4, none⟩ = some (.int .i64 x.r) := HKEY.out w6 HC6.out 4 (by omega); have KA7 := Lib.hid (KA1.out.ch HC6.out (not_nil _)); have KB7 := Lib.hid (KB1.out.ch HC6.out (not_nil _)); have r0 : w6.cell? ⟨w.heap.size, 0, none⟩ = some (.int .i64 0) := KA7.out.cell 0; have r1 : w6.cell? ⟨w.heap.size, 1, none⟩ = some (.int .i64 0) := KA7.out.cell 1; have r2 : w6.cell? ⟨w.heap.size, 2, none⟩ = some (.int .i64 0) := KA7.out.cell 2; have r3 : w6.cell? ⟨w.heap.size, 3, none⟩ = some (.string ⟨#[]⟩) := KA7.out.cell 3; have r4 : w6.cell? ⟨w.heap.size, 4, none⟩ = some (.int .i64 0) := KA7.out.cell 4; have rf0 := KA7.out.fz 0; have rf1 := KA7.out.fz 1; have rf2 := KA7.out.fz 2; have rf3 := KA7.out.fz 3; have rf4 := KA7.out.fz 4; have rl := KA7.out.lt; have q0 : w6.cell? ⟨(w.heap.size + 1), 0, none⟩ = some (.int .i64 0) := KB7.out.cell 0; have q1 : w6.cell? ⟨(w.heap.size + 1), 1, none⟩ = some (.int .i64 0) := KB7.out.cell 1; have q2 : w6.cell? ⟨(w.heap.size + 1), 2, none⟩ = some (.int .i64 0) := KB7.out.cell 2; have q3 : w6.cell? ⟨(w.heap.size + 1), 3, none⟩ = some (.string ⟨#[]⟩) := KB7.out.cell 3; have q4 : w6.cell? ⟨(w.heap.size + 1), 4, none⟩ = some (.int .i64 0) := KB7.out.cell 4; have qf0 := KB7.out.fz 0; have qf1 := KB7.out.fz 1; have qf2 := KB7.out.fz 2; have qf3 := KB7.out.fz 3; have qf4 := KB7.out.fz 4; have ql := KB7.out.lt; clear hb6)
        all_goals (
          go_wp2
          rw [HNE.out, HNS.out]
          unfold NxV
          first
          | (
              show bodyPost _ _ _ Exit.ret _ (st5 (st5 w6 w.heap.size (.int .i64 y.k) (.int .i64 y.p) (.int .i64 y.q) (.string y.s) (.int .i64 y.r)) (w.heap.size + 1) (.int .i64 x.k) (.int .i64 x.p) (.int .i64 x.q) (.string x.s) (.int .i64 x.r))
              have I1 : Blk 26 w.heap.size #[.int .i64 y.k, .int .i64 y.p, .int .i64 y.q, .string y.s, .int .i64 y.r] (st5 (st5 w6 w.heap.size (.int .i64 y.k) (.int .i64 y.p) (.int .i64 y.q) (.string y.s) (.int .i64 y.r)) (w.heap.size + 1) (.int .i64 x.k) (.int .i64 x.p) (.int .i64 x.q) (.string x.s) (.int .i64 x.r)) := (st5_blk KA7.out).ch (st5_ch (S := [(w.heap.size + 1)]) (Ch.refl _ _) (.inl (by simp))) (by simp)
              have I2 : Blk 26 (w.heap.size + 1) #[.int .i64 x.k, .int .i64 x.p, .int .i64 x.q, .string x.s, .int .i64 x.r] (st5 (st5 w6 w.heap.size (.int .i64 y.k) (.int .i64 y.p) (.int .i64 y.q) (.string y.s) (.int .i64 y.r)) (w.heap.size + 1) (.int .i64 x.k) (.int .i64 x.p) (.int .i64 x.q) (.string x.s) (.int .i64 x.r)) := st5_blk (KB7.out.ch (st5_ch (S := [w.heap.size]) (Ch.refl _ _) (.inl (by simp))) (by simp))
              have HS : Hid (Ch [w.heap.size, (w.heap.size + 1)] w6 (st5 (st5 w6 w.heap.size (.int .i64 y.k) (.int .i64 y.p) (.int .i64 y.q) (.string y.s) (.int .i64 y.r)) (w.heap.size + 1) (.int .i64 x.k) (.int .i64 x.p) (.int .i64 x.q) (.string x.s) (.int .i64 x.r))) := Lib.hid (st5_ch (st5_ch (Ch.refl _ _) (.inl (by simp))) (.inl (by simp)))
              have x0 := I1.cell 0
              have x1 := I1.cell 1
              have x2 := I1.cell 2
              have x3 := I1.cell 3
              have x4 := I1.cell 4
              have y0 := I2.cell 0
              have y1 := I2.cell 1
              have y2 := I2.cell 2
              have y3 := I2.cell 3
              have y4 := I2.cell 4
              simp at x0 x1 x2 x3 x4 y0 y1 y2 y3 y4
              have HF : Hid (TbSaid B t (.slice (some ⟨g, 0, none⟩) s.arr.length cap) b v m ⟨s.arr, i, s.R, s.st⟩ w (st5 (st5 w6 w.heap.size (.int .i64 y.k) (.int .i64 y.p) (.int .i64 y.q) (.string y.s) (.int .i64 y.r)) (w.heap.size + 1) (.int .i64 x.k) (.int .i64 x.p) (.int .i64 x.q) (.string x.s) (.int .i64 x.r))) := Lib.hid (by
                have h7 := HT1.out.ch0 HC6.out
                exact tb_fin HCW.out (tb_after h7 (HC6.out.mono (fun g hg => absurd hg (not_nil g)))) HS.out (fun g hg => by
                  have hA := KA1.out.lt
                  have hB := KB1.out.lt
                  simp at hg
                  rcases hg with rfl | rfl
                  · exact ⟨fun hq => by have := HNT.out _ hq; omega, hA, by omega⟩
                  · exact ⟨fun hq => by have := HNT.out _ hq; omega, hB, by omega⟩))
              generalize (st5 (st5 w6 w.heap.size (.int .i64 y.k) (.int .i64 y.p) (.int .i64 y.q) (.string y.s) (.int .i64 y.r)) (w.heap.size + 1) (.int .i64 x.k) (.int .i64 x.p) (.int .i64 x.q) (.string x.s) (.int .i64 x.r)) = W9 at *
              refine bodyPost_ret (v := .tuple #[.agg #[.int .i64 y.k, .int .i64 y.p, .int .i64 y.q, .string y.s, .int .i64 y.r], .agg #[.int .i64 x.k, .int .i64 x.p, .int .i64 x.q, .string x.s, .int .i64 x.r], .bool true, .int .i64 0]) (by simp [results, Try.results37, go_sem, x0, x1, x2, x3, x4, y0, y1, y2, y3, y4]) rfl ⟨rfl, HF.out⟩)
          | (
              show bodyPost _ _ _ Exit.ret _ (st5 (st5 w6 (w.heap.size + 1) (.int .i64 x.k) (.int .i64 x.p) (.int .i64 x.q) (.string x.s) (.int .i64 x.r)) w.heap.size (.int .i64 y.k) (.int .i64 y.p) (.int .i64 y.q) (.string y.s) (.int .i64 y.r))
              have I1 : Blk 26 w.heap.size #[.int .i64 y.k, .int .i64 y.p, .int .i64 y.q, .string y.s, .int .i64 y.r] (st5 (st5 w6 (w.heap.size + 1) (.int .i64 x.k) (.int .i64 x.p) (.int .i64 x.q) (.string x.s) (.int .i64 x.r)) w.heap.size (.int .i64 y.k) (.int .i64 y.p) (.int .i64 y.q) (.string y.s) (.int .i64 y.r)) := st5_blk (KA7.out.ch (st5_ch (S := [(w.heap.size + 1)]) (Ch.refl _ _) (.inl (by simp))) (by simp))
              have I2 : Blk 26 (w.heap.size + 1) #[.int .i64 x.k, .int .i64 x.p, .int .i64 x.q, .string x.s, .int .i64 x.r] (st5 (st5 w6 (w.heap.size + 1) (.int .i64 x.k) (.int .i64 x.p) (.int .i64 x.q) (.string x.s) (.int .i64 x.r)) w.heap.size (.int .i64 y.k) (.int .i64 y.p) (.int .i64 y.q) (.string y.s) (.int .i64 y.r)) := (st5_blk KB7.out).ch (st5_ch (S := [w.heap.size]) (Ch.refl _ _) (.inl (by simp))) (by simp)
              have HS : Hid (Ch [w.heap.size, (w.heap.size + 1)] w6 (st5 (st5 w6 (w.heap.size + 1) (.int .i64 x.k) (.int .i64 x.p) (.int .i64 x.q) (.string x.s) (.int .i64 x.r)) w.heap.size (.int .i64 y.k) (.int .i64 y.p) (.int .i64 y.q) (.string y.s) (.int .i64 y.r))) := Lib.hid (st5_ch (st5_ch (Ch.refl _ _) (.inl (by simp))) (.inl (by simp)))
              have x0 := I1.cell 0
              have x1 := I1.cell 1
              have x2 := I1.cell 2
              have x3 := I1.cell 3
              have x4 := I1.cell 4
              have y0 := I2.cell 0
              have y1 := I2.cell 1
              have y2 := I2.cell 2
              have y3 := I2.cell 3
              have y4 := I2.cell 4
              simp at x0 x1 x2 x3 x4 y0 y1 y2 y3 y4
              have HF : Hid (TbSaid B t (.slice (some ⟨g, 0, none⟩) s.arr.length cap) b v m ⟨s.arr, i, s.R, s.st⟩ w (st5 (st5 w6 (w.heap.size + 1) (.int .i64 x.k) (.int .i64 x.p) (.int .i64 x.q) (.string x.s) (.int .i64 x.r)) w.heap.size (.int .i64 y.k) (.int .i64 y.p) (.int .i64 y.q) (.string y.s) (.int .i64 y.r))) := Lib.hid (by
                have h7 := HT1.out.ch0 HC6.out
                exact tb_fin HCW.out (tb_after h7 (HC6.out.mono (fun g hg => absurd hg (not_nil g)))) HS.out (fun g hg => by
                  have hA := KA1.out.lt
                  have hB := KB1.out.lt
                  simp at hg
                  rcases hg with rfl | rfl
                  · exact ⟨fun hq => by have := HNT.out _ hq; omega, hA, by omega⟩
                  · exact ⟨fun hq => by have := HNT.out _ hq; omega, hB, by omega⟩))
              generalize (st5 (st5 w6 (w.heap.size + 1) (.int .i64 x.k) (.int .i64 x.p) (.int .i64 x.q) (.string x.s) (.int .i64 x.r)) w.heap.size (.int .i64 y.k) (.int .i64 y.p) (.int .i64 y.q) (.string y.s) (.int .i64 y.r)) = W9 at *
              refine bodyPost_ret (v := .tuple #[.agg #[.int .i64 y.k, .int .i64 y.p, .int .i64 y.q, .string y.s, .int .i64 y.r], .agg #[.int .i64 x.k, .int .i64 x.p, .int .i64 x.q, .string x.s, .int .i64 x.r], .bool true, .int .i64 0]) (by simp [results, Try.results37, go_sem, x0, x1, x2, x3, x4, y0, y1, y2, y3, y4]) rfl ⟨rfl, HF.out⟩))
    · obtain rfl : i = s.arr.length := by have := HI.out; omega
      have hlt2 : ¬ (s.arr.length : Int) < (s.arr.length : Int) := by omega
      have HF0 : Hid (fstA s.arr s.bl = s.arr.length) := Lib.hid (by rw [HIF.out.2, fstA_end hlt])
      have HNE : Hid (neN s a = nextR s.R v5z) := Lib.hid (by unfold neN; rw [HM.out, HF0.out, List.getElem?_eq_none (Nat.le_refl _)])
      have DD : True := trivial
      clear hlt
      go_upto_region 5 with fail
      have hmb : s.bl = s.bl := rfl
      have emb : ((s.bl : Int) == (s.bl : Int)) = true := beq_iff_eq.2 (by omega)
      have HNS : Hid (neS s a = ⟨s.arr, s.arr.length, s.R, s.st⟩) := Lib.hid (by unfold neS; rw [HM.out, HF0.out, if_pos hmb])
      clear hmb
      have HTN := Lib.hid (tb_bl HT0.out s.arr.length (Nat.le_refl _))
      go_upto_region 7 with fail
      generalize (wr.setCell ⟨t, 1, none⟩ (.int .i64 (s.arr.length : Int))) = V1 at *
      have HT1 := Lib.hid HTN.out.1
      have HC1 := HTN.out.2
      have HCW : Hid (Ch (tbS t (.slice p s.arr.length cap) b v m) w V1) := Lib.hid ((HC0.out.mono (fun g hg => absurd hg (not_nil g))).trans (HC1.mono (fun g hg => by simp at hg; subst hg; simp [tbS])))
      have KA1 := Lib.hid (KA0.out.ch HC1 (by have := HNT.out t (by simp [tbS]); simp; omega))
      have KB1 := Lib.hid (KB0.out.ch HC1 (by have := HNT.out t (by simp [tbS]); simp; omega))
      clear HC1 HTN c0 c1 hbl DD f1
      have c2 : V1.cell? ⟨t, 2, none⟩ = some (.pointer (some ⟨b, 0, none⟩)) := HT1.out.blk.cell 2
      have c0 : V1.cell? ⟨t, 0, none⟩ = some (.slice p s.arr.length cap) := HT1.out.blk.cell 0
      have hbl := HT1.out.blk.lt
      have QN0 := next_R B b v m s.R v5z V1 HT1.out.om (by have := HLL.out; omega)
      obtain ⟨y, hy⟩ : ∃ y, nextR s.R v5z = y := ⟨_, rfl⟩
      rw [hy] at HNE QN0
      have QN : Hid (Calls Try.prog 40 #[.pointer (some ⟨b, 0, none⟩), .agg #[.int .i64 0, .int .i64 0, .int .i64 0, .string ⟨#[]⟩, .int .i64 0]] V1 fun e w' => e = .returned (NxV y) ∧ OmR B b v m s.R w' ∧ Ch (omS b v m) V1 w') := Lib.hid QN0
      clear QN0 hy
      unfold NxV at QN
      go_wp2_with (go_simp; go_at_call 40; (with_reducible refine (QN.out).mono ?_); rintro e w7 ⟨rfl, ho7, hc7⟩; have HO7 := Lib.hid ho7; have HC7 := Lib.hid hc7; have KA7 := Lib.hid (KA1.out.ch hc7 (fun hq => by have := HNT.out w.heap.size (by simp [tbS, hq]); omega)); have KB7 := Lib.hid (KB1.out.ch hc7 (fun hq => by have := HNT.out (w.heap.size + 1) (by simp [tbS, hq]); omega)); have r0 : w7.cell? ⟨w.heap.size, 0, none⟩ = some (.int .i64 0) := KA7.out.cell 0; have r1 : w7.cell? ⟨w.heap.size, 1, none⟩ = some (.int .i64 0) := KA7.out.cell 1; have r2 : w7.cell? ⟨w.heap.size, 2, none⟩ = some (.int .i64 0) := KA7.out.cell 2; have r3 : w7.cell? ⟨w.heap.size, 3, none⟩ = some (.string ⟨#[]⟩) := KA7.out.cell 3; have r4 : w7.cell? ⟨w.heap.size, 4, none⟩ = some (.int .i64 0) := KA7.out.cell 4; have rf0 := KA7.out.fz 0; have rf1 := KA7.out.fz 1; have rf2 := KA7.out.fz 2; have rf3 := KA7.out.fz 3; have rf4 := KA7.out.fz 4; have rl := KA7.out.lt; have q0 : w7.cell? ⟨(w.heap.size + 1), 0, none⟩ = some (.int .i64 0) := KB7.out.cell 0; have q1 : w7.cell? ⟨(w.heap.size + 1), 1, none⟩ = some (.int .i64 0) := KB7.out.cell 1; have q2 : w7.cell? ⟨(w.heap.size + 1), 2, none⟩ = some (.int .i64 0) := KB7.out.cell 2; have q3 : w7.cell? ⟨(w.heap.size + 1), 3, none⟩ = some (.string ⟨#[]⟩) := KB7.out.cell 3; have q4 : w7.cell? ⟨(w.heap.size + 1), 4, none⟩ = some (.int .i64 0) := KB7.out.cell 4; have qf0 := KB7.out.fz 0; have qf1 := KB7.out.fz 1; have qf2 := KB7.out.fz 2; have qf3 := KB7.out.fz 3; have qf4 := KB7.out.fz 4; have ql := KB7.out.lt; clear ho7 hc7)
      rw [HNE.out, HNS.out]
      unfold NxV
      show bodyPost _ _ _ Exit.ret _ (st5 (st5 w7 w.heap.size (.int .i64 y.key.k) (.int .i64 y.key.p) (.int .i64 y.key.q) (.string y.key.s) (.int .i64 y.key.r)) (w.heap.size + 1) (.int .i64 y.val.k) (.int .i64 y.val.p) (.int .i64 y.val.q) (.string y.val.s) (.int .i64 y.val.r))
      have I1 : Blk 26 w.heap.size #[.int .i64 y.key.k, .int .i64 y.key.p, .int .i64 y.key.q, .string y.key.s, .int .i64 y.key.r] (st5 (st5 w7 w.heap.size (.int .i64 y.key.k) (.int .i64 y.key.p) (.int .i64 y.key.q) (.string y.key.s) (.int .i64 y.key.r)) (w.heap.size + 1) (.int .i64 y.val.k) (.int .i64 y.val.p) (.int .i64 y.val.q) (.string y.val.s) (.int .i64 y.val.r)) := (st5_blk KA7.out).ch (st5_ch (S := [(w.heap.size + 1)]) (Ch.refl _ _) (.inl (by simp))) (by simp)
      have I2 : Blk 26 (w.heap.size + 1) #[.int .i64 y.val.k, .int .i64 y.val.p, .int .i64 y.val.q, .string y.val.s, .int .i64 y.val.r] (st5 (st5 w7 w.heap.size (.int .i64 y.key.k) (.int .i64 y.key.p) (.int .i64 y.key.q) (.string y.key.s) (.int .i64 y.key.r)) (w.heap.size + 1) (.int .i64 y.val.k) (.int .i64 y.val.p) (.int .i64 y.val.q) (.string y.val.s) (.int .i64 y.val.r)) := st5_blk (KB7.out.ch (st5_ch (S := [w.heap.size]) (Ch.refl _ _) (.inl (by simp))) (by simp))
      have HS : Hid (Ch [w.heap.size, (w.heap.size + 1)] w7 (st5 (st5 w7 w.heap.size (.int .i64 y.key.k) (.int .i64 y.key.p) (.int .i64 y.key.q) (.string y.key.s) (.int .i64 y.key.r)) (w.heap.size + 1) (.int .i64 y.val.k) (.int .i64 y.val.p) (.int .i64 y.val.q) (.string y.val.s) (.int .i64 y.val.r))) := Lib.hid (st5_ch (st5_ch (Ch.refl _ _) (.inl (by simp))) (.inl (by simp)))
      have x0 := I1.cell 0
      have x1 := I1.cell 1
      have x2 := I1.cell 2
      have x3 := I1.cell 3
      have x4 := I1.cell 4
      have y0 := I2.cell 0
      have y1 := I2.cell 1
      have y2 := I2.cell 2
      have y3 := I2.cell 3
      have y4 := I2.cell 4
      simp at x0 x1 x2 x3 x4 y0 y1 y2 y3 y4
      have HF : Hid (TbSaid B t (.slice p s.arr.length cap) b v m ⟨s.arr, s.arr.length, s.R, s.st⟩ w (st5 (st5 w7 w.heap.size (.int .i64 y.key.k) (.int .i64 y.key.p) (.int .i64 y.key.q) (.string y.key.s) (.int .i64 y.key.r)) (w.heap.size + 1) (.int .i64 y.val.k) (.int .i64 y.val.p) (.int .i64 y.val.q) (.string y.val.s) (.int .i64 y.val.r))) := Lib.hid (by
        have h7 := om_tb HT1.out HO7.out HC7.out
        exact tb_fin HCW.out (tb_after h7 (HC7.out.mono (fun g hg => by simp [tbS, hg]))) HS.out (fun g hg => by
          have hA := KA1.out.lt
          have hB := KB1.out.lt
          simp at hg
          rcases hg with rfl | rfl
          · exact ⟨fun hq => by have := HNT.out _ hq; omega, hA, by omega⟩
          · exact ⟨fun hq => by have := HNT.out _ hq; omega, hB, by omega⟩))
      generalize (st5 (st5 w7 w.heap.size (.int .i64 y.key.k) (.int .i64 y.key.p) (.int .i64 y.key.q) (.string y.key.s) (.int .i64 y.key.r)) (w.heap.size + 1) (.int .i64 y.val.k) (.int .i64 y.val.p) (.int .i64 y.val.q) (.string y.val.s) (.int .i64 y.val.r)) = W9 at *
      refine bodyPost_ret (v := .tuple #[.agg #[.int .i64 y.key.k, .int .i64 y.key.p, .int .i64 y.key.q, .string y.key.s, .int .i64 y.key.r], .agg #[.int .i64 y.val.k, .int .i64 y.val.p, .int .i64 y.val.q, .string y.val.s, .int .i64 y.val.r], .bool y.ok, .int .i64 y.err]) (by simp [results, Try.results37, go_sem, x0, x1, x2, x3, x4, y0, y1, y2, y3, y4]) rfl ⟨rfl, HF.out⟩
theorem ne_any (B t : Nat) (va : Value) (b : Nat) (v m : Value) (s : TS) (w : World) (h : Tb B t va b v m s w) (a : Nat) (ha : a ≤ s.arr.length) (hL : s.arr.length + s.R.length ≤ 900000) :
    Calls Try.prog 37 #[.pointer (some ⟨t, 0, none⟩), .int .i64 (a : Int)] w fun e w' => e = .returned (NxV (neN s a)) ∧ TbSaid B t va b v m (neS s a) w w' := by
  by_cases hm : s.bl ≤ a
  · exact ne_1 B t va b v m s w h a ha hL hm
  · exact ne_2 B t va b v m s w h a ha hL (by omega)
end Go.Proofs.Ytaaelhhiceildaa
