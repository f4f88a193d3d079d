/- Layer 19: failures, positions. -/
import Derived.Test.YtimblnhigoggpaaDoorFlA
namespace Go.Proofs.YtimblnhigoggpaaDoor
open Go.RowKit Go.Joins M1
set_option linter.unusedVariables false
structure Flr where
  v : V5
  t : List Pl
deriving DecidableEq
def RP (B : Nat) (v : Value) (l : List Pl) (w : World) : Prop := w.ownsRow B 44 3 v l.length (l.flatMap pC)
theorem RP.ch {B : Nat} {v : Value} {l : List Pl} {w w' : World} {S : List Nat} (h : RP B v l w) (hc : Ch S w w') (hS : ∀ g ∈ ob v, g ∉ S) : RP B v l w' := hc.ownB h hS
theorem RP.ch0 {B : Nat} {v : Value} {l : List Pl} {w w' : World} (h : RP B v l w) (hc : Ch [] w w') : RP B v l w' := hc.ownB h (fun g _ => not_nil g)
theorem RP.mono {B B' : Nat} {v : Value} {l : List Pl} {w : World} (h : RP B v l w) (hB : B' ≤ B) : RP B' v l w := by
  refine ⟨h.1, ?_⟩
  rcases h.2 with q | ⟨g, cap, cur, e, q, r⟩
  · exact .inl q
  · exact .inr ⟨g, cap, cur, e, Nat.le_trans hB q, r⟩
theorem RP.off {B : Nat} {v : Value} {l : List Pl} {w : World} (h : RP B v l w) {R : Nat} (hR : R < B) : ∀ g ∈ ob v, g ∉ [R] := fun g hg e => by
  have := (own_lo h hg).1
  simp at e; omega
theorem RP.form {B : Nat} {v : Value} {l : List Pl} {w : World} (h : RP B v l w) : (v = .slice none 0 0 ∧ l = []) ∨ ∃ g cap, v = .slice (some ⟨g, 0, none⟩) l.length cap := by
  rcases Joins.ownsRow_forms h with ⟨h1, h2⟩ | ⟨g, cap, h1⟩
  · exact .inl ⟨h1, List.length_eq_zero_iff.1 h2⟩
  · exact .inr ⟨g, cap, h1⟩
def PA (w : World) (v : Value) (l : List Pl) : Prop := ∃ p c, v = .slice p l.length c ∧ (p = none → c = 0) ∧ PlA w v l
theorem PA.below {w w' : World} {v : Value} {l : List Pl} (h : PA w v l) (hb : Ch [] w w') : PA w' v l := by
  obtain ⟨p, c, h1, h2, h3⟩ := h
  exact ⟨p, c, h1, h2, h3.below hb⟩
theorem PA.nil (w : World) : PA w (.slice none 0 0) [] := ⟨none, 0, rfl, fun _ => rfl, pls_nil _ _⟩
theorem RP.pa {B : Nat} {v : Value} {l : List Pl} {w : World} (h : RP B v l w) : PA w v l := by
  rcases h.form with ⟨h1, h2⟩ | ⟨g, cap, h1⟩
  · exact ⟨none, 0, by rw [h1, h2]; rfl, fun _ => rfl, PlA.of_row h⟩
  · exact ⟨_, cap, h1, (fun e => by cases e), PlA.of_row h⟩
theorem PA.cells {w : World} {p : Option Addr} {c : Nat} {l : List Pl} (h : PA w (.slice p l.length c) l) : 0 < l.length → ∃ g o, p = some ⟨g, o, none⟩ ∧ g < w.heap.size ∧ ∀ (j m : Nat) (hj : j < l.length), m < 3 → w.cell? ⟨g, o + j * 3 + m, none⟩ = (pC l[j])[m]? := by
  obtain ⟨p', c', e, _, hv⟩ := h
  obtain ⟨p'', c'', e', hk⟩ := hv.form
  injection e' with e1 e2 e3
  subst e1
  exact hk
def fV (f : Flr) (vt : Value) : Value := .agg #[.int .i64 f.v.k, .int .i64 f.v.p, .int .i64 f.v.q, .string f.v.s, .int .i64 f.v.r, vt]
def FA (w : World) (v : Value) (f : Flr) : Prop := ∃ vt, v = fV f vt ∧ PA w vt f.t
theorem FA.below {w w' : World} {v : Value} {f : Flr} (h : FA w v f) (hb : Ch [] w w') : FA w' v f := by
  obtain ⟨vt, h1, h2⟩ := h
  exact ⟨vt, h1, h2.below hb⟩
/-- Six stores: a failure is stored whole. -/
def st6 (W : World) (R : Nat) (a0 a1 a2 a3 a4 a5 : Value) : World := (((((W.setCell ⟨R, 0, none⟩ a0).setCell ⟨R, 1, none⟩ a1).setCell ⟨R, 2, none⟩ a2).setCell ⟨R, 3, none⟩ a3).setCell ⟨R, 4, none⟩ a4).setCell ⟨R, 5, none⟩ a5
theorem st6_blk {T : TypeId} {W : World} {R : Nat} {b0 b1 b2 b3 b4 b5 a0 a1 a2 a3 a4 a5 : Value} (h : Blk T R #[b0, b1, b2, b3, b4, b5] W) : Blk T R #[a0, a1, a2, a3, a4, a5] (st6 W R a0 a1 a2 a3 a4 a5) := by
  have h0 : Blk T R #[a0, b1, b2, b3, b4, b5] (W.setCell ⟨R, 0, none⟩ a0) := h.set 0 a0
  have h1 : Blk T R #[a0, a1, b2, b3, b4, b5] ((W.setCell ⟨R, 0, none⟩ a0).setCell ⟨R, 1, none⟩ a1) := h0.set 1 a1
  have h2 : Blk T R #[a0, a1, a2, b3, b4, b5] (((W.setCell ⟨R, 0, none⟩ a0).setCell ⟨R, 1, none⟩ a1).setCell ⟨R, 2, none⟩ a2) := h1.set 2 a2
  have h3 : Blk T R #[a0, a1, a2, a3, b4, b5] ((((W.setCell ⟨R, 0, none⟩ a0).setCell ⟨R, 1, none⟩ a1).setCell ⟨R, 2, none⟩ a2).setCell ⟨R, 3, none⟩ a3) := h2.set 3 a3
  have h4 : Blk T R #[a0, a1, a2, a3, a4, b5] (((((W.setCell ⟨R, 0, none⟩ a0).setCell ⟨R, 1, none⟩ a1).setCell ⟨R, 2, none⟩ a2).setCell ⟨R, 3, none⟩ a3).setCell ⟨R, 4, none⟩ a4) := h3.set 4 a4
  have h5 : Blk T R #[a0, a1, a2, a3, a4, a5] ((((((W.setCell ⟨R, 0, none⟩ a0).setCell ⟨R, 1, none⟩ a1).setCell ⟨R, 2, none⟩ a2).setCell ⟨R, 3, none⟩ a3).setCell ⟨R, 4, none⟩ a4).setCell ⟨R, 5, none⟩ a5) := h4.set 5 a5
  exact h5
theorem st6_ch {S : List Nat} {w W : World} {R : Nat} {a0 a1 a2 a3 a4 a5 : Value} (h : Ch S w W) (hR : R ∈ S ∨ w.heap.size ≤ R) : Ch S w (st6 W R a0 a1 a2 a3 a4 a5) := by
  have h0 := h.set R 0 a0 hR
  have h1 := h0.set R 1 a1 hR
  have h2 := h1.set R 2 a2 hR
  have h3 := h2.set R 3 a3 hR
  have h4 := h3.set R 4 a4 hR
  have h5 := h4.set R 5 a5 hR
  exact h5
theorem hasLine_any (p : Pl) (w : World) : Calls Tryd.prog 44 #[.agg #[.string p.n, .int .i64 p.l, .bool p.t]] w fun e w' => e = .returned (.bool (decide (0 < p.l))) ∧ Ch [] w w' := by
  by_cases h : 0 < p.l
  · rw [decide_eq_true h]
    go_enter Tryd.func44, Tryd.ntmps44
    go_wp2
    go_ret
    exact ⟨rfl, (Ch.refl [] w).alloc _⟩
  · rw [decide_eq_false h]
    go_enter Tryd.func44, Tryd.ntmps44
    go_wp2
    go_ret
    exact ⟨rfl, (Ch.refl [] w).alloc _⟩
theorem large_any (p : Option Addr) (n c : Nat) (w : World) : Calls Tryd.prog 11 #[.slice p n c] w fun e w' => e = .returned (.bool (decide (400 < n))) ∧ w = w' := by
  by_cases h : 400 < n
  · have h' : (400 : Int) < (n : Int) := by omega
    rw [decide_eq_true h]
    go_enter Tryd.func11, Tryd.ntmps11
    go_wp2
    go_ret
    exact ⟨rfl, rfl⟩
  · have h' : ¬ (400 : Int) < (n : Int) := by omega
    rw [decide_eq_false h]
    go_enter Tryd.func11, Tryd.ntmps11
    go_wp2
    go_ret
    exact ⟨rfl, rfl⟩
theorem str_any (s : ByteArray) (w : World) : Calls Tryd.prog 25 #[.string s] w fun e w' => e = .returned (.agg #[.int .i64 3, .int .i64 0, .int .i64 0, .string s, .int .i64 0]) ∧ Ch [] w w' := by
  go_enter Tryd.func25, Tryd.ntmps25
  go_wp2
  refine bodyPost_ret (v := .agg #[.int .i64 3, .int .i64 0, .int .i64 0, .string s, .int .i64 0]) (by simp [results, Tryd.results25, go_sem]) rfl ⟨rfl, ?_⟩
  exact (Ch.refl [] w).alloc _
def wl (p : Pl) : Bool := decide (0 < p.l)
def cntW (l : List Pl) (k : Nat) : Nat := ((l.take k).filter wl).length
theorem cntW_le (l : List Pl) (k : Nat) : cntW l k ≤ k := by
  unfold cntW
  exact Nat.le_trans (List.length_filter_le _ _) (by rw [List.length_take]; omega)
theorem cntW_step {l : List Pl} {k : Nat} (h : k < l.length) : cntW l (k + 1) = if wl l[k] then cntW l k + 1 else cntW l k := by
  unfold cntW
  rw [List.take_succ_eq_append_getElem h, List.filter_append, List.length_append]
  cases hw : wl l[k] <;> simp [hw]
def posI (lv : Int) (l : List Pl) : Option Pl := if 1 ≤ lv then (l.filter wl)[lv.toNat - 1]? else none
theorem pos_found {l : List Pl} {k : Nat} {lv : Int} (h : k < l.length) (hw : wl l[k] = true) (hl : (cntW l k : Int) + 1 = lv) : posI lv l = some l[k] := by
  unfold posI
  rw [if_pos (by omega)]
  have e : l.filter wl = (l.take k).filter wl ++ (l[k] :: (l.drop (k + 1)).filter wl) := by
    rw [← List.filter_cons_of_pos hw, ← List.filter_append, List.getElem_cons_drop, List.take_append_drop]
  rw [e, show lv.toNat - 1 = ((l.take k).filter wl).length by unfold cntW at hl; omega, List.getElem?_append_right (Nat.le_refl _)]
  simp
theorem pos_none {l : List Pl} {lv : Int} (h : lv < 1 ∨ (cntW l l.length : Int) < lv) : posI lv l = none := by
  unfold posI
  split
  · rcases h with h | h
    · omega
    · unfold cntW at h
      rw [List.take_length] at h
      exact List.getElem?_eq_none (by omega)
  · rfl
theorem pos_line {l : List Pl} {lv : Int} {x : Pl} (h : posI lv l = some x) : 0 < x.l := by
  unfold posI at h
  split at h
  · have := List.mem_of_getElem? h
    rw [List.mem_filter] at this
    simpa [wl] using this.2
  · cases h
def posR : Option Pl → Value
  | some x => .tuple #[.agg #[.string x.n, .int .i64 x.l, .bool x.t], .bool true]
  | none => .tuple #[.agg #[.string ⟨#[]⟩, .int .i64 0, .bool false], .bool false]
set_option maxHeartbeats 4000000 in
theorem position_any (lv : Int) (v : Value) (l : List Pl) (w : World) (h : PA w v l) (hl : l.length ≤ 1000000) (hlv : (Lit.int .i64 lv).wf = true) :
    Calls Tryd.prog 26 #[.int .i64 lv, v] w fun e w' => e = .returned (posR (posI lv l)) ∧ Ch [] w w' := by
  have H := h
  obtain ⟨p, c, rfl, _, _⟩ := h
  have HK := Lib.hid H.cells
  have HL := Lib.hid hl
  clear H
  obtain ⟨res, hres⟩ : ∃ res, res = posR (posI lv l) := ⟨_, rfl⟩
  rw [← hres]
  have HR := Lib.hid hres
  clear hres hlv hl
  obtain ⟨n, hn⟩ : ∃ n, n = l.length := ⟨_, rfl⟩
  have HNN := Lib.hid hn
  rw [← hn]
  clear hn
  obtain ⟨R, hR⟩ : ∃ R, R = w.heap.size := ⟨_, rfl⟩
  obtain ⟨w0, hw0⟩ : ∃ w0, w0 = w.alloc (.cells #[.string ⟨#[]⟩, .int .i64 0, .bool false] 44) := ⟨_, rfl⟩
  have HB0 : Hid (Blk 44 R #[.string ⟨#[]⟩, .int .i64 0, .bool false] w0) := Lib.hid (by rw [hw0]; exact Blk.new w _ _ _ hR)
  have HC0 : Hid (Ch [] w w0) := Lib.hid (by rw [hw0]; exact (Ch.refl [] w).alloc _)
  have HRE := Lib.hid (And.intro hR hw0)
  clear hR hw0
  go_enter Tryd.func26, Tryd.ntmps26
  go_upto_region 1 with fail
  rw [← HRE.out.2, ← HRE.out.1]
  go_wp2
  go_loopw [6, 11] (fun v6 v11 wr => ∃ (k : Nat), k ≤ n ∧ v6 = .int .i64 (cntW l k : Int) ∧ v11 = .int .i64 (k : Int) ∧ Hid (lv < 1 ∨ (cntW l k : Int) < lv) ∧ Hid (Ch [] w0 wr)) (fun _ v11 _ => n - (intOf v11).toNat)
  case atStart => exact ⟨0, Nat.zero_le _, rfl, rfl, Lib.hid (by have : cntW l 0 = 0 := rfl; omega), Lib.hid (Ch.refl _ _)⟩
  case round =>
    obtain ⟨k, hk, rfl, rfl, HT, HB⟩ := hrel
    rename World => W0
    have KB := Lib.hid (HB0.out.ch HB.out (not_nil _))
    have z0 : W0.cell? ⟨R, 0, none⟩ = some (.string ⟨#[]⟩) := KB.out.cell 0
    have z1 : W0.cell? ⟨R, 1, none⟩ = some (.int .i64 0) := KB.out.cell 1
    have z2 : W0.cell? ⟨R, 2, none⟩ = some (.bool false) := KB.out.cell 2
    have y0 := KB.out.fz 0
    have y1 := KB.out.fz 1
    have y2 := KB.out.fz 2
    have yl := KB.out.lt
    by_cases hlt : k < n
    · have hlt' : (k : Int) < (n : Int) := by omega
      have hi0' : (0 : Int) ≤ (k : Int) := by omega
      have di : IntKind.i64.wrap ((k : Int) + 1) = (k : Int) + 1 := IntWalk.i64_in _ (by have := HL.out; have := HNN.out; omega)
      have hkl : k < l.length := by have := HNN.out; omega
      have HCL := Lib.hid (cntW_le l k)
      have dc : IntKind.i64.wrap ((cntW l k : Int) + 1) = (cntW l k : Int) + 1 := IntWalk.i64_in _ (by have := HL.out; have := HNN.out; have := HCL.out; omega)
      obtain ⟨g, o, rfl, hg, hcv⟩ := HK.out (by omega)
      obtain ⟨x, hx⟩ : ∃ x, x = l[k] := ⟨_, rfl⟩
      have m1 : ∀ j, j < 3 → W0.cell? ⟨g, o + k * 3 + j, none⟩ = (pC x)[j]? := fun j hj => ((HC0.out.trans HB.out).below.cell (p := ⟨g, _, none⟩) hg).trans (by rw [hx]; exact hcv k j hkl hj)
      have hg2 : g < W0.heap.size := Nat.lt_of_lt_of_le hg (HC0.out.trans HB.out).size
      have s0 : W0.cell? ⟨g, o + k * 3, none⟩ = some (.string x.n) := m1 0 (by omega)
      have s1 : W0.cell? ⟨g, o + k * 3 + 1, none⟩ = some (.int .i64 x.l) := m1 1 (by omega)
      have s2 : W0.cell? ⟨g, o + k * 3 + 2, none⟩ = some (.bool x.t) := m1 2 (by omega)
      have HST := Lib.hid (cntW_step hkl)
      have HXX : Hid (l[k]'hkl = x) := Lib.hid hx.symm
      have HA : Hid (Ch [] w0 (W0.alloc (.cells #[.string x.n, .int .i64 x.l, .bool x.t] 44))) := Lib.hid (HB.out.alloc _)
      clear m1 hcv hx
      cases hwx : wl x with
      | false =>
        have QH : Hid (∀ W, Calls Tryd.prog 44 #[.agg #[.string x.n, .int .i64 x.l, .bool x.t]] W fun e w' => e = .returned (.bool false) ∧ Ch [] W w') := Lib.hid fun W => by rw [← hwx]; exact hasLine_any x W
        have HWX : Hid (cntW l (k + 1) = cntW l k) := Lib.hid (by rw [HST.out, HXX.out, hwx]; rfl)
        clear hwx
        go_wp2_with (go_at_call 44; (with_reducible refine (QH.out _).mono ?_); rintro e w1 ⟨rfl, hc⟩; have HC1 : Hid (Ch [] w0 w1) := Lib.hid (HA.out.trans hc); clear hc)
        go_roundw
        case rel => exact ⟨k + 1, by omega, by rw [HWX.out], by go_num, Lib.hid (by rw [HWX.out]; exact HT.out), HC1⟩
        case measure => simp [intOf]; omega
      | true =>
        have QH : Hid (∀ W, Calls Tryd.prog 44 #[.agg #[.string x.n, .int .i64 x.l, .bool x.t]] W fun e w' => e = .returned (.bool true) ∧ Ch [] W w') := Lib.hid fun W => by rw [← hwx]; exact hasLine_any x W
        have HWX : Hid (cntW l (k + 1) = cntW l k + 1) := Lib.hid (by rw [HST.out, HXX.out, hwx]; rfl)
        have HWT := Lib.hid hwx
        clear hwx
        have ARM : Hid (∀ w1, Ch [] (W0.alloc (.cells #[.string x.n, .int .i64 x.l, .bool x.t] 44)) w1 → Blk 44 W0.heap.size #[.string x.n, .int .i64 x.l, .bool x.t] w1 ∧ Blk 44 R #[.string ⟨#[]⟩, .int .i64 0, .bool false] w1) := Lib.hid fun w1 hc => ⟨(Blk.new W0 _ _ _ rfl).ch hc (not_nil _), (KB.out.ch ((Ch.refl [] W0).alloc _) (not_nil _)).ch hc (not_nil _)⟩
        by_cases hq : (cntW l k : Int) + 1 = lv
        · have hpos : posI lv l = some x := by rw [pos_found hkl (by rw [HXX.out]; exact HWT.out) hq, HXX.out]
          have HPOS := Lib.hid hpos
          have HQ := Lib.hid hq
          have hq' : ((cntW l k : Int) + 1 == lv) = true := by rw [beq_iff_eq]; exact hq
          clear hpos
          subst hq
          go_wp2_with (go_at_call 44; (with_reducible refine (QH.out _).mono ?_); rintro e w1 ⟨rfl, hc⟩; obtain ⟨hb1, hb2⟩ := ARM.out _ hc; have HC1 : Hid (Ch [] w0 w1) := Lib.hid (HA.out.trans hc); have KB1 := Lib.hid hb2; have b0 : w1.cell? ⟨W0.heap.size, 0, none⟩ = some (.string x.n) := hb1.cell 0; have b1 : w1.cell? ⟨W0.heap.size, 1, none⟩ = some (.int .i64 x.l) := hb1.cell 1; have b2 : w1.cell? ⟨W0.heap.size, 2, none⟩ = some (.bool x.t) := hb1.cell 2; have bl := hb1.lt; have r0 : w1.cell? ⟨R, 0, none⟩ = some (.string ⟨#[]⟩) := hb2.cell 0; have r1 : w1.cell? ⟨R, 1, none⟩ = some (.int .i64 0) := hb2.cell 1; have r2 : w1.cell? ⟨R, 2, none⟩ = some (.bool false) := hb2.cell 2; have t0 := hb2.fz 0; have t1 := hb2.fz 1; have t2 := hb2.fz 2; have tl := hb2.lt; clear hc hb1 hb2)
          have HS : Ch [R] w1 (((w1.setCell ⟨R, 0, none⟩ (.string x.n)).setCell ⟨R, 1, none⟩ (.int .i64 x.l)).setCell ⟨R, 2, none⟩ (.bool x.t)) := (((Ch.refl [R] w1).set R 0 _ (.inl (by simp))).set R 1 _ (.inl (by simp))).set R 2 _ (.inl (by simp))
          have hI : Blk 44 R #[.string x.n, .int .i64 x.l, .bool x.t] (((w1.setCell ⟨R, 0, none⟩ (.string x.n)).setCell ⟨R, 1, none⟩ (.int .i64 x.l)).setCell ⟨R, 2, none⟩ (.bool x.t)) := ((KB1.out.set 0 _).set 1 _).set 2 _
          generalize (((w1.setCell ⟨R, 0, none⟩ (.string x.n)).setCell ⟨R, 1, none⟩ (.int .i64 x.l)).setCell ⟨R, 2, none⟩ (.bool x.t)) = W9 at *
          have i0 : W9.cell? ⟨R, 0, none⟩ = some (.string x.n) := hI.cell 0
          have i1 : W9.cell? ⟨R, 1, none⟩ = some (.int .i64 x.l) := hI.cell 1
          have i2 : W9.cell? ⟨R, 2, none⟩ = some (.bool x.t) := hI.cell 2
          refine bodyPost_ret (v := .tuple #[.agg #[.string x.n, .int .i64 x.l, .bool x.t], .bool true]) (by simp [results, Tryd.results26, go_sem, i0, i1, i2]) rfl ⟨?_, (HC0.out.trans HC1.out).fresh (fun g hg => by simp at hg; subst hg; rw [HRE.out.1]; exact Nat.le_refl _) HS⟩
          rw [HR.out, HPOS.out]; rfl
        · have hq' : ((cntW l k : Int) + 1 == lv) = false := by rw [beq_eq_false_iff_ne]; exact hq
          have HQ := Lib.hid hq
          go_wp2_with (go_at_call 44; (with_reducible refine (QH.out _).mono ?_); rintro e w1 ⟨rfl, hc⟩; have HC1 : Hid (Ch [] w0 w1) := Lib.hid (HA.out.trans hc); clear hc)
          go_roundw
          case rel => exact ⟨k + 1, by omega, by rw [HWX.out]; rfl, by go_num, Lib.hid (by have := HWX.out; have := HT.out; have := HQ.out; omega), HC1⟩
          case measure => simp [intOf]; omega
    · have hlt' : ¬ (k : Int) < (n : Int) := by omega
      have hpos : posI lv l = none := pos_none (by have := HT.out; rwa [show k = l.length by have := HNN.out; omega] at this)
      have HPOS := Lib.hid hpos
      clear hpos
      go_wp2
      have HS : Ch [R] W0 (((W0.setCell ⟨R, 0, none⟩ (.string ⟨#[]⟩)).setCell ⟨R, 1, none⟩ (.int .i64 0)).setCell ⟨R, 2, none⟩ (.bool false)) := (((Ch.refl [R] W0).set R 0 _ (.inl (by simp))).set R 1 _ (.inl (by simp))).set R 2 _ (.inl (by simp))
      have hI : Blk 44 R #[.string ⟨#[]⟩, .int .i64 0, .bool false] (((W0.setCell ⟨R, 0, none⟩ (.string ⟨#[]⟩)).setCell ⟨R, 1, none⟩ (.int .i64 0)).setCell ⟨R, 2, none⟩ (.bool false)) := ((KB.out.set 0 _).set 1 _).set 2 _
      generalize (((W0.setCell ⟨R, 0, none⟩ (.string ⟨#[]⟩)).setCell ⟨R, 1, none⟩ (.int .i64 0)).setCell ⟨R, 2, none⟩ (.bool false)) = W9 at *
      have i0 : W9.cell? ⟨R, 0, none⟩ = some (.string ⟨#[]⟩) := hI.cell 0
      have i1 : W9.cell? ⟨R, 1, none⟩ = some (.int .i64 0) := hI.cell 1
      have i2 : W9.cell? ⟨R, 2, none⟩ = some (.bool false) := hI.cell 2
      refine bodyPost_ret (v := .tuple #[.agg #[.string ⟨#[]⟩, .int .i64 0, .bool false], .bool false]) (by simp [results, Tryd.results26, go_sem, i0, i1, i2]) rfl ⟨?_, (HC0.out.trans HB.out).fresh (fun g hg => by simp at hg; subst hg; rw [HRE.out.1]; exact Nat.le_refl _) HS⟩
      rw [HR.out, HPOS.out]; rfl
end Go.Proofs.YtimblnhigoggpaaDoor
