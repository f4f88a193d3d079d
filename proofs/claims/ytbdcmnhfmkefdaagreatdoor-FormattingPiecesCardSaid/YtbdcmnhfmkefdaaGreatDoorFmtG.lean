/- Contracts of layer 9: the number and the text of an argument, integers. -/
import Derived.Test.YtbdcmnhfmkefdaaGreatDoorFmtF
import Derived.Test.YtbdcmnhfmkefdaaGreatDoorNumV
import Derived.Test.YtbdcmnhfmkefdaaGreatDoorNumH
import Derived.Test.YtbdcmnhfmkefdaaGreatDoorRatF
import Derived.Test.YtbdcmnhfmkefdaaGreatDoorNumL
import Derived.Deep.RegionWith
import Derived.Lib.HexFns2
namespace Go.Proofs.YtbdcmnhfmkefdaaGreatDoor
open Go.RowKit M1 M2 M9
set_option linter.unusedVariables false
/-- An argument's value as the mathematics have it. -/
def vlu (kind p q : Int) (s : ByteArray) (ref : Int) : Vl := ⟨kind, p, q, s.data.toList, ref⟩
def NoSaid (r : R3) (e : Ending) : Prop := e = .returned (.tuple #[.agg #[.int .i64 r.P, .int .i64 r.Q], .bool (decide (r.E = 0))])
/-- Two stores: a number is stored whole. -/
def st2n (W : World) (R : Nat) (a0 a1 : Value) : World := (W.setCell ⟨R, 0, none⟩ a0).setCell ⟨R, 1, none⟩ a1
theorem st2n_blk {W : World} {R : Nat} {T : TypeId} {c0 c1 a0 a1 : Value} (h : Blk T R #[c0, c1] W) : Blk T R #[a0, a1] (st2n W R a0 a1) := (h.set 0 a0).set 1 a1
theorem st2n_below {w W : World} {R : Nat} {a0 a1 : Value} {B : Nat} (h : Below B w W) (hR : B ≤ R) : Below B w (st2n W R a0 a1) := (h.setCell (p := ⟨R, 0, none⟩) hR a0).setCell (p := ⟨R, 1, none⟩) hR a1
set_option maxHeartbeats 4000000 in
set_option maxRecDepth 100000 in
theorem numberOf_two (p q : Int) (s : ByteArray) (ref : Int) (w : World) :
    Calls Tryz.prog 82 #[.agg #[.int .i64 2, .int .i64 p, .int .i64 q, .string s, .int .i64 ref]] w fun e w' => NoSaid (numOf (vlu 2 p q s ref)) e ∧ Below w.heap.size w w' := by
  have hN : NoSaid (numOf (vlu 2 p q s ref)) (.returned (.tuple #[.agg #[.int .i64 p, .int .i64 q], .bool (vld p q)])) := by
    unfold NoSaid numOf vlu
    cases hv : vld p q <;> simp
  have QV := Lib.hid fun w => valid_any p q w
  have HN := Lib.hid hN
  generalize vld p q = v at *
  clear hN
  go_enter Tryz.func82, Tryz.ntmps82
  go_upto_region 3 with fail
  have h1 := Blk.new (w.alloc (.cells #[.int .i64 2, .int .i64 p, .int .i64 q, .string s, .int .i64 ref] 46)) 44 #[.int .i64 0, .int .i64 0] _ rfl
  have h0 : Blk 46 w.heap.size #[.int .i64 2, .int .i64 p, .int .i64 q, .string s, .int .i64 ref] ((w.alloc (.cells #[.int .i64 2, .int .i64 p, .int .i64 q, .string s, .int .i64 ref] 46)).alloc (.cells #[.int .i64 0, .int .i64 0] 44)) := (Blk.new w _ _ _ rfl).ch ((Ch.refl [] _).alloc _) (by simp)
  have hb : Below w.heap.size w ((w.alloc (.cells #[.int .i64 2, .int .i64 p, .int .i64 q, .string s, .int .i64 ref] 46)).alloc (.cells #[.int .i64 0, .int .i64 0] 44)) := ((Below.refl _ _).alloc (Nat.le_refl _) _).alloc (by simp) _
  have hz : (w.alloc (.cells #[.int .i64 2, .int .i64 p, .int .i64 q, .string s, .int .i64 ref] 46)).heap.size = w.heap.size + 1 := by simp
  rw [hz] at h1
  generalize (w.alloc (.cells #[.int .i64 2, .int .i64 p, .int .i64 q, .string s, .int .i64 ref] 46)).alloc (.cells #[.int .i64 0, .int .i64 0] 44) = W at *
  have d1 : W.cell? ⟨w.heap.size, 1, none⟩ = some (.int .i64 p) := h0.cell 1
  have d2 : W.cell? ⟨w.heap.size, 2, none⟩ = some (.int .i64 q) := h0.cell 2
  have r0 : W.cell? ⟨w.heap.size + 1, 0, none⟩ = some (.int .i64 0) := h1.cell 0
  have r1 : W.cell? ⟨w.heap.size + 1, 1, none⟩ = some (.int .i64 0) := h1.cell 1
  have g0 := h1.fz 0
  have g1 := h1.fz 1
  have l0 := h0.lt
  have l1 := h1.lt
  have HB := Lib.hid hb
  have H1 := Lib.hid h1
  clear hb h1 h0 hz
  go_region_law (go_simp; go_at_call 103; (with_reducible refine (QV.out _).mono ?_); rintro e w2 ⟨rfl, hb2⟩; obtain ⟨hc2, hf2⟩ := bcell hb2; have kb := Blk.below (T := 44) (b := w.heap.size + 1) (cs := #[.int .i64 0, .int .i64 0]) (by first | exact H1.out | exact (H1.out.ch ((Ch.refl [] W).drew) (by simp))) hb2; have k0 : w2.cell? ⟨w.heap.size + 1, 0, none⟩ = some (.int .i64 0) := kb.cell 0; have k1 : w2.cell? ⟨w.heap.size + 1, 1, none⟩ = some (.int .i64 0) := kb.cell 1; have kf0 := kb.fz 0; have kf1 := kb.fz 1; have KB := Lib.hid kb; have HB2 := Lib.hid hb2; have j1 : w2.cell? ⟨w.heap.size, 1, none⟩ = some (.int .i64 p) := (by rw [hc2 _ _ (by simpa using l0)]; exact d1); have j2 : w2.cell? ⟨w.heap.size, 2, none⟩ = some (.int .i64 q) := (by rw [hc2 _ _ (by simpa using l0)]; exact d2); clear kb hb2 hc2 hf2)
  all_goals (
    go_wp2
    show bodyPost _ _ _ Exit.ret _ (st2n w2 (w.heap.size + 1) (.int .i64 p) (.int .i64 q))
    have hI : Blk 44 (w.heap.size + 1) #[.int .i64 p, .int .i64 q] (st2n w2 (w.heap.size + 1) (.int .i64 p) (.int .i64 q)) := st2n_blk KB.out
    have hS : Below w.heap.size w (st2n w2 (w.heap.size + 1) (.int .i64 p) (.int .i64 q)) := st2n_below ((HB.out.drew).trans (HB2.out.mono (by show w.heap.size ≤ W.heap.size; omega))) (by omega)
    have e0 := hI.cell 0
    have e1 := hI.cell 1
    simp at e0 e1
    generalize st2n w2 (w.heap.size + 1) (.int .i64 p) (.int .i64 q) = W9 at *
    refine bodyPost_ret (v := .tuple #[.agg #[.int .i64 p, .int .i64 q], .bool v]) (by simp [results, Tryz.results82, go_sem, e0, e1]) rfl ⟨HN.out, hS⟩)
theorem parse_good (l : List UInt8) : True := trivial
set_option maxHeartbeats 4000000 in
theorem numberOf_three (p q : Int) (s : ByteArray) (ref : Int) (w : World) (he : E9 w) (hs : s.size ≤ 1000000) :
    Calls Tryz.prog 82 #[.agg #[.int .i64 3, .int .i64 p, .int .i64 q, .string s, .int .i64 ref]] w fun e w' => NoSaid (numOf (vlu 3 p q s ref)) e ∧ Below w.heap.size w w' := by
  have hN : numOf (vlu 3 p q s ref) = parseR s.data.toList := by unfold numOf vlu; simp
  rw [hN]
  have HE : Hid (E9 ((w.alloc (.cells #[.int .i64 3, .int .i64 p, .int .i64 q, .string s, .int .i64 ref] 46)).alloc (.cells #[.int .i64 0, .int .i64 0] 44))) := Lib.hid ((he.alloc _).alloc _)
  have QP := Lib.hid fun w he => parse_any s w (by omega) he
  unfold NoSaid
  generalize parseR s.data.toList = R at *
  obtain ⟨P, Q, E⟩ := R
  clear hN he
  go_enter Tryz.func82, Tryz.ntmps82
  go_wp2_with (go_at_call 105; (with_reducible refine (QP.out _ HE.out.env).mono ?_); rintro e w2 ⟨rfl, hb2⟩; obtain ⟨hc2, hf2⟩ := bcell hb2; have hz2 := hb2.size; (try simp at hz2); have x0 : w.heap.size + 1 < w2.heap.size := (by omega); have k0 : w2.cell? ⟨w.heap.size + 1, 0, none⟩ = some (.int .i64 0) := (by go_simp); have k1 : w2.cell? ⟨w.heap.size + 1, 1, none⟩ = some (.int .i64 0) := (by go_simp); have KB : Hid (Blk 44 (w.heap.size + 1) #[.int .i64 0, .int .i64 0] w2) := Lib.hid (Blk.below (Blk.new _ _ _ _ (by simp)) hb2))
  have hX : (E == 0) = decide (E = 0) := by rw [Bool.eq_iff_iff]; simp
  rw [← hX]
  clear hX
  show bodyPost _ _ _ Exit.ret _ ((st2n w2 (w.heap.size + 1) (.int .i64 P) (.int .i64 Q)).alloc (.cells #[.int .i64 P, .int .i64 Q] 44))
  have hI : Blk 44 (w.heap.size + 1) #[.int .i64 P, .int .i64 Q] ((st2n w2 (w.heap.size + 1) (.int .i64 P) (.int .i64 Q)).alloc (.cells #[.int .i64 P, .int .i64 Q] 44)) := (st2n_blk KB.out).ch ((Ch.refl [] _).alloc _) (by simp)
  have hS0 : Below w.heap.size w (st2n w2 (w.heap.size + 1) (.int .i64 P) (.int .i64 Q)) := st2n_below ((((Below.refl _ _).alloc (Nat.le_refl _) _).alloc (by simp) _).trans (hb2.mono (by simp; omega))) (by omega)
  have hS := hS0.alloc hS0.size (.cells #[.int .i64 P, .int .i64 Q] 44)
  have e0 := hI.cell 0
  have e1 := hI.cell 1
  simp at e0 e1
  clear hS0
  generalize (st2n w2 (w.heap.size + 1) (.int .i64 P) (.int .i64 Q)).alloc (.cells #[.int .i64 P, .int .i64 Q] 44) = W9 at *
  refine bodyPost_ret (v := .tuple #[.agg #[.int .i64 P, .int .i64 Q], .bool (E == 0)]) (by simp [results, Tryz.results82, go_sem, e0, e1]) rfl ⟨rfl, hS⟩
set_option maxHeartbeats 4000000 in
theorem numberOf_else (kind p q : Int) (s : ByteArray) (ref : Int) (w : World) (h2 : kind ≠ 2) (h3 : kind ≠ 3) :
    Calls Tryz.prog 82 #[.agg #[.int .i64 kind, .int .i64 p, .int .i64 q, .string s, .int .i64 ref]] w fun e w' => NoSaid (numOf (vlu kind p q s ref)) e ∧ Below w.heap.size w w' := by
  have hN : numOf (vlu kind p q s ref) = ⟨0, 0, 4⟩ := by unfold numOf vlu; simp [h2, h3]
  rw [hN]
  have d2 : (kind == 2) = false := by simpa using h2
  have d3 : (kind == 3) = false := by simpa using h3
  clear hN h2 h3
  go_enter Tryz.func82, Tryz.ntmps82
  go_wp2
  have h0 : Below w.heap.size w ((w.alloc (.cells #[.int .i64 kind, .int .i64 p, .int .i64 q, .string s, .int .i64 ref] 46)).alloc (.cells #[.int .i64 0, .int .i64 0] 44)) := ((Below.refl _ _).alloc (Nat.le_refl _) _).alloc (by simp) _
  have h1 : Blk 44 (w.heap.size + 1) #[.int .i64 0, .int .i64 0] ((w.alloc (.cells #[.int .i64 kind, .int .i64 p, .int .i64 q, .string s, .int .i64 ref] 46)).alloc (.cells #[.int .i64 0, .int .i64 0] 44)) := Blk.new _ _ _ _ (by simp)
  generalize (w.alloc (.cells #[.int .i64 kind, .int .i64 p, .int .i64 q, .string s, .int .i64 ref] 46)).alloc (.cells #[.int .i64 0, .int .i64 0] 44) = W at *
  have hI := h1
  have hS := h0
  have e0 := hI.cell 0
  have e1 := hI.cell 1
  simp at e0 e1
  refine bodyPost_ret (v := .tuple #[.agg #[.int .i64 0, .int .i64 0], .bool false]) (by simp [results, Tryz.results82, go_sem, e0, e1]) rfl ⟨rfl, hS⟩
theorem numberOf_any (kind p q : Int) (s : ByteArray) (ref : Int) (w : World) (he : E9 w) (hs : s.size ≤ 1000000) :
    Calls Tryz.prog 82 #[.agg #[.int .i64 kind, .int .i64 p, .int .i64 q, .string s, .int .i64 ref]] w fun e w' => NoSaid (numOf (vlu kind p q s ref)) e ∧ Below w.heap.size w w' := by
  by_cases h2 : kind = 2
  · subst h2; exact numberOf_two p q s ref w
  by_cases h3 : kind = 3
  · subst h3; exact numberOf_three p q s ref w he hs
  exact numberOf_else kind p q s ref w h2 h3
/-- An optional text as a call answers it. -/
def OpSaid (r : Option (List UInt8)) (e : Ending) : Prop := match r with
  | some t => e = .returned (.tuple #[.string (bq t), .bool true])
  | none => e = .returned (.tuple #[.string ⟨#[]⟩, .bool false])
theorem opSaid_none {r : Option (List UInt8)} (h : r = none) : OpSaid r (.returned (.tuple #[.string ⟨#[]⟩, .bool false])) := by subst h; rfl
theorem opSaid_some {r : Option (List UInt8)} {t : List UInt8} {x : ByteArray} (h : r = some t) (hx : x = bq t) : OpSaid r (.returned (.tuple #[.string x, .bool true])) := by subst h hx; rfl
theorem ext_take (s : ByteArray) (k : Nat) : s.extract 0 k = bq (s.data.toList.take k) := by
  apply ByteArray.ext
  rw [← Array.toList_inj, Lib.extract_data, bq_list]; simp
theorem firstF_no (s : List UInt8) (pl : Int) (h : pl = -1 ∨ (s.length : Int) ≤ pl) : firstF s pl = s := by unfold firstF; rw [if_neg (by omega)]
theorem firstF_yes (s : List UInt8) (pl : Int) (h : pl ≠ -1) (h2 : pl < s.length) : firstF s pl = s.take pl.toNat := by unfold firstF; rw [if_pos ⟨h, h2⟩]
set_option maxHeartbeats 4000000 in
theorem beg_num (p q : Int) (s : ByteArray) (ref pl : Int) (w : World) (he : E9 w) (hv : vld p q = true) (hp : -1 ≤ pl) (hp2 : pl ≤ 100) :
    Calls Tryz.prog 80 #[.agg #[.int .i64 2, .int .i64 p, .int .i64 q, .string s, .int .i64 ref], .int .i64 pl] w fun e w' => OpSaid (some (firstF (textR p q) pl)) e ∧ Below w.heap.size w w' := by
  have hb0 : Below w.heap.size w (w.alloc (.cells #[.int .i64 2, .int .i64 p, .int .i64 q, .string s, .int .i64 ref] 46)) := (Below.refl _ _).alloc (Nat.le_refl _) _
  have QV := Lib.hid fun w => valid_any p q w
  have QT := Lib.hid fun w he => text_any p q w he
  rw [hv] at QV
  have HEV := Lib.hid fun W (hb : Below w.heap.size w W) => he.on hb
  have hbl : mkB (textR p q) = bq (textR p q) := rfl
  have hl := bq_size (textR p q)
  have hld := bq_list (textR p q)
  have HN := Lib.hid (firstF_no (textR p q) pl)
  have HY := Lib.hid (firstF_yes (textR p q) pl)
  have HT := Lib.hid (ext_take (bq (textR p q)))
  rw [hbl] at QT
  rw [hld] at HT
  rw [← hl] at HN HY
  generalize textR p q = t at *
  generalize hz : bq t = z at *
  have HZ := Lib.hid hz
  clear hz hv he hbl hld hl
  go_enter Tryz.func80, Tryz.ntmps80
  go_upto_region 6 with (first | (go_at_call 103; (with_reducible refine (QV.out _).mono ?_); rintro e w2 ⟨rfl, hb2⟩; obtain ⟨hc2, hf2⟩ := bcell hb2; have hz2 := hb2.size; (try simp at hz2); have H2 := Lib.hid (hb0.trans (hb2.mono (by simp)))) | (go_at_call 83; (with_reducible refine (QT.out _ (HEV.out _ H2.out).env).mono ?_); rintro e w3 ⟨rfl, hb3⟩; have H3 := Lib.hid (H2.out.trans (hb3.mono H2.out.size))))
  clear hb0 hb2 hc2 hf2 hz2 hb3
  by_cases h1 : pl = -1
  · subst h1
    have HX := Lib.hid (HN.out (.inl rfl))
    go_wp2
    go_ret2
    exact ⟨opSaid_some rfl (by rw [HX.out, HZ.out]), H3.out⟩
  · have d1 : (pl != -1) = true := by simpa using h1
    obtain ⟨k, rfl⟩ := Int.eq_ofNat_of_zero_le (show 0 ≤ pl by omega)
    by_cases h3 : k < z.size
    · have HX := Lib.hid (HY.out h1 (by omega))
      have HX2 := Lib.hid (HT.out k)
      have d2 : (k : Int) < (z.size : Int) := by omega
      have d3 : (0 : Int) ≤ (k : Int) := by omega
      clear h1
      go_wp2
      go_ret2
      exact ⟨opSaid_some rfl (by rw [HX.out, Int.toNat_natCast, HX2.out]), H3.out⟩
    · have HX := Lib.hid (HN.out (.inr (by omega)))
      have d2 : ¬ (k : Int) < (z.size : Int) := by omega
      clear h1
      go_wp2
      go_ret2
      exact ⟨opSaid_some rfl (by rw [HX.out, HZ.out]), H3.out⟩
theorem beg_str (p q : Int) (s : ByteArray) (ref pl : Int) (w : World) (hp : -1 ≤ pl) (hp2 : pl ≤ 100) :
    Calls Tryz.prog 80 #[.agg #[.int .i64 3, .int .i64 p, .int .i64 q, .string s, .int .i64 ref], .int .i64 pl] w fun e w' => OpSaid (some (firstF s.data.toList pl)) e ∧ Below w.heap.size w w' := by
  have hb0 : Below w.heap.size w (w.alloc (.cells #[.int .i64 3, .int .i64 p, .int .i64 q, .string s, .int .i64 ref] 46)) := (Below.refl _ _).alloc (Nat.le_refl _) _
  have hl : s.data.toList.length = s.size := by simp
  have HN := Lib.hid (firstF_no s.data.toList pl)
  have HY := Lib.hid (firstF_yes s.data.toList pl)
  have HT := Lib.hid (ext_take s)
  rw [hl] at HN HY
  clear hl
  by_cases h1 : pl = -1
  · subst h1
    have HX := Lib.hid (HN.out (.inl rfl))
    go_enter Tryz.func80, Tryz.ntmps80
    go_wp2
    go_ret2
    exact ⟨opSaid_some rfl (by rw [HX.out, bq_eta]), hb0⟩
  · have d1 : (pl != -1) = true := by simpa using h1
    obtain ⟨k, rfl⟩ := Int.eq_ofNat_of_zero_le (show 0 ≤ pl by omega)
    by_cases h3 : k < s.size
    · have HX := Lib.hid (HY.out h1 (by omega))
      have HX2 := Lib.hid (HT.out k)
      have d2 : (k : Int) < (s.size : Int) := by omega
      have d3 : (0 : Int) ≤ (k : Int) := by omega
      clear h1
      go_enter Tryz.func80, Tryz.ntmps80
      go_wp2
      go_ret2
      exact ⟨opSaid_some rfl (by rw [HX.out, Int.toNat_natCast, HX2.out]), hb0⟩
    · have HX := Lib.hid (HN.out (.inr (by omega)))
      have d2 : ¬ (k : Int) < (s.size : Int) := by omega
      clear h1
      go_enter Tryz.func80, Tryz.ntmps80
      go_wp2
      go_ret2
      exact ⟨opSaid_some rfl (by rw [HX.out, bq_eta]), hb0⟩
theorem beg_no (kind p q : Int) (s : ByteArray) (ref pl : Int) (w : World) (h : kind ≠ 3) (h2 : kind = 2 → vld p q = false) :
    Calls Tryz.prog 80 #[.agg #[.int .i64 kind, .int .i64 p, .int .i64 q, .string s, .int .i64 ref], .int .i64 pl] w fun e w' => OpSaid none e ∧ Below w.heap.size w w' := by
  have hb0 : Below w.heap.size w (w.alloc (.cells #[.int .i64 kind, .int .i64 p, .int .i64 q, .string s, .int .i64 ref] 46)) := (Below.refl _ _).alloc (Nat.le_refl _) _
  have d3 : (kind != 3) = true := by simpa using h
  have QV := Lib.hid fun w => valid_any p q w
  by_cases hk : kind = 2
  · subst hk
    rw [h2 rfl] at QV
    clear h h2
    go_enter Tryz.func80, Tryz.ntmps80
    go_wp2_with (go_at_call 103; (with_reducible refine (QV.out _).mono ?_); rintro e w2 ⟨rfl, hb2⟩; obtain ⟨hc2, hf2⟩ := bcell hb2; have hz2 := hb2.size; (try simp at hz2); have H2 := Lib.hid (hb0.trans (hb2.mono (by simp))))
    go_ret2
    exact ⟨rfl, H2.out⟩
  · have d2 : (kind == 2) = false := by simpa using hk
    clear h h2 hk
    go_enter Tryz.func80, Tryz.ntmps80
    go_wp2
    go_ret2
    exact ⟨rfl, hb0⟩
theorem beg_any (kind p q : Int) (s : ByteArray) (ref pl : Int) (w : World) (he : E9 w) (hp : -1 ≤ pl) (hp2 : pl ≤ 100) :
    Calls Tryz.prog 80 #[.agg #[.int .i64 kind, .int .i64 p, .int .i64 q, .string s, .int .i64 ref], .int .i64 pl] w fun e w' => OpSaid (begF pl (vlu kind p q s ref)) e ∧ Below w.heap.size w w' := by
  by_cases h3 : kind = 3
  · subst h3
    rw [show begF pl (vlu 3 p q s ref) = some (firstF s.data.toList pl) by unfold begF vlu; simp]
    exact beg_str p q s ref pl w hp hp2
  by_cases h2 : kind = 2 ∧ vld p q = true
  · obtain ⟨rfl, hv⟩ := h2
    rw [show begF pl (vlu 2 p q s ref) = some (firstF (textR p q) pl) by unfold begF vlu; simp [hv]]
    exact beg_num p q s ref pl w he hv hp hp2
  · rw [show begF pl (vlu kind p q s ref) = none by unfold begF vlu; simp only []; rw [if_neg h2, if_neg h3]]
    exact beg_no kind p q s ref pl w h3 (fun h => by cases hv : vld p q with | false => rfl | true => exact absurd ⟨h, hv⟩ h2)
theorem up_any (s : ByteArray) (w : World) (hs : s.size ≤ 1000000) (ha : ∀ (j : Nat) (b : UInt8), s.data.toList[j]? = some b → b.toNat < 128) :
    Calls Tryz.prog 110 #[.string s] w fun e w' => e = .returned (.string (bq (s.data.toList.map upc))) ∧ Below w.heap.size w w' := Tryz.strings_ToUpper_ascii s w (by omega) ha
/-- A number that is no integer. -/
theorem int_no (l b : Int) (sg z : Bool) (p q : Int) (w : World) (hq : q ≠ 1) :
    Calls Tryz.prog 85 #[.agg #[.int .u8 l, .int .i64 b, .bool sg, .bool z], .agg #[.int .i64 p, .int .i64 q]] w fun e w' => OpSaid none e ∧ Below w.heap.size w w' := by
  have QW := Lib.hid fun w => whole_any p q w
  rw [show whB p q = false by unfold whB; simp [hq]] at QW
  generalize whP p q = n at *
  clear hq
  go_enter Tryz.func85, Tryz.ntmps85
  go_wp2_with (go_at_call 108; (with_reducible refine (QW.out _).mono ?_); rintro e w2 ⟨rfl, hb2⟩; obtain ⟨hc2, hf2⟩ := bcell hb2; have hz2 := hb2.size; (try simp at hz2); have x0 : w.heap.size + 1 < w2.heap.size := (by omega))
  go_ret2
  refine ⟨rfl, ?_⟩
  repeat (first | exact Below.refl _ _ | refine below_drewN ?_ _ | refine Below.drew ?_ | refine Below.setCell ?_ (by first | omega | (simp; done) | (simp; omega)) _ | refine Below.alloc ?_ (by first | omega | (simp; done) | (simp; omega)) _ | refine below_step (by assumption) (by first | omega | (simp; done) | (simp; omega)) ?_)
set_option maxHeartbeats 4000000 in
theorem int_char (sg z : Bool) (p : Int) (w : World) (hv : vld p 1 = true) :
    Calls Tryz.prog 85 #[.agg #[.int .u8 99, .int .i64 0, .bool sg, .bool z], .agg #[.int .i64 p, .int .i64 1]] w fun e w' => OpSaid (if p < 0 ∨ 255 < p then none else some [UInt8.ofNat p.toNat]) e ∧ Below w.heap.size w w' := by
  have QW := Lib.hid fun w => whole_any p 1 w
  rw [show whB p 1 = true by unfold whB; simp [hv], show whP p 1 = p by unfold whP whB; simp [hv]] at QW
  obtain ⟨-, -, v1, v2, -⟩ := vld_iff.1 hv
  clear hv
  by_cases h1 : 255 < p
  · rw [if_pos (.inr h1)]
    go_enter Tryz.func85, Tryz.ntmps85
    go_wp2_with (go_at_call 108; (with_reducible refine (QW.out _).mono ?_); rintro e w2 ⟨rfl, hb2⟩; obtain ⟨hc2, hf2⟩ := bcell hb2; have hz2 := hb2.size; (try simp at hz2); have x0 : w.heap.size + 1 < w2.heap.size := (by omega))
    go_ret2
    refine ⟨rfl, ?_⟩
    repeat (first | exact Below.refl _ _ | refine below_drewN ?_ _ | refine Below.drew ?_ | refine Below.setCell ?_ (by first | omega | (simp; done) | (simp; omega)) _ | refine Below.alloc ?_ (by first | omega | (simp; done) | (simp; omega)) _ | refine below_step (by assumption) (by first | omega | (simp; done) | (simp; omega)) ?_)
  by_cases h0 : p < 0
  · rw [if_pos (.inl h0)]
    go_enter Tryz.func85, Tryz.ntmps85
    go_wp2_with (go_at_call 108; (with_reducible refine (QW.out _).mono ?_); rintro e w2 ⟨rfl, hb2⟩; obtain ⟨hc2, hf2⟩ := bcell hb2; have hz2 := hb2.size; (try simp at hz2); have x0 : w.heap.size + 1 < w2.heap.size := (by omega))
    go_ret2
    refine ⟨rfl, ?_⟩
    repeat (first | exact Below.refl _ _ | refine below_drewN ?_ _ | refine Below.drew ?_ | refine Below.setCell ?_ (by first | omega | (simp; done) | (simp; omega)) _ | refine Below.alloc ?_ (by first | omega | (simp; done) | (simp; omega)) _ | refine below_step (by assumption) (by first | omega | (simp; done) | (simp; omega)) ?_)
  · rw [if_neg (by omega)]
    obtain ⟨n, rfl⟩ := Int.eq_ofNat_of_zero_le (show 0 ≤ p by omega)
    have hn : n ≤ 255 := by omega
    have d0 : (0 : Int) ≤ (n : Int) := by omega
    have hc : ((UInt8.ofNat n).toNat : Int) = (n : Int) := by simp; omega
    have HR : Hid (∀ (W : World) (B cap : Nat), W.cell? ⟨B, 0, none⟩ = some (.int .u8 (n : Int)) → (convert 56 9 (.slice (some ⟨B, 0, none⟩) 1 cap)).run Tryz.prog W = .ok (.string (bq [UInt8.ofNat n])) W) := Lib.hid fun W B cap h => run_convert_bytes_back (P := Tryz.prog) W 56 9 5 ⟨B, 0, none⟩ cap [UInt8.ofNat n] Tryz.underlying56 Tryz.underlying5 Tryz.underlying9 (fun j hj => by
      obtain rfl : j = 0 := by simp at hj; omega
      rw [show (⟨B, 0, none⟩ : Addr).add 0 = ⟨B, 0, none⟩ from rfl, h]
      simp; omega)
    have u1 : IntKind.u8.wrap (n : Int) = (n : Int) := IntWalk.u8_in _ (by omega)
    rw [Int.toNat_natCast]
    clear hc h0
    go_enter Tryz.func85, Tryz.ntmps85
    go_upto_region 14 with (go_at_call 108; (with_reducible refine (QW.out _).mono ?_); rintro e w2 ⟨rfl, hb2⟩; obtain ⟨hc2, hf2⟩ := bcell hb2; have hz2 := hb2.size; (try simp at hz2); have x0 : w.heap.size + 1 < w2.heap.size := (by omega))
    have HX := Lib.hid (HR.out (w2.alloc (.cells #[.int .u8 (n : Int)] 5)) w2.heap.size 1 (by simp))
    have hx := HX.out
    go_wp2
    go_ret2
    refine ⟨rfl, ?_⟩
    repeat (first | exact Below.refl _ _ | refine below_drewN ?_ _ | refine Below.drew ?_ | refine Below.setCell ?_ (by first | omega | (simp; done) | (simp; omega)) _ | refine Below.alloc ?_ (by first | omega | (simp; done) | (simp; omega)) _ | refine below_step (by assumption) (by first | omega | (simp; done) | (simp; omega)) ?_)
end Go.Proofs.YtbdcmnhfmkefdaaGreatDoor
