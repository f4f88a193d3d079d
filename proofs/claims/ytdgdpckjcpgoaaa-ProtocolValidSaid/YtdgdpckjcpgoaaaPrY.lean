/- Layer 20: the walk of ProtocolValid. -/
import Derived.Test.YtdgdpckjcpgoaaaPrX
import Derived.Deep.RegionHeld3
import Derived.Deep.WholeRow
import Derived.Test.YtdgdpckjcpgoaaaPrXs
namespace Go.Proofs.Ytdgdpckjcpgoaaa
open Go.RowKit Go.Joins M1
set_option linter.unusedVariables false
theorem Rw.lo {B B' : Nat} {v : Value} {l : List V5} {w : World} (h : Rw B v l w) (hb : B' ≤ B) : Rw B' v l w := by
  obtain ⟨h1, h2⟩ := h
  refine ⟨h1, h2.imp id ?_⟩
  rintro ⟨g, cap, cur, a, b, c⟩
  exact ⟨g, cap, cur, a, Nat.le_trans hb b, c⟩
theorem own_empty (w : World) : (w.alloc (.cells #[] 26)).ownsRow w.heap.size 26 5 (.slice (some ⟨w.heap.size, 0, none⟩) 0 0) ([] : List V5).length (([] : List V5).flatMap vC) :=
  ⟨rfl, .inr ⟨w.heap.size, 0, #[], rfl, Nat.le_refl _, heap_new _ _, Nat.le_refl _, by decide, rfl, rfl⟩⟩
theorem u8_in {n : Int} (h : (Lit.int .u8 n).wf = true) : 0 ≤ n ∧ n ≤ 255 := by
  simp [Lit.wf, IntKind.min, IntKind.max, IntKind.bits, IntKind.signed] at h
  omega
set_option maxHeartbeats 16000000 in
theorem pv_e (x : V5) (v : Value) (l : List V5) (nx lv : Int) (w : World) (h : VA w v l) (hnx : (Lit.int .u8 nx).wf = true) (hlv : (Lit.int .u8 lv).wf = true) (hl0 : l.length ≠ 0) (hl : ¬ 32 < l.length) (hc : checkE (retA l) = 0) (hd : checkE (retA [x]) = 0) :
    Calls Try.prog 8 #[.agg #[.int .i64 x.k, .int .i64 x.p, .int .i64 x.q, .string x.s, .int .i64 x.r], v, .int .u8 nx, .int .u8 lv] w fun e w' => e = .returned (.bool true) ∧ Below w.heap.size w w' := by
  have H := Lib.hid h
  obtain ⟨p1, c1, rfl, hpc, _⟩ := h
  have HPC := Lib.hid hpc
  obtain ⟨W0, hW⟩ : ∃ W0, W0 = (w.alloc (.cells #[.int .i64 x.k, .int .i64 x.p, .int .i64 x.q, .string x.s, .int .i64 x.r] 26)) := ⟨_, rfl⟩
  have HC : Hid (Ch [] w W0) := Lib.hid (by rw [hW]; exact (Ch.refl [] w).alloc _)
  have HX : Hid (Blk 26 w.heap.size #[.int .i64 x.k, .int .i64 x.p, .int .i64 x.q, .string x.s, .int .i64 x.r] W0) := Lib.hid (by rw [hW]; exact Blk.new w _ _ _ rfl)
  have HW := Lib.hid hW
  have HL0 : Hid (VA W0 (.slice p1 l.length c1) l) := Lib.hid (H.out.below HC.out)
  have QA := Lib.hid fun W => awake_any W
  clear hW hpc
  have u0 : W0.cell? ⟨w.heap.size, 0, none⟩ = some (.int .i64 x.k) := HX.out.cell 0
  have u1 : W0.cell? ⟨w.heap.size, 1, none⟩ = some (.int .i64 x.p) := HX.out.cell 1
  have u2 : W0.cell? ⟨w.heap.size, 2, none⟩ = some (.int .i64 x.q) := HX.out.cell 2
  have u3 : W0.cell? ⟨w.heap.size, 3, none⟩ = some (.string x.s) := HX.out.cell 3
  have u4 : W0.cell? ⟨w.heap.size, 4, none⟩ = some (.int .i64 x.r) := HX.out.cell 4
  have ul := HX.out.lt
  have hz : ((l.length : Int) == 0) = false := by simpa using hl0
  have hg : decide (32 < (l.length : Int)) = false := decide_eq_false (by omega)
  have hg' : ¬ 32 < (l.length : Int) := by omega
  have hm : l.length ≤ 1000000 := by omega
  have hE : (0 : Int) = checkE (retA l) := hc.symm
  have hD : (0 : Int) = checkE (retA [x]) := hd.symm
  have QR1 : Hid (∀ W v, VA W v l → Calls Try.prog 13 #[v] W fun e w' => ∃ vl1, e = .returned (.agg #[.int .i64 1, .int .i64 0, .int .i64 0, .int .i64 0, .int .i64 0, .string ⟨#[]⟩, .int .i64 0, vl1, .string ⟨#[]⟩, .int .i64 0, .int .i64 0, .slice none 0 0]) ∧ VA w' vl1 l ∧ Ch [] W w') := Lib.hid fun W v hv => (rreturn_any v l W hv hm).mono (by
    rintro e w' ⟨vl, rfl, hr, hc⟩
    exact ⟨vl, rfl, hr.va, hc⟩)
  have QC1 : Hid (∀ W vl1, VA W vl1 l → Calls Try.prog 25 #[.agg #[.int .i64 1, .int .i64 0, .int .i64 0, .int .i64 0, .int .i64 0, .string ⟨#[]⟩, .int .i64 0, vl1, .string ⟨#[]⟩, .int .i64 0, .int .i64 0, .slice none 0 0]] W fun e w' => e = .returned (.int .i64 0) ∧ Ch [] W w') := Lib.hid fun W vl hv => by
    have := rcheck_any _ (retA l) W ⟨vl, .slice none 0 0, rfl, hv, VA.nil W⟩ hm (by simp [retA])
    rw [← hE] at this
    exact this
  have QR2 : Hid (∀ W v, VA W v [x] → Calls Try.prog 13 #[v] W fun e w' => ∃ vl2, e = .returned (.agg #[.int .i64 1, .int .i64 0, .int .i64 0, .int .i64 0, .int .i64 0, .string ⟨#[]⟩, .int .i64 0, vl2, .string ⟨#[]⟩, .int .i64 0, .int .i64 0, .slice none 0 0]) ∧ VA w' vl2 [x] ∧ Ch [] W w') := Lib.hid fun W v hv => (rreturn_any v [x] W hv (by simp)).mono (by
    rintro e w' ⟨vl, rfl, hr, hc⟩
    exact ⟨vl, rfl, hr.va, hc⟩)
  have QC2 : Hid (∀ W vl2, VA W vl2 [x] → Calls Try.prog 25 #[.agg #[.int .i64 1, .int .i64 0, .int .i64 0, .int .i64 0, .int .i64 0, .string ⟨#[]⟩, .int .i64 0, vl2, .string ⟨#[]⟩, .int .i64 0, .int .i64 0, .slice none 0 0]] W fun e w' => e = .returned (.int .i64 0) ∧ Ch [] W w') := Lib.hid fun W vl hv => by
    have := rcheck_any _ (retA [x]) W ⟨vl, .slice none 0 0, rfl, hv, VA.nil W⟩ (by simp [retA]) (by simp [retA])
    rw [← hD] at this
    exact this
  have HNX : Hid ((0 ≤ nx ∧ nx ≤ 255) ∧ (0 ≤ lv ∧ lv ≤ 255)) := Lib.hid ⟨u8_in hnx, u8_in hlv⟩
  clear hnx hlv
  have HLN : Hid (l.length ≠ 0 ∧ l.length ≤ 32) := Lib.hid ⟨hl0, by omega⟩
  have HCK := Lib.hid (And.intro hc hd)
  clear hl hl0 hm hc hE hd hD
  go_enter Try.func8, Try.ntmps8
  go_upto_region 1 with fail
  rw [← HW.out]
  go_upto_region 3 with (first | (go_at_call 13; (with_reducible refine (QR1.out _ _ HL0.out).mono ?_); rintro e w1 ⟨vl1, rfl, hv1, hc1⟩; have HV1 := Lib.hid hv1; have HC1 := Lib.hid (HC.out.trans hc1); have HC1b := Lib.hid hc1; clear hv1 hc1) | (go_at_call 25; (with_reducible refine (QC1.out _ _ HV1.out).mono ?_); rintro e w2 ⟨rfl, hc2⟩; have HC2 := Lib.hid (HC1.out.trans hc2); have HC2b := Lib.hid (HC1b.out.trans hc2); have HX2 := Lib.hid (HX.out.below HC2b.out.below); have t0 : w2.cell? ⟨w.heap.size, 0, none⟩ = some (.int .i64 x.k) := HX2.out.cell 0; have t1 : w2.cell? ⟨w.heap.size, 1, none⟩ = some (.int .i64 x.p) := HX2.out.cell 1; have t2 : w2.cell? ⟨w.heap.size, 2, none⟩ = some (.int .i64 x.q) := HX2.out.cell 2; have t3 : w2.cell? ⟨w.heap.size, 3, none⟩ = some (.string x.s) := HX2.out.cell 3; have t4 : w2.cell? ⟨w.heap.size, 4, none⟩ = some (.int .i64 x.r) := HX2.out.cell 4; have tl := HX2.out.lt; clear hc2) | (go_at_call 13; (with_reducible refine (QR2.out _ _ (VA.one x w2)).mono ?_); rintro e w3 ⟨vl2, rfl, hv3, hc3⟩; have HV2 := Lib.hid hv3; have HC3b := Lib.hid (HC2b.out.trans (((Ch.refl [] w2).alloc _).trans hc3)); clear hv3 hc3) | (go_at_call 25; (with_reducible refine (QC2.out _ _ HV2.out).mono ?_); rintro e w4 ⟨rfl, hc4⟩; have HC4b := Lib.hid (HC3b.out.trans hc4); clear hc4))
  clear t0 t1 t2 t3 t4 tl u0 u1 u2 u3 u4 ul HC1 HC2 HC1b HC2b HC3b HV1 HV2 HX2 QR1 QR2 QC1 QC2 hz hg hg'
  have HL4 : Hid (VA w4 (.slice p1 l.length c1) l) := Lib.hid (HL0.out.below HC4b.out)
  have HX4 := Lib.hid (HX.out.below HC4b.out.below)
  have HCw : Hid (Ch [] w w4) := Lib.hid (HC.out.trans HC4b.out)
  clear HL0 HX HC HC4b
  have HE0 : Hid ((w4.alloc (.cells #[] 26)).ownsRow w4.heap.size 26 5 (.slice (some ⟨w4.heap.size, 0, none⟩) 0 0) ([] : List V5).length (([] : List V5).flatMap vC)) := Lib.hid (own_empty w4)
  have HSL4 : Hid (ValsA (w4.alloc (.cells #[] 26)) (.slice p1 l.length c1) l) := Lib.hid (by obtain ⟨p, c, e, _, hv⟩ := HL4.out; exact hv.below ((Ch.refl [] w4).alloc _))
  have HL10 : Hid (([] : List V5).length + l.length ≤ 1000000) := Lib.hid (by have := HLN.out; rw [List.length_nil]; omega)
  go_wp2_with (at_builtin; refine append_vals rfl _ _ rfl w4.heap.size _ [] rfl HE0.out p1 l.length c1 l rfl HSL4.out HPC.out HL10.out ((Ch.refl [] w4).alloc _).size ?_)
  intro v' W6 ho' hc' hg'
  have hr6 : Rw w4.heap.size v' l W6 := ho'
  have HW6 : Hid (Ch [] w4 W6) := Lib.hid (((Ch.refl [] w4).alloc (.cells #[] 26)).new (Nat.le_refl _) hc')
  obtain ⟨g, cap, rfl⟩ : ∃ g cap, v' = .slice (some ⟨g, 0, none⟩) l.length cap := by
    rcases hr6.form with ⟨_, h2⟩ | ⟨g, cap, h1⟩
    · exact absurd (by rw [h2]; rfl) HLN.out.1
    · exact ⟨g, cap, h1⟩
  have HM := Lib.hid hr6
  clear ho' hc' hg' hr6 HE0 HSL4
  go_upto_region 4 with fail
  have HSL : Hid (VA W6 (.slice p1 l.length c1) l) := Lib.hid (HL4.out.below HW6.out)
  have HSM : Hid (VA W6 (.slice (some ⟨g, 0, none⟩) l.length cap) l) := Lib.hid HM.out.va
  have HX6 := Lib.hid (HX4.out.below HW6.out.below)
  have HC6 : Hid (Ch [] w W6) := Lib.hid (HCw.out.trans HW6.out)
  have HGM : Hid (w4.heap.size ≤ g ∧ w.heap.size < w4.heap.size) := Lib.hid ⟨(own_lo HM.out (mem_ob.2 rfl)).1, HX4.out.lt⟩
  clear HL4 HX4 HCw HW6
  have u0 : W6.cell? ⟨w.heap.size, 0, none⟩ = some (.int .i64 x.k) := HX6.out.cell 0
  have u1 : W6.cell? ⟨w.heap.size, 1, none⟩ = some (.int .i64 x.p) := HX6.out.cell 1
  have u2 : W6.cell? ⟨w.heap.size, 2, none⟩ = some (.int .i64 x.q) := HX6.out.cell 2
  have u3 : W6.cell? ⟨w.heap.size, 3, none⟩ = some (.string x.s) := HX6.out.cell 3
  have u4 : W6.cell? ⟨w.heap.size, 4, none⟩ = some (.int .i64 x.r) := HX6.out.cell 4
  have ul := HX6.out.lt
  obtain ⟨y, hy⟩ : ∃ y, y = l[0]'(by have := HLN.out; omega) := ⟨_, rfl⟩
  obtain ⟨ga, oa, rfl, hga, z0, z1, z2, z3, z4⟩ : ∃ ga oa, p1 = some ⟨ga, oa, none⟩ ∧ ga < W6.heap.size ∧ W6.cell? ⟨ga, oa, none⟩ = some (.int .i64 y.k) ∧ W6.cell? ⟨ga, oa + 1, none⟩ = some (.int .i64 y.p) ∧ W6.cell? ⟨ga, oa + 2, none⟩ = some (.int .i64 y.q) ∧ W6.cell? ⟨ga, oa + 3, none⟩ = some (.string y.s) ∧ W6.cell? ⟨ga, oa + 4, none⟩ = some (.int .i64 y.r) := by
    obtain ⟨p, c, e, _, hv⟩ := HSL.out
    obtain ⟨p', c', e', hk⟩ := hv.form
    rw [e] at e'
    injection e with e1 e2 e3
    injection e' with e4 e5 e6
    subst e4 e1
    obtain ⟨g', o', e7, hg', hcv⟩ := hk (by have := HLN.out; omega)
    have hm : ∀ m, m < 5 → W6.cell? ⟨g', o' + m, none⟩ = (vC y)[m]? := fun m hm => by have := hcv 0 m (by have := HLN.out; omega) hm; rw [hy]; simpa using this
    exact ⟨g', o', e7, hg', hm 0 (by omega), hm 1 (by omega), hm 2 (by omega), hm 3 (by omega), hm 4 (by omega)⟩
  have HY := Lib.hid hy
  clear hy
  have hn0 : (0 : Int) < (l.length : Int) := by have := HLN.out; omega
  have hw1 : IntKind.i64.wrap nx = nx := IntWalk.i64_in _ (by have := HNX.out; omega)
  have hw2 : IntKind.i64.wrap lv = lv := IntWalk.i64_in _ (by have := HNX.out; omega)
  have hS0 := aw_start W6
  have hn1 : 0 < l.length := by have := HLN.out; omega
  have Q1 : Hid (∀ W, ((∀ c o, c < W6.heap.size → W.cell? ⟨c, o, none⟩ = W6.cell? ⟨c, o, none⟩) ∧ AwS W6 W) → Calls Try.prog 12 #[.slice (some ⟨g, 0, none⟩) l.length cap] W fun e w' => ∃ vl, e = .returned (.agg #[.int .i64 1, .int .i64 0, .int .i64 0, .int .i64 0, .int .i64 0, .string ⟨#[]⟩, .int .i64 0, vl, .string ⟨#[]⟩, .int .i64 0, .int .i64 0, .slice none 0 0]) ∧ Rw W6.heap.size vl (l) w' ∧ Ch [] W w' ∧ ((∀ c o, c < W6.heap.size → w'.cell? ⟨c, o, none⟩ = W6.cell? ⟨c, o, none⟩) ∧ AwS W6 w')) := Lib.hid fun W h => by
    refine (return_any _ l W (HSM.out.below h.2) (by have := HLN.out; omega)).mono ?_
    rintro e w' ⟨vl, rfl, hr, hc⟩
    exact ⟨vl, rfl, hr.lo h.2.size, hc, aw_keep h hc⟩
  have Q2 : Hid (∀ W, ((∀ c o, c < W6.heap.size → W.cell? ⟨c, o, none⟩ = W6.cell? ⟨c, o, none⟩) ∧ AwS W6 W) → Calls Try.prog 14 #[.agg #[.int .i64 y.k, .int .i64 y.p, .int .i64 y.q, .string y.s, .int .i64 y.r], .int .i64 lv] W fun e w' => ∃ vl, e = .returned (.agg #[.int .i64 2, .int .i64 0, .int .i64 0, .int .i64 0, .int .i64 0, .string ⟨#[]⟩, .int .i64 0, vl, .string ⟨#[]⟩, .int .i64 lv, .int .i64 0, .slice none 0 0]) ∧ Rw W6.heap.size vl ([y]) w' ∧ Ch [] W w' ∧ ((∀ c o, c < W6.heap.size → w'.cell? ⟨c, o, none⟩ = W6.cell? ⟨c, o, none⟩) ∧ AwS W6 w')) := Lib.hid fun W h => by
    refine (fail_any y lv W).mono ?_
    rintro e w' ⟨vl, rfl, hr, hc⟩
    exact ⟨vl, rfl, hr.lo h.2.size, hc, aw_keep h hc⟩
  have Q3 : Hid (∀ W, ((∀ c o, c < W6.heap.size → W.cell? ⟨c, o, none⟩ = W6.cell? ⟨c, o, none⟩) ∧ AwS W6 W) → Calls Try.prog 16 #[.string ⟨#[120]⟩] W fun e w' => ∃ vl, e = .returned (.agg #[.int .i64 2, .int .i64 0, .int .i64 0, .int .i64 0, .int .i64 0, .string ⟨#[]⟩, .int .i64 0, vl, .string ⟨#[]⟩, .int .i64 1, .int .i64 0, .slice none 0 0]) ∧ Rw W6.heap.size vl ([v5s (cutS ⟨#[120]⟩)]) w' ∧ Ch [] W w' ∧ ((∀ c o, c < W6.heap.size → w'.cell? ⟨c, o, none⟩ = W6.cell? ⟨c, o, none⟩) ∧ AwS W6 w')) := Lib.hid fun W h => by
    refine (error_any ⟨#[120]⟩ W).mono ?_
    rintro e w' ⟨vl, rfl, hr, hc⟩
    exact ⟨vl, rfl, hr.lo h.2.size, hc, aw_keep h hc⟩
  have Q4 : Hid (∀ W, ((∀ c o, c < W6.heap.size → W.cell? ⟨c, o, none⟩ = W6.cell? ⟨c, o, none⟩) ∧ AwS W6 W) → Calls Try.prog 18 #[.agg #[.int .i64 x.k, .int .i64 x.p, .int .i64 x.q, .string x.s, .int .i64 x.r], .slice (some ⟨g, 0, none⟩) l.length cap, .int .i64 nx, .slice (some ⟨g, 0, none⟩) l.length cap] W fun e w' => ∃ vl vp, e = .returned (.agg #[.int .i64 3, .int .i64 0, .int .i64 x.k, .int .i64 x.p, .int .i64 x.q, .string x.s, .int .i64 x.r, vl, .string ⟨#[]⟩, .int .i64 0, .int .i64 nx, vp]) ∧ Rw W6.heap.size vl (l) w' ∧ Rw W6.heap.size vp (l) w' ∧ Ch [] W w' ∧ ((∀ c o, c < W6.heap.size → w'.cell? ⟨c, o, none⟩ = W6.cell? ⟨c, o, none⟩) ∧ AwS W6 w')) := Lib.hid fun W h => by
    refine (call_any x _ _ l l nx W (HSM.out.below h.2) (HSM.out.below h.2) (by have := HLN.out; omega) (by have := HLN.out; omega)).mono ?_
    rintro e w' ⟨vl, vp, rfl, hr, hr2, hc⟩
    exact ⟨vl, vp, rfl, hr.lo h.2.size, hr2.lo h.2.size, hc, aw_keep h hc⟩
  have Q5 : Hid (∀ W, ((∀ c o, c < W6.heap.size → W.cell? ⟨c, o, none⟩ = W6.cell? ⟨c, o, none⟩) ∧ AwS W6 W) → Calls Try.prog 20 #[.agg #[.int .i64 x.k, .int .i64 x.p, .int .i64 x.q, .string x.s, .int .i64 x.r], .slice (some ⟨g, 0, none⟩) l.length cap, .int .i64 nx, .slice (some ⟨g, 0, none⟩) l.length cap] W fun e w' => ∃ vl vp, e = .returned (.agg #[.int .i64 4, .int .i64 0, .int .i64 x.k, .int .i64 x.p, .int .i64 x.q, .string x.s, .int .i64 x.r, vl, .string ⟨#[]⟩, .int .i64 0, .int .i64 nx, vp]) ∧ Rw W6.heap.size vl (l) w' ∧ Rw W6.heap.size vp (l) w' ∧ Ch [] W w' ∧ ((∀ c o, c < W6.heap.size → w'.cell? ⟨c, o, none⟩ = W6.cell? ⟨c, o, none⟩) ∧ AwS W6 w')) := Lib.hid fun W h => by
    refine (try_any x _ _ l l nx W (HSM.out.below h.2) (HSM.out.below h.2) (by have := HLN.out; omega) (by have := HLN.out; omega)).mono ?_
    rintro e w' ⟨vl, vp, rfl, hr, hr2, hc⟩
    exact ⟨vl, vp, rfl, hr.lo h.2.size, hr2.lo h.2.size, hc, aw_keep h hc⟩
  have Q6 : Hid (∀ W, ((∀ c o, c < W6.heap.size → W.cell? ⟨c, o, none⟩ = W6.cell? ⟨c, o, none⟩) ∧ AwS W6 W) → Calls Try.prog 22 #[.slice (some ⟨g, 0, none⟩) l.length cap, .int .i64 nx, .slice (some ⟨g, 0, none⟩) l.length cap] W fun e w' => ∃ vl vp, e = .returned (.agg #[.int .i64 5, .int .i64 0, .int .i64 0, .int .i64 0, .int .i64 0, .string ⟨#[]⟩, .int .i64 0, vl, .string ⟨#[]⟩, .int .i64 0, .int .i64 nx, vp]) ∧ Rw W6.heap.size vl (l) w' ∧ Rw W6.heap.size vp (l) w' ∧ Ch [] W w' ∧ ((∀ c o, c < W6.heap.size → w'.cell? ⟨c, o, none⟩ = W6.cell? ⟨c, o, none⟩) ∧ AwS W6 w')) := Lib.hid fun W h => by
    refine (yield_any _ _ l l nx W (HSM.out.below h.2) (HSM.out.below h.2) (by have := HLN.out; omega) (by have := HLN.out; omega)).mono ?_
    rintro e w' ⟨vl, vp, rfl, hr, hr2, hc⟩
    exact ⟨vl, vp, rfl, hr.lo h.2.size, hr2.lo h.2.size, hc, aw_keep h hc⟩
  clear HPC
  go_region_held3 (fun w' => (∀ c o, c < W6.heap.size → w'.cell? ⟨c, o, none⟩ = W6.cell? ⟨c, o, none⟩) ∧ AwS W6 w') (first | assumption | exact hS0 | exact aw_keep (by assumption) ((Ch.refl [] _).alloc _)) (first | (go_at_call 12; (with_reducible refine (Q1.out _ (by assumption)).mono ?_); rintro e wa1 ⟨va1, rfl, hr, hc, hqa1⟩; have HRa1 := Lib.hid hr; have HCa1 := Lib.hid hc; clear hr hc) | (go_at_call 14; (with_reducible refine (Q2.out _ (by assumption)).mono ?_); rintro e wa2 ⟨va2, rfl, hr, hc, hqa2⟩; have HRa2 := Lib.hid hr; have HCa2 := Lib.hid hc; clear hr hc) | (go_at_call 16; (with_reducible refine (Q3.out _ (by assumption)).mono ?_); rintro e wa3 ⟨va3, rfl, hr, hc, hqa3⟩; have HRa3 := Lib.hid hr; have HCa3 := Lib.hid hc; clear hr hc) | (go_at_call 18; (with_reducible refine (Q4.out _ (by assumption)).mono ?_); rintro e wa4 ⟨va4, ua4, rfl, hr, hr2, hc, hqa4⟩; have HRa4 := Lib.hid hr; have HUa4 := Lib.hid hr2; have HCa4 := Lib.hid hc; clear hr hr2 hc) | (go_at_call 20; (with_reducible refine (Q5.out _ (by assumption)).mono ?_); rintro e wa5 ⟨va5, ua5, rfl, hr, hr2, hc, hqa5⟩; have HRa5 := Lib.hid hr; have HUa5 := Lib.hid hr2; have HCa5 := Lib.hid hc; clear hr hr2 hc) | (go_at_call 22; (with_reducible refine (Q6.out _ (by assumption)).mono ?_); rintro e wa6 ⟨va6, ua6, rfl, hr, hr2, hc, hqa6⟩; have HRa6 := Lib.hid hr; have HUa6 := Lib.hid hr2; have HCa6 := Lib.hid hc; clear hr hr2 hc))
  clear hS0 Q1 Q2 Q3 Q4 Q5 Q6
  obtain ⟨W7, hW7⟩ : ∃ W7, W7 = (wa6.alloc (.cells #[.int .i64 1, .int .i64 0, .int .i64 0, .int .i64 0, .int .i64 0, .string ⟨#[]⟩, .int .i64 0, va1, .string ⟨#[]⟩, .int .i64 0, .int .i64 0, .slice none 0 0, .int .i64 2, .int .i64 0, .int .i64 0, .int .i64 0, .int .i64 0, .string ⟨#[]⟩, .int .i64 0, va2, .string ⟨#[]⟩, .int .i64 lv, .int .i64 0, .slice none 0 0, .int .i64 2, .int .i64 0, .int .i64 0, .int .i64 0, .int .i64 0, .string ⟨#[]⟩, .int .i64 0, va3, .string ⟨#[]⟩, .int .i64 1, .int .i64 0, .slice none 0 0, .int .i64 3, .int .i64 0, .int .i64 x.k, .int .i64 x.p, .int .i64 x.q, .string x.s, .int .i64 x.r, va4, .string ⟨#[]⟩, .int .i64 0, .int .i64 nx, ua4, .int .i64 4, .int .i64 0, .int .i64 x.k, .int .i64 x.p, .int .i64 x.q, .string x.s, .int .i64 x.r, va5, .string ⟨#[]⟩, .int .i64 0, .int .i64 nx, ua5, .int .i64 5, .int .i64 0, .int .i64 0, .int .i64 0, .int .i64 0, .string ⟨#[]⟩, .int .i64 0, va6, .string ⟨#[]⟩, .int .i64 0, .int .i64 nx, ua6] 31)) := ⟨_, rfl⟩
  rw [← hW7]
  have HKa6 : Hid (Ch [] wa6 W7) := Lib.hid (by rw [hW7]; exact (Ch.refl [] wa6).alloc _)
  have HKa5 := Lib.hid (HCa6.out.trans HKa6.out)
  have HKa4 := Lib.hid (HCa5.out.trans HKa5.out)
  have HKa3 := Lib.hid (HCa4.out.trans HKa4.out)
  have HKa2 := Lib.hid (HCa3.out.trans HKa3.out)
  have HKa1 := Lib.hid (HCa2.out.trans HKa2.out)
  have HTa : Hid (Ch [] W6 W7) := Lib.hid (((Ch.refl [] W6).drew.trans HCa1.out).trans HKa1.out)
  have HBa : Hid (Blk 31 wa6.heap.size #[.int .i64 1, .int .i64 0, .int .i64 0, .int .i64 0, .int .i64 0, .string ⟨#[]⟩, .int .i64 0, va1, .string ⟨#[]⟩, .int .i64 0, .int .i64 0, .slice none 0 0, .int .i64 2, .int .i64 0, .int .i64 0, .int .i64 0, .int .i64 0, .string ⟨#[]⟩, .int .i64 0, va2, .string ⟨#[]⟩, .int .i64 lv, .int .i64 0, .slice none 0 0, .int .i64 2, .int .i64 0, .int .i64 0, .int .i64 0, .int .i64 0, .string ⟨#[]⟩, .int .i64 0, va3, .string ⟨#[]⟩, .int .i64 1, .int .i64 0, .slice none 0 0, .int .i64 3, .int .i64 0, .int .i64 x.k, .int .i64 x.p, .int .i64 x.q, .string x.s, .int .i64 x.r, va4, .string ⟨#[]⟩, .int .i64 0, .int .i64 nx, ua4, .int .i64 4, .int .i64 0, .int .i64 x.k, .int .i64 x.p, .int .i64 x.q, .string x.s, .int .i64 x.r, va5, .string ⟨#[]⟩, .int .i64 0, .int .i64 nx, ua5, .int .i64 5, .int .i64 0, .int .i64 0, .int .i64 0, .int .i64 0, .string ⟨#[]⟩, .int .i64 0, va6, .string ⟨#[]⟩, .int .i64 0, .int .i64 nx, ua6] W7) := Lib.hid (by rw [hW7]; exact Blk.new wa6 _ _ _ rfl)
  have HSa1 : Hid (Rw W6.heap.size va1 (l) W7) := Lib.hid (HRa1.out.ch0 HKa1.out)
  have HSa2 : Hid (Rw W6.heap.size va2 ([y]) W7) := Lib.hid (HRa2.out.ch0 HKa2.out)
  have HSa3 : Hid (Rw W6.heap.size va3 ([v5s (cutS ⟨#[120]⟩)]) W7) := Lib.hid (HRa3.out.ch0 HKa3.out)
  have HSa4 : Hid (Rw W6.heap.size va4 (l) W7) := Lib.hid (HRa4.out.ch0 HKa4.out)
  have HVa4 : Hid (Rw W6.heap.size ua4 (l) W7) := Lib.hid (HUa4.out.ch0 HKa4.out)
  have HSa5 : Hid (Rw W6.heap.size va5 (l) W7) := Lib.hid (HRa5.out.ch0 HKa5.out)
  have HVa5 : Hid (Rw W6.heap.size ua5 (l) W7) := Lib.hid (HUa5.out.ch0 HKa5.out)
  have HSa6 : Hid (Rw W6.heap.size va6 (l) W7) := Lib.hid (HRa6.out.ch0 HKa6.out)
  have HVa6 : Hid (Rw W6.heap.size ua6 (l) W7) := Lib.hid (HUa6.out.ch0 HKa6.out)
  obtain ⟨ma, hma⟩ : ∃ m, m = wa6.heap.size := ⟨_, rfl⟩
  rw [← hma] at HBa
  rw [← hma]
  have HMa : Hid (W6.heap.size ≤ ma) := Lib.hid (by rw [hma]; have := ((((((Ch.refl [] W6).drew.trans HCa1.out).trans HCa2.out).trans HCa3.out).trans HCa4.out).trans HCa5.out).trans HCa6.out; exact this.size)
  clear hW7 hma HRa1 HCa1 HKa1 hqa1 HRa2 HCa2 HKa2 hqa2 HRa3 HCa3 HKa3 hqa3 HRa4 HCa4 HKa4 hqa4 HRa5 HCa5 HKa5 hqa5 HRa6 HCa6 HKa6 hqa6 HUa4 HUa5 HUa6
  have HSL7 : Hid (VA W7 (.slice (some ⟨ga, oa, none⟩) l.length c1) l) := Lib.hid (HSL.out.below HTa.out)
  have hS1 := aw_start W7
  have f0 : W7.cell? ⟨w.heap.size, 0, none⟩ = some (.int .i64 x.k) := (HTa.out.below.cell (p := ⟨w.heap.size, 0, none⟩) ul).trans u0
  have f1 : W7.cell? ⟨w.heap.size, 1, none⟩ = some (.int .i64 x.p) := (HTa.out.below.cell (p := ⟨w.heap.size, 1, none⟩) ul).trans u1
  have f2 : W7.cell? ⟨w.heap.size, 2, none⟩ = some (.int .i64 x.q) := (HTa.out.below.cell (p := ⟨w.heap.size, 2, none⟩) ul).trans u2
  have f3 : W7.cell? ⟨w.heap.size, 3, none⟩ = some (.string x.s) := (HTa.out.below.cell (p := ⟨w.heap.size, 3, none⟩) ul).trans u3
  have f4 : W7.cell? ⟨w.heap.size, 4, none⟩ = some (.int .i64 x.r) := (HTa.out.below.cell (p := ⟨w.heap.size, 4, none⟩) ul).trans u4
  have g0 : W7.cell? ⟨ga, oa, none⟩ = some (.int .i64 y.k) := (HTa.out.below.cell (p := ⟨ga, _, none⟩) hga).trans z0
  have g1 : W7.cell? ⟨ga, oa + 1, none⟩ = some (.int .i64 y.p) := (HTa.out.below.cell (p := ⟨ga, _, none⟩) hga).trans z1
  have g2 : W7.cell? ⟨ga, oa + 2, none⟩ = some (.int .i64 y.q) := (HTa.out.below.cell (p := ⟨ga, _, none⟩) hga).trans z2
  have g3 : W7.cell? ⟨ga, oa + 3, none⟩ = some (.string y.s) := (HTa.out.below.cell (p := ⟨ga, _, none⟩) hga).trans z3
  have g4 : W7.cell? ⟨ga, oa + 4, none⟩ = some (.int .i64 y.r) := (HTa.out.below.cell (p := ⟨ga, _, none⟩) hga).trans z4
  have fl := Nat.lt_of_lt_of_le ul HTa.out.size
  have gl := Nat.lt_of_lt_of_le hga HTa.out.size
  clear u0 z0 u1 z1 u2 z2 u3 z3 u4 z4 ul hga
  have P1 : Hid (∀ W, ((∀ c o, c < W7.heap.size → W.cell? ⟨c, o, none⟩ = W7.cell? ⟨c, o, none⟩) ∧ AwS W7 W) → Calls Try.prog 13 #[.slice (some ⟨ga, oa, none⟩) l.length c1] W fun e w' => ∃ vl, e = .returned (.agg #[.int .i64 1, .int .i64 0, .int .i64 0, .int .i64 0, .int .i64 0, .string ⟨#[]⟩, .int .i64 0, vl, .string ⟨#[]⟩, .int .i64 0, .int .i64 0, .slice none 0 0]) ∧ Rw W7.heap.size vl (l) w' ∧ Ch [] W w' ∧ ((∀ c o, c < W7.heap.size → w'.cell? ⟨c, o, none⟩ = W7.cell? ⟨c, o, none⟩) ∧ AwS W7 w')) := Lib.hid fun W h => by
    refine (rreturn_any _ l W (HSL7.out.below h.2) (by have := HLN.out; omega)).mono ?_
    rintro e w' ⟨vl, rfl, hr, hc⟩
    exact ⟨vl, rfl, hr.lo h.2.size, hc, aw_keep h hc⟩
  have P2 : Hid (∀ W, ((∀ c o, c < W7.heap.size → W.cell? ⟨c, o, none⟩ = W7.cell? ⟨c, o, none⟩) ∧ AwS W7 W) → Calls Try.prog 15 #[.agg #[.int .i64 y.k, .int .i64 y.p, .int .i64 y.q, .string y.s, .int .i64 y.r], .int .i64 lv] W fun e w' => ∃ vl, e = .returned (.agg #[.int .i64 2, .int .i64 0, .int .i64 0, .int .i64 0, .int .i64 0, .string ⟨#[]⟩, .int .i64 0, vl, .string ⟨#[]⟩, .int .i64 lv, .int .i64 0, .slice none 0 0]) ∧ Rw W7.heap.size vl ([y]) w' ∧ Ch [] W w' ∧ ((∀ c o, c < W7.heap.size → w'.cell? ⟨c, o, none⟩ = W7.cell? ⟨c, o, none⟩) ∧ AwS W7 w')) := Lib.hid fun W h => by
    refine (rfail_any y lv W).mono ?_
    rintro e w' ⟨vl, rfl, hr, hc⟩
    exact ⟨vl, rfl, hr.lo h.2.size, hc, aw_keep h hc⟩
  have P3 : Hid (∀ W, ((∀ c o, c < W7.heap.size → W.cell? ⟨c, o, none⟩ = W7.cell? ⟨c, o, none⟩) ∧ AwS W7 W) → Calls Try.prog 17 #[.string ⟨#[120]⟩] W fun e w' => ∃ vl, e = .returned (.agg #[.int .i64 2, .int .i64 0, .int .i64 0, .int .i64 0, .int .i64 0, .string ⟨#[]⟩, .int .i64 0, vl, .string ⟨#[]⟩, .int .i64 1, .int .i64 0, .slice none 0 0]) ∧ Rw W7.heap.size vl ([v5s (cutS ⟨#[120]⟩)]) w' ∧ Ch [] W w' ∧ ((∀ c o, c < W7.heap.size → w'.cell? ⟨c, o, none⟩ = W7.cell? ⟨c, o, none⟩) ∧ AwS W7 w')) := Lib.hid fun W h => by
    refine (rerror_any ⟨#[120]⟩ W).mono ?_
    rintro e w' ⟨vl, rfl, hr, hc⟩
    exact ⟨vl, rfl, hr.lo h.2.size, hc, aw_keep h hc⟩
  have P4 : Hid (∀ W, ((∀ c o, c < W7.heap.size → W.cell? ⟨c, o, none⟩ = W7.cell? ⟨c, o, none⟩) ∧ AwS W7 W) → Calls Try.prog 19 #[.agg #[.int .i64 x.k, .int .i64 x.p, .int .i64 x.q, .string x.s, .int .i64 x.r], .slice (some ⟨ga, oa, none⟩) l.length c1, .int .i64 nx, .slice (some ⟨ga, oa, none⟩) l.length c1] W fun e w' => ∃ vl vp, e = .returned (.agg #[.int .i64 3, .int .i64 0, .int .i64 x.k, .int .i64 x.p, .int .i64 x.q, .string x.s, .int .i64 x.r, vl, .string ⟨#[]⟩, .int .i64 0, .int .i64 nx, vp]) ∧ Rw W7.heap.size vl (l) w' ∧ Rw W7.heap.size vp (l) w' ∧ Ch [] W w' ∧ ((∀ c o, c < W7.heap.size → w'.cell? ⟨c, o, none⟩ = W7.cell? ⟨c, o, none⟩) ∧ AwS W7 w')) := Lib.hid fun W h => by
    refine (rcall_any x _ _ l l nx W (HSL7.out.below h.2) (HSL7.out.below h.2) (by have := HLN.out; omega) (by have := HLN.out; omega)).mono ?_
    rintro e w' ⟨vl, vp, rfl, hr, hr2, hc⟩
    exact ⟨vl, vp, rfl, hr.lo h.2.size, hr2.lo h.2.size, hc, aw_keep h hc⟩
  have P5 : Hid (∀ W, ((∀ c o, c < W7.heap.size → W.cell? ⟨c, o, none⟩ = W7.cell? ⟨c, o, none⟩) ∧ AwS W7 W) → Calls Try.prog 21 #[.agg #[.int .i64 x.k, .int .i64 x.p, .int .i64 x.q, .string x.s, .int .i64 x.r], .slice (some ⟨ga, oa, none⟩) l.length c1, .int .i64 nx, .slice (some ⟨ga, oa, none⟩) l.length c1] W fun e w' => ∃ vl vp, e = .returned (.agg #[.int .i64 4, .int .i64 0, .int .i64 x.k, .int .i64 x.p, .int .i64 x.q, .string x.s, .int .i64 x.r, vl, .string ⟨#[]⟩, .int .i64 0, .int .i64 nx, vp]) ∧ Rw W7.heap.size vl (l) w' ∧ Rw W7.heap.size vp (l) w' ∧ Ch [] W w' ∧ ((∀ c o, c < W7.heap.size → w'.cell? ⟨c, o, none⟩ = W7.cell? ⟨c, o, none⟩) ∧ AwS W7 w')) := Lib.hid fun W h => by
    refine (rtry_any x _ _ l l nx W (HSL7.out.below h.2) (HSL7.out.below h.2) (by have := HLN.out; omega) (by have := HLN.out; omega)).mono ?_
    rintro e w' ⟨vl, vp, rfl, hr, hr2, hc⟩
    exact ⟨vl, vp, rfl, hr.lo h.2.size, hr2.lo h.2.size, hc, aw_keep h hc⟩
  have P6 : Hid (∀ W, ((∀ c o, c < W7.heap.size → W.cell? ⟨c, o, none⟩ = W7.cell? ⟨c, o, none⟩) ∧ AwS W7 W) → Calls Try.prog 23 #[.slice (some ⟨ga, oa, none⟩) l.length c1, .int .i64 nx, .slice (some ⟨ga, oa, none⟩) l.length c1] W fun e w' => ∃ vl vp, e = .returned (.agg #[.int .i64 5, .int .i64 0, .int .i64 0, .int .i64 0, .int .i64 0, .string ⟨#[]⟩, .int .i64 0, vl, .string ⟨#[]⟩, .int .i64 0, .int .i64 nx, vp]) ∧ Rw W7.heap.size vl (l) w' ∧ Rw W7.heap.size vp (l) w' ∧ Ch [] W w' ∧ ((∀ c o, c < W7.heap.size → w'.cell? ⟨c, o, none⟩ = W7.cell? ⟨c, o, none⟩) ∧ AwS W7 w')) := Lib.hid fun W h => by
    refine (ryield_any _ _ l l nx W (HSL7.out.below h.2) (HSL7.out.below h.2) (by have := HLN.out; omega) (by have := HLN.out; omega)).mono ?_
    rintro e w' ⟨vl, vp, rfl, hr, hr2, hc⟩
    exact ⟨vl, vp, rfl, hr.lo h.2.size, hr2.lo h.2.size, hc, aw_keep h hc⟩
  go_upto_region 5 with fail
  go_region_held3 (fun w' => (∀ c o, c < W7.heap.size → w'.cell? ⟨c, o, none⟩ = W7.cell? ⟨c, o, none⟩) ∧ AwS W7 w') (first | assumption | exact hS1 | exact aw_keep (by assumption) ((Ch.refl [] _).alloc _)) (first | (go_at_call 13; (with_reducible refine (P1.out _ (by assumption)).mono ?_); rintro e wb1 ⟨vb1, rfl, hr, hc, hqb1⟩; have HRb1 := Lib.hid hr; have HCb1 := Lib.hid hc; clear hr hc) | (go_at_call 15; (with_reducible refine (P2.out _ (by assumption)).mono ?_); rintro e wb2 ⟨vb2, rfl, hr, hc, hqb2⟩; have HRb2 := Lib.hid hr; have HCb2 := Lib.hid hc; clear hr hc) | (go_at_call 17; (with_reducible refine (P3.out _ (by assumption)).mono ?_); rintro e wb3 ⟨vb3, rfl, hr, hc, hqb3⟩; have HRb3 := Lib.hid hr; have HCb3 := Lib.hid hc; clear hr hc) | (go_at_call 19; (with_reducible refine (P4.out _ (by assumption)).mono ?_); rintro e wb4 ⟨vb4, ub4, rfl, hr, hr2, hc, hqb4⟩; have HRb4 := Lib.hid hr; have HUb4 := Lib.hid hr2; have HCb4 := Lib.hid hc; clear hr hr2 hc) | (go_at_call 21; (with_reducible refine (P5.out _ (by assumption)).mono ?_); rintro e wb5 ⟨vb5, ub5, rfl, hr, hr2, hc, hqb5⟩; have HRb5 := Lib.hid hr; have HUb5 := Lib.hid hr2; have HCb5 := Lib.hid hc; clear hr hr2 hc) | (go_at_call 23; (with_reducible refine (P6.out _ (by assumption)).mono ?_); rintro e wb6 ⟨vb6, ub6, rfl, hr, hr2, hc, hqb6⟩; have HRb6 := Lib.hid hr; have HUb6 := Lib.hid hr2; have HCb6 := Lib.hid hc; clear hr hr2 hc))
  clear hS1 P1 P2 P3 P4 P5 P6
  obtain ⟨W8, hW8⟩ : ∃ W8, W8 = (wb6.alloc (.cells #[.int .i64 1, .int .i64 0, .int .i64 0, .int .i64 0, .int .i64 0, .string ⟨#[]⟩, .int .i64 0, vb1, .string ⟨#[]⟩, .int .i64 0, .int .i64 0, .slice none 0 0, .int .i64 2, .int .i64 0, .int .i64 0, .int .i64 0, .int .i64 0, .string ⟨#[]⟩, .int .i64 0, vb2, .string ⟨#[]⟩, .int .i64 lv, .int .i64 0, .slice none 0 0, .int .i64 2, .int .i64 0, .int .i64 0, .int .i64 0, .int .i64 0, .string ⟨#[]⟩, .int .i64 0, vb3, .string ⟨#[]⟩, .int .i64 1, .int .i64 0, .slice none 0 0, .int .i64 3, .int .i64 0, .int .i64 x.k, .int .i64 x.p, .int .i64 x.q, .string x.s, .int .i64 x.r, vb4, .string ⟨#[]⟩, .int .i64 0, .int .i64 nx, ub4, .int .i64 4, .int .i64 0, .int .i64 x.k, .int .i64 x.p, .int .i64 x.q, .string x.s, .int .i64 x.r, vb5, .string ⟨#[]⟩, .int .i64 0, .int .i64 nx, ub5, .int .i64 5, .int .i64 0, .int .i64 0, .int .i64 0, .int .i64 0, .string ⟨#[]⟩, .int .i64 0, vb6, .string ⟨#[]⟩, .int .i64 0, .int .i64 nx, ub6] 31)) := ⟨_, rfl⟩
  rw [← hW8]
  have HKb6 : Hid (Ch [] wb6 W8) := Lib.hid (by rw [hW8]; exact (Ch.refl [] wb6).alloc _)
  have HKb5 := Lib.hid (HCb6.out.trans HKb6.out)
  have HKb4 := Lib.hid (HCb5.out.trans HKb5.out)
  have HKb3 := Lib.hid (HCb4.out.trans HKb4.out)
  have HKb2 := Lib.hid (HCb3.out.trans HKb3.out)
  have HKb1 := Lib.hid (HCb2.out.trans HKb2.out)
  have HTb : Hid (Ch [] W7 W8) := Lib.hid (((Ch.refl [] W7).drew.trans HCb1.out).trans HKb1.out)
  have HBb : Hid (Blk 31 wb6.heap.size #[.int .i64 1, .int .i64 0, .int .i64 0, .int .i64 0, .int .i64 0, .string ⟨#[]⟩, .int .i64 0, vb1, .string ⟨#[]⟩, .int .i64 0, .int .i64 0, .slice none 0 0, .int .i64 2, .int .i64 0, .int .i64 0, .int .i64 0, .int .i64 0, .string ⟨#[]⟩, .int .i64 0, vb2, .string ⟨#[]⟩, .int .i64 lv, .int .i64 0, .slice none 0 0, .int .i64 2, .int .i64 0, .int .i64 0, .int .i64 0, .int .i64 0, .string ⟨#[]⟩, .int .i64 0, vb3, .string ⟨#[]⟩, .int .i64 1, .int .i64 0, .slice none 0 0, .int .i64 3, .int .i64 0, .int .i64 x.k, .int .i64 x.p, .int .i64 x.q, .string x.s, .int .i64 x.r, vb4, .string ⟨#[]⟩, .int .i64 0, .int .i64 nx, ub4, .int .i64 4, .int .i64 0, .int .i64 x.k, .int .i64 x.p, .int .i64 x.q, .string x.s, .int .i64 x.r, vb5, .string ⟨#[]⟩, .int .i64 0, .int .i64 nx, ub5, .int .i64 5, .int .i64 0, .int .i64 0, .int .i64 0, .int .i64 0, .string ⟨#[]⟩, .int .i64 0, vb6, .string ⟨#[]⟩, .int .i64 0, .int .i64 nx, ub6] W8) := Lib.hid (by rw [hW8]; exact Blk.new wb6 _ _ _ rfl)
  have HSb1 : Hid (Rw W7.heap.size vb1 (l) W8) := Lib.hid (HRb1.out.ch0 HKb1.out)
  have HSb2 : Hid (Rw W7.heap.size vb2 ([y]) W8) := Lib.hid (HRb2.out.ch0 HKb2.out)
  have HSb3 : Hid (Rw W7.heap.size vb3 ([v5s (cutS ⟨#[120]⟩)]) W8) := Lib.hid (HRb3.out.ch0 HKb3.out)
  have HSb4 : Hid (Rw W7.heap.size vb4 (l) W8) := Lib.hid (HRb4.out.ch0 HKb4.out)
  have HVb4 : Hid (Rw W7.heap.size ub4 (l) W8) := Lib.hid (HUb4.out.ch0 HKb4.out)
  have HSb5 : Hid (Rw W7.heap.size vb5 (l) W8) := Lib.hid (HRb5.out.ch0 HKb5.out)
  have HVb5 : Hid (Rw W7.heap.size ub5 (l) W8) := Lib.hid (HUb5.out.ch0 HKb5.out)
  have HSb6 : Hid (Rw W7.heap.size vb6 (l) W8) := Lib.hid (HRb6.out.ch0 HKb6.out)
  have HVb6 : Hid (Rw W7.heap.size ub6 (l) W8) := Lib.hid (HUb6.out.ch0 HKb6.out)
  obtain ⟨mb, hmb⟩ : ∃ m, m = wb6.heap.size := ⟨_, rfl⟩
  rw [← hmb] at HBb
  rw [← hmb]
  have HMb : Hid (W7.heap.size ≤ mb) := Lib.hid (by rw [hmb]; have := ((((((Ch.refl [] W7).drew.trans HCb1.out).trans HCb2.out).trans HCb3.out).trans HCb4.out).trans HCb5.out).trans HCb6.out; exact this.size)
  clear hW8 hmb HRb1 HCb1 HKb1 hqb1 HRb2 HCb2 HKb2 hqb2 HRb3 HCb3 HKb3 hqb3 HRb4 HCb4 HKb4 hqb4 HRb5 HCb5 HKb5 hqb5 HRb6 HCb6 HKb6 hqb6 HUb4 HUb5 HUb6
  clear f0 g0 f1 g1 f2 g2 f3 g3 f4 g4 fl gl hn0 hw1 hw2
  have HGS : Hid (g < W6.heap.size) := Lib.hid (own_lo HM.out (mem_ob.2 rfl)).2
  have HC8 : Hid (Ch [] w W8) := Lib.hid ((HC6.out.trans HTa.out).trans HTb.out)
  have HM8 : Hid (W8.ownsRow w4.heap.size 26 5 (.slice (some ⟨g, 0, none⟩) l.length cap) l.length (l.flatMap vC)) := Lib.hid ((HM.out.ch0 HTa.out).ch0 HTb.out)
  clear HM HSM HSL HSL7 HX6 H HL10
  go_upto_region 6 with fail
  go_wp2
  go_loopw [95] (fun v95 wr => ∃ (k : Nat), k ≤ l.length ∧ v95 = .int .i64 (k : Int) ∧ Hid (∃ l' : List V5, l'.length = l.length ∧ wr.ownsRow w4.heap.size 26 5 (.slice (some ⟨g, 0, none⟩) l.length cap) l.length (l'.flatMap vC)) ∧ Hid (Ch [g] W8 wr)) (fun v95 _ => l.length - (intOf v95).toNat)
  case atStart => exact ⟨0, Nat.zero_le _, rfl, Lib.hid ⟨l, rfl, HM8.out⟩, Lib.hid (Ch.refl _ _)⟩
  case round =>
    obtain ⟨k, hk, rfl, HT, HB⟩ := hrel
    rename World => W9
    clear HM8
    by_cases hlt : k < l.length
    · have hlt' : (k : Int) < (l.length : Int) := by omega
      have hi0' : (0 : Int) ≤ (k : Int) := by omega
      have di : IntKind.i64.wrap ((k : Int) + 1) = (k : Int) + 1 := IntWalk.i64_in _ (by have := HLN.out; omega)
      obtain ⟨l', hl', ho⟩ := HT.out
      have HP : Hid ((stL W9 g (k * 5) (vC ⟨1, 0, 0, ⟨#[]⟩, 1⟩)).ownsRow w4.heap.size 26 5 (.slice (some ⟨g, 0, none⟩) l.length cap) l.length ((l'.set k ⟨1, 0, 0, ⟨#[]⟩, 1⟩).flatMap vC)) := Lib.hid (by
        have hr := ho
        rw [← map_flat] at hr
        have := row_store (n := 5) (vC ⟨1, 0, 0, ⟨#[]⟩, 1⟩) (C := l'.map vC) (fun c hc => by obtain ⟨y, _, rfl⟩ := List.mem_map.1 hc; rfl) k 0 (by simpa using (by omega : k < l'.length)) (by rw [vC_len]; omega) hr
        rw [List.getElem_map, show patch (vC l'[k]) 0 (vC ⟨1, 0, 0, ⟨#[]⟩, 1⟩) = vC ⟨1, 0, 0, ⟨#[]⟩, 1⟩ from rfl, ← List.map_set, map_flat] at this
        simpa using this)
      have HPc : Hid (Ch [g] W8 (stL W9 g (k * 5) (vC ⟨1, 0, 0, ⟨#[]⟩, 1⟩))) := Lib.hid (HB.out.trans (stL_ch (by simp) _ _ (Ch.refl _ _)))
      have HLs : Hid (l'.length = l.length) := Lib.hid hl'
      obtain ⟨z, hz⟩ : ∃ z, z = l'[k]'(by omega) := ⟨_, rfl⟩
      have hv : ∀ q, q < 5 → W9.cell? ⟨g, k * 5 + q, none⟩ = (vC z)[q]? := fun q hq => by
        rw [ho.cellAt (k * 5 + q) (by omega), flat_at vC 5 vC_len _ k q (by omega) hq, hz]
      have d0 : W9.cell? ⟨g, k * 5, none⟩ = some (.int .i64 z.k) := hv 0 (by omega)
      have d1 : W9.cell? ⟨g, k * 5 + 1, none⟩ = some (.int .i64 z.p) := hv 1 (by omega)
      have d2 : W9.cell? ⟨g, k * 5 + 2, none⟩ = some (.int .i64 z.q) := hv 2 (by omega)
      have d3 : W9.cell? ⟨g, k * 5 + 3, none⟩ = some (.string z.s) := hv 3 (by omega)
      have d4 : W9.cell? ⟨g, k * 5 + 4, none⟩ = some (.int .i64 z.r) := hv 4 (by omega)
      have f0 := ho.frozenAt (k * 5)
      have f1 := ho.frozenAt (k * 5 + 1)
      have f2 := ho.frozenAt (k * 5 + 2)
      have f3 := ho.frozenAt (k * 5 + 3)
      have f4 := ho.frozenAt (k * 5 + 4)
      have hgl : g < W9.heap.size := (own_lo (B := w4.heap.size) ho (mem_ob.2 rfl)).2
      clear hv hz ho hl' HT hk hlt
      go_wp2
      go_roundw
      case rel => exact ⟨k + 1, by omega, by go_num, Lib.hid ⟨_, by rw [List.length_set]; exact HLs.out, HP.out⟩, HPc⟩
      case measure => simp [intOf]; omega
    · have hlt' : ¬ (k : Int) < (l.length : Int) := by omega
      have HB8 := HB
      clear HT hk hlt
      go_upto_region 11 with fail
      have HSIX := Lib.hid (fun (W : World) (hW : Ch [g] W8 W) => six_of hW HGS.out (Nat.lt_of_lt_of_le HGS.out HTa.out.size) HMa.out HMb.out (HBa.out.below HTb.out.below) HBb.out (HSa1.out.ch0 HTb.out) (HSa2.out.ch0 HTb.out) (HSa3.out.ch0 HTb.out) (HSa4.out.ch0 HTb.out) (HVa4.out.ch0 HTb.out) (HSa5.out.ch0 HTb.out) (HVa5.out.ch0 HTb.out) (HSa6.out.ch0 HTb.out) (HVa6.out.ch0 HTb.out) HSb1.out HSb2.out HSb3.out HSb4.out HVb4.out HSb5.out HVb5.out HSb6.out HVb6.out HLN.out.2 HCK.out.1 HCK.out.2 (by rw [HY.out]; exact List.getElem_mem _) HNX.out.1 HNX.out.2)
      have HG0 : Hid (w.heap.size ≤ g) := Lib.hid (by have := HGM.out; omega)
      clear HSa1 HSa2 HSa3 HSa4 HSa5 HSa6 HVa4 HVa5 HVa6 HSb1 HSb2 HSb3 HSb4 HSb5 HSb6 HVb4 HVb5 HVb6 HBa HBb HMa HMb HTa HTb HGS HGM HLN HCK HY HNX HC6 hn1 hlt' HW
      go_wp2
      go_loopw [105] (fun v105 wr => ∃ (k : Nat), k ≤ 6 ∧ v105 = .int .i64 (k : Int) ∧ Hid (Ch [g] W8 wr)) (fun v105 _ => 6 - (intOf v105).toNat)
      case atStart => exact ⟨0, Nat.zero_le _, rfl, HB8⟩
      case round =>
        obtain ⟨k, hk, rfl, HB⟩ := hrel
        rename World => W9
        clear HB8
        by_cases hlt : k < 6
        · have hlt' : (k : Int) < 6 := by omega
          have hi0' : (0 : Int) ≤ (k : Int) := by omega
          have di : IntKind.i64.wrap ((k : Int) + 1) = (k : Int) + 1 := IntWalk.i64_in _ (by omega)
          obtain ⟨a, vl, vk, vl', vk', hra, hrb, h1, h2, h3, h4, n1, n2, hc⟩ := HSIX.out W9 HB.out k hlt
          have H1 := Lib.hid h1
          have H2 := Lib.hid h2
          have H3 := Lib.hid h3
          have H4 := Lib.hid h4
          obtain ⟨p1, e1, rfl, _, _⟩ := h1
          obtain ⟨p2, e2, rfl, _, _⟩ := h2
          obtain ⟨p3, e3, rfl, _, _⟩ := h3
          obtain ⟨p4, e4, rfl, _, _⟩ := h4
          obtain ⟨a0, a1, a2, a3, a4, a5, a6, a7, a8, a9, a10, a11⟩ := hra
          obtain ⟨b0, b1, b2, b3, b4, b5, b6, b7, b8, b9, b10, b11⟩ := hrb
          have QK : Hid (∀ W, ((∀ c o, c < W9.heap.size → W.cell? ⟨c, o, none⟩ = W9.cell? ⟨c, o, none⟩) ∧ AwS W9 W) → Calls Try.prog 24 #[.agg #[.int .i64 a.k, .int .i64 a.op, .int .i64 a.f.k, .int .i64 a.f.p, .int .i64 a.f.q, .string a.f.s, .int .i64 a.f.r, .slice p1 a.l.length e1, .string a.s, .int .i64 a.lv, .int .i64 a.nx, .slice p2 a.kp.length e2]] W fun e w' => e = .returned (.int .i64 0) ∧ ((∀ c o, c < W9.heap.size → w'.cell? ⟨c, o, none⟩ = W9.cell? ⟨c, o, none⟩) ∧ AwS W9 w')) := Lib.hid fun W h => by
            have := check_any _ a W ⟨.slice p1 a.l.length e1, .slice p2 a.kp.length e2, rfl, H1.out.below h.2, H2.out.below h.2⟩ (by omega) (by omega)
            rw [hc] at this
            exact this.mono fun e w' hh => ⟨hh.1, aw_keep h hh.2⟩
          have QS : Hid (∀ W, ((∀ c o, c < W9.heap.size → W.cell? ⟨c, o, none⟩ = W9.cell? ⟨c, o, none⟩) ∧ AwS W9 W) → Calls Try.prog 11 #[.agg #[.int .i64 a.k, .int .i64 a.op, .int .i64 a.f.k, .int .i64 a.f.p, .int .i64 a.f.q, .string a.f.s, .int .i64 a.f.r, .slice p1 a.l.length e1, .string a.s, .int .i64 a.lv, .int .i64 a.nx, .slice p2 a.kp.length e2], .agg #[.int .i64 a.k, .int .i64 a.op, .int .i64 a.f.k, .int .i64 a.f.p, .int .i64 a.f.q, .string a.f.s, .int .i64 a.f.r, .slice p3 a.l.length e3, .string a.s, .int .i64 a.lv, .int .i64 a.nx, .slice p4 a.kp.length e4]] W fun e w' => e = .returned (.bool true) ∧ ((∀ c o, c < W9.heap.size → w'.cell? ⟨c, o, none⟩ = W9.cell? ⟨c, o, none⟩) ∧ AwS W9 w')) := Lib.hid fun W h => by
            have := rasame_any _ _ a a W ⟨.slice p1 a.l.length e1, .slice p2 a.kp.length e2, rfl, H1.out.below h.2, H2.out.below h.2⟩ ⟨.slice p3 a.l.length e3, .slice p4 a.kp.length e4, rfl, H3.out.below h.2, H4.out.below h.2⟩ (by omega) (by omega) (by omega) (by omega)
            rw [decide_eq_true rfl] at this
            exact this.mono fun e w' hh => ⟨hh.1, aw_keep h hh.2⟩
          have la := World.block_lt_of_cell? W9 _ a0
          have lb := World.block_lt_of_cell? W9 _ b0
          have hS0 := aw_start W9
          clear hc n1 n2 H1 H2 H3 H4
          go_upto_region 14 with fail
          go_region_held3 (fun w' => (∀ c o, c < W9.heap.size → w'.cell? ⟨c, o, none⟩ = W9.cell? ⟨c, o, none⟩) ∧ AwS W9 w') (first | assumption | exact hS0) (first | (go_at_call 24; (with_reducible refine (QK.out _ (by assumption)).mono ?_); rintro e w1 ⟨rfl, hq1⟩) | (go_at_call 11; (with_reducible refine (QS.out _ (by assumption)).mono ?_); rintro e w2 ⟨rfl, hq2⟩))
          all_goals (
            have hS := ‹_ ∧ AwS _ _›
            have HN : Hid (Ch [g] W8 _) := Lib.hid (HB.out.trans (Ch.mono hS.2 (fun b hb => by cases hb)))
            clear hS
            go_wp2
            go_roundw)
          case rel => exact ⟨k + 1, by omega, by go_num, HN⟩
          case measure => simp [intOf]; omega
        · have hlt' : ¬ (k : Int) < 6 := by omega
          have HZ0 : Hid (Ch [] w W9) := Lib.hid (HC8.out.fresh (fun b hb => by have := HG0.out; simp at hb; omega) HB.out)
          go_wp2_with (go_at_call 10; (with_reducible refine (QA.out _).mono ?_); rintro e w9 ⟨rfl, hc9⟩; have HZ := Lib.hid (HZ0.out.trans hc9); clear hc9)
          go_ret
          exact ⟨rfl, HZ.out.below⟩
theorem walk_ProtocolValid (x : V5) (v : Value) (l : List V5) (nx lv : Int) (w : World) (h : VA w v l) (hnx : (Lit.int .u8 nx).wf = true) (hlv : (Lit.int .u8 lv).wf = true) :
    Calls Try.prog 8 #[.agg #[.int .i64 x.k, .int .i64 x.p, .int .i64 x.q, .string x.s, .int .i64 x.r], v, .int .u8 nx, .int .u8 lv] w fun e w' => e = .returned (.bool true) ∧ Below w.heap.size w w' := by
  by_cases h0 : l.length = 0
  · exact pv_a x v l nx lv w h hnx hlv h0
  by_cases h1 : 32 < l.length
  · exact pv_b x v l nx lv w h hnx hlv h0 h1
  by_cases h2 : checkE (retA l) = 0
  · by_cases h3 : checkE (retA [x]) = 0
    · exact pv_e x v l nx lv w h hnx hlv h0 h1 h2 h3
    · exact pv_d x v l nx lv w h hnx hlv h0 h1 h2 h3
  · exact pv_c x v l nx lv w h hnx hlv h0 h1 h2
end Go.Proofs.Ytdgdpckjcpgoaaa
