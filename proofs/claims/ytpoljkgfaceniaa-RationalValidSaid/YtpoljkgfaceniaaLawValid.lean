/- For all pairs of integers, Valid, Whole, Neg, Floor and Ceil return what is defined. No condition. -/
import Derived.Test.YtpoljkgfaceniaaRatJ
import Derived.Deep.RegionHeld3
import Derived.ProofKit
import Derived.OpenShut
import Derived.ChangeOld
import Derived.Below
import Derived.Lib.SmallJoins
namespace Go.Proofs.Ytpoljkgfaceniaa.rationalValidLaw
open Go.ChangeShapes Go.WideShapes Go.ChangeAt Go.RowKit Go.Joins M1
set_option linter.unusedVariables false

theorem keepV {w W V V' : World} {p0 q0 : Int} {bX bY : Nat} (s0 : w.heap.size < W.heap.size) (s1 : bX < W.heap.size) (s2 : bY < W.heap.size) (h : V.cell? ⟨w.heap.size, 0, none⟩ = some (.int .i64 p0) ∧ V.cell? ⟨w.heap.size, 1, none⟩ = some (.int .i64 q0) ∧ V.cell? ⟨bX, 0, none⟩ = some (.int .i64 (negR p0 q0).P) ∧ V.cell? ⟨bX, 1, none⟩ = some (.int .i64 (negR p0 q0).Q) ∧ V.cell? ⟨bY, 0, none⟩ = some (.int .i64 (negR p0 q0).P) ∧ V.cell? ⟨bY, 1, none⟩ = some (.int .i64 (negR p0 q0).Q) ∧ V.frozen? ⟨bX, 0, none⟩ = false ∧ V.frozen? ⟨bX, 1, none⟩ = false ∧ V.frozen? ⟨bY, 0, none⟩ = false ∧ V.frozen? ⟨bY, 1, none⟩ = false ∧ Below W.heap.size W V) (hb : Below V.heap.size V V') : V'.cell? ⟨w.heap.size, 0, none⟩ = some (.int .i64 p0) ∧ V'.cell? ⟨w.heap.size, 1, none⟩ = some (.int .i64 q0) ∧ V'.cell? ⟨bX, 0, none⟩ = some (.int .i64 (negR p0 q0).P) ∧ V'.cell? ⟨bX, 1, none⟩ = some (.int .i64 (negR p0 q0).Q) ∧ V'.cell? ⟨bY, 0, none⟩ = some (.int .i64 (negR p0 q0).P) ∧ V'.cell? ⟨bY, 1, none⟩ = some (.int .i64 (negR p0 q0).Q) ∧ V'.frozen? ⟨bX, 0, none⟩ = false ∧ V'.frozen? ⟨bX, 1, none⟩ = false ∧ V'.frozen? ⟨bY, 0, none⟩ = false ∧ V'.frozen? ⟨bY, 1, none⟩ = false ∧ Below W.heap.size W V' := by
  obtain ⟨h1, h2, h3, h4, h5, h6, f1, f2, f3, f4, hw⟩ := h
  have hz := hw.size
  have C : ∀ b o v, b < W.heap.size → V.cell? ⟨b, o, none⟩ = some v → V'.cell? ⟨b, o, none⟩ = some v := by
    intro b o v hl he
    rw [hb.cell (p := ⟨b, o, none⟩) (by show b < _; omega)]; exact he
  have G : ∀ b o v, b < W.heap.size → V.frozen? ⟨b, o, none⟩ = v → V'.frozen? ⟨b, o, none⟩ = v := by
    intro b o v hl he
    rw [hb.frozen (p := ⟨b, o, none⟩) (by show b < _; omega)]; exact he
  exact ⟨C _ _ _ s0 h1, C _ _ _ s0 h2, C _ _ _ s1 h3, C _ _ _ s1 h4, C _ _ _ s2 h5, C _ _ _ s2 h6, G _ _ _ s1 f1, G _ _ _ s1 f2, G _ _ _ s2 f3, G _ _ _ s2 f4, hw.trans (hb.mono hz)⟩
theorem set2 {W : World} {b : Nat} {x y u v : Value} (h0 : W.cell? ⟨b, 0, none⟩ = some u) (h1 : W.cell? ⟨b, 1, none⟩ = some v) : ((W.setCell ⟨b, 0, none⟩ x).setCell ⟨b, 1, none⟩ y).cell? ⟨b, 0, none⟩ = some x ∧ ((W.setCell ⟨b, 0, none⟩ x).setCell ⟨b, 1, none⟩ y).cell? ⟨b, 1, none⟩ = some y := by
  constructor
  · rw [World.cell?_setCell_other (h := ad_ne' (by decide))]; exact World.cell?_setCell_same _ _ _ h0
  · exact World.cell?_setCell_same _ _ _ (by rw [World.cell?_setCell_other (h := ad_ne' (by decide))]; exact h1)
structure AtV (w W V : World) (p0 q0 : Int) (bX bY : Nat) : Prop where
  c : V.cell? ⟨w.heap.size, 0, none⟩ = some (.int .i64 p0) ∧ V.cell? ⟨w.heap.size, 1, none⟩ = some (.int .i64 q0) ∧ V.cell? ⟨bX, 0, none⟩ = some (.int .i64 (negR p0 q0).P) ∧ V.cell? ⟨bX, 1, none⟩ = some (.int .i64 (negR p0 q0).Q) ∧ V.cell? ⟨bY, 0, none⟩ = some (.int .i64 (negR p0 q0).P) ∧ V.cell? ⟨bY, 1, none⟩ = some (.int .i64 (negR p0 q0).Q) ∧ V.frozen? ⟨bX, 0, none⟩ = false ∧ V.frozen? ⟨bX, 1, none⟩ = false ∧ V.frozen? ⟨bY, 0, none⟩ = false ∧ V.frozen? ⟨bY, 1, none⟩ = false ∧ Below W.heap.size W V
theorem atV {w W V : World} {p0 q0 : Int} {bX bY : Nat} (h : V.cell? ⟨w.heap.size, 0, none⟩ = some (.int .i64 p0) ∧ V.cell? ⟨w.heap.size, 1, none⟩ = some (.int .i64 q0) ∧ V.cell? ⟨bX, 0, none⟩ = some (.int .i64 (negR p0 q0).P) ∧ V.cell? ⟨bX, 1, none⟩ = some (.int .i64 (negR p0 q0).Q) ∧ V.cell? ⟨bY, 0, none⟩ = some (.int .i64 (negR p0 q0).P) ∧ V.cell? ⟨bY, 1, none⟩ = some (.int .i64 (negR p0 q0).Q) ∧ V.frozen? ⟨bX, 0, none⟩ = false ∧ V.frozen? ⟨bX, 1, none⟩ = false ∧ V.frozen? ⟨bY, 0, none⟩ = false ∧ V.frozen? ⟨bY, 1, none⟩ = false ∧ Below W.heap.size W V) : AtV w W V p0 q0 bX bY := ⟨h⟩

theorem own : ownKnob Try.prog.godebug = none := by kernel_rfl
theorem cellsNum : Try.prog.cellsOf 23 = 2 := by kernel_rfl
theorem numReads {H : Type} {enc : TypeId × Value → H} (W' : World) (sp : Nat → Bool) (p q : Int) (wp : (Lit.int .i64 p).wf = true) (wq : (Lit.int .i64 q).wf = true) :
    DataW.Trod enc Try.prog W' 0 sp true 23 (.agg #[.int .i64 p, .int .i64 q]) (.agg [.lit (.int .i64 p), .lit (.int .i64 q)]) [] :=
  shut_agg2 (y0 := (.lit (.int .i64 p), [])) (y1 := (.lit (.int .i64 q), [])) Try.underlying23 (by kernel_rfl) cellsNum ⟨1, by simp [DataW.trod, Try.underlying3, wp]⟩ ⟨1, by simp [DataW.trod, Try.underlying3, wq]⟩

set_option maxHeartbeats 4000000 in
theorem walk (p0 q0 : Int) (wp0 : (Lit.int .i64 p0).wf = true) (wq0 : (Lit.int .i64 q0).wf = true) (w : World) :
    Calls Try.prog 4 #[.agg #[.int .i64 p0, .int .i64 q0]] w fun e w' => e = .returned (.bool true) ∧ Below w.heap.size w w' := by
  go_enter Try.func4, Try.ntmps4
  go_wp2_with (first | (go_at_call 19; refine (whole_any _ _ _).mono ?_; rintro e wA ⟨rfl, hbA⟩; obtain ⟨hcA, hfA⟩ := bcell hbA; have hzA := hbA.size; (try simp at hzA); have zA0 : w.heap.size < wA.heap.size := (by omega)) | (go_at_call 20; refine (rwhole_any _ _ _).mono ?_; rintro e wB ⟨rfl, hbB⟩; obtain ⟨hcB, hfB⟩ := bcell hbB; have hzB := hbB.size; (try simp at hzB); have zB0 : w.heap.size < wB.heap.size := (by omega); (try (have yBA : wA.heap.size < wB.heap.size := (by omega)))) | (go_at_call 21; refine (neg_any _ _ _).mono ?_; rintro e wC ⟨rfl, hbC⟩; obtain ⟨hcC, hfC⟩ := bcell hbC; have hzC := hbC.size; (try simp at hzC); have zC0 : w.heap.size < wC.heap.size := (by omega); (try (have yCA : wA.heap.size < wC.heap.size := (by omega))); (try (have yCB : wB.heap.size < wC.heap.size := (by omega)))) | (go_at_call 22; refine (rneg_any _ _ _).mono ?_; rintro e wD ⟨rfl, hbD⟩; obtain ⟨hcD, hfD⟩ := bcell hbD; have hzD := hbD.size; (try simp at hzD); have zD0 : w.heap.size < wD.heap.size := (by omega); (try (have yDA : wA.heap.size < wD.heap.size := (by omega))); (try (have yDB : wB.heap.size < wD.heap.size := (by omega))); (try (have yDC : wC.heap.size < wD.heap.size := (by omega)))))
  have c0 : (wD.alloc (.cells #[.int .i64 (negR p0 q0).P, .int .i64 (negR p0 q0).Q] 23)).cell? ⟨w.heap.size, 0, none⟩ = some (.int .i64 p0) := by go_simp
  have c1 : (wD.alloc (.cells #[.int .i64 (negR p0 q0).P, .int .i64 (negR p0 q0).Q] 23)).cell? ⟨w.heap.size, 1, none⟩ = some (.int .i64 q0) := by go_simp
  have c2 : (wD.alloc (.cells #[.int .i64 (negR p0 q0).P, .int .i64 (negR p0 q0).Q] 23)).cell? ⟨wC.heap.size, 0, none⟩ = some (.int .i64 (negR p0 q0).P) := by go_simp
  have c3 : (wD.alloc (.cells #[.int .i64 (negR p0 q0).P, .int .i64 (negR p0 q0).Q] 23)).cell? ⟨wC.heap.size, 1, none⟩ = some (.int .i64 (negR p0 q0).Q) := by go_simp
  have c4 : (wD.alloc (.cells #[.int .i64 (negR p0 q0).P, .int .i64 (negR p0 q0).Q] 23)).cell? ⟨wD.heap.size, 0, none⟩ = some (.int .i64 (negR p0 q0).P) := by go_simp
  have c5 : (wD.alloc (.cells #[.int .i64 (negR p0 q0).P, .int .i64 (negR p0 q0).Q] 23)).cell? ⟨wD.heap.size, 1, none⟩ = some (.int .i64 (negR p0 q0).Q) := by go_simp
  have f6 : (wD.alloc (.cells #[.int .i64 (negR p0 q0).P, .int .i64 (negR p0 q0).Q] 23)).frozen? ⟨wC.heap.size, 0, none⟩ = false := by go_simp
  have f7 : (wD.alloc (.cells #[.int .i64 (negR p0 q0).P, .int .i64 (negR p0 q0).Q] 23)).frozen? ⟨wC.heap.size, 1, none⟩ = false := by go_simp
  have f8 : (wD.alloc (.cells #[.int .i64 (negR p0 q0).P, .int .i64 (negR p0 q0).Q] 23)).frozen? ⟨wD.heap.size, 0, none⟩ = false := by go_simp
  have f9 : (wD.alloc (.cells #[.int .i64 (negR p0 q0).P, .int .i64 (negR p0 q0).Q] 23)).frozen? ⟨wD.heap.size, 1, none⟩ = false := by go_simp
  have k0 : Below w.heap.size w (wD.alloc (.cells #[.int .i64 (negR p0 q0).P, .int .i64 (negR p0 q0).Q] 23)) := by
    repeat (first | exact Below.refl _ _ | refine below_drewN ?_ _ | refine Below.setCell ?_ (by first | omega | (simp; done) | (simp; omega)) _ | refine Below.alloc ?_ (by first | omega | (simp; done) | (simp; omega)) _ | refine below_step (by assumption) (by first | omega | (simp; done) | (simp; omega)) ?_)
  have s0 : w.heap.size < (wD.alloc (.cells #[.int .i64 (negR p0 q0).P, .int .i64 (negR p0 q0).Q] 23)).heap.size := by simp; omega
  have s1 : wC.heap.size < (wD.alloc (.cells #[.int .i64 (negR p0 q0).P, .int .i64 (negR p0 q0).Q] 23)).heap.size := by simp; omega
  have s2 : wD.heap.size < (wD.alloc (.cells #[.int .i64 (negR p0 q0).P, .int .i64 (negR p0 q0).Q] 23)).heap.size := by simp
  clear hcA hcB hcC hcD hfA hfB hfC hfD
  generalize wD.alloc (.cells #[.int .i64 (negR p0 q0).P, .int .i64 (negR p0 q0).Q] 23) = W at *
  generalize wC.heap.size = bX at *
  generalize wD.heap.size = bY at *
  have hW := Below.refl W.heap.size W
  go_region_held3 (fun w' => w'.cell? ⟨w.heap.size, 0, none⟩ = some (.int .i64 p0) ∧ w'.cell? ⟨w.heap.size, 1, none⟩ = some (.int .i64 q0) ∧ w'.cell? ⟨bX, 0, none⟩ = some (.int .i64 (negR p0 q0).P) ∧ w'.cell? ⟨bX, 1, none⟩ = some (.int .i64 (negR p0 q0).Q) ∧ w'.cell? ⟨bY, 0, none⟩ = some (.int .i64 (negR p0 q0).P) ∧ w'.cell? ⟨bY, 1, none⟩ = some (.int .i64 (negR p0 q0).Q) ∧ w'.frozen? ⟨bX, 0, none⟩ = false ∧ w'.frozen? ⟨bX, 1, none⟩ = false ∧ w'.frozen? ⟨bY, 0, none⟩ = false ∧ w'.frozen? ⟨bY, 1, none⟩ = false ∧ Below W.heap.size W w') (first | exact ⟨c0, c1, c2, c3, c4, c5, f6, f7, f8, f9, hW.drew⟩ | exact keepV s0 s1 s2 (by assumption) hb1) ((first | (go_at_call 23; refine (valid_any _ _ _).mono ?_; rintro e w1 ⟨rfl, hb1⟩) | (go_at_call 24; refine (rvalid_any _ _ _).mono ?_; rintro e w1 ⟨rfl, hb1⟩)))
  all_goals (
    have hk := atV (w := w) (W := W) (V := w1) (p0 := p0) (q0 := q0) (bX := bX) (bY := bY) (by assumption)
    obtain ⟨h1, h2, h3, h4, h5, h6, g1, g2, g3, g4, hw⟩ := hk.c
    clear hk
    have kk := k0.trans (hw.mono (Nat.le_of_lt s0))
    have hz1 := hw.size
    have x0 : w.heap.size < w1.heap.size := by omega
    have x1 : bX < w1.heap.size := by omega
    have x2 : bY < w1.heap.size := by omega
    go_wp2_with (first | (go_at_call 25; refine (floorR_any _ _ _).mono ?_; rintro e wG ⟨rfl, hbG⟩; obtain ⟨hcG, hfG⟩ := bcell hbG; have hzG := hbG.size; (try simp at hzG); have zG0 : w.heap.size < wG.heap.size := (by omega); have zG1 : bX < wG.heap.size := (by omega); have zG2 : bY < wG.heap.size := (by omega); have kG0 : wG.cell? ⟨bX, 0, none⟩ = some (.int .i64 (negR p0 q0).P) := (by go_simp); have kG1 : wG.cell? ⟨bX, 1, none⟩ = some (.int .i64 (negR p0 q0).Q) := (by go_simp)) | (go_at_call 26; refine (rfloorR_any _ _ _).mono ?_; rintro e wH ⟨rfl, hbH⟩; obtain ⟨hcH, hfH⟩ := bcell hbH; have hzH := hbH.size; (try simp at hzH); have zH0 : w.heap.size < wH.heap.size := (by omega); have zH1 : bX < wH.heap.size := (by omega); have zH2 : bY < wH.heap.size := (by omega); have kH0 : wH.cell? ⟨bY, 0, none⟩ = some (.int .i64 (negR p0 q0).P) := (by go_simp); have kH1 : wH.cell? ⟨bY, 1, none⟩ = some (.int .i64 (negR p0 q0).Q) := (by go_simp)) | (go_at_call 27; refine (ceilR_any _ _ _).mono ?_; rintro e wI ⟨rfl, hbI⟩; obtain ⟨hcI, hfI⟩ := bcell hbI; have hzI := hbI.size; (try simp at hzI); have zI0 : w.heap.size < wI.heap.size := (by omega); have zI1 : bX < wI.heap.size := (by omega); have zI2 : bY < wI.heap.size := (by omega); have kI0 : wI.cell? ⟨bX, 0, none⟩ = some (.int .i64 (floorR p0 q0).P) := (by go_simp); have kI1 : wI.cell? ⟨bX, 1, none⟩ = some (.int .i64 (floorR p0 q0).Q) := (by go_simp)) | (go_at_call 28; refine (rceilR_any _ _ _).mono ?_; rintro e wJ ⟨rfl, hbJ⟩; obtain ⟨hcJ, hfJ⟩ := bcell hbJ; have hzJ := hbJ.size; (try simp at hzJ); have zJ0 : w.heap.size < wJ.heap.size := (by omega); have zJ1 : bX < wJ.heap.size := (by omega); have zJ2 : bY < wJ.heap.size := (by omega); have kJ0 : wJ.cell? ⟨bY, 0, none⟩ = some (.int .i64 (floorR p0 q0).P) := (by go_simp); have kJ1 : wJ.cell? ⟨bY, 1, none⟩ = some (.int .i64 (floorR p0 q0).Q) := (by go_simp); have kx := set2 (x := .int .i64 (ceilR p0 q0).P) (y := .int .i64 (ceilR p0 q0).Q) kI0 kI1; have ky := set2 (x := .int .i64 (ceilR p0 q0).P) (y := .int .i64 (ceilR p0 q0).Q) kJ0 kJ1; obtain ⟨kx0, kx1⟩ := kx; obtain ⟨ky0, ky1⟩ := ky) | (go_at_call 18; refine (awake_any _).mono ?_; rintro e wZ ⟨rfl, hbZ⟩; obtain ⟨hcZ, hfZ⟩ := bcell hbZ; have hzZ := hbZ.size; (try simp at hzZ); have zZ0 : w.heap.size < wZ.heap.size := (by omega); have zZ1 : bX < wZ.heap.size := (by omega); have zZ2 : bY < wZ.heap.size := (by omega)))
    go_ret
    refine ⟨rfl, ?_⟩
    repeat (first | exact Below.refl _ _ | refine below_drewN ?_ _ | refine Below.setCell ?_ (by first | omega | (simp; done) | (simp; omega)) _ | refine Below.alloc ?_ (by first | omega | (simp; done) | (simp; omega)) _ | refine below_step (by assumption) (by first | omega | (simp; done) | (simp; omega)) ?_))

set_option maxRecDepth 100000 in
theorem lifted (os : Os) (started : os.Started) (H : Type) (enc : TypeId × Value → H) :
    ReturnsInHanded {} Try.checked os 4 .any (Rows.rationalValidSpec.pre6 enc Try.prog Try.f4 Rows.rationalValidRow.domain false) (Rows.rationalValidSpec.post enc Try.prog Try.f4 false true false false) := by
  refine returnsInHanded_of_change (C := Try.checked) own started (by kernel_rfl) Try.func4
    (ChangeSpec.witness6 (enc := enc) (C := Try.checked) false ⟨#[], #[.agg #[.int .i64 0, .int .i64 0]], []⟩ 8 (by kernel_rfl) (by kernel_rfl) (by kernel_rfl) (by kernel_rfl)) ?_
  intro W base args ds gs before hval0 hW hcnd _
  have hval : ∀ (j : Nat) t v, Try.f4.params[j]? = some t → args[j]? = some v → Value.okWide Try.prog W .any base t v := hval0
  have hW' := hW
  obtain ⟨p, q, hA0, hV, rfl, hfz, hnd⟩ := hW
  have hA : DataW.TrodAll enc Try.prog W 0 (fun _ => true) true Try.f4.params.toList args.toList ds p := hA0
  rw [Try.params4] at hA hval
  obtain ⟨v0, vs0, d0, ds0, p_0, q_0, hargs, rfl, rfl, h0, r0⟩ := trodAll_cons hA
  obtain ⟨rfl, rfl, rfl⟩ := trodAll_nil r0
  obtain rfl : args = #[v0] := by cases args; simp_all
  obtain ⟨rfl, rfl⟩ := trodVars_none hV
  obtain ⟨c00, c01, y00, y01, m0, rfl, rfl, rfl, hy00, hy01⟩ := open_agg2 Try.underlying23 (by kernel_rfl) cellsNum (hval 0 23 v0 rfl rfl) h0
  obtain ⟨p0, ep0, rfl, wp0⟩ := DataW.trod_int Try.underlying3 hy00
  obtain ⟨q0, eq0, rfl, wq0⟩ := DataW.trod_int Try.underlying3 hy01
  simp at ep0 eq0
  subst ep0 eq0
  clear hA0 hval0
  simp only [List.append_nil] at hW'
  refine (walk p0 q0 wp0 wq0 W).mono fun e W' ⟨he, bel⟩ => ?_
  subst he
  exact ⟨_, rfl, _, _, _, [], [], [], hW', trodAll_mk1 (shut_bool Try.underlying4 _), (trodAll_cons_mk (numReads W' _ p0 q0 wp0 wq0) trodAll_mk0), rfl, bel.frame _, fun h => by cases h⟩

theorem over : Rows.rationalValidRow.holds Try.pinned (OpenSpec.ofChange Rows.rationalValidSpec) :=
  OpenClaim.holds_of_wide 4 Try.f4 rfl rfl rfl rfl rfl rfl rfl ⟨rfl, rfl, rfl, rfl, rfl⟩ rfl rfl rfl rfl rfl (by kernel_rfl) Try.func4 (by kernel_rfl)
    (of_decide_eq_true (by kernel_rfl)) (by unfold Func.isWrapper; first | (rw [if_pos (by decide +kernel)]; kernel_rfl) | (rw [if_neg (by decide +kernel)]; exact ⟨rfl, rfl⟩))
    (fun os started H enc _ => lifted os started H enc)

/-- The given statement. -/
theorem proved : Rows.RationalValidSaid := over
#print axioms proved
end Go.Proofs.Ytpoljkgfaceniaa.rationalValidLaw
