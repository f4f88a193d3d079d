/- Layer 18: Unref, Len; the law's lives. -/
import Derived.Test.YtbfeahafogbbhaaRegC
namespace Go.Proofs.Ytbfeahafogbbhaa
open Go.RowKit Go.Joins M1
set_option linter.unusedVariables false
theorem own_base {w : World} {B B' size n : Nat} {e : TypeId} {v : Value} {xs : List Value} (h : w.ownsRow B' e size v n xs) (hB : B ≤ B') : w.ownsRow B e size v n xs := by
  refine ⟨h.1, ?_⟩
  rcases h.2 with q | ⟨g, cap, cur, e, q1, q2⟩
  · exact .inl q
  · exact .inr ⟨g, cap, cur, e, Nat.le_trans hB q1, q2⟩
theorem unref_nil (r : Int) (w : World) : Calls Try.prog 21 #[.pointer none, .int .i64 r] w fun e w' => e = .returned (.int .i64 1) ∧ Ch [] w w' := by
  have Q := Lib.hid (gval_nil r w)
  go_enter Try.func21, Try.ntmps21
  go_wp2_with (go_at_call 20; (with_reducible refine (Q.out).mono ?_); rintro e w1 ⟨rfl, hb⟩; have HB := Lib.hid hb; clear hb)
  go_ret
  exact ⟨rfl, (Ch.of_below HB.out).alloc _⟩
theorem unref_bad (B t : Nat) (vk vf vm : Value) (K : List V5) (F : List Int) (w : World) (h : Rg B t vk vf vm K F w) (hg0 : Gd K F) (r : Int) (hr : heldB K r = false) :
    Calls Try.prog 21 #[.pointer (some ⟨t, 0, none⟩), .int .i64 r] w fun e w' => e = .returned (.int .i64 (valE K r)) ∧ RgSaid B t vk vf vm K F w w' := by
  have H := Lib.hid h
  have Q := Lib.hid (gval_all B t vk vf vm K F w h hg0 r)
  rw [show valG K r = v5z by unfold valG; rw [hr]; rfl] at Q
  obtain ⟨ve, hve⟩ : ∃ ve, ve = valE K r := ⟨_, rfl⟩
  rw [← hve] at Q ⊢
  by_cases h0 : r = 0
  · have h1 : ve = 0 := by rw [hve, h0]; unfold valE; simp
    subst h1
    clear h hg0 hr hve
    subst h0
    go_enter Try.func21, Try.ntmps21
    go_wp2_with (go_at_call 20; (with_reducible refine (Q.out).mono ?_); rintro e w1 ⟨rfl, hb⟩; have HB := Lib.hid hb; clear hb)
    go_ret
    exact ⟨rfl, rg_0 H.out ((Ch.of_below HB.out).alloc _)⟩
  · have h1 : ve = 6 := by rw [hve]; unfold valE; rw [if_neg h0, hr]; rfl
    subst h1
    clear h hg0 hr hve h0
    go_enter Try.func21, Try.ntmps21
    go_wp2_with (go_at_call 20; (with_reducible refine (Q.out).mono ?_); rintro e w1 ⟨rfl, hb⟩; have HB := Lib.hid hb; clear hb)
    go_ret
    exact ⟨rfl, rg_0 H.out ((Ch.of_below HB.out).alloc _)⟩
set_option maxHeartbeats 4000000 in
theorem unref_ok (B t : Nat) (vk vf vm : Value) (K : List V5) (F : List Int) (w : World) (h : Rg B t vk vf vm K F w) (hg0 : Gd K F) (r : Int) (hr : heldB K r = true) (hB : B ≤ w.heap.size) :
    Calls Try.prog 21 #[.pointer (some ⟨t, 0, none⟩), .int .i64 r] w fun e w' => e = .returned (.int .i64 0) ∧ RgSaid B t vk vf vm (unK K r) (F ++ [r]) w w' := by
  have Q := Lib.hid (gval_all B t vk vf vm K F w h hg0 r)
  obtain ⟨h1, h2, hi, h3⟩ := held_some hr
  obtain ⟨x, hx⟩ : ∃ x, x = valG K r := ⟨_, rfl⟩
  rw [← hx, show valE K r = 0 by unfold valE; rw [if_neg (by omega), hr]; rfl] at Q
  obtain ⟨i, hii⟩ : ∃ i, i = r.toNat - 1 := ⟨_, rfl⟩
  have HUK : Hid (unK K r = K.set i v5z) := Lib.hid (by unfold unK; rw [hii])
  rw [HUK.out]
  rw [← hii] at hi
  have hri : IntKind.i64.wrap (r - 1) = (i : Int) := by rw [show r - 1 = (i : Int) by omega]; exact IntWalk.i64_in _ (by have := hg0.top; omega)
  have hib : i ≤ 1000 := by have := hg0.top; omega
  have hr0 : ¬ r = 0 := by omega
  have hr1 : r - 1 = (i : Int) := by omega
  have HTOP := Lib.hid hg0.top
  have HLEN := Lib.hid hg0.len
  have HBB := Lib.hid hB
  obtain ⟨g, cap, rfl⟩ : ∃ g cap, vk = .slice (some ⟨g, 0, none⟩) K.length cap := by
    rcases form_row h.rk with ⟨_, h2⟩ | h2
    · omega
    · exact h2
  have H := Lib.hid h
  have HI := Lib.hid hi
  clear h hg0 hr h1 h2 h3 hx hii hB
  go_enter Try.func21, Try.ntmps21
  go_upto_region 4 with (go_at_call 20; (with_reducible refine (Q.out).mono ?_); rintro e w1 ⟨rfl, hb⟩; have HC1 : Hid (Ch [] w (w1.alloc (.cells #[.int .i64 x.k, .int .i64 x.p, .int .i64 x.q, .string x.s, .int .i64 x.r] 33))) := Lib.hid ((Ch.of_below hb).alloc _); clear hb)
  generalize (w1.alloc (.cells #[.int .i64 x.k, .int .i64 x.p, .int .i64 x.q, .string x.s, .int .i64 x.r] 33)) = w2 at *
  have k1 := H.out.ch0 HC1.out
  have hli := HI.out
  have HP := Lib.hid (k1.put i hli v5z)
  have hgl := (k1.lt g (by simp [rgS, Go.Proofs.Ytbfeahafogbbhaa.ob, Value.ownBlock])).2
  obtain ⟨y, hy⟩ : ∃ y, y = K[i]'hli := ⟨_, rfl⟩
  have hv : ∀ q, q < 5 → w2.cell? ⟨g, i * 5 + q, none⟩ = (vC y)[q]? := fun q hq => by
    rw [k1.rk.cellAt (i * 5 + q) (by omega), flat_at vC 5 vC_len _ i q hli hq, hy]
  have d0 : w2.cell? ⟨g, i * 5, none⟩ = some (.int .i64 y.k) := hv 0 (by omega)
  have d1 : w2.cell? ⟨g, i * 5 + 1, none⟩ = some (.int .i64 y.p) := hv 1 (by omega)
  have d2 : w2.cell? ⟨g, i * 5 + 2, none⟩ = some (.int .i64 y.q) := hv 2 (by omega)
  have d3 : w2.cell? ⟨g, i * 5 + 3, none⟩ = some (.string y.s) := hv 3 (by omega)
  have d4 : w2.cell? ⟨g, i * 5 + 4, none⟩ = some (.int .i64 y.r) := hv 4 (by omega)
  have f0 := k1.rk.frozenAt (i * 5)
  have f1 := k1.rk.frozenAt (i * 5 + 1)
  have f2 := k1.rk.frozenAt (i * 5 + 2)
  have f3 := k1.rk.frozenAt (i * 5 + 3)
  have f4 := k1.rk.frozenAt (i * 5 + 4)
  have c0 : w2.cell? ⟨t, 0, none⟩ = some (.slice (some ⟨g, 0, none⟩) K.length cap) := k1.blk.cell 0
  have hbt := k1.blk.lt
  have hi1 : (i : Int) < (K.length : Int) := by omega
  have hi0 : (0 : Int) ≤ (i : Int) := by omega
  clear hv hy k1 hi hli
  go_upto_region 5 with fail
  have HW3 : Hid (RgSaid B t (.slice (some ⟨g, 0, none⟩) K.length cap) vf vm (K.set i v5z) F w2 (((((w2.setCell ⟨g, i * 5, none⟩ (.int .i64 0)).setCell ⟨g, i * 5 + 1, none⟩ (.int .i64 0)).setCell ⟨g, i * 5 + 2, none⟩ (.int .i64 0)).setCell ⟨g, i * 5 + 3, none⟩ (.string ⟨#[]⟩)).setCell ⟨g, i * 5 + 4, none⟩ (.int .i64 0))) := HP
  generalize (((((w2.setCell ⟨g, i * 5, none⟩ (.int .i64 0)).setCell ⟨g, i * 5 + 1, none⟩ (.int .i64 0)).setCell ⟨g, i * 5 + 2, none⟩ (.int .i64 0)).setCell ⟨g, i * 5 + 3, none⟩ (.string ⟨#[]⟩)).setCell ⟨g, i * 5 + 4, none⟩ (.int .i64 0)) = w3 at *
  clear d0 d1 d2 d3 d4 f0 f1 f2 f3 f4 c0 hbt hgl HP
  obtain ⟨⟨vk3, vf3, k1, k2⟩, k3⟩ := HW3.out
  have HK1 := Lib.hid k1
  have HK2 := Lib.hid k2
  have HK3 := Lib.hid k3
  have c1 : w3.cell? ⟨t, 1, none⟩ = some vf3 := k1.blk.cell 1
  have hbt := k1.blk.lt
  have QC := Lib.hid (clonei_any vf3 F w3 (IntsA.of_row k1.rf) (by have := HTOP.out; have := HLEN.out; omega))
  obtain ⟨pf3, cf3, rfl⟩ := ownB_form k1.rf
  clear k1 k2 k3
  go_upto_region 5 with fail
  go_wp2_with (first | (go_at_call 40; (with_reducible refine (QC.out).mono ?_); rintro e w4 ⟨⟨v4, rfl, ho⟩, hb⟩; have HO4 := Lib.hid ho; have HB4 := Lib.hid hb; clear ho hb; have HO5 : Hid ((w4.alloc (.cells #[.int .i64 r] 3)).ownsRow w3.heap.size 3 1 v4 F.length (iC F)) := Lib.hid (((Ch.refl [] w4).alloc _).ownB HO4.out (fun g _ => not_nil g)); have hc5 : (w4.alloc (.cells #[.int .i64 r] 3)).cell? ⟨w4.heap.size, 0, none⟩ = some (.int .i64 r) := (Blk.new w4 3 #[.int .i64 r] _ rfl).cell 0; have HC5 := Lib.hid hc5; clear hc5; have HZ5 : Hid (w3.heap.size ≤ (w4.alloc (.cells #[.int .i64 r] 3)).heap.size ∧ F.length ≤ 1000000) := Lib.hid ⟨by have := HB4.out.size; simp; omega, by have := HTOP.out; have := HLEN.out; omega⟩) | (at_builtin; refine append_int rfl _ _ rfl w3.heap.size _ F rfl HO5.out ⟨w4.heap.size, 0, none⟩ r rfl HC5.out HZ5.out.2 HZ5.out.1 ?_))
  intro v' W' ho' hc' hg'
  obtain ⟨p2, c2, rfl⟩ := ownB_form ho'
  have hc3 : Ch [] w3 W' := (((Ch.of_below HB4.out).alloc (.cells #[.int .i64 r] 3)).fresh (fun y hy => (own_lo HO4.out hy).1) hc')
  have hw3B : B ≤ w3.heap.size := by have := HBB.out; have := HC1.out.size; have := HW3.out.2.size; omega
  have HS := Lib.hid (HK1.out.layf (vf' := .slice p2 (F.length + 1) c2) (F' := F ++ [r]) (hc3.mono (fun y hy => absurd hy (not_nil y))) (by simpa using own_base ho' hw3B) (fun y hy => .inr (own_lo ho' hy).1))
  have hbt' := HK1.out.blk.ch hc3 (not_nil _)
  have d1 : W'.cell? ⟨t, 1, none⟩ = some (.slice pf3 F.length cf3) := hbt'.cell 1
  have f1 := hbt'.fz 1
  have hbl := hbt'.lt
  clear ho' hc' hg' hc3 hw3B hbt'
  go_wp2
  go_ret
  exact ⟨rfl, RgSaid.before HC1.out (rg_step HK2.out HK3.out (Ch.refl _ _) HS.out)⟩
theorem unref_all (B t : Nat) (vk vf vm : Value) (K : List V5) (F : List Int) (w : World) (h : Rg B t vk vf vm K F w) (hg0 : Gd K F) (r : Int) (hB : B ≤ w.heap.size) :
    Calls Try.prog 21 #[.pointer (some ⟨t, 0, none⟩), .int .i64 r] w fun e w' => e = .returned (.int .i64 (valE K r)) ∧ RgSaid B t vk vf vm (if heldB K r = true then unK K r else K) (if heldB K r = true then F ++ [r] else F) w w' := by
  cases hr : heldB K r with
  | true =>
    obtain ⟨h1, h2, hi, h3⟩ := held_some hr
    simp only [if_true]
    rw [show valE K r = 0 by unfold valE; rw [if_neg (by omega), hr]; rfl]
    exact unref_ok B t vk vf vm K F w h hg0 r hr hB
  | false =>
    simp only [Bool.false_eq_true, if_false]
    exact unref_bad B t vk vf vm K F w h hg0 r hr
theorem glen_nil (w : World) : Calls Try.prog 17 #[.pointer none] w fun e w' => e = .returned (.int .i64 0) ∧ w = w' := by
  go_enter Try.func17, Try.ntmps17
  go_wp2
  go_ret
  exact ⟨rfl, rfl⟩
theorem keepC {w0 w w' : World} (h : (∀ c o, c < w0.heap.size → w.cell? ⟨c, o, none⟩ = w0.cell? ⟨c, o, none⟩) ∧ Ch [] w0 w) (hc : Ch [] w w') : (∀ c o, c < w0.heap.size → w'.cell? ⟨c, o, none⟩ = w0.cell? ⟨c, o, none⟩) ∧ Ch [] w0 w' :=
  ⟨fun c o hlt => (hc.below.cell (p := ⟨c, o, none⟩) (Nat.lt_of_lt_of_le hlt h.2.size)).trans (h.1 c o hlt), h.2.trans hc⟩
set_option maxHeartbeats 2000000 in
theorem glen_none (B t : Nat) (vk vf : Value) (K : List V5) (F : List Int) (w : World) (h : Rg B t vk vf (.map none) K F w) (hg0 : Gd K F) :
    Calls Try.prog 17 #[.pointer (some ⟨t, 0, none⟩)] w fun e w' => e = .returned (.int .i64 ((K.length : Int) - (F.length : Int))) ∧ Ch [] w w' := by
  have c2 : w.cell? ⟨t, 2, none⟩ = some (.map none) := h.blk.cell 2
  have hb := h.blk.lt
  have QI : Hid (∀ W, ((∀ c o, c < w.heap.size → W.cell? ⟨c, o, none⟩ = w.cell? ⟨c, o, none⟩) ∧ Ch [] w W) → Calls Try.prog 36 #[.pointer (some ⟨t, 0, none⟩)] W fun e w' => e = .returned (.int .i64 ((K.length : Int) - (F.length : Int))) ∧ ((∀ c o, c < w.heap.size → w'.cell? ⟨c, o, none⟩ = w.cell? ⟨c, o, none⟩) ∧ Ch [] w w')) := Lib.hid fun W hW => (inuse_any B t vk vf (.map none) K F W (h.ch0 hW.2) hg0).mono fun e w' hh => ⟨hh.1, keepC hW hh.2⟩
  have h1 := hg0.top
  have h2 := hg0.len
  have e1 : IntKind.i64.wrap ((K.length : Int) - (F.length : Int)) = (K.length : Int) - (F.length : Int) := IntWalk.i64_in _ (by omega)
  have hS0 : (∀ c o, c < w.heap.size → w.drew.cell? ⟨c, o, none⟩ = w.cell? ⟨c, o, none⟩) ∧ Ch [] w w.drew := ⟨fun _ _ _ => rfl, (Ch.refl [] w).drew⟩
  clear h hg0
  go_enter Try.func17, Try.ntmps17
  go_upto_region 3 with fail
  go_region_held3 (fun w' => (∀ c o, c < w.heap.size → w'.cell? ⟨c, o, none⟩ = w.cell? ⟨c, o, none⟩) ∧ Ch [] w w') (first | assumption | exact hS0) (first | (go_at_call 36; (with_reducible refine (QI.out _ (by assumption)).mono ?_); rintro e w1 ⟨rfl, hq1⟩))
  all_goals (
    have hS := ‹_ ∧ Ch [] w _›
    go_wp2
    go_ret
    exact ⟨by first | rfl | simp [e1], hS.2⟩)
end Go.Proofs.Ytbfeahafogbbhaa
