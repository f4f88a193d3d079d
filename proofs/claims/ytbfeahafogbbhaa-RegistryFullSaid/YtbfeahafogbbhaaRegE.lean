/- Layer 18: contracts for a registry without names; the law's lives. -/
import Derived.Test.YtbfeahafogbbhaaRegD
namespace Go.Proofs.Ytbfeahafogbbhaa
open Go.RowKit Go.Joins M1
set_option linter.unusedVariables false
/-- A registry without names that the law has made. -/
def GW (w : World) (t : Nat) (K : List V5) (F : List Int) (W : World) : Prop := ∃ vk vf, Rg w.heap.size t vk vf (.map none) K F W ∧ Gd K F ∧ Ch [] w W
theorem GW.step {w W W' : World} {t : Nat} {K : List V5} {F : List Int} (h : GW w t K F W) (hc : Ch [] W W') : GW w t K F W' := by
  obtain ⟨vk, vf, h1, h2, h3⟩ := h
  exact ⟨vk, vf, h1.ch0 hc, h2, h3.trans hc⟩
theorem GW.ch {w W : World} {t : Nat} {K : List V5} {F : List Int} (h : GW w t K F W) : Ch [] w W := by
  obtain ⟨vk, vf, h1, h2, h3⟩ := h; exact h3
theorem GW.gd {w W : World} {t : Nat} {K : List V5} {F : List Int} (h : GW w t K F W) : Gd K F := by
  obtain ⟨vk, vf, h1, h2, h3⟩ := h; exact h2
theorem GW.said {w W W' : World} {t : Nat} {vk vf : Value} {K K' : List V5} {F F' : List Int} (h1 : Rg w.heap.size t vk vf (.map none) K F W) (h3 : Ch [] w W) (hg : Gd K' F') (h : RgSaid w.heap.size t vk vf (.map none) K' F' W W') : GW w t K' F' W' := by
  obtain ⟨⟨vk', vf', k1, _⟩, k3⟩ := h
  exact ⟨vk', vf', k1, hg, h3.fresh (fun g hg => (h1.lt g hg).1) k3⟩
theorem gw_new (w : World) : Calls Try.prog 12 #[] w fun e w' => ∃ t, e = .returned (.pointer (some ⟨t, 0, none⟩)) ∧ GW w t [] [] w' ∧ t < w'.heap.size := by
  refine (gnew_any w.heap.size w (Nat.le_refl _)).mono ?_
  rintro e w' ⟨rfl, hs, hb⟩
  exact ⟨_, rfl, ⟨_, _, hs, gd_nil, Ch.of_below hb⟩, hs.blk.lt⟩
/-- A box that the law has made keeps what it holds. -/
def GB (w : World) (t : Nat) (K : List V5) (F : List Int) (R : Nat) (x : V5) (W : World) : Prop := ∃ vk vf, Rg w.heap.size t vk vf (.map none) K F W ∧ Gd K F ∧ Ch [] w W ∧ Blk 33 R #[.int .i64 x.k, .int .i64 x.p, .int .i64 x.q, .string x.s, .int .i64 x.r] W ∧ R ∉ rgS t vk vf
theorem GB.of {w W : World} {t : Nat} {K : List V5} {F : List Int} (h : GW w t K F W) (x : V5) : GB w t K F W.heap.size x (W.alloc (.cells #[.int .i64 x.k, .int .i64 x.p, .int .i64 x.q, .string x.s, .int .i64 x.r] 33)) := by
  obtain ⟨vk, vf, h1, h2, h3⟩ := h
  have hc : Ch [] W (W.alloc (.cells #[.int .i64 x.k, .int .i64 x.p, .int .i64 x.q, .string x.s, .int .i64 x.r] 33)) := (Ch.refl [] W).alloc _
  exact ⟨vk, vf, h1.ch0 hc, h2, h3.trans hc, Blk.new _ _ _ _ rfl, fun hm => by have := (h1.lt _ hm).2; omega⟩
theorem GB.gw {w W : World} {t R : Nat} {K : List V5} {F : List Int} {x : V5} (h : GB w t K F R x W) : GW w t K F W := by
  obtain ⟨vk, vf, h1, h2, h3, _⟩ := h; exact ⟨vk, vf, h1, h2, h3⟩
theorem GB.box {w W : World} {t R : Nat} {K : List V5} {F : List Int} {x : V5} (h : GB w t K F R x W) : Blk 33 R #[.int .i64 x.k, .int .i64 x.p, .int .i64 x.q, .string x.s, .int .i64 x.r] W := by
  obtain ⟨vk, vf, h1, h2, h3, h4, _⟩ := h; exact h4
theorem GB.step {w W W' : World} {t R : Nat} {K : List V5} {F : List Int} {x : V5} (h : GB w t K F R x W) (hc : Ch [] W W') : GB w t K F R x W' := by
  obtain ⟨vk, vf, h1, h2, h3, h4, h5⟩ := h
  exact ⟨vk, vf, h1.ch0 hc, h2, h3.trans hc, h4.ch hc (not_nil _), h5⟩
theorem GB.said {w W W' : World} {t R : Nat} {vk vf : Value} {K K' : List V5} {F F' : List Int} {x : V5} (h1 : Rg w.heap.size t vk vf (.map none) K F W) (h3 : Ch [] w W) (h4 : Blk 33 R #[.int .i64 x.k, .int .i64 x.p, .int .i64 x.q, .string x.s, .int .i64 x.r] W) (h5 : R ∉ rgS t vk vf) (hg : Gd K' F') (h : RgSaid w.heap.size t vk vf (.map none) K' F' W W') : GB w t K' F' R x W' := by
  obtain ⟨⟨vk', vf', k1, k2⟩, k3⟩ := h
  refine ⟨vk', vf', k1, hg, h3.fresh (fun g hg => (h1.lt g hg).1) k3, h4.ch k3 h5, fun hm => ?_⟩
  rcases k2 _ hm with q | q
  · exact h5 q
  · have := h4.lt; omega
theorem gb_ref {w W : World} {t R : Nat} {K : List V5} {F : List Int} {x : V5} (h : GB w t K F R x W) (v : V5) (hv : okV v = true) (hk : v.k ≠ 0) (hu : ¬ (K.length : Int) - (F.length : Int) = 1000) :
    Calls Try.prog 18 #[.pointer (some ⟨t, 0, none⟩), .agg #[.int .i64 v.k, .int .i64 v.p, .int .i64 v.q, .string v.s, .int .i64 v.r]] W fun e w' => e = .returned (.tuple #[.int .i64 (refR K F), .int .i64 0]) ∧ GB w t (refK K F v) F.dropLast R x w' := by
  obtain ⟨vk, vf, h1, h2, h3, h4, h5⟩ := h
  have hl := h2.len
  have ht := h2.top
  refine (ref_ok _ t vk vf _ K F W h1 h2 v h3.size hv hk hu).mono ?_
  rintro e w' ⟨rfl, hs⟩
  exact ⟨rfl, GB.said h1 h3 h4 h5 (gd_ref h2 hk (by omega)) hs⟩
theorem gb_unref {w W : World} {t R : Nat} {K : List V5} {F : List Int} {x : V5} (h : GB w t K F R x W) (r : Int) (hr : heldB K r = true) :
    Calls Try.prog 21 #[.pointer (some ⟨t, 0, none⟩), .int .i64 r] W fun e w' => e = .returned (.int .i64 0) ∧ GB w t (unK K r) (F ++ [r]) R x w' := by
  obtain ⟨vk, vf, h1, h2, h3, h4, h5⟩ := h
  refine (unref_ok _ t vk vf _ K F W h1 h2 r hr h3.size).mono ?_
  rintro e w' ⟨rfl, hs⟩
  exact ⟨rfl, GB.said h1 h3 h4 h5 (gd_un h2 hr) hs⟩
theorem gb_unbad {w W : World} {t R : Nat} {K : List V5} {F : List Int} {x : V5} (h : GB w t K F R x W) (r : Int) (hr : heldB K r = false) :
    Calls Try.prog 21 #[.pointer (some ⟨t, 0, none⟩), .int .i64 r] W fun e w' => e = .returned (.int .i64 (valE K r)) ∧ GB w t K F R x w' := by
  obtain ⟨vk, vf, h1, h2, h3, h4, h5⟩ := h
  refine (unref_bad _ t vk vf _ K F W h1 h2 r hr).mono ?_
  rintro e w' ⟨rfl, hs⟩
  exact ⟨rfl, GB.said h1 h3 h4 h5 h2 hs⟩
theorem gb_len {w W : World} {t R : Nat} {K : List V5} {F : List Int} {x : V5} (h : GB w t K F R x W) :
    Calls Try.prog 17 #[.pointer (some ⟨t, 0, none⟩)] W fun e w' => e = .returned (.int .i64 ((K.length : Int) - (F.length : Int))) ∧ GB w t K F R x w' := by
  have h0 := h
  obtain ⟨vk, vf, h1, h2, h3, h4, h5⟩ := h
  refine (glen_none _ t vk vf K F W h1 h2).mono ?_
  rintro e w' ⟨rfl, hs⟩
  exact ⟨rfl, h0.step hs⟩
def o7 : V5 := ⟨4, 0, 0, ⟨#[]⟩, 7⟩
theorem o7_ok : okV o7 = true ∧ o7.k ≠ 0 := by decide +kernel
set_option maxHeartbeats 8000000 in
theorem lives_any (w : World) : Calls Try.prog 11 #[] w fun e w' => e = .returned (.bool true) ∧ Ch [] w w' := by
  have QN := Lib.hid (gw_new w)
  have HO := Lib.hid o7_ok
  have Q0 : Hid (∀ t R W, GB w t [] [] R o7 W → Calls Try.prog 18 #[.pointer (some ⟨t, 0, none⟩), .agg #[.int .i64 4, .int .i64 0, .int .i64 0, .string ⟨#[]⟩, .int .i64 7]] W fun e w' => e = .returned (.tuple #[.int .i64 1, .int .i64 0]) ∧ GB w t [o7] [] R o7 w') := Lib.hid fun t R W h => gb_ref h o7 HO.out.1 HO.out.2 (by decide)
  have Q1 : Hid (∀ t R W, GB w t [o7] [] R o7 W → Calls Try.prog 18 #[.pointer (some ⟨t, 0, none⟩), .agg #[.int .i64 4, .int .i64 0, .int .i64 0, .string ⟨#[]⟩, .int .i64 7]] W fun e w' => e = .returned (.tuple #[.int .i64 2, .int .i64 0]) ∧ GB w t [o7, o7] [] R o7 w') := Lib.hid fun t R W h => gb_ref h o7 HO.out.1 HO.out.2 (by decide)
  have Q2 : Hid (∀ t R W, GB w t [o7, o7] [] R o7 W → Calls Try.prog 18 #[.pointer (some ⟨t, 0, none⟩), .agg #[.int .i64 4, .int .i64 0, .int .i64 0, .string ⟨#[]⟩, .int .i64 7]] W fun e w' => e = .returned (.tuple #[.int .i64 3, .int .i64 0]) ∧ GB w t [o7, o7, o7] [] R o7 w') := Lib.hid fun t R W h => gb_ref h o7 HO.out.1 HO.out.2 (by decide)
  have Q3 : Hid (∀ t R W, GB w t [o7, o7, o7] [] R o7 W → Calls Try.prog 21 #[.pointer (some ⟨t, 0, none⟩), .int .i64 1] W fun e w' => e = .returned (.int .i64 0) ∧ GB w t [v5z, o7, o7] [1] R o7 w') := Lib.hid fun t R W h => gb_unref h 1 (by decide)
  have Q4 : Hid (∀ t R W, GB w t [v5z, o7, o7] [1] R o7 W → Calls Try.prog 21 #[.pointer (some ⟨t, 0, none⟩), .int .i64 2] W fun e w' => e = .returned (.int .i64 0) ∧ GB w t [v5z, v5z, o7] [1, 2] R o7 w') := Lib.hid fun t R W h => gb_unref h 2 (by decide)
  have Q5 : Hid (∀ t R W, GB w t [v5z, v5z, o7] [1, 2] R o7 W → Calls Try.prog 18 #[.pointer (some ⟨t, 0, none⟩), .agg #[.int .i64 4, .int .i64 0, .int .i64 0, .string ⟨#[]⟩, .int .i64 7]] W fun e w' => e = .returned (.tuple #[.int .i64 2, .int .i64 0]) ∧ GB w t [v5z, o7, o7] [1] R o7 w') := Lib.hid fun t R W h => gb_ref h o7 HO.out.1 HO.out.2 (by decide)
  have Q6 : Hid (∀ t R W, GB w t [v5z, o7, o7] [1] R o7 W → Calls Try.prog 18 #[.pointer (some ⟨t, 0, none⟩), .agg #[.int .i64 4, .int .i64 0, .int .i64 0, .string ⟨#[]⟩, .int .i64 7]] W fun e w' => e = .returned (.tuple #[.int .i64 1, .int .i64 0]) ∧ GB w t [o7, o7, o7] [] R o7 w') := Lib.hid fun t R W h => gb_ref h o7 HO.out.1 HO.out.2 (by decide)
  have Q7 : Hid (∀ t R W, GB w t [o7, o7, o7] [] R o7 W → Calls Try.prog 17 #[.pointer (some ⟨t, 0, none⟩)] W fun e w' => e = .returned (.int .i64 3) ∧ GB w t [o7, o7, o7] [] R o7 w') := Lib.hid fun t R W h => gb_len h
  go_enter Try.func11, Try.ntmps11
  go_upto_region 5 with (go_at_call 12; (with_reducible refine (QN.out).mono ?_); rintro e w1 ⟨t, rfl, hf, hlt⟩; have HF := Lib.hid hf; clear hf hlt)
  have HB := Lib.hid (GB.of HF.out o7)
  obtain ⟨R, hR⟩ : ∃ R, R = w1.heap.size := ⟨_, rfl⟩
  rw [← hR] at HB ⊢
  have HR := Lib.hid hR
  clear hR
  have HB0 : Hid (GB w t [] [] R o7 (w1.alloc (.cells #[.int .i64 4, .int .i64 0, .int .i64 0, .string ⟨#[]⟩, .int .i64 7] 33))) := HB
  generalize (w1.alloc (.cells #[.int .i64 4, .int .i64 0, .int .i64 0, .string ⟨#[]⟩, .int .i64 7] 33)) = s0 at *
  have s0c0 : s0.cell? ⟨R, 0, none⟩ = some (.int .i64 4) := HB0.out.box.cell 0
  have s0c1 : s0.cell? ⟨R, 1, none⟩ = some (.int .i64 0) := HB0.out.box.cell 1
  have s0c2 : s0.cell? ⟨R, 2, none⟩ = some (.int .i64 0) := HB0.out.box.cell 2
  have s0c3 : s0.cell? ⟨R, 3, none⟩ = some (.string ⟨#[]⟩) := HB0.out.box.cell 3
  have s0c4 : s0.cell? ⟨R, 4, none⟩ = some (.int .i64 7) := HB0.out.box.cell 4
  have s0l := HB0.out.box.lt
  go_upto_region 6 with (go_at_call 18; (with_reducible refine (Q0.out _ _ _ HB0.out).mono ?_); rintro e s1 ⟨rfl, hf⟩; have HB1 := Lib.hid hf; clear hf)
  clear s0c0 s0c1 s0c2 s0c3 s0c4 s0l
  have s1c0 : s1.cell? ⟨R, 0, none⟩ = some (.int .i64 4) := HB1.out.box.cell 0
  have s1c1 : s1.cell? ⟨R, 1, none⟩ = some (.int .i64 0) := HB1.out.box.cell 1
  have s1c2 : s1.cell? ⟨R, 2, none⟩ = some (.int .i64 0) := HB1.out.box.cell 2
  have s1c3 : s1.cell? ⟨R, 3, none⟩ = some (.string ⟨#[]⟩) := HB1.out.box.cell 3
  have s1c4 : s1.cell? ⟨R, 4, none⟩ = some (.int .i64 7) := HB1.out.box.cell 4
  have s1l := HB1.out.box.lt
  go_upto_region 7 with (go_at_call 18; (with_reducible refine (Q1.out _ _ _ HB1.out).mono ?_); rintro e s2 ⟨rfl, hf⟩; have HB2 := Lib.hid hf; clear hf)
  clear s1c0 s1c1 s1c2 s1c3 s1c4 s1l
  have s2c0 : s2.cell? ⟨R, 0, none⟩ = some (.int .i64 4) := HB2.out.box.cell 0
  have s2c1 : s2.cell? ⟨R, 1, none⟩ = some (.int .i64 0) := HB2.out.box.cell 1
  have s2c2 : s2.cell? ⟨R, 2, none⟩ = some (.int .i64 0) := HB2.out.box.cell 2
  have s2c3 : s2.cell? ⟨R, 3, none⟩ = some (.string ⟨#[]⟩) := HB2.out.box.cell 3
  have s2c4 : s2.cell? ⟨R, 4, none⟩ = some (.int .i64 7) := HB2.out.box.cell 4
  have s2l := HB2.out.box.lt
  go_upto_region 8 with (go_at_call 18; (with_reducible refine (Q2.out _ _ _ HB2.out).mono ?_); rintro e s3 ⟨rfl, hf⟩; have HB3 := Lib.hid hf; clear hf)
  clear s2c0 s2c1 s2c2 s2c3 s2c4 s2l
  go_upto_region 10 with (first | (go_at_call 21; (with_reducible refine (Q3.out _ _ _ HB3.out).mono ?_); rintro e s4 ⟨rfl, hf⟩; have HB4 := Lib.hid hf; clear hf) | (go_at_call 21; (with_reducible refine (Q4.out _ _ _ HB4.out).mono ?_); rintro e s5 ⟨rfl, hf⟩; have HB5 := Lib.hid hf; clear hf))
  have s5c0 : s5.cell? ⟨R, 0, none⟩ = some (.int .i64 4) := HB5.out.box.cell 0
  have s5c1 : s5.cell? ⟨R, 1, none⟩ = some (.int .i64 0) := HB5.out.box.cell 1
  have s5c2 : s5.cell? ⟨R, 2, none⟩ = some (.int .i64 0) := HB5.out.box.cell 2
  have s5c3 : s5.cell? ⟨R, 3, none⟩ = some (.string ⟨#[]⟩) := HB5.out.box.cell 3
  have s5c4 : s5.cell? ⟨R, 4, none⟩ = some (.int .i64 7) := HB5.out.box.cell 4
  have s5l := HB5.out.box.lt
  go_upto_region 11 with (go_at_call 18; (with_reducible refine (Q5.out _ _ _ HB5.out).mono ?_); rintro e s6 ⟨rfl, hf⟩; have HB6 := Lib.hid hf; clear hf)
  clear s5c0 s5c1 s5c2 s5c3 s5c4 s5l
  have s6c0 : s6.cell? ⟨R, 0, none⟩ = some (.int .i64 4) := HB6.out.box.cell 0
  have s6c1 : s6.cell? ⟨R, 1, none⟩ = some (.int .i64 0) := HB6.out.box.cell 1
  have s6c2 : s6.cell? ⟨R, 2, none⟩ = some (.int .i64 0) := HB6.out.box.cell 2
  have s6c3 : s6.cell? ⟨R, 3, none⟩ = some (.string ⟨#[]⟩) := HB6.out.box.cell 3
  have s6c4 : s6.cell? ⟨R, 4, none⟩ = some (.int .i64 7) := HB6.out.box.cell 4
  have s6l := HB6.out.box.lt
  go_upto_region 12 with (go_at_call 18; (with_reducible refine (Q6.out _ _ _ HB6.out).mono ?_); rintro e s7 ⟨rfl, hf⟩; have HB7 := Lib.hid hf; clear hf)
  clear s6c0 s6c1 s6c2 s6c3 s6c4 s6l
  go_wp2_with (go_at_call 17; (with_reducible refine (Q7.out _ _ _ HB7.out).mono ?_); rintro e s8 ⟨rfl, hf⟩; have HB8 := Lib.hid hf; clear hf)
  go_ret
  exact ⟨rfl, HB8.out.gw.ch⟩
end Go.Proofs.Ytbfeahafogbbhaa
