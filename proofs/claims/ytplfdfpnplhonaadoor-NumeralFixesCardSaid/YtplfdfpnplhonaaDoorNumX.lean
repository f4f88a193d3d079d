/- Contracts of layer 2: what wakes a law. -/
import Derived.Test.YtplfdfpnplhonaaDoorNumW
namespace Go.Proofs.YtplfdfpnplhonaaDoor
open Go.RowKit Go.Sort M1 M2
set_option linter.unusedVariables false
deriving instance DecidableEq for M1.R3
deriving instance DecidableEq for M2.R4
theorem parse1_lit : parseR ([32, 49, 46, 50, 53, 32] : List UInt8) = ⟨5, 4, 0⟩ := by decide +kernel
theorem parse2_lit : parseR ([49, 47, 48] : List UInt8) = ⟨0, 0, 6⟩ := by decide +kernel
theorem scan_lit : scanR ([120, 48, 120, 49, 70, 103] : List UInt8) 1 = ⟨31, 1, 5, 0⟩ := by decide +kernel
theorem base_lit : baseT 255 16 = ([102, 102] : List UInt8) ∧ baseE 16 = 0 := by decide +kernel
theorem text_lit : textR (-7) 3 = ([45, 55, 47, 51] : List UInt8) := by
  unfold textR
  rw [if_pos (by decide +kernel), if_neg (by decide), ← base_ten (-7) (by decide), ← base_ten 3 (by decide)]
  decide +kernel
theorem fix_lit : fixS 1 8 2 = ([48, 46, 49, 50] : List UInt8) ∧ fixE 1 8 2 = 0 := by
  refine ⟨?_, by decide +kernel⟩
  unfold fixS; rw [if_pos (by decide +kernel)]; unfold fixL
  rw [show fixT (1 : Int).natAbs (8 : Int).toNat (2 : Int).toNat = 12 by decide +kernel, ← bd_ten _ (by decide +kernel)]
  decide +kernel
theorem aw_p1 (w : World) (he : Env w) : Calls Tryd.prog 16 #[.string ⟨#[32, 49, 46, 50, 53, 32]⟩] w fun e w' => e = .returned (.tuple #[.agg #[.int .i64 5, .int .i64 4], .int .i64 0]) ∧ Below w.heap.size w w' := by
  have h := parse_any ⟨#[32, 49, 46, 50, 53, 32]⟩ w (by decide) he
  rw [show (⟨#[32, 49, 46, 50, 53, 32]⟩ : ByteArray).data.toList = ([32, 49, 46, 50, 53, 32] : List UInt8) from rfl, parse1_lit] at h
  exact h
theorem aw_p2 (w : World) (he : Env w) : Calls Tryd.prog 16 #[.string ⟨#[49, 47, 48]⟩] w fun e w' => e = .returned (.tuple #[.agg #[.int .i64 0, .int .i64 0], .int .i64 6]) ∧ Below w.heap.size w w' := by
  have h := parse_any ⟨#[49, 47, 48]⟩ w (by decide) he
  rw [show (⟨#[49, 47, 48]⟩ : ByteArray).data.toList = ([49, 47, 48] : List UInt8) from rfl, parse2_lit] at h
  exact h
theorem aw_s (w : World) : Calls Tryd.prog 18 #[.string ⟨#[120, 48, 120, 49, 70, 103]⟩, .int .i64 1] w fun e w' => e = .returned (.tuple #[.agg #[.int .i64 31, .int .i64 1], .int .i64 5, .int .i64 0]) ∧ Below w.heap.size w w' := by
  have h := scan_any ⟨#[120, 48, 120, 49, 70, 103]⟩ 1 w (by decide)
  rw [show (⟨#[120, 48, 120, 49, 70, 103]⟩ : ByteArray).data.toList = ([120, 48, 120, 49, 70, 103] : List UInt8) from rfl, scan_lit] at h
  exact h
theorem aw_f (w : World) (he : Env w) : Calls Tryd.prog 20 #[.agg #[.int .i64 1, .int .i64 8], .int .i64 2] w fun e w' => e = .returned (.tuple #[.string ⟨#[48, 46, 49, 50]⟩, .int .i64 0]) ∧ Below w.heap.size w w' := by
  have h := fix_any 1 8 2 w he
  rw [fix_lit.1, fix_lit.2] at h
  exact h
theorem aw_b (w : World) : Calls Tryd.prog 22 #[.int .i64 255, .int .i64 16] w fun e w' => e = .returned (.tuple #[.string ⟨#[102, 102]⟩, .int .i64 0]) ∧ Below w.heap.size w w' := by
  have h := base_any 255 16 w (by decide) (by decide)
  rw [base_lit.1, base_lit.2] at h
  exact h
theorem aw_t (w : World) (he : Env w) : Calls Tryd.prog 12 #[.agg #[.int .i64 (-7), .int .i64 3]] w fun e w' => e = .returned (.string ⟨#[45, 55, 47, 51]⟩) ∧ Below w.heap.size w w' := by
  have h := text_any (-7) 3 w he
  rw [text_lit] at h
  exact h

structure Pair (b : Nat) (p q : Int) (w : World) : Prop where
  c0 : w.cell? ⟨b, 0, none⟩ = some (.int .i64 p)
  c1 : w.cell? ⟨b, 1, none⟩ = some (.int .i64 q)
  lt : b < w.heap.size
theorem kept {W V : World} {p q : Int} {o : TypeId} (h : Below (W.heap.size + 1) (W.alloc (.cells #[.int .i64 p, .int .i64 q] o)) V) : Pair W.heap.size p q V := by
  refine ⟨?_, ?_, ?_⟩
  · rw [h.cell (p := ⟨W.heap.size, 0, none⟩) (by simp)]; go_simp
  · rw [h.cell (p := ⟨W.heap.size, 1, none⟩) (by simp)]; go_simp
  · have := h.size; simp at this; omega
theorem Pair.on {b : Nat} {p q : Int} {W V : World} (h : Pair b p q W) (hb : Below W.heap.size W V) : Pair b p q V :=
  ⟨by rw [hb.cell (p := ⟨b, 0, none⟩) h.lt]; exact h.c0, by rw [hb.cell (p := ⟨b, 1, none⟩) h.lt]; exact h.c1, by have := hb.size; have := h.lt; omega⟩
theorem awS {b1 b3 : Nat} {W V : World} (h : V.cell? ⟨b1, 0, none⟩ = some (.int .i64 5) ∧ V.cell? ⟨b1, 1, none⟩ = some (.int .i64 4) ∧ V.cell? ⟨b3, 0, none⟩ = some (.int .i64 31) ∧ V.cell? ⟨b3, 1, none⟩ = some (.int .i64 1) ∧ Env V ∧ Below W.heap.size W V) : Below W.heap.size W V := h.2.2.2.2.2
theorem awK {b1 b3 : Nat} {W V V' : World} (l1 : b1 < W.heap.size) (l3 : b3 < W.heap.size) (h : V.cell? ⟨b1, 0, none⟩ = some (.int .i64 5) ∧ V.cell? ⟨b1, 1, none⟩ = some (.int .i64 4) ∧ V.cell? ⟨b3, 0, none⟩ = some (.int .i64 31) ∧ V.cell? ⟨b3, 1, none⟩ = some (.int .i64 1) ∧ Env V ∧ Below W.heap.size W V) (hb : Below V.heap.size V V') :
    V'.cell? ⟨b1, 0, none⟩ = some (.int .i64 5) ∧ V'.cell? ⟨b1, 1, none⟩ = some (.int .i64 4) ∧ V'.cell? ⟨b3, 0, none⟩ = some (.int .i64 31) ∧ V'.cell? ⟨b3, 1, none⟩ = some (.int .i64 1) ∧ Env V' ∧ Below W.heap.size W V' := by
  obtain ⟨h1, h2, h3, h4, h5, h6⟩ := h
  have hz := h6.size
  have C : ∀ b o v, b < W.heap.size → V.cell? ⟨b, o, none⟩ = some v → V'.cell? ⟨b, o, none⟩ = some v := by
    intro b o v hl he
    rw [hb.cell (p := ⟨b, o, none⟩) (Nat.lt_of_lt_of_le hl hz)]; exact he
  exact ⟨C _ _ _ l1 h1, C _ _ _ l1 h2, C _ _ _ l3 h3, C _ _ _ l3 h4, h5.on hb, h6.trans (hb.mono hz)⟩

set_option maxHeartbeats 2000000 in
theorem awake_any (w : World) (he : Env w) :
    Calls Tryd.prog 14 #[] w fun e w' => e = .returned (.bool true) ∧ Below w.heap.size w w' := by
  have HE := Lib.hid he
  clear he
  go_enter Tryd.func14, Tryd.ntmps14
  go_wp2_with fail
  refine (aw_p1 _ HE.out).mono ?_
  rintro e w1 ⟨rfl, hb1⟩
  obtain ⟨hc1, hf1⟩ := bcell hb1
  have hz1 := hb1.size
  try simp at hz1
  have HE1 := Lib.hid ((HE.out).on hb1)
  go_wp2_with fail
  refine (aw_s _).mono ?_
  rintro e w2 ⟨rfl, hb2⟩
  obtain ⟨hc2, hf2⟩ := bcell hb2
  have hz2 := hb2.size
  try simp at hz2
  have HE2 := Lib.hid (((HE1.out.alloc (.cells #[.int .i64 5, .int .i64 4] 23))).on hb2)
  go_wp2_with fail
  refine (aw_f _ (HE2.out.alloc _)).mono ?_
  rintro e w3 ⟨rfl, hb3⟩
  obtain ⟨hc3, hf3⟩ := bcell hb3
  have hz3 := hb3.size
  try simp at hz3
  have HE3 := Lib.hid (((HE2.out.alloc (.cells #[.int .i64 31, .int .i64 1] 23))).on hb3)
  go_wp2_with fail
  refine (aw_b _).mono ?_
  rintro e w4 ⟨rfl, hb4⟩
  obtain ⟨hc4, hf4⟩ := bcell hb4
  have hz4 := hb4.size
  try simp at hz4
  have HE4 := Lib.hid ((HE3.out).on hb4)
  go_wp2_with fail
  refine (aw_p2 _ HE4.out).mono ?_
  rintro e w5 ⟨rfl, hb5⟩
  obtain ⟨hc5, hf5⟩ := bcell hb5
  have hz5 := hb5.size
  try simp at hz5
  have HE5 := Lib.hid ((HE4.out).on hb5)
  go_wp2_with fail
  refine (aw_t _ (HE5.out.alloc _)).mono ?_
  rintro e w6 ⟨rfl, hb6⟩
  have k1 : Below (w1.heap.size + 1) (w1.alloc (.cells #[.int .i64 5, .int .i64 4] 23)) w6 := by
    repeat (first | exact Below.refl _ _ | refine below_drewN ?_ _ | refine Below.drew ?_ | refine Below.setCell ?_ (by first | omega | (simp; done) | (simp; omega)) _ | refine Below.alloc ?_ (by first | omega | (simp; done) | (simp; omega)) _ | refine below_step (by assumption) (by first | omega | (simp; done) | (simp; omega)) ?_)
  have k3 : Below (w2.heap.size + 1) (w2.alloc (.cells #[.int .i64 31, .int .i64 1] 23)) w6 := by
    clear k1
    repeat (first | exact Below.refl _ _ | refine below_drewN ?_ _ | refine Below.drew ?_ | refine Below.setCell ?_ (by first | omega | (simp; done) | (simp; omega)) _ | refine Below.alloc ?_ (by first | omega | (simp; done) | (simp; omega)) _ | refine below_step (by assumption) (by first | omega | (simp; done) | (simp; omega)) ?_)
  have k0 : Below w.heap.size w w6 := by
    clear k1 k3
    repeat (first | exact Below.refl _ _ | refine below_drewN ?_ _ | refine Below.drew ?_ | refine Below.setCell ?_ (by first | omega | (simp; done) | (simp; omega)) _ | refine Below.alloc ?_ (by first | omega | (simp; done) | (simp; omega)) _ | refine below_step (by assumption) (by first | omega | (simp; done) | (simp; omega)) ?_)
  obtain ⟨c10, c11, l1⟩ := kept k1
  obtain ⟨c30, c31, l3⟩ := kept k3
  generalize w1.heap.size = b1 at *
  generalize w2.heap.size = b3 at *
  clear k1 k3 hb1 hb2 hb3 hb4 hb5 hb6 hc1 hc2 hc3 hc4 hc5 hf1 hf2 hf3 hf4 hf5 hz1 hz2 hz3 hz4 hz5 HE HE1 HE2 HE3 HE4 HE5
  go_wp2
  go_ret
  exact ⟨rfl, k0⟩
end Go.Proofs.YtplfdfpnplhonaaDoor
