/- Contracts of layer 1: the examples of the chapter. -/
import Derived.Test.YtpoljkgfaceniaaRatI
import Derived.Deep.RegionHeld3
namespace Go.Proofs.Ytpoljkgfaceniaa
open Go.RowKit M1

theorem r3 {x : R3} {a b c : Int} (h : x = ⟨a, b, c⟩) : x.P = a ∧ x.Q = b ∧ x.E = c := by subst h; exact ⟨rfl, rfl, rfl⟩
theorem r3_of {x : R3} {a b c : Int} (h1 : x.P = a) (h2 : x.Q = b) (h3 : x.E = c) : x = ⟨a, b, c⟩ := by subst h1 h2 h3; rfl

theorem num_any (p q : Int) (w : World) :
    Calls Try.prog 51 #[.int .i64 p, .int .i64 q] w fun e w' => e = .returned (.agg #[.int .i64 p, .int .i64 q]) ∧ Below w.heap.size w w' := by
  go_enter Try.func51, Try.ntmps51
  go_wp2
  refine bodyPost_ret (v := .agg #[.int .i64 p, .int .i64 q]) (by simp [results, Try.results51, go_sem]) rfl ?_
  refine ⟨rfl, ?_⟩
  repeat (first | exact Below.refl _ _ | refine below_drewN ?_ _ | refine Below.setCell ?_ (by first | omega | (simp; done) | (simp; omega)) _ | refine Below.alloc ?_ (by first | omega | (simp; done) | (simp; omega)) _ | refine below_step (by assumption) (by first | omega | (simp; done) | (simp; omega)) ?_)

theorem add_ex (w : World) : Calls Try.prog 29 #[.agg #[.int .i64 (1), .int .i64 (3)], .agg #[.int .i64 (1), .int .i64 (6)]] w fun e w' => e = .returned (.tuple #[.agg #[.int .i64 (1), .int .i64 (2)], .int .i64 (0)]) ∧ Below w.heap.size w w' := by
  have h := add_any 1 3 1 6 w
  obtain ⟨h1, h2, h3⟩ := r3 (show addR 1 3 1 6 = ⟨1, 2, 0⟩ from r3_of (by decide +kernel) (by decide +kernel) (by decide +kernel))
  rw [h1, h2, h3] at h
  exact h

theorem make_ex (w : World) : Calls Try.prog 14 #[.int .i64 6, .int .i64 (-4)] w fun e w' => e = .returned (.tuple #[.agg #[.int .i64 (-3), .int .i64 (2)], .int .i64 (0)]) ∧ Below w.heap.size w w' := by
  have h := make_any 6 (-4) w
  obtain ⟨h1, h2, h3⟩ := r3 (show makeR 6 (-4) = ⟨-3, 2, 0⟩ from r3_of (by decide +kernel) (by decide +kernel) (by decide +kernel))
  rw [h1, h2, h3] at h
  exact h

theorem quot_ex (w : World) : Calls Try.prog 37 #[.agg #[.int .i64 (7), .int .i64 (1)], .agg #[.int .i64 (-2), .int .i64 (1)]] w fun e w' => e = .returned (.tuple #[.agg #[.int .i64 (-4), .int .i64 (1)], .int .i64 (0)]) ∧ Below w.heap.size w w' := by
  have h := quot_any 7 1 (-2) 1 w
  obtain ⟨h1, h2, h3⟩ := r3 (show quotR 7 1 (-2) 1 = ⟨-4, 1, 0⟩ from r3_of (by decide +kernel) (by decide +kernel) (by decide +kernel))
  rw [h1, h2, h3] at h
  exact h

theorem pow_ex (w : World) : Calls Try.prog 41 #[.agg #[.int .i64 (2), .int .i64 (3)], .agg #[.int .i64 (-2), .int .i64 (1)]] w fun e w' => e = .returned (.tuple #[.agg #[.int .i64 (9), .int .i64 (4)], .int .i64 (0)]) ∧ Below w.heap.size w w' := by
  have h := pow_any 2 3 (-2) 1 w
  obtain ⟨h1, h2, h3⟩ := r3 (show powR 2 3 (-2) 1 = ⟨9, 4, 0⟩ from r3_of (by decide +kernel) (by decide +kernel) (by decide +kernel))
  rw [h1, h2, h3] at h
  exact h

theorem bits_ex (w : World) : Calls Try.prog 45 #[.int .i64 13, .agg #[.int .i64 (-1), .int .i64 (1)], .agg #[.int .i64 (28), .int .i64 (1)]] w fun e w' => e = .returned (.tuple #[.agg #[.int .i64 (15), .int .i64 (1)], .int .i64 (0)]) ∧ Below w.heap.size w w' := by
  have h := bits_any' 13 (-1) 1 28 1 w
  obtain ⟨h1, h2, h3⟩ := r3 (show bitsR 13 (-1) 1 28 1 = ⟨15, 1, 0⟩ from r3_of (by decide +kernel) (by decide +kernel) (by decide +kernel))
  rw [h1, h2, h3] at h
  exact h

theorem mul_ex (w : World) : Calls Try.prog 33 #[.agg #[.int .i64 (2147483647), .int .i64 (1)], .agg #[.int .i64 (2), .int .i64 (1)]] w fun e w' => e = .returned (.tuple #[.agg #[.int .i64 (0), .int .i64 (0)], .int .i64 (6)]) ∧ Below w.heap.size w w' := by
  have h := mul_any 2147483647 1 2 1 w
  obtain ⟨h1, h2, h3⟩ := r3 (show mulR 2147483647 1 2 1 = ⟨0, 0, 6⟩ from r3_of (by decide +kernel) (by decide +kernel) (by decide +kernel))
  rw [h1, h2, h3] at h
  exact h

theorem cmp_ex (w : World) : Calls Try.prog 43 #[.agg #[.int .i64 (1), .int .i64 (3)], .agg #[.int .i64 (1), .int .i64 (2)]] w fun e w' => e = .returned (.int .i64 (-1)) ∧ Below w.heap.size w w' := by
  have h := cmp_any 1 3 1 2 w
  rw [show ratCmp 1 3 1 2 = -1 by decide +kernel] at h
  exact h

/-- What the variables hold. -/
structure Pair (b : Nat) (p q : Int) (w : World) : Prop where
  c0 : w.cell? ⟨b, 0, none⟩ = some (.int .i64 p)
  c1 : w.cell? ⟨b, 1, none⟩ = some (.int .i64 q)
  lt : b < w.heap.size
structure AwS (b1 b2 b3 b4 b5 : Nat) (w : World) : Prop where
  a1 : Pair b1 1 2 w
  a2 : Pair b2 (-3) 2 w
  a3 : Pair b3 (-4) 1 w
  a4 : Pair b4 9 4 w
  a5 : Pair b5 15 1 w
theorem kept {W V : World} {p q : Int} {o : TypeId} (h : Below (W.heap.size + 1) (W.alloc (.cells #[.int .i64 p, .int .i64 q] o)) V) : Pair W.heap.size p q V := by
  refine ⟨?_, ?_, ?_⟩
  · rw [h.cell (p := ⟨W.heap.size, 0, none⟩) (by simp)]; go_simp
  · rw [h.cell (p := ⟨W.heap.size, 1, none⟩) (by simp)]; go_simp
  · have := h.size; simp at this; omega
theorem Pair.on {b : Nat} {p q : Int} {W V : World} (h : Pair b p q W) (hb : Below W.heap.size W V) : Pair b p q V :=
  ⟨by rw [hb.cell (p := ⟨b, 0, none⟩) h.lt]; exact h.c0, by rw [hb.cell (p := ⟨b, 1, none⟩) h.lt]; exact h.c1, by have := hb.size; have := h.lt; omega⟩
theorem AwS.on {b1 b2 b3 b4 b5 : Nat} {W V : World} (h : AwS b1 b2 b3 b4 b5 W) (hb : Below W.heap.size W V) : AwS b1 b2 b3 b4 b5 V :=
  ⟨h.a1.on hb, h.a2.on hb, h.a3.on hb, h.a4.on hb, h.a5.on hb⟩
theorem ofS {bA bM bQ bP bB : Nat} {W V : World} (h : V.cell? ⟨bA, 0, none⟩ = some (.int .i64 (1)) ∧ V.cell? ⟨bA, 1, none⟩ = some (.int .i64 (2)) ∧ V.cell? ⟨bM, 0, none⟩ = some (.int .i64 (-3)) ∧ V.cell? ⟨bM, 1, none⟩ = some (.int .i64 (2)) ∧ V.cell? ⟨bQ, 0, none⟩ = some (.int .i64 (-4)) ∧ V.cell? ⟨bQ, 1, none⟩ = some (.int .i64 (1)) ∧ V.cell? ⟨bP, 0, none⟩ = some (.int .i64 (9)) ∧ V.cell? ⟨bP, 1, none⟩ = some (.int .i64 (4)) ∧ V.cell? ⟨bB, 0, none⟩ = some (.int .i64 (15)) ∧ V.cell? ⟨bB, 1, none⟩ = some (.int .i64 (1)) ∧ Below W.heap.size W V) : Below W.heap.size W V := h.2.2.2.2.2.2.2.2.2.2
theorem keepS {bA bM bQ bP bB : Nat} {W V V' : World} (lA : bA < W.heap.size) (lM : bM < W.heap.size) (lQ : bQ < W.heap.size) (lP : bP < W.heap.size) (lB : bB < W.heap.size)
    (h : V.cell? ⟨bA, 0, none⟩ = some (.int .i64 (1)) ∧ V.cell? ⟨bA, 1, none⟩ = some (.int .i64 (2)) ∧ V.cell? ⟨bM, 0, none⟩ = some (.int .i64 (-3)) ∧ V.cell? ⟨bM, 1, none⟩ = some (.int .i64 (2)) ∧ V.cell? ⟨bQ, 0, none⟩ = some (.int .i64 (-4)) ∧ V.cell? ⟨bQ, 1, none⟩ = some (.int .i64 (1)) ∧ V.cell? ⟨bP, 0, none⟩ = some (.int .i64 (9)) ∧ V.cell? ⟨bP, 1, none⟩ = some (.int .i64 (4)) ∧ V.cell? ⟨bB, 0, none⟩ = some (.int .i64 (15)) ∧ V.cell? ⟨bB, 1, none⟩ = some (.int .i64 (1)) ∧ Below W.heap.size W V) (hb : Below V.heap.size V V') : V'.cell? ⟨bA, 0, none⟩ = some (.int .i64 (1)) ∧ V'.cell? ⟨bA, 1, none⟩ = some (.int .i64 (2)) ∧ V'.cell? ⟨bM, 0, none⟩ = some (.int .i64 (-3)) ∧ V'.cell? ⟨bM, 1, none⟩ = some (.int .i64 (2)) ∧ V'.cell? ⟨bQ, 0, none⟩ = some (.int .i64 (-4)) ∧ V'.cell? ⟨bQ, 1, none⟩ = some (.int .i64 (1)) ∧ V'.cell? ⟨bP, 0, none⟩ = some (.int .i64 (9)) ∧ V'.cell? ⟨bP, 1, none⟩ = some (.int .i64 (4)) ∧ V'.cell? ⟨bB, 0, none⟩ = some (.int .i64 (15)) ∧ V'.cell? ⟨bB, 1, none⟩ = some (.int .i64 (1)) ∧ Below W.heap.size W V' := by
  obtain ⟨h1, h2, h3, h4, h5, h6, h7, h8, h9, h10, hw⟩ := h
  have hz := hw.size
  have C : ∀ b o v, b < W.heap.size → V.cell? ⟨b, o, none⟩ = some v → V'.cell? ⟨b, o, none⟩ = some v := by
    intro b o v hl he
    rw [hb.cell (p := ⟨b, o, none⟩) (Nat.lt_of_lt_of_le hl hz)]; exact he
  exact ⟨C _ _ _ lA h1, C _ _ _ lA h2, C _ _ _ lM h3, C _ _ _ lM h4, C _ _ _ lQ h5, C _ _ _ lQ h6, C _ _ _ lP h7, C _ _ _ lP h8, C _ _ _ lB h9, C _ _ _ lB h10, hw.trans (hb.mono hz)⟩

set_option maxHeartbeats 2000000 in
theorem awake_any (w : World) :
    Calls Try.prog 18 #[] w fun e w' => e = .returned (.bool true) ∧ Below w.heap.size w w' := by
  go_enter Try.func18, Try.ntmps18
  go_wp2_with (first | (go_at_call 51; refine (num_any _ _ _).mono ?_; rintro e w1 ⟨rfl, hb1⟩; obtain ⟨hc1, hf1⟩ := bcell hb1; have hz := hb1.size; (try simp at hz)) | (go_at_call 29; refine (add_ex _).mono ?_; rintro e wA ⟨rfl, hbA⟩; obtain ⟨hcA, hfA⟩ := bcell hbA; have hzA := hbA.size; (try simp at hzA)) | (go_at_call 14; refine (make_ex _).mono ?_; rintro e wM ⟨rfl, hbM⟩; obtain ⟨hcM, hfM⟩ := bcell hbM; have hzM := hbM.size; (try simp at hzM)) | (go_at_call 37; refine (quot_ex _).mono ?_; rintro e wQ ⟨rfl, hbQ⟩; obtain ⟨hcQ, hfQ⟩ := bcell hbQ; have hzQ := hbQ.size; (try simp at hzQ)) | (go_at_call 41; refine (pow_ex _).mono ?_; rintro e wP ⟨rfl, hbP⟩; obtain ⟨hcP, hfP⟩ := bcell hbP; have hzP := hbP.size; (try simp at hzP)) | (go_at_call 45; refine (bits_ex _).mono ?_; rintro e wB ⟨rfl, hbB⟩; obtain ⟨hcB, hfB⟩ := bcell hbB; have hzB := hbB.size; (try simp at hzB)) | (go_at_call 33; refine (mul_ex _).mono ?_; rintro e wU ⟨rfl, hbU⟩; obtain ⟨hcU, hfU⟩ := bcell hbU; have hzU := hbU.size; (try simp at hzU)))
  have kA : Below (wA.heap.size + 1) (wA.alloc (.cells #[.int .i64 1, .int .i64 2] 23)) (wU.alloc (.cells #[.int .i64 0, .int .i64 0] 23)) := by
    repeat (first | exact Below.refl _ _ | refine below_drewN ?_ _ | refine Below.setCell ?_ (by first | omega | (simp; done) | (simp; omega)) _ | refine Below.alloc ?_ (by first | omega | (simp; done) | (simp; omega)) _ | refine below_step (by assumption) (by first | omega | (simp; done) | (simp; omega)) ?_)
  have kM : Below (wM.heap.size + 1) (wM.alloc (.cells #[.int .i64 (-3), .int .i64 2] 23)) (wU.alloc (.cells #[.int .i64 0, .int .i64 0] 23)) := by
    repeat (first | exact Below.refl _ _ | refine below_drewN ?_ _ | refine Below.setCell ?_ (by first | omega | (simp; done) | (simp; omega)) _ | refine Below.alloc ?_ (by first | omega | (simp; done) | (simp; omega)) _ | refine below_step (by assumption) (by first | omega | (simp; done) | (simp; omega)) ?_)
  have kQ : Below (wQ.heap.size + 1) (wQ.alloc (.cells #[.int .i64 (-4), .int .i64 1] 23)) (wU.alloc (.cells #[.int .i64 0, .int .i64 0] 23)) := by
    repeat (first | exact Below.refl _ _ | refine below_drewN ?_ _ | refine Below.setCell ?_ (by first | omega | (simp; done) | (simp; omega)) _ | refine Below.alloc ?_ (by first | omega | (simp; done) | (simp; omega)) _ | refine below_step (by assumption) (by first | omega | (simp; done) | (simp; omega)) ?_)
  have kP : Below (wP.heap.size + 1) (wP.alloc (.cells #[.int .i64 9, .int .i64 4] 23)) (wU.alloc (.cells #[.int .i64 0, .int .i64 0] 23)) := by
    repeat (first | exact Below.refl _ _ | refine below_drewN ?_ _ | refine Below.setCell ?_ (by first | omega | (simp; done) | (simp; omega)) _ | refine Below.alloc ?_ (by first | omega | (simp; done) | (simp; omega)) _ | refine below_step (by assumption) (by first | omega | (simp; done) | (simp; omega)) ?_)
  have kB : Below (wB.heap.size + 1) (wB.alloc (.cells #[.int .i64 15, .int .i64 1] 23)) (wU.alloc (.cells #[.int .i64 0, .int .i64 0] 23)) := by
    repeat (first | exact Below.refl _ _ | refine below_drewN ?_ _ | refine Below.setCell ?_ (by first | omega | (simp; done) | (simp; omega)) _ | refine Below.alloc ?_ (by first | omega | (simp; done) | (simp; omega)) _ | refine below_step (by assumption) (by first | omega | (simp; done) | (simp; omega)) ?_)
  have k0 : Below w.heap.size w (wU.alloc (.cells #[.int .i64 0, .int .i64 0] 23)) := by
    repeat (first | exact Below.refl _ _ | refine below_drewN ?_ _ | refine Below.setCell ?_ (by first | omega | (simp; done) | (simp; omega)) _ | refine Below.alloc ?_ (by first | omega | (simp; done) | (simp; omega)) _ | refine below_step (by assumption) (by first | omega | (simp; done) | (simp; omega)) ?_)
  have S : AwS wA.heap.size wM.heap.size wQ.heap.size wP.heap.size wB.heap.size (wU.alloc (.cells #[.int .i64 0, .int .i64 0] 23)) :=
    ⟨kept kA, kept kM, kept kQ, kept kP, kept kB⟩
  generalize wU.alloc (.cells #[.int .i64 0, .int .i64 0] 23) = W at *
  generalize wA.heap.size = bA at *
  generalize wM.heap.size = bM at *
  generalize wQ.heap.size = bQ at *
  generalize wP.heap.size = bP at *
  generalize wB.heap.size = bB at *
  obtain ⟨⟨cA0, cA1, lA⟩, ⟨cM0, cM1, lM⟩, ⟨cQ0, cQ1, lQ⟩, ⟨cP0, cP1, lP⟩, ⟨cB0, cB1, lB⟩⟩ := S
  have hW := Below.refl W.heap.size W
  go_region_held3 (fun w' => w'.cell? ⟨bA, 0, none⟩ = some (.int .i64 (1)) ∧ w'.cell? ⟨bA, 1, none⟩ = some (.int .i64 (2)) ∧ w'.cell? ⟨bM, 0, none⟩ = some (.int .i64 (-3)) ∧ w'.cell? ⟨bM, 1, none⟩ = some (.int .i64 (2)) ∧ w'.cell? ⟨bQ, 0, none⟩ = some (.int .i64 (-4)) ∧ w'.cell? ⟨bQ, 1, none⟩ = some (.int .i64 (1)) ∧ w'.cell? ⟨bP, 0, none⟩ = some (.int .i64 (9)) ∧ w'.cell? ⟨bP, 1, none⟩ = some (.int .i64 (4)) ∧ w'.cell? ⟨bB, 0, none⟩ = some (.int .i64 (15)) ∧ w'.cell? ⟨bB, 1, none⟩ = some (.int .i64 (1)) ∧ Below W.heap.size W w') (first | exact ⟨cA0, cA1, cM0, cM1, cQ0, cQ1, cP0, cP1, cB0, cB1, hW.drew⟩ | exact keepS lA lM lQ lP lB (by assumption) hb1) ((first | (go_at_call 51; refine (num_any _ _ _).mono ?_; rintro e w1 ⟨rfl, hb1⟩) | (go_at_call 43; refine (cmp_ex _).mono ?_; rintro e w1 ⟨rfl, hb1⟩)))
  all_goals (
    go_wp2
    go_ret
    exact ⟨rfl, k0.trans ((ofS (by assumption)).mono k0.size)⟩)
end Go.Proofs.Ytpoljkgfaceniaa
