/- Contracts of layer 4: singles. -/
import Derived.Test.YtkbcaklleiapdaaDoorPatH
namespace Go.Proofs.YtkbcaklleiapdaaDoor
open Go.RowKit M4
set_option linter.unusedVariables false
theorem cell_new4 (w : World) (v : Value) (t : TypeId) (n : Nat) (h : n = w.heap.size) : (w.alloc (.cells #[v] t)).cell? ⟨n, 0, none⟩ = some v := by
  subst h; unfold World.cell?; rw [heap_new]; rfl
/-- What reading a single without its quantifier leaves. -/
def TestSaid (b : Nat) (p : ByteArray) (k : Nat) (st op : Value) (lo : Nat) (e : Ending) (w' : World) : Prop := match testF p.data.toList k with
  | some r => ∃ v, e = .returned (.tuple #[v, .int .i64 0]) ∧ Rd b p r.2 st op w' ∧ TV lo w'.heap.size w' v r.1
  | none => e = .returned (.tuple #[.nilFunc, .int .i64 4]) ∧ ∃ k', Rd b p k' st op w'

set_option maxHeartbeats 8000000 in
set_option maxRecDepth 100000 in
theorem test_any (b : Nat) (p : ByteArray) (k : Nat) (st op : Value) (w : World) (hp : p.size ≤ 1000000) (hk : k < p.size) (h : Rd b p k st op w) :
    Calls Tryd.prog 72 #[.pointer (some ⟨b, 0, none⟩)] w fun e w' => TestSaid b p k st op w.heap.size e w' ∧ Ch [b] w w' := by
  have hll : p.data.toList.length = p.size := Array.length_toList
  have hkk : (k : Int) < (p.size : Int) := by omega
  have hk0 : 0 ≤ (k : Int) := by omega
  have hge := get_some p k hk
  have hbl := h.lt
  have m0 := h.c0
  have m1 := h.c1
  have HD := Lib.hid fun n => h.drewN n
  have HC := Lib.hid fun n => Ch.drewN (Ch.refl [b] w) n
  have HZ : Hid (w.heap.size ≤ w.heap.size) := Lib.hid (Nat.le_refl _)
  unfold TestSaid
  obtain ⟨x, hxx⟩ : ∃ x, p[k] = x := ⟨_, rfl⟩
  rw [hxx] at hge
  have hxi : (p[k].toNat : Int) = (x.toNat : Int) := by rw [hxx]
  clear hxx h
  by_cases hx : x = 46
  · have ht : testF p.data.toList k = some (fun _ => true, k + 1) := by unfold testF; rw [hge]; simp only []; rw [if_pos hx]
    rw [ht]
    have S1 := Lib.hid fun (W : World) (hW : Rd b p k st op W) => by have := skip4_lit b p k st op 46 46 rfl W hp (by omega) hW; rw [if_pos (by rw [hge]; exact congrArg some hx), decide_eq_true (by rw [hge]; exact congrArg some hx)] at this; exact this
    clear ht hge hx hll
    go_enter Tryd.func72, Tryd.ntmps72
    go_wp2
    go_quiet (fail)
    go_wp2_with (go_at_call 43; (with_reducible refine (S1.out _ (HD.out _)).mono ?_); rintro e w1 ⟨rfl, h1, hg1⟩)
    go_ret2
    exact ⟨⟨_, rfl, h1, tv_true _ _ _ (Nat.le_refl _)⟩, (HC.out _).trans (Ch.of_grown hg1 (by simp))⟩
  have n46 := hx
  clear hx
  have N46 := Lib.hid fun (W : World) (hW : Rd b p k st op W) => by have := skip4_lit b p k st op 46 46 rfl W hp (by omega) hW; rw [if_neg (by rw [hge]; exact fun e => n46 (Option.some.inj e)), decide_eq_false (by rw [hge]; exact fun e => n46 (Option.some.inj e))] at this; exact this
  by_cases hx : x = 37
  · have ht : testF p.data.toList k = (pairL p.data.toList (k + 1)).map fun P => (P, k + 2) := by unfold testF; rw [hge]; simp only []; rw [if_neg n46, if_pos hx]
    rw [ht]
    have S1 := Lib.hid fun (W : World) (hW : Rd b p k st op W) => by have := skip4_lit b p k st op 37 37 rfl W hp (by omega) hW; rw [if_pos (by rw [hge]; exact congrArg some hx), decide_eq_true (by rw [hge]; exact congrArg some hx)] at this; exact this
    have P0 := fun W (hW : Rd b p (k + 1) st op W) => pairR_any b p (k + 1) st op W hp (by omega) hW
    clear ht hge hx hll n46
    cases hpl : pairL p.data.toList (k + 1) with
    | some P =>
      rw [hpl] at P0
      simp only [Option.isSome_some, if_true] at P0
      have P1 := Lib.hid P0
      clear P0
      simp only [Option.map_some]
      go_enter Tryd.func72, Tryd.ntmps72
      go_wp2
      go_quiet (fail)
      go_wp2_with (first | (go_at_call 43; first | ((with_reducible refine (N46.out _ (HD.out _)).mono ?_); rintro e w1 ⟨rfl, h1, hg1⟩) | ((with_reducible refine (S1.out _ h1).mono ?_); rintro e w2 ⟨rfl, h2, hg2⟩)) | (go_at_call 87; (with_reducible refine (P1.out _ h2).mono ?_); rintro e w3 ⟨v, rfl, h3, hT, hg3⟩))
      go_ret2
      have hz : w.heap.size ≤ w2.heap.size := by have := hg1.size; have := hg2.size; simp at *; omega
      exact ⟨⟨_, rfl, h3, hT.wide hz (Nat.le_refl _) (Nat.le_refl _)⟩, (((HC.out _).trans (Ch.of_grown hg1 (by simp))).trans (Ch.of_grown hg2 (by simp))).trans (Ch.of_grown hg3 (by simp))⟩
    | none =>
      rw [hpl] at P0
      simp only [Option.isSome_none, Bool.false_eq_true, if_false] at P0
      have P1 := Lib.hid P0
      clear P0
      simp only [Option.map_none]
      go_enter Tryd.func72, Tryd.ntmps72
      go_wp2
      go_quiet (fail)
      go_wp2_with (first | (go_at_call 43; first | ((with_reducible refine (N46.out _ (HD.out _)).mono ?_); rintro e w1 ⟨rfl, h1, hg1⟩) | ((with_reducible refine (S1.out _ h1).mono ?_); rintro e w2 ⟨rfl, h2, hg2⟩)) | (go_at_call 87; (with_reducible refine (P1.out _ h2).mono ?_); rintro e w3 ⟨v, rfl, h3, hT, hg3⟩; subst hT))
      go_ret2
      exact ⟨⟨rfl, _, h3⟩, (((HC.out _).trans (Ch.of_grown hg1 (by simp))).trans (Ch.of_grown hg2 (by simp))).trans (Ch.of_grown hg3 (by simp))⟩
  have n37 := hx
  clear hx
  have N37 := Lib.hid fun (W : World) (hW : Rd b p k st op W) => by have := skip4_lit b p k st op 37 37 rfl W hp (by omega) hW; rw [if_neg (by rw [hge]; exact fun e => n37 (Option.some.inj e)), decide_eq_false (by rw [hge]; exact fun e => n37 (Option.some.inj e))] at this; exact this
  by_cases hx : x = 91
  · have ht : testF p.data.toList k = setF p.data.toList (k + 1) := by unfold testF; rw [hge]; simp only []; rw [if_neg n46, if_neg n37, if_pos hx]
    rw [ht]
    have S1 := Lib.hid fun (W : World) (hW : Rd b p k st op W) => by have := skip4_lit b p k st op 91 91 rfl W hp (by omega) hW; rw [if_pos (by rw [hge]; exact congrArg some hx), decide_eq_true (by rw [hge]; exact congrArg some hx)] at this; exact this
    have P0 := fun W (hW : Rd b p (k + 1) st op W) => set_any b p (k + 1) st op W hp (by omega) hW
    clear ht hge hx hll n46 n37
    cases hpl : setF p.data.toList (k + 1) with
    | some r =>
      have P1 := Lib.hid fun W hW => (P0 W hW).mono fun e w' (h : _ ∧ _) => (by
        obtain ⟨h1, h2⟩ := h
        unfold SetSaid at h1; rw [hpl] at h1
        obtain ⟨v, h3, h4, h5⟩ := h1
        exact ⟨v, h3, h4, h5, h2⟩ : ∃ v, e = .returned (.tuple #[v, .int .i64 0]) ∧ Rd b p r.2 st op w' ∧ TV W.heap.size w'.heap.size w' v r.1 ∧ Ch [b] W w')
      clear P0
      go_enter Tryd.func72, Tryd.ntmps72
      go_wp2
      go_quiet (fail)
      go_wp2_with (first | (go_at_call 43; first | ((with_reducible refine (N46.out _ (HD.out _)).mono ?_); rintro e w1 ⟨rfl, h1, hg1⟩) | ((with_reducible refine (N37.out _ h1).mono ?_); rintro e w4 ⟨rfl, h4, hg4⟩) | ((with_reducible refine (S1.out _ h4).mono ?_); rintro e w2 ⟨rfl, h2, hg2⟩)) | (go_at_call 71; (with_reducible refine (P1.out _ h2).mono ?_); rintro e w3 ⟨v, rfl, h3, hT, hg3⟩))
      go_ret2
      have hz : w.heap.size ≤ w2.heap.size := by have := hg1.size; have := hg2.size; have := hg4.size; simp at *; omega
      exact ⟨⟨_, rfl, h3, hT.wide hz (Nat.le_refl _) (Nat.le_refl _)⟩, ((((HC.out _).trans (Ch.of_grown hg1 (by simp))).trans (Ch.of_grown hg4 (by simp))).trans (Ch.of_grown hg2 (by simp))).trans hg3⟩
    | none =>
      have P1 := Lib.hid fun W hW => (P0 W hW).mono fun e w' (h : _ ∧ _) => (by
        obtain ⟨h1, h2⟩ := h
        unfold SetSaid at h1; rw [hpl] at h1
        exact ⟨h1.1, h1.2, h2⟩ : e = .returned (.tuple #[.nilFunc, .int .i64 4]) ∧ (∃ k', Rd b p k' st op w') ∧ Ch [b] W w')
      clear P0
      go_enter Tryd.func72, Tryd.ntmps72
      go_wp2
      go_quiet (fail)
      go_wp2_with (first | (go_at_call 43; first | ((with_reducible refine (N46.out _ (HD.out _)).mono ?_); rintro e w1 ⟨rfl, h1, hg1⟩) | ((with_reducible refine (N37.out _ h1).mono ?_); rintro e w4 ⟨rfl, h4, hg4⟩) | ((with_reducible refine (S1.out _ h4).mono ?_); rintro e w2 ⟨rfl, h2, hg2⟩)) | (go_at_call 71; (with_reducible refine (P1.out _ h2).mono ?_); rintro e w3 ⟨rfl, h3, hg3⟩))
      go_ret2
      exact ⟨⟨rfl, h3⟩, ((((HC.out _).trans (Ch.of_grown hg1 (by simp))).trans (Ch.of_grown hg4 (by simp))).trans (Ch.of_grown hg2 (by simp))).trans hg3⟩
  have n91 := hx
  clear hx
  have N91 := Lib.hid fun (W : World) (hW : Rd b p k st op W) => by have := skip4_lit b p k st op 91 91 rfl W hp (by omega) hW; rw [if_neg (by rw [hge]; exact fun e => n91 (Option.some.inj e)), decide_eq_false (by rw [hge]; exact fun e => n91 (Option.some.inj e))] at this; exact this
  have ht : testF p.data.toList k = some (fun d => d == x, k + 1) := by unfold testF; rw [hge]; simp only []; rw [if_neg n46, if_neg n37, if_neg n91]
  rw [ht]
  have w1k := i64w ((k : Int) + 1) (by omega)
  clear ht hge hll n46 n37 n91
  go_enter Tryd.func72, Tryd.ntmps72
  go_wp2
  go_quiet (fail)
  go_upto_region 2 with (go_at_call 43; first | ((with_reducible refine (N46.out _ (HD.out _)).mono ?_); rintro e w1 ⟨rfl, h1, hg1⟩) | ((with_reducible refine (N37.out _ h1).mono ?_); rintro e w4 ⟨rfl, h4, hg4⟩) | ((with_reducible refine (N91.out _ h4).mono ?_); rintro e w2 ⟨rfl, h2, hg2⟩))
  have q1 := h2.c1
  have qf := h2.fz 1
  have hCC : Ch [b] w w2 := (((HC.out _).trans (Ch.of_grown hg1 (by simp))).trans (Ch.of_grown hg4 (by simp))).trans (Ch.of_grown hg2 (by simp))
  have HCC := Lib.hid hCC
  have H2 := Lib.hid h2
  clear hCC hg1 hg4 hg2 h1 h4 h2
  go_wp2_with (go_at_call 88; (with_reducible refine (only_any _ _).mono ?_); rintro e w6 ⟨rfl, rfl⟩)
  go_ret2
  have h5 := H2.out.set1 (k + 1) (.int .i64 ((k : Int) + 1)) (by push_cast; rfl)
  have hc5 : Ch [b] w (w2.setCell ⟨b, 1, none⟩ (.int .i64 ((k : Int) + 1))) := HCC.out.set b 1 _ (Or.inl (by simp))
  refine ⟨⟨_, rfl, h5.ch ((Ch.refl [] _).alloc _) (by simp), ?_⟩, hc5.alloc _⟩
  exact tv_only (by have := HCC.out.size; exact this) (by simp [World.setCell]) (Nat.le_refl _) (cell_new4 _ _ _ _ (by simp [World.setCell]))
end Go.Proofs.YtkbcaklleiapdaaDoor
