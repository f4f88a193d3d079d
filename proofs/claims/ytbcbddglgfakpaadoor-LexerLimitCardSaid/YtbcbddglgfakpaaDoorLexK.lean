/- Contracts of layer 3: the chapter's small case. -/
import Derived.Test.YtbcbddglgfakpaaDoorLexJ
import Derived.Lib.SmallJoins
namespace Go.Proofs.YtbcbddglgfakpaaDoor
open Go.RowKit Go.Joins M1 M2 M3
set_option linter.unusedVariables false
theorem num_progress {l : List UInt8} {a : Nat} (ha : a < l.length) (h : (numL l a).2.1 = 0) : a < (numL l a).2.2 ∧ (numL l a).2.2 ≤ l.length := by
  unfold numL at h ⊢
  by_cases hE : (scanR l (a : Int)).E = 0
  · obtain ⟨h1, h2⟩ := scan_bd hE
    have h3 : (a : Int) < (scanR l (a : Int)).N := by
      have hE' := hE
      unfold scanR at hE' ⊢
      rw [Int.toNat_natCast] at hE' ⊢
      split at hE'
      · cases hE'
      · rename_i g0
        rw [if_neg g0]
        split at hE'
        · cases hE'
        · rename_i g1
          rw [if_neg g1]
          split at hE'
          · rename_i g2
            rw [if_pos g2]
            show (a : Int) < (a : Int) + _
            omega
          · rename_i g2; exact absurd hE' g2
    rw [if_neg (by simp [hE])] at h ⊢
    split at h
    · cases h
    · rename_i g
      rw [if_neg g]
      simp only []
      omega
  · rw [if_pos hE] at h
    exact absurd h hE
theorem nam_progress {l : List UInt8} {a : Nat} (ha : a < l.length) (hw : wrd l[a] = true) (h : (namR l a).E = 0) : a < (namR l a).nx ∧ (namR l a).nx ≤ l.length := by
  have h1 := cntP_le wrd (l.drop a)
  rw [List.length_drop] at h1
  have h2 := cntP_drop (P := wrd) ha
  rw [if_pos hw] at h2
  unfold namR at h ⊢
  split
  · simp only []; omega
  · simp only []; omega
theorem sym_progress {l : List UInt8} {a : Nat} (ha : a < l.length) (h : (symR l a).E = 0) : a < (symR l a).nx ∧ (symR l a).nx ≤ l.length := by
  have h1 := symD_le (l.drop a) (min 3 (l.drop a).length)
  rw [List.length_drop] at h1
  have h2 : symN (l.drop a) = symD (l.drop a) (min 3 (l.length - a)) := by unfold symN; rw [List.length_drop]
  have h3 : symN (l.drop a) ≠ 0 := by
    intro h0
    have : symE (l.drop a) = 4 := if_pos h0
    have h' : symE (l.drop a) = 0 := h
    rw [this] at h'; cases h'
  show a < a + symN (l.drop a) ∧ a + symN (l.drop a) ≤ l.length
  omega
theorem tokP_progress {l : List UInt8} {a : Nat} (ha : a < l.length) (h : (tokP l a l[a]).E = 0) : a < (tokP l a l[a]).nx ∧ (tokP l a l[a]).nx ≤ l.length := by
  unfold tokP at h ⊢
  by_cases hd : dgt l[a] = true
  · rw [if_pos hd] at h ⊢; exact num_progress ha h
  · rw [if_neg hd] at h ⊢
    by_cases hw : wrd l[a] = true
    · rw [if_pos hw] at h ⊢; exact nam_progress ha hw h
    · rw [if_neg hw] at h ⊢; exact sym_progress ha h
/-- The reading of tokens where no string stands. -/
def tkP (l : List UInt8) (a : Nat) : TR := tokP l a (l.getD a 0)
theorem tkP_at {l : List UInt8} {a : Nat} (h : a < l.length) : tkP l a = tokP l a l[a] := by unfold tkP; rw [List.getD_eq_getElem?_getD, List.getElem?_eq_getElem h]; rfl
deriving instance DecidableEq for Tok
def liveL : List UInt8 := ([97, 32, 61, 32, 48, 120, 49, 70, 32, 45, 45, 32, 98] : List UInt8)
theorem lives_lit : scT (tkP liveL) liveL = ([⟨1, [97], 1, 0⟩, ⟨5, [61], 1, 2⟩, ⟨3, [48, 120, 49, 70], 1, 4⟩], 0, 0) := by decide +kernel
theorem scan_live (w : World) :
    Calls Tryd.prog 12 #[.string ⟨#[97, 32, 61, 32, 48, 120, 49, 70, 32, 45, 45, 32, 98]⟩] w fun e w' => ∃ v, e = .returned (.tuple #[v, .int .i64 0, .int .i64 0]) ∧ OwnT (w.heap.size + 1) w' v [⟨1, [97], 1, 0⟩, ⟨5, [61], 1, 2⟩, ⟨3, [48, 120, 49, 70], 1, 4⟩] ∧ Below w.heap.size w w' := by
  have hq : ∀ a, (h : a < 13) → liveL[a]'h ≠ 34 ∧ liveL[a]'h ≠ 39 := by decide
  have h := lscan_any ⟨#[97, 32, 61, 32, 48, 120, 49, 70, 32, 45, 45, 32, 98]⟩ (tkP liveL) w (by decide) (fun b a ln W ha hSc => by
      have h1 := token_any b ⟨#[97, 32, 61, 32, 48, 120, 49, 70, 32, 45, 45, 32, 98]⟩ a ln W (by decide) ha hSc (hq a ha).1 (hq a ha).2
      have e : tkP liveL a = tokP liveL a (liveL[a]'ha) := tkP_at (l := liveL) ha
      rw [e]; exact h1) (fun a ha hE => by
      have e : tkP liveL a = tokP liveL a (liveL[a]'ha) := tkP_at (l := liveL) ha
      rw [e] at hE ⊢
      exact tokP_progress (l := liveL) ha hE)
  rw [show scT (tkP liveL) (⟨#[97, 32, 61, 32, 48, 120, 49, 70, 32, 45, 45, 32, 98]⟩ : ByteArray).data.toList = scT (tkP liveL) liveL from rfl, lives_lit] at h
  exact h

set_option maxHeartbeats 4000000 in
theorem lives_any (w : World) :
    Calls Tryd.prog 10 #[] w fun e w' => e = .returned (.bool true) ∧ Below w.heap.size w w' := by
  go_enter Tryd.func10, Tryd.ntmps10
  go_upto_region 2 with (go_at_call 12; refine (scan_live _).mono ?_; rintro e w1 ⟨v, rfl, hO, hb1⟩)
  have hO3 : w1.ownsRow (w.heap.size + 1) 29 4 v 3 [.int .i64 1, .string ⟨#[97]⟩, .int .i64 1, .int .i64 0, .int .i64 5, .string ⟨#[61]⟩, .int .i64 1, .int .i64 2, .int .i64 3, .string ⟨#[48, 120, 49, 70]⟩, .int .i64 1, .int .i64 4] := hO
  clear hO
  obtain ⟨g, cap, rfl⟩ := ownsRow_form hO3 (by decide)
  have c0 : w1.cell? ⟨g, 0, none⟩ = some (.int .i64 1) := World.ownsRow.cellAt hO3 0 (by decide)
  have c1 : w1.cell? ⟨g, 1, none⟩ = some (.string ⟨#[97]⟩) := World.ownsRow.cellAt hO3 1 (by decide)
  have c2 : w1.cell? ⟨g, 2, none⟩ = some (.int .i64 1) := World.ownsRow.cellAt hO3 2 (by decide)
  have c3 : w1.cell? ⟨g, 3, none⟩ = some (.int .i64 0) := World.ownsRow.cellAt hO3 3 (by decide)
  have c4 : w1.cell? ⟨g, 4, none⟩ = some (.int .i64 5) := World.ownsRow.cellAt hO3 4 (by decide)
  have c5 : w1.cell? ⟨g, 5, none⟩ = some (.string ⟨#[61]⟩) := World.ownsRow.cellAt hO3 5 (by decide)
  have c6 : w1.cell? ⟨g, 6, none⟩ = some (.int .i64 1) := World.ownsRow.cellAt hO3 6 (by decide)
  have c7 : w1.cell? ⟨g, 7, none⟩ = some (.int .i64 2) := World.ownsRow.cellAt hO3 7 (by decide)
  have c8 : w1.cell? ⟨g, 8, none⟩ = some (.int .i64 3) := World.ownsRow.cellAt hO3 8 (by decide)
  have c9 : w1.cell? ⟨g, 9, none⟩ = some (.string ⟨#[48, 120, 49, 70]⟩) := World.ownsRow.cellAt hO3 9 (by decide)
  have c10 : w1.cell? ⟨g, 10, none⟩ = some (.int .i64 1) := World.ownsRow.cellAt hO3 10 (by decide)
  have c11 : w1.cell? ⟨g, 11, none⟩ = some (.int .i64 4) := World.ownsRow.cellAt hO3 11 (by decide)
  clear hO3
  go_wp2
  go_ret
  exact ⟨rfl, hb1⟩
end Go.Proofs.YtbcbddglgfakpaaDoor
