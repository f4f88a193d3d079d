/- Layer 17: what writes the code's stack (2). -/
import Derived.Test.YtibggoikjlnnkaaDoorStkC
namespace Go.Proofs.YtibggoikjlnnkaaDoor
open Go.RowKit Go.Joins M1
set_option linter.unusedVariables false
theorem clear_row {w : World} {B g cap : Nat} {l : List V5} (h : w.ownsRow B 25 5 (.slice (some ⟨g, 0, none⟩) l.length cap) l.length (l.flatMap vC)) (k : Nat) (hk : k ≤ l.length) :
    ∃ W1, (∀ ty, (Builtin.clear_ #[37] ty #[.slice (some ⟨g, k * 5, none⟩) (l.length - k) (cap - k)]).run Tryd.prog w = .ok (.tuple #[]) W1) ∧
      W1.ownsRow B 25 5 (.slice (some ⟨g, 0, none⟩) l.length cap) l.length ((l.take k ++ List.replicate (l.length - k) v5z).flatMap vC) ∧ Ch [g] w W1 := by
  by_cases h0 : l.length - k = 0
  · refine ⟨w, fun ty => ?_, ?_, Ch.refl _ _⟩
    · exact run_clear_none w _ _ _ _ _ _ Tryd.underlying37 (.inr h0)
    · rw [h0, List.take_of_length_le (by omega)]
      simpa using h
  · obtain ⟨cur, h1, h2, h3, h4⟩ := row_laid h k (List.replicate (l.length - k) v5z) (by simp; omega)
    refine ⟨_, fun ty => run_clear5 w _ _ ty g (k * 5) (l.length - k) (cap - k) cur _ Tryd.underlying37 zero_val h1 (by omega) (by omega), ?_, ch_row w _⟩
    have e : l.take k ++ List.replicate (l.length - k) v5z ++ l.drop (k + (List.replicate (l.length - k) v5z).length) = l.take k ++ List.replicate (l.length - k) v5z := by
      rw [List.drop_of_length_le (by simp; omega), List.append_nil]
    rw [e] at h4
    exact h4
set_option maxHeartbeats 1000000 in
theorem cut_any (B t : Nat) (va : Value) (l : List V5) (lim : Nat) (w : World) (h : Sk 39 B t va l lim w) (k : Nat) (hk : k ≤ l.length) :
    Calls Tryd.prog 27 #[.pointer (some ⟨t, 0, none⟩), .int .i64 (k : Int)] w fun e w' => e = .returned (.tuple #[]) ∧ SkSaid 39 B t va (l.take k) lim w w' := by
  rcases h.form with ⟨rfl, rfl⟩ | ⟨g, cap, rfl⟩
  · obtain rfl : k = 0 := by simpa using hk
    have c0 : w.cell? ⟨t, 0, none⟩ = some (.slice none 0 0) := h.blk.cell 0
    have hb := h.blk.lt
    have fz := h.blk.fz 0
    have HS := Lib.hid (h.laid (va' := .slice none 0 0) (l' := []) (by decide) (Ch.refl _ w) (World.ownsRow_nil _ _ _ _) (Nat.zero_le _) (fun g hg => .inl hg))
    have hr : ∀ ty, (Builtin.clear_ #[37] ty #[.slice none 0 0]).run Tryd.prog w = .ok (.tuple #[]) w := fun ty => run_clear_none w _ _ _ _ _ _ Tryd.underlying37 (.inl rfl)
    clear h hk
    go_enter Tryd.func27, Tryd.ntmps27
    go_wp2_with (at_builtin; refine wpList_clear rfl _ _ rfl _ rfl (hr _) ?_)
    go_end0
    exact ⟨rfl, HS.out⟩
  · by_cases hkc : k = cap
    · subst hkc
      have hcap : l.length ≤ k := row_cap h.row
      have he : l.length - k = 0 := by omega
      have hr : ∀ ty, (Builtin.clear_ #[37] ty #[.slice (some ⟨g, 0, none⟩) (l.length - k) 0]).run Tryd.prog w = .ok (.tuple #[]) w := fun ty => run_clear_none w _ _ _ _ _ _ Tryd.underlying37 (.inr he)
      have c0 : w.cell? ⟨t, 0, none⟩ = some (.slice (some ⟨g, 0, none⟩) l.length k) := h.blk.cell 0
      have hb := h.blk.lt
      have fz1 := h.blk.fz 0
      have hk1 : (k : Int) ≤ (l.length : Int) := by omega
      have hk2 : (l.length : Int) ≤ (k : Int) := by omega
      have hk3 : (k : Int) ≤ (k : Int) := by omega
      have ht := own_take h.row hk
      rw [← take_flat] at ht
      have HS := Lib.hid (h.laid (va' := .slice (some ⟨g, 0, none⟩) k k) (l' := l.take k) (by decide) (Ch.refl _ w) (by rw [List.length_take, Nat.min_eq_left hk]; exact ht) (by have := h.le; simp; omega) (fun y hy => .inl ((ob_len y).1 hy)))
      clear h ht he hcap
      go_enter Tryd.func27, Tryd.ntmps27
      go_wp2_with (at_builtin; refine wpList_clear rfl _ _ rfl _ rfl (hr _) ?_)
      go_end0
      exact ⟨rfl, HS.out⟩
    obtain ⟨W1, hr, ho, hc⟩ := clear_row h.row k hk
    have c0 : w.cell? ⟨t, 0, none⟩ = some (.slice (some ⟨g, 0, none⟩) l.length cap) := h.blk.cell 0
    have hb := h.blk.lt
    have hbl1 := h.blk.ch hc (by simp; exact fun e => h.ap g (mem_ob.2 rfl) e.symm)
    have d0 : W1.cell? ⟨t, 0, none⟩ = some (.slice (some ⟨g, 0, none⟩) l.length cap) := hbl1.cell 0
    have hb1 := hbl1.lt
    have fz1 := hbl1.fz 0
    have hcap : l.length ≤ cap := row_cap h.row
    have hL : l.length ≤ 1000 := Nat.le_trans h.le h.top
    have hk1 : (k : Int) ≤ (l.length : Int) := by omega
    have hk2 : (l.length : Int) ≤ (cap : Int) := by omega
    have hk3 : (k : Int) ≤ (cap : Int) := by omega
    have ht := own_take ho hk
    have e1 : ((l.take k ++ List.replicate (l.length - k) v5z).flatMap vC).take (k * 5) = (l.take k).flatMap vC := by
      rw [← take_flat, List.take_append_of_le_length (by simp; omega), List.take_take, Nat.min_self]
    rw [e1] at ht
    have HS := Lib.hid (h.laid (va' := .slice (some ⟨g, 0, none⟩) k cap) (l' := l.take k) (by decide) (hc.mono (fun y hy => by simp at hy; subst hy; exact mem_ob.2 rfl)) (by rw [List.length_take, Nat.min_eq_left hk]; exact ht) (by have := h.le; simp; omega) (fun y hy => .inl ((ob_len y).1 hy)))
    clear h ho hc hbl1 ht e1
    go_enter Tryd.func27, Tryd.ntmps27
    go_wp2_with (at_builtin; refine wpList_clear rfl _ _ rfl _ rfl (hr _) ?_)
    go_end0
    exact ⟨rfl, HS.out⟩
def popE (l : List V5) (n : Int) : Int := if n < 0 then 2 else if (l.length : Int) < n then 18 else 0
def popL (l : List V5) (n : Int) : List V5 := if popE l n = 0 then l.take (l.length - n.toNat) else l
theorem spop_nil (n : Int) (w : World) : Calls Tryd.prog 12 #[.pointer none, .int .i64 n] w fun e w' => e = .returned (.int .i64 1) ∧ w = w' := by
  go_enter Tryd.func12, Tryd.ntmps12
  go_wp2
  go_ret
  exact ⟨rfl, rfl⟩
theorem pop_all (B t : Nat) (va : Value) (l : List V5) (lim : Nat) (w : World) (h : Sk 39 B t va l lim w) (n : Int) :
    Calls Tryd.prog 12 #[.pointer (some ⟨t, 0, none⟩), .int .i64 n] w fun e w' => e = .returned (.int .i64 (popE l n)) ∧ SkSaid 39 B t va (popL l n) lim w w' := by
  have H := Lib.hid h
  obtain ⟨p, cap, rfl⟩ := h.form1
  have c0 : w.cell? ⟨t, 0, none⟩ = some (.slice p l.length cap) := h.blk.cell 0
  have hb := h.blk.lt
  have hL : l.length ≤ 1000 := Nat.le_trans h.le h.top
  unfold popL popE
  by_cases g1 : n < 0
  · simp only [if_pos g1]
    clear h
    go_enter Tryd.func12, Tryd.ntmps12
    go_wp2
    go_ret
    exact ⟨rfl, sk_0 H.out (Ch.refl _ _)⟩
  · by_cases g2 : (l.length : Int) < n
    · simp only [if_neg g1, if_pos g2]
      clear h
      go_enter Tryd.func12, Tryd.ntmps12
      go_wp2
      go_ret
      exact ⟨rfl, sk_0 H.out (Ch.refl _ _)⟩
    · simp only [if_neg g1, if_neg g2, if_true]
      have Q := Lib.hid (cut_any B t _ l lim w h (l.length - n.toNat) (by omega))
      have hd : IntKind.i64.wrap ((l.length : Int) - n) = ((l.length - n.toNat : Nat) : Int) := by rw [show (l.length : Int) - n = ((l.length - n.toNat : Nat) : Int) by omega]; exact IntWalk.i64_in _ (by omega)
      clear h
      go_enter Tryd.func12, Tryd.ntmps12
      go_wp2_with (go_at_call 27; (with_reducible refine (Q.out).mono ?_); rintro e w4 ⟨rfl, HS⟩; have HS := Lib.hid HS)
      go_ret
      exact ⟨rfl, HS.out⟩
def topE (lim : Nat) (n : Int) : Int := if n < 0 then 6 else if (lim : Int) < n then 6 else 0
def topL (l : List V5) (lim : Nat) (n : Int) : List V5 := if topE lim n = 0 then (if n < (l.length : Int) then l.take n.toNat else l ++ List.replicate (n.toNat - l.length) v5z) else l
theorem list_nil (w : World) : Calls Tryd.prog 15 #[.pointer none] w fun e w' => e = .returned (.slice none 0 0) ∧ w = w' := by
  go_enter Tryd.func15, Tryd.ntmps15
  go_wp2
  go_ret
  exact ⟨rfl, rfl⟩
theorem list_any (B t : Nat) (va : Value) (l : List V5) (lim : Nat) (w : World) (h : Sk 39 B t va l lim w) :
    Calls Tryd.prog 15 #[.pointer (some ⟨t, 0, none⟩)] w fun e w' => (∃ v', e = .returned v' ∧ w'.ownsRow w.heap.size 25 5 v' l.length (l.flatMap vC)) ∧ Below w.heap.size w w' := by
  have Q := Lib.hid (clone_any va l w (ValsA.of_row h.row) (by have := h.le; have := h.top; omega))
  have c0 : w.cell? ⟨t, 0, none⟩ = some va := h.blk.cell 0
  have hb := h.blk.lt
  clear h
  go_enter Tryd.func15, Tryd.ntmps15
  go_wp2_with (go_at_call 29; (with_reducible refine (Q.out).mono ?_); rintro e w4 ⟨⟨v', rfl, HO⟩, HB⟩; have HO := Lib.hid HO; have HB := Lib.hid HB)
  go_ret
  exact ⟨⟨_, rfl, HO.out⟩, HB.out⟩
end Go.Proofs.YtibggoikjlnnkaaDoor
