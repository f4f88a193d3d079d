/- Layer 17: what writes the code's stack (2). -/
import Derived.Test.YtibggoikjlnnkaaStkC
namespace Go.Proofs.Ytibggoikjlnnkaa
open Go.RowKit Go.Joins M1
set_option linter.unusedVariables false
theorem clear_row {w : World} {B g cap : Nat} {l : List V5} (h : w.ownsRow B 35 5 (.slice (some ⟨g, 0, none⟩) l.length cap) l.length (l.flatMap vC)) (k : Nat) (hk : k ≤ l.length) :
    ∃ W1, (∀ ty, (Builtin.clear_ #[43] ty #[.slice (some ⟨g, k * 5, none⟩) (l.length - k) (cap - k)]).run Try.prog w = .ok (.tuple #[]) W1) ∧
      W1.ownsRow B 35 5 (.slice (some ⟨g, 0, none⟩) l.length cap) l.length ((l.take k ++ List.replicate (l.length - k) v5z).flatMap vC) ∧ Ch [g] w W1 := by
  by_cases h0 : l.length - k = 0
  · refine ⟨w, fun ty => ?_, ?_, Ch.refl _ _⟩
    · exact run_clear_none w _ _ _ _ _ _ Try.underlying43 (.inr h0)
    · rw [h0, List.take_of_length_le (by omega)]
      simpa using h
  · obtain ⟨cur, h1, h2, h3, h4⟩ := row_laid h k (List.replicate (l.length - k) v5z) (by simp; omega)
    refine ⟨_, fun ty => run_clear5 w _ _ ty g (k * 5) (l.length - k) (cap - k) cur _ Try.underlying43 zero_val h1 (by omega) (by omega), ?_, ch_row w _⟩
    have e : l.take k ++ List.replicate (l.length - k) v5z ++ l.drop (k + (List.replicate (l.length - k) v5z).length) = l.take k ++ List.replicate (l.length - k) v5z := by
      rw [List.drop_of_length_le (by simp; omega), List.append_nil]
    rw [e] at h4
    exact h4
set_option maxHeartbeats 1000000 in
theorem cut_any (B t : Nat) (va : Value) (l : List V5) (lim : Nat) (w : World) (h : Sk 63 B t va l lim w) (k : Nat) (hk : k ≤ l.length) :
    Calls Try.prog 50 #[.pointer (some ⟨t, 0, none⟩), .int .i64 (k : Int)] w fun e w' => e = .returned (.tuple #[]) ∧ SkSaid 63 B t va (l.take k) lim w w' := by
  rcases h.form with ⟨rfl, rfl⟩ | ⟨g, cap, rfl⟩
  · obtain rfl : k = 0 := by simpa using hk
    have c0 : w.cell? ⟨t, 0, none⟩ = some (.slice none 0 0) := h.blk.cell 0
    have hb := h.blk.lt
    have fz := h.blk.fz 0
    have HS := Lib.hid (h.laid (va' := .slice none 0 0) (l' := []) (by decide) (Ch.refl _ w) (World.ownsRow_nil _ _ _ _) (Nat.zero_le _) (fun g hg => .inl hg))
    have hr : ∀ ty, (Builtin.clear_ #[43] ty #[.slice none 0 0]).run Try.prog w = .ok (.tuple #[]) w := fun ty => run_clear_none w _ _ _ _ _ _ Try.underlying43 (.inl rfl)
    clear h hk
    go_enter Try.func50, Try.ntmps50
    go_wp2_with (at_builtin; refine wpList_clear rfl _ _ rfl _ rfl (hr _) ?_)
    go_end0
    exact ⟨rfl, HS.out⟩
  · by_cases hkc : k = cap
    · subst hkc
      have hcap : l.length ≤ k := row_cap h.row
      have he : l.length - k = 0 := by omega
      have hr : ∀ ty, (Builtin.clear_ #[43] ty #[.slice (some ⟨g, 0, none⟩) (l.length - k) 0]).run Try.prog w = .ok (.tuple #[]) w := fun ty => run_clear_none w _ _ _ _ _ _ Try.underlying43 (.inr he)
      have c0 : w.cell? ⟨t, 0, none⟩ = some (.slice (some ⟨g, 0, none⟩) l.length k) := h.blk.cell 0
      have hb := h.blk.lt
      have fz1 := h.blk.fz 0
      have hk1 : (k : Int) ≤ (l.length : Int) := by omega
      have hk2 : (l.length : Int) ≤ (k : Int) := by omega
      have hk3 : (k : Int) ≤ (k : Int) := by omega
      have ht := own_take h.row hk
      rw [← take_flat] at ht
      have HS := Lib.hid (h.laid (va' := .slice (some ⟨g, 0, none⟩) k k) (l' := l.take k) (by decide) (Ch.refl _ w) (by rw [List.length_take, Nat.min_eq_left hk]; exact ht) (by have := h.le; simp; omega) (fun y hy => .inl ((ob_len y).1 hy)))
      clear h ht he hcap
      go_enter Try.func50, Try.ntmps50
      go_wp2_with (at_builtin; refine wpList_clear rfl _ _ rfl _ rfl (hr _) ?_)
      go_end0
      exact ⟨rfl, HS.out⟩
    obtain ⟨W1, hr, ho, hc⟩ := clear_row h.row k hk
    have c0 : w.cell? ⟨t, 0, none⟩ = some (.slice (some ⟨g, 0, none⟩) l.length cap) := h.blk.cell 0
    have hb := h.blk.lt
    have hbl1 := h.blk.ch hc (by simp; exact fun e => h.ap g (mem_ob.2 rfl) e.symm)
    have d0 : W1.cell? ⟨t, 0, none⟩ = some (.slice (some ⟨g, 0, none⟩) l.length cap) := hbl1.cell 0
    have hb1 := hbl1.lt
    have fz1 := hbl1.fz 0
    have hcap : l.length ≤ cap := row_cap h.row
    have hL : l.length ≤ 1000 := Nat.le_trans h.le h.top
    have hk1 : (k : Int) ≤ (l.length : Int) := by omega
    have hk2 : (l.length : Int) ≤ (cap : Int) := by omega
    have hk3 : (k : Int) ≤ (cap : Int) := by omega
    have ht := own_take ho hk
    have e1 : ((l.take k ++ List.replicate (l.length - k) v5z).flatMap vC).take (k * 5) = (l.take k).flatMap vC := by
      rw [← take_flat, List.take_append_of_le_length (by simp; omega), List.take_take, Nat.min_self]
    rw [e1] at ht
    have HS := Lib.hid (h.laid (va' := .slice (some ⟨g, 0, none⟩) k cap) (l' := l.take k) (by decide) (hc.mono (fun y hy => by simp at hy; subst hy; exact mem_ob.2 rfl)) (by rw [List.length_take, Nat.min_eq_left hk]; exact ht) (by have := h.le; simp; omega) (fun y hy => .inl ((ob_len y).1 hy)))
    clear h ho hc hbl1 ht e1
    go_enter Try.func50, Try.ntmps50
    go_wp2_with (at_builtin; refine wpList_clear rfl _ _ rfl _ rfl (hr _) ?_)
    go_end0
    exact ⟨rfl, HS.out⟩
def popE (l : List V5) (n : Int) : Int := if n < 0 then 2 else if (l.length : Int) < n then 18 else 0
def popL (l : List V5) (n : Int) : List V5 := if popE l n = 0 then l.take (l.length - n.toNat) else l
theorem spop_nil (n : Int) (w : World) : Calls Try.prog 31 #[.pointer none, .int .i64 n] w fun e w' => e = .returned (.int .i64 1) ∧ w = w' := by
  go_enter Try.func31, Try.ntmps31
  go_wp2
  go_ret
  exact ⟨rfl, rfl⟩
theorem pop_all (B t : Nat) (va : Value) (l : List V5) (lim : Nat) (w : World) (h : Sk 63 B t va l lim w) (n : Int) :
    Calls Try.prog 31 #[.pointer (some ⟨t, 0, none⟩), .int .i64 n] w fun e w' => e = .returned (.int .i64 (popE l n)) ∧ SkSaid 63 B t va (popL l n) lim w w' := by
  have H := Lib.hid h
  obtain ⟨p, cap, rfl⟩ := h.form1
  have c0 : w.cell? ⟨t, 0, none⟩ = some (.slice p l.length cap) := h.blk.cell 0
  have hb := h.blk.lt
  have hL : l.length ≤ 1000 := Nat.le_trans h.le h.top
  unfold popL popE
  by_cases g1 : n < 0
  · simp only [if_pos g1]
    clear h
    go_enter Try.func31, Try.ntmps31
    go_wp2
    go_ret
    exact ⟨rfl, sk_0 H.out (Ch.refl _ _)⟩
  · by_cases g2 : (l.length : Int) < n
    · simp only [if_neg g1, if_pos g2]
      clear h
      go_enter Try.func31, Try.ntmps31
      go_wp2
      go_ret
      exact ⟨rfl, sk_0 H.out (Ch.refl _ _)⟩
    · simp only [if_neg g1, if_neg g2, if_true]
      have Q := Lib.hid (cut_any B t _ l lim w h (l.length - n.toNat) (by omega))
      have hd : IntKind.i64.wrap ((l.length : Int) - n) = ((l.length - n.toNat : Nat) : Int) := by rw [show (l.length : Int) - n = ((l.length - n.toNat : Nat) : Int) by omega]; exact IntWalk.i64_in _ (by omega)
      clear h
      go_enter Try.func31, Try.ntmps31
      go_wp2_with (go_at_call 50; (with_reducible refine (Q.out).mono ?_); rintro e w4 ⟨rfl, HS⟩; have HS := Lib.hid HS)
      go_ret
      exact ⟨rfl, HS.out⟩
def topE (lim : Nat) (n : Int) : Int := if n < 0 then 6 else if (lim : Int) < n then 6 else 0
def topL (l : List V5) (lim : Nat) (n : Int) : List V5 := if topE lim n = 0 then (if n < (l.length : Int) then l.take n.toNat else l ++ List.replicate (n.toNat - l.length) v5z) else l
theorem settop_nil (n : Int) (w : World) : Calls Try.prog 30 #[.pointer none, .int .i64 n] w fun e w' => e = .returned (.int .i64 1) ∧ w = w' := by
  go_enter Try.func30, Try.ntmps30
  go_wp2
  go_ret
  exact ⟨rfl, rfl⟩
theorem settop_bad (B t : Nat) (va : Value) (l : List V5) (lim : Nat) (w : World) (h : Sk 63 B t va l lim w) (n : Int) (hn : n < 0 ∨ (lim : Int) < n) :
    Calls Try.prog 30 #[.pointer (some ⟨t, 0, none⟩), .int .i64 n] w fun e w' => e = .returned (.int .i64 6) ∧ SkSaid 63 B t va l lim w w' := by
  have H := Lib.hid h
  obtain ⟨p, cap, rfl⟩ := h.form1
  have c1 : w.cell? ⟨t, 1, none⟩ = some (.int .i64 (lim : Int)) := h.blk.cell 1
  have hb := h.blk.lt
  clear h
  by_cases g1 : n < 0
  · clear hn
    go_enter Try.func30, Try.ntmps30
    go_wp2
    go_ret
    exact ⟨rfl, sk_0 H.out (Ch.refl _ _)⟩
  · have g2 : (lim : Int) < n := by omega
    clear hn
    go_enter Try.func30, Try.ntmps30
    go_wp2
    go_ret
    exact ⟨rfl, sk_0 H.out (Ch.refl _ _)⟩
theorem settop_lo (B t : Nat) (va : Value) (l : List V5) (lim : Nat) (w : World) (h : Sk 63 B t va l lim w) (n : Int) (k : Nat) (hn : n = (k : Int)) (hk : k < l.length) :
    Calls Try.prog 30 #[.pointer (some ⟨t, 0, none⟩), .int .i64 n] w fun e w' => e = .returned (.int .i64 0) ∧ SkSaid 63 B t va (l.take k) lim w w' := by
  have H := Lib.hid h
  have Q := Lib.hid (cut_any B t va l lim w h k (by omega))
  obtain ⟨p, cap, rfl⟩ := h.form1
  have c0 : w.cell? ⟨t, 0, none⟩ = some (.slice p l.length cap) := h.blk.cell 0
  have c1 : w.cell? ⟨t, 1, none⟩ = some (.int .i64 (lim : Int)) := h.blk.cell 1
  have hb := h.blk.lt
  have g1 : ¬ n < 0 := by omega
  have g2 : ¬ (lim : Int) < n := by have := h.le; omega
  have g3 : n < (l.length : Int) := by omega
  rw [← hn] at Q
  clear h hn hk
  go_enter Try.func30, Try.ntmps30
  go_wp2_with (go_at_call 50; (with_reducible refine (Q.out).mono ?_); rintro e w4 ⟨rfl, HS⟩; have HS := Lib.hid HS)
  go_ret
  exact ⟨rfl, HS.out⟩
set_option maxHeartbeats 1000000 in
theorem settop_hi (B t : Nat) (va : Value) (l : List V5) (lim : Nat) (w : World) (h : Sk 63 B t va l lim w) (n : Int) (d : Nat) (hn : n = (l.length : Int) + (d : Int)) (hl : l.length + d ≤ lim) (hB : B ≤ w.heap.size) :
    Calls Try.prog 30 #[.pointer (some ⟨t, 0, none⟩), .int .i64 n] w fun e w' => e = .returned (.int .i64 0) ∧ SkSaid 63 B t va (l ++ List.replicate d v5z) lim w w' := by
  have H := Lib.hid h
  obtain ⟨i0, hi0, jz0, jz1, jz2⟩ := info_parts info_val
  obtain ⟨W1, hr, hown, hg1⟩ := run_make_full (P := Try.prog) w w.heap.size 43 35 i0 (.agg #[.int .i64 0, .int .i64 0, .int .i64 0, .string ⟨#[]⟩, .int .i64 0]) 5 Try.underlying43 hi0 jz0 jz1 .i64 .i64 d (by have := h.top; rw [jz2]; omega) (by have := h.top; unfold maxLen; omega) (Nat.le_refl _)
  have hC1 : Ch [] w W1 := Ch.of_below ((Below.refl w.heap.size w).grown hg1 (Nat.le_refl _) (fun k e => by cases e))
  have HA : Hid (ValsA W1 (.slice (some ⟨w.heap.size, 0, none⟩) d d) (List.replicate d v5z)) := Lib.hid (by
    have e : (madeCells (Value.agg #[.int .i64 0, .int .i64 0, .int .i64 0, .string ⟨#[]⟩, .int .i64 0]).cells (d * 5)).toList = (List.replicate d v5z).flatMap vC := made5 d
    rw [e] at hown
    exact ValsA.of_row (l := List.replicate d v5z) (by rw [List.length_replicate]; exact hown))
  have Q := Lib.hid (push_any B t va l lim W1 (h.ch0 hC1) (some ⟨w.heap.size, 0, none⟩) d d (List.replicate d v5z) HA.out (fun e => by cases e) (by simpa using hl) (Nat.le_trans hB hC1.size))
  have HC1 := Lib.hid hC1
  obtain ⟨p, cap, rfl⟩ := h.form1
  have c0 : w.cell? ⟨t, 0, none⟩ = some (.slice p l.length cap) := h.blk.cell 0
  have c1 : w.cell? ⟨t, 1, none⟩ = some (.int .i64 (lim : Int)) := h.blk.cell 1
  have hb := h.blk.lt
  have htop := h.top
  have g1 : ¬ n < 0 := by omega
  have g2 : ¬ (lim : Int) < n := by omega
  have g3 : ¬ n < (l.length : Int) := by omega
  have hd : IntKind.i64.wrap (n - (l.length : Int)) = (d : Int) := by rw [show n - (l.length : Int) = (d : Int) by omega]; exact IntWalk.i64_in _ (by omega)
  clear h hn hl hown hg1 hC1
  go_enter Try.func30, Try.ntmps30
  go_wp2_with (go_at_call 49; (with_reducible refine (Q.out).mono ?_); rintro e w4 ⟨rfl, HS⟩; have HS := Lib.hid HS)
  go_ret
  exact ⟨rfl, SkSaid.before HC1.out HS.out⟩
theorem settop_all (B t : Nat) (va : Value) (l : List V5) (lim : Nat) (w : World) (h : Sk 63 B t va l lim w) (n : Int) (hB : B ≤ w.heap.size) :
    Calls Try.prog 30 #[.pointer (some ⟨t, 0, none⟩), .int .i64 n] w fun e w' => e = .returned (.int .i64 (topE lim n)) ∧ SkSaid 63 B t va (topL l lim n) lim w w' := by
  unfold topL topE
  by_cases g1 : n < 0
  · simp only [if_pos g1]; exact settop_bad B t va l lim w h n (.inl g1)
  · by_cases g2 : (lim : Int) < n
    · simp only [if_neg g1, if_pos g2]; exact settop_bad B t va l lim w h n (.inr g2)
    · simp only [if_neg g1, if_neg g2, if_true]
      by_cases g3 : n < (l.length : Int)
      · rw [if_pos g3]; exact settop_lo B t va l lim w h n n.toNat (by omega) (by omega)
      · rw [if_neg g3]; exact settop_hi B t va l lim w h n (n.toNat - l.length) (by omega) (by omega) hB
theorem list_nil (w : World) : Calls Try.prog 18 #[.pointer none] w fun e w' => e = .returned (.slice none 0 0) ∧ w = w' := by
  go_enter Try.func18, Try.ntmps18
  go_wp2
  go_ret
  exact ⟨rfl, rfl⟩
theorem list_any (B t : Nat) (va : Value) (l : List V5) (lim : Nat) (w : World) (h : Sk 63 B t va l lim w) :
    Calls Try.prog 18 #[.pointer (some ⟨t, 0, none⟩)] w fun e w' => (∃ v', e = .returned v' ∧ w'.ownsRow w.heap.size 35 5 v' l.length (l.flatMap vC)) ∧ Below w.heap.size w w' := by
  have Q := Lib.hid (clone_any va l w (ValsA.of_row h.row) (by have := h.le; have := h.top; omega))
  have c0 : w.cell? ⟨t, 0, none⟩ = some va := h.blk.cell 0
  have hb := h.blk.lt
  clear h
  go_enter Try.func18, Try.ntmps18
  go_wp2_with (go_at_call 45; (with_reducible refine (Q.out).mono ?_); rintro e w4 ⟨⟨v', rfl, HO⟩, HB⟩; have HO := Lib.hid HO; have HB := Lib.hid HB)
  go_ret
  exact ⟨⟨_, rfl, HO.out⟩, HB.out⟩
end Go.Proofs.Ytibggoikjlnnkaa
