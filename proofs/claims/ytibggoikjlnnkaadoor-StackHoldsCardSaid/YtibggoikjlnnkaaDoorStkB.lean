/- Layers 17 and 18: slices.Clone of values; At, List. -/
import Derived.Test.YtibggoikjlnnkaaDoorStkA
import Derived.Lib.BufferMore
namespace Go.Proofs.YtibggoikjlnnkaaDoor
open Go.RowKit Go.Joins M1
set_option linter.unusedVariables false
/-- Values that can be read. -/
structure ValsA (w : World) (v : Value) (l : List V5) : Prop where
  form : ∃ p c, v = .slice p l.length c ∧ (0 < l.length → ∃ g o, p = some ⟨g, o, none⟩ ∧ g < w.heap.size ∧ ∀ (j m : Nat) (hj : j < l.length), m < 5 → w.cell? ⟨g, o + j * 5 + m, none⟩ = (vC l[j])[m]?)
theorem vals_nil (w : World) (c : Nat) : ValsA w (.slice none 0 c) [] := ⟨_, _, rfl, fun h => absurd h (by decide)⟩
theorem ValsA.below {w w' : World} {v : Value} {l : List V5} (h : ValsA w v l) (hb : Ch [] w w') : ValsA w' v l := by
  obtain ⟨p, c, rfl, h2⟩ := h.form
  refine ⟨p, c, rfl, fun h0 => ?_⟩
  obtain ⟨g, o, h3, h4, h5⟩ := h2 h0
  exact ⟨g, o, h3, Nat.lt_of_lt_of_le h4 hb.size, fun j m hj hm => (hb.below.cell (p := ⟨g, _, none⟩) h4).trans (h5 j m hj hm)⟩
theorem ValsA.of_row {w : World} {B : Nat} {v : Value} {l : List V5} (h : w.ownsRow B 25 5 v l.length (l.flatMap vC)) : ValsA w v l := by
  rcases Joins.ownsRow_forms h with ⟨h1, h2⟩ | ⟨g, cap, h1⟩
  · exact ⟨none, 0, by rw [h1, h2], fun h0 => by omega⟩
  · refine ⟨some ⟨g, 0, none⟩, cap, h1, fun _ => ⟨g, 0, rfl, (own_lo h (mem_ob.2 (by rw [h1]; rfl))).2, fun j m hj hm => ?_⟩⟩
    rw [h1] at h
    rw [Nat.zero_add, h.cellAt (j * 5 + m) (by omega), flat_at vC 5 vC_len _ j m hj hm]
theorem ValsA.src {w : World} {a : Addr} {n c : Nat} {l : List V5} (h : ValsA w (.slice (some a) n c) l) : ∀ q u, (l.flatMap vC)[q]? = some u → w.cell? (a.add q) = some u := by
  intro q u hu
  obtain ⟨p, c', e, h2⟩ := h.form
  injection e with e1 e2 e3
  subst e1 e3
  have hq : q < l.length * 5 := by
    have := (List.getElem?_eq_some_iff.1 hu).1
    rwa [flat5_len] at this
  obtain ⟨g, o, e, hg, hv⟩ := h2 (by omega)
  obtain rfl : a = ⟨g, o, none⟩ := Option.some.inj e
  have e3 : q / 5 * 5 + q % 5 = q := by omega
  have hf := flat_at vC 5 vC_len l (q / 5) (q % 5) (by omega) (by omega)
  have := hv (q / 5) (q % 5) (by omega) (by omega)
  rw [e3] at hf
  rw [addr_addQ, ← hu, hf, ← this]
  congr 2; omega
theorem ValsA.len {w : World} {p : Option Addr} {n c : Nat} {l : List V5} (h : ValsA w (.slice p n c) l) : l.length = n := by
  obtain ⟨p', c', e, _⟩ := h.form
  injection e with e1 e2 e3
  exact e2.symm
theorem row_cap {w : World} {B g n cap : Nat} {xs : List Value} (h : w.ownsRow B 25 5 (.slice (some ⟨g, 0, none⟩) n cap) n xs) : n ≤ cap := by
  obtain ⟨h1, h2⟩ := h
  rcases h2 with ⟨e1, _⟩ | ⟨g', cap', cur, e1, q1, q2, q3, q4, q5, q6⟩
  · injection e1 with e1; cases e1
  injection e1 with e1 e2 e3
  subst e3
  exact q3
set_option maxHeartbeats 4000000 in
/-- slices.Clone of values. -/
theorem clone_any (v : Value) (l : List V5) (w : World) (h : ValsA w v l) (hl : l.length ≤ 1000000) :
    Calls Tryd.prog 29 #[v] w fun e w' => (∃ v', e = .returned v' ∧ w'.ownsRow w.heap.size 25 5 v' l.length (l.flatMap vC)) ∧ Below w.heap.size w w' := by
  obtain ⟨i0, hi0, jz0, jz1, jz2⟩ := info_parts info_val
  obtain ⟨p, c, rfl, _⟩ := h.form
  cases p with
  | none =>
    have h0 : l = [] := by
      obtain ⟨p', c', e, h2⟩ := h.form
      injection e with e1 e2 e3
      rcases l with _ | ⟨x, l⟩
      · rfl
      · obtain ⟨_, _, e, _⟩ := h2 (by simp)
        rw [← e1] at e; cases e
    subst h0
    have hq : ∀ W, (binOp .eql 37 (.slice none 0 c) (.slice none 0 0)).run Tryd.prog W = .ok (.bool true) W := fun W => Lib.run_eql_slice_nil_nil W _ _ Tryd.underlying37
    have hq' : ∀ W, (binOp .eql 37 (.slice none ([] : List V5).length c) (.slice none 0 0)).run Tryd.prog W = .ok (.bool true) W := hq
    go_enter Tryd.func29, Tryd.ntmps29
    go_wp2
    go_ret
    exact ⟨⟨_, rfl, World.ownsRow_nil _ _ _ _⟩, Below.refl _ _⟩
  | some a =>
    have HS : Hid (∀ W, Ch [] w W → ∀ q u, (l.flatMap vC)[q]? = some u → W.cell? (a.add q) = some u) := Lib.hid fun W hW => (h.below hW).src
    have hq : ∀ W, (binOp .eql 37 (.slice (some a) l.length c) (.slice none 0 0)).run Tryd.prog W = .ok (.bool false) W := fun W => Lib.run_eql_slice_some_nil W a _ _ Tryd.underlying37
    clear h
    go_enter Tryd.func29, Tryd.ntmps29
    go_upto_region 3 with fail
    have HN := Lib.hid (World.ownsRow_lit (w := w) #[] 0 (e := 25) (size := 5) (Nat.le_refl _) (Nat.zero_le _) rfl)
    have HC : Hid (Ch [] w (w.alloc (.cells #[] 25))) := Lib.hid ((Ch.refl [] w).alloc _)
    go_wp2_with (at_builtin; refine wpList_append_own_at _ rfl _ _ 37 rfl w.heap.size 25 i0 (.agg #[.int .i64 0, .int .i64 0, .int .i64 0, .string ⟨#[]⟩, .int .i64 0]) 5 48 Tryd.underlying37 hi0 jz0 jz1 jz2 rfl (by decide) _ _ _ rfl HN.out a l.length c (l.flatMap vC) rfl (flat5_len l) (HS.out _ HC.out) (vC_onel _) (by unfold maxLen; omega) (by omega) (by simp) ?_)
    intro v5 w5 ho5 hg5 _ _
    have HO5 : Hid (w5.ownsRow w.heap.size 25 5 v5 l.length (l.flatMap vC)) := Lib.hid (by simpa using ho5)
    have HB5 : Hid (Below w.heap.size w w5) := Lib.hid (((Below.refl _ w).alloc (Nat.le_refl _) _).grown hg5 (by simp) (fun q e => (own_lo HN.out (mem_ob.2 e)).1))
    clear ho5 hg5
    go_wp2
    go_ret
    exact ⟨⟨_, rfl, HO5.out⟩, HB5.out⟩
theorem from_nil (i : Int) (w : World) : Calls Tryd.prog 22 #[.pointer none, .int .i64 i] w fun e w' => e = .returned (.tuple #[.slice none 0 0, .int .i64 1]) ∧ w = w' := by
  have Q := Lib.hid (abs_nil i w)
  go_enter Tryd.func22, Tryd.ntmps22
  go_wp2_with (go_at_call 16; (with_reducible refine (Q.out).mono ?_); rintro e w1 ⟨rfl, rfl⟩)
  go_ret2
  exact ⟨rfl, rfl⟩
theorem from_none (B t : Nat) (va : Value) (l : List V5) (lim : Nat) (w : World) (h : Sk 39 B t va l lim w) (i : Int) (he : absI l.length i = none) :
    Calls Tryd.prog 22 #[.pointer (some ⟨t, 0, none⟩), .int .i64 i] w fun e w' => e = .returned (.tuple #[.slice none 0 0, .int .i64 6]) ∧ w = w' := by
  have Q := Lib.hid (abs_none B t va l lim w h i he)
  clear h he
  go_enter Tryd.func22, Tryd.ntmps22
  go_wp2_with (go_at_call 16; (with_reducible refine (Q.out).mono ?_); rintro e w1 ⟨rfl, rfl⟩)
  go_ret2
  exact ⟨rfl, rfl⟩
theorem from_some (B t : Nat) (g cap : Nat) (l : List V5) (lim : Nat) (w : World) (h : Sk 39 B t (.slice (some ⟨g, 0, none⟩) l.length cap) l lim w) (i : Int) (k : Nat) (he : absI l.length i = some k) :
    Calls Tryd.prog 22 #[.pointer (some ⟨t, 0, none⟩), .int .i64 i] w fun e w' => e = .returned (.tuple #[.slice (some ⟨g, k * 5, none⟩) (l.length - k) (cap - k), .int .i64 0]) ∧ w = w' := by
  have Q := Lib.hid (abs_some B t _ l lim w h i k he)
  have c0 : w.cell? ⟨t, 0, none⟩ = some (.slice (some ⟨g, 0, none⟩) l.length cap) := h.blk.cell 0
  have hb := h.blk.lt
  have hk := absI_lt he
  have hcap : l.length ≤ cap := row_cap h.row
  have hL : l.length ≤ 1000 := Nat.le_trans h.le h.top
  have hk1 : (k : Int) ≤ (l.length : Int) := by omega
  have hk2 : (l.length : Int) ≤ (cap : Int) := by omega
  have dk : IntKind.i64.wrap ((k : Int) + 1 - 1) = (k : Int) := by rw [show (k : Int) + 1 - 1 = k by omega]; exact IntWalk.i64_in _ (by omega)
  clear h he
  go_enter Tryd.func22, Tryd.ntmps22
  go_wp2_with (go_at_call 16; (with_reducible refine (Q.out).mono ?_); rintro e w1 ⟨rfl, rfl⟩)
  go_ret2
  exact ⟨by simp, rfl⟩
theorem at_nil (w : World) (i : Int) :
    Calls Tryd.prog 8 #[.pointer none, .int .i64 i] w fun e w' => e = .returned (.tuple #[.agg #[.int .i64 0, .int .i64 0, .int .i64 0, .string ⟨#[]⟩, .int .i64 0], .int .i64 1]) ∧ Below w.heap.size w w' := by
  have Q := Lib.hid (from_nil i (w.alloc (.cells #[.int .i64 0, .int .i64 0, .int .i64 0, .string ⟨#[]⟩, .int .i64 0] 25)))

  go_enter Tryd.func8, Tryd.ntmps8
  go_wp2_with (go_at_call 22; (with_reducible refine (Q.out).mono ?_); rintro e w1 ⟨rfl, rfl⟩)
  refine bodyPost_ret (v := .tuple #[.agg #[.int .i64 0, .int .i64 0, .int .i64 0, .string ⟨#[]⟩, .int .i64 0], .int .i64 1]) (by simp [results, Tryd.results8, go_sem]) rfl ⟨rfl, ?_⟩
  exact (Below.refl _ w).alloc (Nat.le_refl _) _
theorem at_none (B t : Nat) (va : Value) (l : List V5) (lim : Nat) (w : World) (h : Sk 39 B t va l lim w) (i : Int) (he : absI l.length i = none) :
    Calls Tryd.prog 8 #[.pointer (some ⟨t, 0, none⟩), .int .i64 i] w fun e w' => e = .returned (.tuple #[.agg #[.int .i64 0, .int .i64 0, .int .i64 0, .string ⟨#[]⟩, .int .i64 0], .int .i64 6]) ∧ Below w.heap.size w w' := by
  have Q := Lib.hid (from_none B t va l lim (w.alloc (.cells #[.int .i64 0, .int .i64 0, .int .i64 0, .string ⟨#[]⟩, .int .i64 0] 25)) (h.ch0 ((Ch.refl [] w).alloc _)) i he)
  clear h he
  go_enter Tryd.func8, Tryd.ntmps8
  go_wp2_with (go_at_call 22; (with_reducible refine (Q.out).mono ?_); rintro e w1 ⟨rfl, rfl⟩)
  refine bodyPost_ret (v := .tuple #[.agg #[.int .i64 0, .int .i64 0, .int .i64 0, .string ⟨#[]⟩, .int .i64 0], .int .i64 6]) (by simp [results, Tryd.results8, go_sem]) rfl ⟨rfl, ?_⟩
  exact (Below.refl _ w).alloc (Nat.le_refl _) _
set_option maxHeartbeats 1000000 in
theorem at_some (B t : Nat) (va : Value) (l : List V5) (lim : Nat) (w : World) (h : Sk 39 B t va l lim w) (i : Int) (k : Nat) (hk : k < l.length) (he : absI l.length i = some k) (x : V5) (hx : l[k] = x) :
    Calls Tryd.prog 8 #[.pointer (some ⟨t, 0, none⟩), .int .i64 i] w fun e w' => e = .returned (.tuple #[.agg #[.int .i64 x.k, .int .i64 x.p, .int .i64 x.q, .string x.s, .int .i64 x.r], .int .i64 0]) ∧ Below w.heap.size w w' := by
  obtain ⟨g, cap, rfl⟩ := h.formN (by omega)
  have h0 := h.ch0 ((Ch.refl [] w).alloc (.cells #[.int .i64 0, .int .i64 0, .int .i64 0, .string ⟨#[]⟩, .int .i64 0] 25))
  have Q := Lib.hid (from_some B t g cap l lim (w.alloc (.cells #[.int .i64 0, .int .i64 0, .int .i64 0, .string ⟨#[]⟩, .int .i64 0] 25)) h0 i k he)
  have hg := (h0.lt g (by simp [skS, Go.Proofs.YtibggoikjlnnkaaDoor.ob, Value.ownBlock])).2
  have hv : ∀ q, q < 5 → (w.alloc (.cells #[.int .i64 0, .int .i64 0, .int .i64 0, .string ⟨#[]⟩, .int .i64 0] 25)).cell? ⟨g, k * 5 + q, none⟩ = (vC x)[q]? := fun q hq => by
    rw [h0.row.cellAt (k * 5 + q) (by omega), flat_at vC 5 vC_len _ k q hk hq, hx]
  have d0 : (w.alloc (.cells #[.int .i64 0, .int .i64 0, .int .i64 0, .string ⟨#[]⟩, .int .i64 0] 25)).cell? ⟨g, k * 5, none⟩ = some (.int .i64 x.k) := hv 0 (by omega)
  have d1 : (w.alloc (.cells #[.int .i64 0, .int .i64 0, .int .i64 0, .string ⟨#[]⟩, .int .i64 0] 25)).cell? ⟨g, k * 5 + 1, none⟩ = some (.int .i64 x.p) := hv 1 (by omega)
  have d2 : (w.alloc (.cells #[.int .i64 0, .int .i64 0, .int .i64 0, .string ⟨#[]⟩, .int .i64 0] 25)).cell? ⟨g, k * 5 + 2, none⟩ = some (.int .i64 x.q) := hv 2 (by omega)
  have d3 : (w.alloc (.cells #[.int .i64 0, .int .i64 0, .int .i64 0, .string ⟨#[]⟩, .int .i64 0] 25)).cell? ⟨g, k * 5 + 3, none⟩ = some (.string x.s) := hv 3 (by omega)
  have d4 : (w.alloc (.cells #[.int .i64 0, .int .i64 0, .int .i64 0, .string ⟨#[]⟩, .int .i64 0] 25)).cell? ⟨g, k * 5 + 4, none⟩ = some (.int .i64 x.r) := hv 4 (by omega)
  have hlt : (0 : Int) < ((l.length - k : Nat) : Int) := by omega
  have hk1 : (k : Int) < (l.length : Int) := by omega
  have hk0 : (0 : Int) ≤ (k : Int) := by omega
  have hL : l.length ≤ 1000 := Nat.le_trans h.le h.top
  have dk : IntKind.i64.wrap ((k : Int) + 1 - 1) = (k : Int) := by rw [show (k : Int) + 1 - 1 = k by omega]; exact IntWalk.i64_in _ (by omega)
  have c0 : (w.alloc (.cells #[.int .i64 0, .int .i64 0, .int .i64 0, .string ⟨#[]⟩, .int .i64 0] 25)).cell? ⟨t, 0, none⟩ = some (.slice (some ⟨g, 0, none⟩) l.length cap) := h0.blk.cell 0
  have hbt := h0.blk.lt
  have HB : Hid (Blk 25 w.heap.size #[.int .i64 0, .int .i64 0, .int .i64 0, .string ⟨#[]⟩, .int .i64 0] (w.alloc (.cells #[.int .i64 0, .int .i64 0, .int .i64 0, .string ⟨#[]⟩, .int .i64 0] 25))) := Lib.hid (Blk.new w _ _ _ rfl)
  have HC : Hid (Ch [] w (w.alloc (.cells #[.int .i64 0, .int .i64 0, .int .i64 0, .string ⟨#[]⟩, .int .i64 0] 25))) := Lib.hid ((Ch.refl [] w).alloc _)
  clear h h0 hv he hx
  go_enter Tryd.func8, Tryd.ntmps8
  go_upto_region 4 with (go_at_call 22; (with_reducible refine (Q.out).mono ?_); rintro e w1 ⟨rfl, rfl⟩)
  go_wp2
  refine bodyPost_ret (v := .tuple #[.agg #[.int .i64 x.k, .int .i64 x.p, .int .i64 x.q, .string x.s, .int .i64 x.r], .int .i64 0]) (by simp [results, Tryd.results8, go_sem]) rfl ⟨rfl, ?_⟩
  exact (Below.refl _ w).alloc (Nat.le_refl _) _
end Go.Proofs.YtibggoikjlnnkaaDoor
