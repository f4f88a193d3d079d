/- Layer 20: arguments. -/
import Derived.Test.YtdgdpckjcpgoaaaPrQ
namespace Go.Proofs.Ytdgdpckjcpgoaaa
open Go.RowKit Go.Joins M1
set_option linter.unusedVariables false
def argL (l : List V5) (i : Int) : V5 := if 0 ≤ i then (l[i.toNat]?).getD v5z else v5z
set_option maxHeartbeats 2000000 in
theorem arg_any (v : Value) (l : List V5) (i : Int) (w : World) (h : VA w v l) :
    Calls Try.prog 27 #[v, .int .i64 i] w fun e w' => e = .returned (.agg #[.int .i64 (argL l i).k, .int .i64 (argL l i).p, .int .i64 (argL l i).q, .string (argL l i).s, .int .i64 (argL l i).r]) ∧ Ch [] w w' := by
  obtain ⟨p, c, rfl, hc, hv⟩ := h
  obtain ⟨p', c', e', hk⟩ := hv.form
  injection e' with e1 e2 e3
  subst e1 e3
  clear hv hc
  by_cases h0 : i < 0
  · have hE : argL l i = v5z := by unfold argL; rw [if_neg (by omega)]
    rw [hE]
    clear hE hk
    go_enter Try.func27, Try.ntmps27
    go_wp2
    refine bodyPost_ret (v := .agg #[.int .i64 0, .int .i64 0, .int .i64 0, .string ⟨#[]⟩, .int .i64 0]) (by simp [results, Try.results27, go_sem]) rfl ⟨rfl, ?_⟩
    exact (Ch.refl [] w).alloc _
  by_cases h1 : (l.length : Int) ≤ i
  · have hE : argL l i = v5z := by
      unfold argL; rw [if_pos (by omega), List.getElem?_eq_none (by omega)]; rfl
    rw [hE]
    clear hE hk
    go_enter Try.func27, Try.ntmps27
    go_wp2
    refine bodyPost_ret (v := .agg #[.int .i64 0, .int .i64 0, .int .i64 0, .string ⟨#[]⟩, .int .i64 0]) (by simp [results, Try.results27, go_sem]) rfl ⟨rfl, ?_⟩
    exact (Ch.refl [] w).alloc _
  obtain ⟨k, rfl⟩ : ∃ k : Nat, i = (k : Int) := ⟨i.toNat, by omega⟩
  have hkl : k < l.length := by omega
  obtain ⟨g, o, rfl, hg, hcv⟩ := hk (by omega)
  obtain ⟨x, hx⟩ : ∃ x, x = l[k] := ⟨_, rfl⟩
  have hE : argL l k = x := by
    unfold argL; rw [if_pos (by omega), Int.toNat_natCast, List.getElem?_eq_getElem hkl, hx]; rfl
  rw [hE]
  have HB : Hid (Ch [] w (w.alloc (.cells #[.int .i64 0, .int .i64 0, .int .i64 0, .string ⟨#[]⟩, .int .i64 0] 26))) := Lib.hid ((Ch.refl [] w).alloc _)
  have m1 : ∀ j, j < 5 → w.cell? ⟨g, o + k * 5 + j, none⟩ = (vC x)[j]? := fun j hj => by rw [hx]; exact hcv k j hkl hj
  have s0 : w.cell? ⟨g, o + k * 5, none⟩ = some (.int .i64 x.k) := m1 0 (by omega)
  have s1 : w.cell? ⟨g, o + k * 5 + 1, none⟩ = some (.int .i64 x.p) := m1 1 (by omega)
  have s2 : w.cell? ⟨g, o + k * 5 + 2, none⟩ = some (.int .i64 x.q) := m1 2 (by omega)
  have s3 : w.cell? ⟨g, o + k * 5 + 3, none⟩ = some (.string x.s) := m1 3 (by omega)
  have s4 : w.cell? ⟨g, o + k * 5 + 4, none⟩ = some (.int .i64 x.r) := m1 4 (by omega)
  have hk1 : (k : Int) < (l.length : Int) := by omega
  have hk0 : (0 : Int) ≤ (k : Int) := by omega
  have hgs : g < w.heap.size := hg
  clear m1 hcv hx hE hkl hk
  go_enter Try.func27, Try.ntmps27
  go_wp2
  refine bodyPost_ret (v := .agg #[.int .i64 x.k, .int .i64 x.p, .int .i64 x.q, .string x.s, .int .i64 x.r]) (by simp [results, Try.results27, go_sem]) rfl ⟨rfl, ?_⟩
  exact (Ch.refl [] w).alloc _
set_option maxHeartbeats 2000000 in
theorem rarg_any (v : Value) (l : List V5) (i : Int) (w : World) (h : VA w v l) :
    Calls Try.prog 28 #[v, .int .i64 i] w fun e w' => e = .returned (.agg #[.int .i64 (argL l i).k, .int .i64 (argL l i).p, .int .i64 (argL l i).q, .string (argL l i).s, .int .i64 (argL l i).r]) ∧ Ch [] w w' := by
  obtain ⟨p, c, rfl, hc, hv⟩ := h
  obtain ⟨p', c', e', hk⟩ := hv.form
  injection e' with e1 e2 e3
  subst e1 e3
  clear hv hc
  by_cases h0 : i < 0
  · have hE : argL l i = v5z := by unfold argL; rw [if_neg (by omega)]
    rw [hE]
    clear hE hk
    go_enter Try.func28, Try.ntmps28
    go_wp2
    refine bodyPost_ret (v := .agg #[.int .i64 0, .int .i64 0, .int .i64 0, .string ⟨#[]⟩, .int .i64 0]) (by simp [results, Try.results28, go_sem]) rfl ⟨rfl, ?_⟩
    exact (Ch.refl [] w).alloc _
  by_cases h1 : (l.length : Int) ≤ i
  · have hE : argL l i = v5z := by
      unfold argL; rw [if_pos (by omega), List.getElem?_eq_none (by omega)]; rfl
    rw [hE]
    clear hE hk
    go_enter Try.func28, Try.ntmps28
    go_wp2
    refine bodyPost_ret (v := .agg #[.int .i64 0, .int .i64 0, .int .i64 0, .string ⟨#[]⟩, .int .i64 0]) (by simp [results, Try.results28, go_sem]) rfl ⟨rfl, ?_⟩
    exact (Ch.refl [] w).alloc _
  obtain ⟨k, rfl⟩ : ∃ k : Nat, i = (k : Int) := ⟨i.toNat, by omega⟩
  have hkl : k < l.length := by omega
  obtain ⟨g, o, rfl, hg, hcv⟩ := hk (by omega)
  obtain ⟨x, hx⟩ : ∃ x, x = l[k] := ⟨_, rfl⟩
  have hE : argL l k = x := by
    unfold argL; rw [if_pos (by omega), Int.toNat_natCast, List.getElem?_eq_getElem hkl, hx]; rfl
  rw [hE]
  have HB : Hid (Ch [] w (w.alloc (.cells #[.int .i64 0, .int .i64 0, .int .i64 0, .string ⟨#[]⟩, .int .i64 0] 26))) := Lib.hid ((Ch.refl [] w).alloc _)
  have m1 : ∀ j, j < 5 → w.cell? ⟨g, o + k * 5 + j, none⟩ = (vC x)[j]? := fun j hj => by rw [hx]; exact hcv k j hkl hj
  have s0 : w.cell? ⟨g, o + k * 5, none⟩ = some (.int .i64 x.k) := m1 0 (by omega)
  have s1 : w.cell? ⟨g, o + k * 5 + 1, none⟩ = some (.int .i64 x.p) := m1 1 (by omega)
  have s2 : w.cell? ⟨g, o + k * 5 + 2, none⟩ = some (.int .i64 x.q) := m1 2 (by omega)
  have s3 : w.cell? ⟨g, o + k * 5 + 3, none⟩ = some (.string x.s) := m1 3 (by omega)
  have s4 : w.cell? ⟨g, o + k * 5 + 4, none⟩ = some (.int .i64 x.r) := m1 4 (by omega)
  have hk1 : (k : Int) < (l.length : Int) := by omega
  have hk0 : (0 : Int) ≤ (k : Int) := by omega
  have hgs : g < w.heap.size := hg
  clear m1 hcv hx hE hkl hk
  go_enter Try.func28, Try.ntmps28
  go_wp2
  refine bodyPost_ret (v := .agg #[.int .i64 x.k, .int .i64 x.p, .int .i64 x.q, .string x.s, .int .i64 x.r]) (by simp [results, Try.results28, go_sem]) rfl ⟨rfl, ?_⟩
  exact (Ch.refl [] w).alloc _
end Go.Proofs.Ytdgdpckjcpgoaaa
