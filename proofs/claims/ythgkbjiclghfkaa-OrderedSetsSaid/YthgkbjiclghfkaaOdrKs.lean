/- Layer 12: the law's comparison of two lists of keys that are equal. -/
import Derived.Test.YthgkbjiclghfkaaOdrT
namespace Go.Proofs.Ythgkbjiclghfkaa
open Go.RowKit Go.Joins M1
set_option linter.unusedVariables false
theorem neq_v5 (a : V5) (W : World) : (binOp .neq 31 (.agg #[.int .i64 a.k, .int .i64 a.p, .int .i64 a.q, .string a.s, .int .i64 a.r]) (.agg #[.int .i64 a.k, .int .i64 a.p, .int .i64 a.q, .string a.s, .int .i64 a.r])).run Try.prog W = .ok (.bool false) W := by
  rw [neq_val]
  have : eqV a.k a.p a.q a.s a.r a.k a.p a.q a.s a.r = true := by unfold eqV; simp
  rw [this]; rfl
set_option maxHeartbeats 2000000 in
theorem keys_same (B1 B2 : Nat) (v1 v2 : Value) (K : List V5) (w : World) (h1 : w.ownsRow B1 31 5 v1 K.length (K.flatMap vC)) (h2 : w.ownsRow B2 31 5 v2 K.length (K.flatMap vC)) (hL : K.length ≤ 1000000) :
    Calls Try.prog 23 #[v1, v2] w fun e w' => e = .returned (.bool true) ∧ Below w.heap.size w w' := by
  obtain ⟨i0, hi0, jz0, jz1, jz2⟩ := info_parts info_val
  have form : ∀ (B : Nat) (v : Value), w.ownsRow B 31 5 v K.length (K.flatMap vC) → ∃ p cap, v = .slice p K.length cap ∧ ((0 < K.length) → ∃ g, p = some ⟨g, 0, none⟩ ∧ g < w.heap.size ∧ ∀ i (hi : i < K.length) j, j < 5 → w.cell? ⟨g, i * 5 + j, none⟩ = (vC K[i])[j]?) := fun B v h => by
    rcases Joins.ownsRow_forms h with ⟨e1, e2⟩ | ⟨g, cap, e1⟩
    · exact ⟨none, 0, by rw [e1, e2], fun h0 => by omega⟩
    · subst e1
      exact ⟨_, _, rfl, fun _ => ⟨g, rfl, (own_lo h (mem_ob.2 rfl)).2, fun i hi j hj => by
        rw [h.cellAt (i * 5 + j) (by omega), flat_at vC 5 vC_len K i j hi hj]⟩⟩
  obtain ⟨p1, c1, rfl, f1⟩ := form B1 v1 h1
  obtain ⟨p2, c2, rfl, f2⟩ := form B2 v2 h2
  have HF1 := Lib.hid f1
  have HF2 := Lib.hid f2
  clear form f1 f2 h1 h2
  go_enter Try.func23, Try.ntmps23
  go_wp2
  go_loopw [5] (fun v5 wr => ∃ i : Nat, i ≤ K.length ∧ v5 = .int .i64 (i : Int) ∧ Hid (Ch [] w wr)) (fun v5 _ => K.length - (intOf v5).toNat)
  case atStart => exact ⟨0, Nat.zero_le _, rfl, Lib.hid (Ch.refl _ _)⟩
  case round =>
    obtain ⟨i, hi, rfl, HC⟩ := hrel
    rename World => wr
    by_cases hlt : i < K.length
    · have hlt' : (i : Int) < (K.length : Int) := by omega
      have hi0' : (0 : Int) ≤ (i : Int) := by omega
      have di : IntKind.i64.wrap ((i : Int) + 1) = (i : Int) + 1 := IntWalk.i64_in _ (by omega)
      obtain ⟨g1, rfl, hg1, k1⟩ := HF1.out (by omega)
      obtain ⟨g2, rfl, hg2, k2⟩ := HF2.out (by omega)
      have hgw1 : g1 < wr.heap.size := Nat.lt_of_lt_of_le hg1 HC.out.size
      have hgw2 : g2 < wr.heap.size := Nat.lt_of_lt_of_le hg2 HC.out.size
      have m1 : ∀ j, j < 5 → wr.cell? ⟨g1, i * 5 + j, none⟩ = (vC K[i])[j]? := fun j hj => (HC.out.below.cell (p := ⟨g1, _, none⟩) hg1).trans (k1 i hlt j hj)
      have m2 : ∀ j, j < 5 → wr.cell? ⟨g2, i * 5 + j, none⟩ = (vC K[i])[j]? := fun j hj => (HC.out.below.cell (p := ⟨g2, _, none⟩) hg2).trans (k2 i hlt j hj)
      have s0 : wr.cell? ⟨g1, i * 5, none⟩ = some (.int .i64 K[i].k) := m1 0 (by omega)
      have s1 : wr.cell? ⟨g1, i * 5 + 1, none⟩ = some (.int .i64 K[i].p) := m1 1 (by omega)
      have s2 : wr.cell? ⟨g1, i * 5 + 2, none⟩ = some (.int .i64 K[i].q) := m1 2 (by omega)
      have s3 : wr.cell? ⟨g1, i * 5 + 3, none⟩ = some (.string K[i].s) := m1 3 (by omega)
      have s4 : wr.cell? ⟨g1, i * 5 + 4, none⟩ = some (.int .i64 K[i].r) := m1 4 (by omega)
      have q0 : wr.cell? ⟨g2, i * 5, none⟩ = some (.int .i64 K[i].k) := m2 0 (by omega)
      have q1 : wr.cell? ⟨g2, i * 5 + 1, none⟩ = some (.int .i64 K[i].p) := m2 1 (by omega)
      have q2 : wr.cell? ⟨g2, i * 5 + 2, none⟩ = some (.int .i64 K[i].q) := m2 2 (by omega)
      have q3 : wr.cell? ⟨g2, i * 5 + 3, none⟩ = some (.string K[i].s) := m2 3 (by omega)
      have q4 : wr.cell? ⟨g2, i * 5 + 4, none⟩ = some (.int .i64 K[i].r) := m2 4 (by omega)
      have EQ := fun W => neq_v5 K[i] W
      clear k1 k2 m1 m2
      go_upto_region 6 with fail
      go_quiet (fail)
      go_wp2
      go_roundw
      case rel => exact ⟨i + 1, by omega, by go_num, Lib.hid (by first | exact HC.out.drewN _ | exact HC.out.drew | exact HC.out)⟩
      case measure => simp [intOf]; omega
    · have hlt' : ¬ (i : Int) < (K.length : Int) := by omega
      go_wp2
      go_ret
      exact ⟨rfl, HC.out.below⟩
end Go.Proofs.Ythgkbjiclghfkaa
