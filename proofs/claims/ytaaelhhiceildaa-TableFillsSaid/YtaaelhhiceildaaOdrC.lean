/- Layer 12: the functions of ordered maps (1). -/
import Derived.Test.YtaaelhhiceildaaOdrM
import Derived.Deep.DeepCutAuto
import Derived.Deep.CutBlock
import Derived.BigQuiet
namespace Go.Proofs.Ytaaelhhiceildaa
open Go.RowKit M1
set_option linter.unusedVariables false
theorem new_any (B : Nat) (w : World) (hB : B ≤ w.heap.size) :
    Calls Try.prog 25 #[] w fun e w' => ∃ b, e = .returned (.pointer (some ⟨b, 0, none⟩)) ∧ Om B b (.slice none 0 0) (.map none) [] w' ∧ w.heap.size ≤ b ∧ Below w.heap.size w w' := by
  go_enter Try.func25, Try.ntmps25
  go_wp2
  go_ret
  refine ⟨w.heap.size, rfl, ⟨Blk.new _ _ _ _ rfl, hB, World.ownsRow_nil _ _ _ _, ⟨[], fun _ => rfl, trivial, .inl ⟨rfl, rfl⟩⟩, Inv.nil⟩, Nat.le_refl _, (Below.refl _ _).alloc (Nat.le_refl _) _⟩
theorem Om.cells {B b : Nat} {v m : Value} {L : List Sl} {w : World} (h : Om B b v m L w) : w.cell? ⟨b, 0, none⟩ = some v ∧ w.cell? ⟨b, 1, none⟩ = some (.int .i64 (cnt L)) ∧ w.cell? ⟨b, 2, none⟩ = some m ∧ w.frozen? ⟨b, 0, none⟩ = false ∧ w.frozen? ⟨b, 1, none⟩ = false ∧ w.frozen? ⟨b, 2, none⟩ = false ∧ b < w.heap.size :=
  ⟨h.blk.cell 0, h.blk.cell 1, h.blk.cell 2, h.blk.fz 0, h.blk.fz 1, h.blk.fz 2, h.blk.lt⟩
theorem Om.form {B b : Nat} {v m : Value} {L : List Sl} {w : World} (h : Om B b v m L w) : ∃ p cap, v = .slice p L.length cap ∧ (0 < L.length → ∃ g, p = some ⟨g, 0, none⟩) := by
  rcases Joins.ownsRow_forms h.row with ⟨h1, h2⟩ | ⟨g, cap, h1⟩
  · exact ⟨none, 0, by rw [h1, h2], fun h0 => by omega⟩
  · exact ⟨some ⟨g, 0, none⟩, cap, h1, fun _ => ⟨g, rfl⟩⟩
theorem Om.slot {B b g cap n : Nat} {m : Value} {L : List Sl} {w : World} (h : Om B b (.slice (some ⟨g, 0, none⟩) n cap) m L w) (i : Nat) (hi : i < L.length) :
    w.cell? ⟨g, i * 11, none⟩ = some (.int .i64 L[i].key.k) ∧ w.cell? ⟨g, i * 11 + 1, none⟩ = some (.int .i64 L[i].key.p) ∧ w.cell? ⟨g, i * 11 + 2, none⟩ = some (.int .i64 L[i].key.q) ∧ w.cell? ⟨g, i * 11 + 3, none⟩ = some (.string L[i].key.s) ∧ w.cell? ⟨g, i * 11 + 4, none⟩ = some (.int .i64 L[i].key.r) ∧ w.cell? ⟨g, i * 11 + 5, none⟩ = some (.int .i64 L[i].val.k) ∧ w.cell? ⟨g, i * 11 + 6, none⟩ = some (.int .i64 L[i].val.p) ∧ w.cell? ⟨g, i * 11 + 7, none⟩ = some (.int .i64 L[i].val.q) ∧ w.cell? ⟨g, i * 11 + 8, none⟩ = some (.string L[i].val.s) ∧ w.cell? ⟨g, i * 11 + 9, none⟩ = some (.int .i64 L[i].val.r) ∧ w.cell? ⟨g, i * 11 + 10, none⟩ = some (.int .i64 L[i].bh) := by
  obtain rfl : n = L.length := by
    obtain ⟨p, c, e⟩ := ownB_form h.row
    injection e
  have key : ∀ j, j < 11 → w.cell? ⟨g, i * 11 + j, none⟩ = (slC L[i])[j]? := fun j hj => by
    rw [h.row.cellAt (i * 11 + j) (by omega), flat_at slC 11 slC_len L i j hi hj]
  exact ⟨key 0 (by omega), key 1 (by omega), key 2 (by omega), key 3 (by omega), key 4 (by omega), key 5 (by omega), key 6 (by omega), key 7 (by omega), key 8 (by omega), key 9 (by omega), key 10 (by omega)⟩
theorem Mp.drewN {g : Nat} {l : MP} {w : World} (h : Mp g l w) (n : Nat) : Mp g l (w.drewN n) := h.ch ((Ch.refl [] w).drewN n) (by simp)
theorem Om.look {B b : Nat} {v m : Value} {L : List Sl} {w : World} (h : Om B b v m L w) (k : V5) (W : World) (hc : Ch [] w W) : (Instr.lookup 70 m k.a true).run Try.prog W = .ok (.tuple #[.int .i64 (((lastI L k).map (fun i => (i : Int))).getD 0), .bool (lastI L k).isSome]) W := by
  obtain ⟨l, h1, _, ⟨rfl, rfl⟩ | ⟨g, rfl, _, hm⟩⟩ := h.mp
  · have := h1 k
    rw [look_nil, ← this]
    have h2 : lastI L k = none := by cases hl : lastI L k with
      | none => rfl
      | some i => rw [hl] at this; cases this
    rw [h2]; rfl
  · have := (look_run (hm.ch hc (by simp)) k).1
    rw [h1 k] at this
    rw [this]
    cases lastI L k <;> rfl
theorem len_any (B b : Nat) (v m : Value) (L : List Sl) (w : World) (h : Om B b v m L w) :
    Calls Try.prog 36 #[.pointer (some ⟨b, 0, none⟩)] w fun e w' => e = .returned (.int .i64 (cnt L)) ∧ w = w' := by
  obtain ⟨p, cap, rfl, _⟩ := h.form
  obtain ⟨c0, c1, c2, _, _, _, hb⟩ := h.cells
  clear h
  go_enter Try.func36, Try.ntmps36
  go_wp2
  go_ret
  exact ⟨rfl, rfl⟩
theorem slots_any (B b : Nat) (v m : Value) (L : List Sl) (w : World) (h : Om B b v m L w) :
    Calls Try.prog 41 #[.pointer (some ⟨b, 0, none⟩)] w fun e w' => e = .returned (.int .i64 (L.length : Int)) ∧ w = w' := by
  obtain ⟨p, cap, rfl, _⟩ := h.form
  obtain ⟨c0, c1, c2, _, _, _, hb⟩ := h.cells
  clear h
  go_enter Try.func41, Try.ntmps41
  go_wp2
  go_ret
  exact ⟨rfl, rfl⟩
theorem len_nil (w : World) :
    Calls Try.prog 36 #[.pointer none] w fun e w' => e = .returned (.int .i64 0) ∧ w = w' := by
  go_enter Try.func36, Try.ntmps36
  go_wp2
  go_ret
  exact ⟨rfl, rfl⟩
theorem slots_nil (w : World) :
    Calls Try.prog 41 #[.pointer none] w fun e w' => e = .returned (.int .i64 0) ∧ w = w' := by
  go_enter Try.func41, Try.ntmps41
  go_wp2
  go_ret
  exact ⟨rfl, rfl⟩
def EnSaid (L : List Sl) (k : V5) (e : Ending) : Prop := match lastI L k with
  | some i => e = .returned (.tuple #[.int .i64 (i : Int), .bool (match L[i]? with | some s => liveB s | none => false)])
  | none => e = .returned (.tuple #[.int .i64 0, .bool false])
set_option maxHeartbeats 1000000 in
theorem entry_any (B b : Nat) (v m : Value) (L : List Sl) (k : V5) (w : World) (h : Om B b v m L w) (hL : L.length ≤ 1000000) :
    Calls Try.prog 52 #[.pointer (some ⟨b, 0, none⟩), .agg #[.int .i64 k.k, .int .i64 k.p, .int .i64 k.q, .string k.s, .int .i64 k.r]] w fun e w' => EnSaid L k e ∧ Below w.heap.size w w' := by
  obtain ⟨p, cap, rfl, hp⟩ := h.form
  obtain ⟨c0, c1, c2, _, _, _, hb⟩ := h.cells
  have HB : Hid (∀ n, Below w.heap.size w ((w.alloc (.cells #[.int .i64 k.k, .int .i64 k.p, .int .i64 k.q, .string k.s, .int .i64 k.r] 26)).drewN n)) := Lib.hid fun n => below_drewN ((Below.refl _ _).alloc (Nat.le_refl _) _) n
  have LK : ∀ n, (Instr.lookup 70 m (.agg #[.int .i64 k.k, .int .i64 k.p, .int .i64 k.q, .string k.s, .int .i64 k.r]) true).run Try.prog ((w.alloc (.cells #[.int .i64 k.k, .int .i64 k.p, .int .i64 k.q, .string k.s, .int .i64 k.r] 26)).drewN n) = _ := fun n => h.look k _ (((Ch.refl [] w).alloc _).drewN n)
  have HS : Hid (∀ i (hi : i < L.length), ∃ g, p = some ⟨g, 0, none⟩ ∧ g < w.heap.size ∧ w.cell? ⟨g, i * 11 + 10, none⟩ = some (.int .i64 L[i].bh)) := Lib.hid fun i hi => by
    obtain ⟨g, rfl⟩ := hp (by omega)
    refine ⟨g, rfl, (own_lo h.row (mem_ob.2 rfl)).2, (h.slot i hi).2.2.2.2.2.2.2.2.2.2⟩
  have HL := Lib.hid hL
  cases hl : lastI L k with
  | none =>
    have HX : Hid (EnSaid L k (.returned (.tuple #[.int .i64 0, .bool false]))) := Lib.hid (by unfold EnSaid; rw [hl])
    rw [hl] at LK
    dsimp only [Option.map, Option.getD, Option.isSome] at LK
    clear h hp hl hL
    go_enter Try.func52, Try.ntmps52
    go_upto_region 1 with fail
    go_quiet (fail)
    go_wp2
    go_quiet (fail)
    go_wp2
    go_ret2
    exact ⟨HX.out, below_drewN (HB.out _) _⟩
  | some i =>
    obtain ⟨hi, hk, _⟩ := lastI_some hl
    obtain ⟨g, rfl, hg, cb⟩ := HS.out i hi
    have HX : Hid (EnSaid L k (.returned (.tuple #[.int .i64 (i : Int), .bool (liveB L[i])]))) := Lib.hid (by unfold EnSaid; rw [hl]; simp [hi])
    rw [hl] at LK
    dsimp only [Option.map, Option.getD, Option.isSome] at LK
    have hi2 : (i : Int) < (L.length : Int) := by omega
    have hi3 : i ≤ 1000000 := by omega
    cases hlv : liveB L[i] with
    | true =>
      have hz : ((L[i].bh : Int) == 0) = true := by unfold liveB at hlv; rw [decide_eq_true_eq] at hlv; rw [hlv]; rfl
      rw [hlv] at HX
      generalize (L[i].bh : Int) = bh at *
      clear h hp hl hL hk hlv
      go_enter Try.func52, Try.ntmps52
      go_upto_region 1 with fail
      go_quiet (fail)
      go_wp2
      go_quiet (fail)
      go_wp2
      go_ret2
      exact ⟨HX.out, below_drewN (HB.out _) _⟩
    | false =>
      have hz : ((L[i].bh : Int) == 0) = false := by
        unfold liveB at hlv; rw [decide_eq_false_iff_not] at hlv; rw [beq_eq_false_iff_ne]; omega
      rw [hlv] at HX
      generalize (L[i].bh : Int) = bh at *
      clear h hp hl hL hk hlv
      go_enter Try.func52, Try.ntmps52
      go_upto_region 1 with fail
      go_quiet (fail)
      go_wp2
      go_quiet (fail)
      go_wp2
      go_ret2
      exact ⟨HX.out, below_drewN (HB.out _) _⟩
end Go.Proofs.Ytaaelhhiceildaa
