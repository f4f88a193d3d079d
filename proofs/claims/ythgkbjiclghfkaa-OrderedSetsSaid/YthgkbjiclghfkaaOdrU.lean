/- Layer 12: the reference's Keys. -/
import Derived.Test.YthgkbjiclghfkaaOdrT
import Derived.Maps.AppendAt
import Derived.Laws.MakeOwn
import Derived.OwnWalk
namespace Go.Proofs.Ythgkbjiclghfkaa
open Go.RowKit Go.Joins M1
set_option linter.unusedVariables false
theorem ksR_step {R : List Rs} {k : Nat} (hk : k < R.length) : keysR (R.take (k + 1)) = if R[k].gone then keysR (R.take k) else keysR (R.take k) ++ [R[k].key] := by
  unfold keysR
  rw [List.take_succ_eq_append_getElem hk, List.filter_append, List.map_append]
  cases h : R[k].gone <;> simp [h, aliveR]
theorem ksR_len (R : List Rs) (k : Nat) : (keysR (R.take k)).length ≤ k := by
  unfold keysR
  rw [List.length_map]
  exact Nat.le_trans (List.length_filter_le _ _) (by rw [List.length_take]; omega)
set_option maxHeartbeats 4000000 in
theorem rkeys_any (B b : Nat) (v : Value) (R : List Rs) (w : World) (h : RM B b v R w) (hL : R.length ≤ 1000000) :
    Calls Try.prog 24 #[.pointer (some ⟨b, 0, none⟩)] w fun e w' => (∃ v', e = .returned v' ∧ w'.ownsRow w.heap.size 31 5 v' (keysR R).length ((keysR R).flatMap vC)) ∧ Below w.heap.size w w' := by
  obtain ⟨j0, hj0, kz0, kz1, kz2⟩ := info_parts info_rs
  obtain ⟨i0, hi0, jz0, jz1, jz2⟩ := info_parts info_val
  obtain ⟨p, cap, rfl, hp⟩ := h.form
  have c0 : w.cell? ⟨b, 0, none⟩ = some (.slice p R.length cap) := h.blk.cell 0
  have hb := h.blk.lt
  have HO := Lib.hid h
  have HL := Lib.hid hL
  have HP := Lib.hid hp
  have HOW : Hid (w.ownsRow w.heap.size 31 5 (.slice none 0 0) (keysR (R.take 0)).length ((keysR (R.take 0)).flatMap vC)) := Lib.hid (World.ownsRow_nil _ _ _ _)
  clear h hp
  go_enter Try.func24, Try.ntmps24
  go_wp2
  go_loopw [3, 4] (fun v3 v4 wr => ∃ (k : Nat) (p3 : Option Addr) (c3 : Nat), k ≤ R.length ∧ v3 = .slice p3 (keysR (R.take k)).length c3 ∧ v4 = .int .i64 (k : Int) ∧ Hid (wr.ownsRow w.heap.size 31 5 (.slice p3 (keysR (R.take k)).length c3) (keysR (R.take k)).length ((keysR (R.take k)).flatMap vC)) ∧ Hid (Below w.heap.size w wr)) (fun _ v4 _ => R.length - (intOf v4).toNat)
  case atStart => exact ⟨0, none, 0, Nat.zero_le _, rfl, rfl, HOW, Lib.hid (Below.refl _ _)⟩
  case round =>
    obtain ⟨k, p3, c3, hk, rfl, rfl, HV, HB⟩ := hrel
    rename World => W0
    have HM := Lib.hid (HO.out.below HB.out)
    have d0 : W0.cell? ⟨b, 0, none⟩ = some (.slice p R.length cap) := HM.out.blk.cell 0
    have hbw := HM.out.blk.lt
    by_cases hlt : k < R.length
    · have hlt' : (k : Int) < (R.length : Int) := by omega
      have hi0' : (0 : Int) ≤ (k : Int) := by omega
      have di : IntKind.i64.wrap ((k : Int) + 1) = (k : Int) + 1 := IntWalk.i64_in _ (by omega)
      obtain ⟨g, rfl⟩ := HP.out (by omega)
      have hg : g < W0.heap.size := (HM.out.lt g (by simp [rmS, Go.Proofs.Ythgkbjiclghfkaa.ob, Value.ownBlock])).2
      have s0 : W0.cell? ⟨g, k * 11, none⟩ = some (.int .i64 R[k].key.k) := HM.out.cellAt k 0 hlt (by omega)
      have s1 : W0.cell? ⟨g, k * 11 + 1, none⟩ = some (.int .i64 R[k].key.p) := HM.out.cellAt k 1 hlt (by omega)
      have s2 : W0.cell? ⟨g, k * 11 + 2, none⟩ = some (.int .i64 R[k].key.q) := HM.out.cellAt k 2 hlt (by omega)
      have s3 : W0.cell? ⟨g, k * 11 + 3, none⟩ = some (.string R[k].key.s) := HM.out.cellAt k 3 hlt (by omega)
      have s4 : W0.cell? ⟨g, k * 11 + 4, none⟩ = some (.int .i64 R[k].key.r) := HM.out.cellAt k 4 hlt (by omega)
      have hst := ksR_step hlt
      have hln := ksR_len R k
      have hsz := HB.out.size
      cases hgn : R[k].gone with
      | false =>
        have s10 : W0.cell? ⟨g, k * 11 + 10, none⟩ = some (.bool false) := (HM.out.cellAt k 10 hlt (by omega)).trans (show some (Value.bool R[k].gone) = some (Value.bool false) from congrArg (fun x => some (Value.bool x)) hgn)
        rw [hgn, if_neg (by simp)] at hst
        clear hgn
        have HST := Lib.hid hst
        have HLN := Lib.hid hln
        have HH : Hid ((W0.alloc (.cells #[.int .i64 R[k].key.k, .int .i64 R[k].key.p, .int .i64 R[k].key.q, .string R[k].key.s, .int .i64 R[k].key.r] 31)).ownsRow w.heap.size 31 5 (.slice p3 (keysR (R.take k)).length c3) (keysR (R.take k)).length ((keysR (R.take k)).flatMap vC)) := Lib.hid (((Ch.refl [] W0).alloc _).ownB HV.out (by simp))
        clear hst hln
        clear HV
        generalize hN : (keysR (R.take k)).length = N at *
        have HN := Lib.hid hN
        clear hN
        go_wp2_with (at_builtin; refine wpList_append_own_at _ rfl _ _ 39 rfl w.heap.size 31 i0 (.agg #[.int .i64 0, .int .i64 0, .int .i64 0, .string ⟨#[]⟩, .int .i64 0]) 5 48 Try.underlying39 hi0 jz0 jz1 jz2 rfl (by decide) _ _ _ rfl HH.out ⟨W0.heap.size, 0, none⟩ 1 1 (vC R[k].key) rfl rfl (vC_at R[k].key _ _ rfl) (vC_one _) (by unfold maxLen; have := HLN.out; have := HL.out; omega) (by have := HLN.out; have := HL.out; omega) (by simp; omega) ?_)
        intro v5 w5 ho5 hg5 _ _
        obtain ⟨p5, c5, rfl⟩ := ownB_form ho5
        have HB5 : Hid (Below w.heap.size w w5) := Lib.hid ((HB.out.alloc HB.out.size _).grown hg5 (by simp; omega) (fun q e => (own_lo HH.out (mem_ob.2 e)).1))
        have HO5 : Hid (w5.ownsRow w.heap.size 31 5 (.slice p5 (N + 1) c5) (keysR (R.take (k + 1))).length ((keysR (R.take (k + 1))).flatMap vC)) := Lib.hid (by
          rw [HST.out, List.length_append, List.flatMap_append, HN.out]; simpa using ho5)
        clear ho5 hg5
        go_wp2
        go_roundw
        case rel => exact ⟨k + 1, p5, c5, by omega, by rw [HST.out, List.length_append, HN.out]; rfl, by go_num, by have := HO5.out; rw [show N + 1 = (keysR (R.take (k + 1))).length from by rw [HST.out, List.length_append, HN.out]; rfl] at this; exact Lib.hid this, HB5⟩
        case measure => simp [intOf]; omega
      | true =>
        have s10 : W0.cell? ⟨g, k * 11 + 10, none⟩ = some (.bool true) := (HM.out.cellAt k 10 hlt (by omega)).trans (show some (Value.bool R[k].gone) = some (Value.bool true) from congrArg (fun x => some (Value.bool x)) hgn)
        rw [hgn, if_pos rfl] at hst
        have HH : Hid (W0.ownsRow w.heap.size 31 5 (.slice p3 (keysR (R.take (k + 1))).length c3) (keysR (R.take (k + 1))).length ((keysR (R.take (k + 1))).flatMap vC)) := Lib.hid (by rw [hst]; exact HV.out)
        have HST := Lib.hid hst
        clear hgn hst hln
        go_wp2
        go_roundw
        case rel => exact ⟨k + 1, p3, c3, by omega, by rw [HST.out], by go_num, HH, HB⟩
        case measure => simp [intOf]; omega
    · have hlt' : ¬ (k : Int) < (R.length : Int) := by omega
      have HV2 : Hid (W0.ownsRow w.heap.size 31 5 (.slice p3 (keysR (R.take k)).length c3) (keysR R).length ((keysR R).flatMap vC)) := Lib.hid (by have := HV.out; rw [show R.take k = R from by rw [show k = R.length by omega, List.take_length]] at this ⊢; exact this)
      go_wp2
      go_ret
      exact ⟨⟨_, rfl, HV2.out⟩, HB.out⟩
end Go.Proofs.Ythgkbjiclghfkaa
