/- Layer 12: the reference's find and Get. -/
import Derived.Test.YthgkbjiclghfkaaOdrR
namespace Go.Proofs.Ythgkbjiclghfkaa
open Go.RowKit Go.Joins M1
set_option linter.unusedVariables false
set_option maxHeartbeats 4000000 in
theorem rfind_any (B b : Nat) (v : Value) (R : List Rs) (k : V5) (w : World) (h : RM B b v R w) (hL : R.length ≤ 1000000) :
    Calls Try.prog 35 #[.pointer (some ⟨b, 0, none⟩), .agg #[.int .i64 k.k, .int .i64 k.p, .int .i64 k.q, .string k.s, .int .i64 k.r]] w fun e w' => e = .returned (.int .i64 (fI (fnd R k))) ∧ Below w.heap.size w w' := by
  obtain ⟨i0, hi0, jz0, jz1, jz2⟩ := info_parts info_rs
  obtain ⟨p, cap, rfl, hp⟩ := h.form
  have HP := Lib.hid hp
  have HC0 : Hid (Ch [] w (w.alloc (.cells #[.int .i64 k.k, .int .i64 k.p, .int .i64 k.q, .string k.s, .int .i64 k.r] 31))) := Lib.hid ((Ch.refl [] w).alloc _)
  have HO : Hid (RM B b (.slice p R.length cap) R (w.alloc (.cells #[.int .i64 k.k, .int .i64 k.p, .int .i64 k.q, .string k.s, .int .i64 k.r] 31))) := Lib.hid (h.ch HC0.out (by simp))
  have HK0 : Hid (Blk 31 w.heap.size #[.int .i64 k.k, .int .i64 k.p, .int .i64 k.q, .string k.s, .int .i64 k.r] (w.alloc (.cells #[.int .i64 k.k, .int .i64 k.p, .int .i64 k.q, .string k.s, .int .i64 k.r] 31))) := Lib.hid (Blk.new w _ _ _ rfl)
  have hb := h.blk.lt
  clear h hp
  go_enter Try.func35, Try.ntmps35
  go_upto_region 3 with fail
  generalize hW0 : w.alloc (.cells #[.int .i64 k.k, .int .i64 k.p, .int .i64 k.q, .string k.s, .int .i64 k.r] 31) = W0 at *
  have HZ : Hid (W0.heap.size = w.heap.size + 1) := Lib.hid (by rw [← hW0]; simp)
  clear hW0
  go_loopw [5, 6] (fun v5 v6 wr => ∃ i : Nat, i ≤ R.length ∧ v5 = .int .i64 (fI (fnd (R.take i) k)) ∧ v6 = .int .i64 (i : Int) ∧ Hid (∀ s ∈ R.take i, s.key = k → s.gone = true) ∧ Hid (Ch [] W0 wr)) (fun _ v6 _ => R.length - (intOf v6).toNat)
  case atStart => exact ⟨0, Nat.zero_le _, rfl, rfl, Lib.hid (fun s hs => by simp at hs), Lib.hid (Ch.refl _ _)⟩
  case round =>
    obtain ⟨i, hi, rfl, rfl, HD, HC⟩ := hrel
    rename World => wr
    have HM := Lib.hid (HO.out.ch HC.out (by simp))
    have HK := Lib.hid (HK0.out.ch HC.out (by simp))
    have c0 : wr.cell? ⟨b, 0, none⟩ = some (.slice p R.length cap) := HM.out.blk.cell 0
    have c0' : ∀ n, (wr.drewN n).cell? ⟨b, 0, none⟩ = some (.slice p R.length cap) := fun n => (HM.out.ch (((Ch.refl [] wr).drewN n)) (by simp)).blk.cell 0
    have hbw := HM.out.blk.lt
    have hkw := HK.out.lt
    by_cases hlt : i < R.length
    · have hlt' : (i : Int) < (R.length : Int) := by omega
      have hi0' : (0 : Int) ≤ (i : Int) := by omega
      have di : IntKind.i64.wrap ((i : Int) + 1) = (i : Int) + 1 := IntWalk.i64_in _ (by omega)
      obtain ⟨g, rfl⟩ := HP.out (by omega)
      have hg : g < wr.heap.size := (HM.out.lt g (by simp [rmS, Go.Proofs.Ythgkbjiclghfkaa.ob, Value.ownBlock])).2
      have s0 : wr.cell? ⟨g, i * 11, none⟩ = some (.int .i64 R[i].key.k) := HM.out.cellAt i 0 hlt (by omega)
      have s1 : wr.cell? ⟨g, i * 11 + 1, none⟩ = some (.int .i64 R[i].key.p) := HM.out.cellAt i 1 hlt (by omega)
      have s2 : wr.cell? ⟨g, i * 11 + 2, none⟩ = some (.int .i64 R[i].key.q) := HM.out.cellAt i 2 hlt (by omega)
      have s3 : wr.cell? ⟨g, i * 11 + 3, none⟩ = some (.string R[i].key.s) := HM.out.cellAt i 3 hlt (by omega)
      have s4 : wr.cell? ⟨g, i * 11 + 4, none⟩ = some (.int .i64 R[i].key.r) := HM.out.cellAt i 4 hlt (by omega)
      have q0 : wr.cell? ⟨w.heap.size, 0, none⟩ = some (.int .i64 k.k) := HK.out.cell 0
      have q1 : wr.cell? ⟨w.heap.size, 1, none⟩ = some (.int .i64 k.p) := HK.out.cell 1
      have q2 : wr.cell? ⟨w.heap.size, 2, none⟩ = some (.int .i64 k.q) := HK.out.cell 2
      have q3 : wr.cell? ⟨w.heap.size, 3, none⟩ = some (.string k.s) := HK.out.cell 3
      have q4 : wr.cell? ⟨w.heap.size, 4, none⟩ = some (.int .i64 k.r) := HK.out.cell 4
      have EQ := fun W => eq_v5 R[i].key k W
      have hst : fnd (R.take (i + 1)) k = if R[i].key = k then some i else fnd (R.take i) k := by
        rw [List.take_succ_eq_append_getElem hlt, fnd_snoc _ _ _ HD.out, List.length_take, Nat.min_eq_left hi]
      have hmem : ∀ s ∈ R.take (i + 1), s ∈ R.take i ∨ s = R[i] := fun s hs => by
        rw [List.take_succ_eq_append_getElem hlt] at hs
        rcases List.mem_append.1 hs with h1 | h1
        · exact .inl h1
        · exact .inr (by simpa using h1)
      by_cases he : R[i].key = k
      · rw [decide_eq_true he] at EQ
        cases hgn : R[i].gone with
        | true =>
          have s10 : ∀ n, (wr.drewN n).cell? ⟨g, i * 11 + 10, none⟩ = some (.bool true) := fun n => by rw [← hgn]; exact (HM.out.ch (((Ch.refl [] wr).drewN n)) (by simp)).cellAt i 10 hlt (by omega)
          have s10' : wr.cell? ⟨g, i * 11 + 10, none⟩ = some (.bool true) := by rw [← hgn]; exact HM.out.cellAt i 10 hlt (by omega)
          have HST : Hid (fI (fnd (R.take (i + 1)) k) = (i : Int)) := Lib.hid (by rw [hst, if_pos he]; rfl)
          have HD2 : Hid (∀ s ∈ R.take (i + 1), s.key = k → s.gone = true) := Lib.hid fun s hs hk => by
            rcases hmem s hs with h1 | rfl
            · exact HD.out s h1 hk
            · exact hgn
          clear hst hmem hgn he
          go_upto_region 5 with fail
          go_quiet (fail)
          go_wp2
          go_roundw
          case rel => exact ⟨i + 1, by omega, by rw [HST.out], by go_num, HD2, Lib.hid (by first | exact HC.out.drewN _ | exact HC.out.drew | exact HC.out)⟩
          case measure => simp [intOf]; omega
        | false =>
          have s10 : ∀ n, (wr.drewN n).cell? ⟨g, i * 11 + 10, none⟩ = some (.bool false) := fun n => by rw [← hgn]; exact (HM.out.ch (((Ch.refl [] wr).drewN n)) (by simp)).cellAt i 10 hlt (by omega)
          have s10' : wr.cell? ⟨g, i * 11 + 10, none⟩ = some (.bool false) := by rw [← hgn]; exact HM.out.cellAt i 10 hlt (by omega)
          have HF : Hid (fnd R k = some i) := Lib.hid (fnd_live hlt he hgn (fun j hj hji hk => HD.out _ (by rw [List.mem_take_iff_getElem]; exact ⟨j, by omega, rfl⟩) hk))
          clear hst hmem hgn he
          go_upto_region 5 with fail
          go_quiet (fail)
          go_wp2
          go_ret
          exact ⟨by rw [HF.out]; rfl, (HC0.out.trans (by first | exact HC.out.drewN _ | exact HC.out.drew | exact HC.out)).below⟩
      · rw [decide_eq_false he] at EQ
        have HST : Hid (fI (fnd (R.take (i + 1)) k) = fI (fnd (R.take i) k)) := Lib.hid (by rw [hst, if_neg he])
        have HD2 : Hid (∀ s ∈ R.take (i + 1), s.key = k → s.gone = true) := Lib.hid fun s hs hk => by
          rcases hmem s hs with h1 | rfl
          · exact HD.out s h1 hk
          · exact absurd hk he
        clear hst hmem he
        go_upto_region 5 with fail
        go_quiet (fail)
        go_wp2
        go_roundw
        case rel => exact ⟨i + 1, by omega, by rw [HST.out], by go_num, HD2, Lib.hid (by first | exact HC.out.drewN _ | exact HC.out.drew | exact HC.out)⟩
        case measure => simp [intOf]; omega
    · have hlt' : ¬ (i : Int) < (R.length : Int) := by omega
      obtain rfl : i = R.length := by omega
      go_wp2
      go_ret
      exact ⟨by first | rfl | simp, (HC0.out.trans (by first | exact HC.out.drewN _ | exact HC.out.drew | exact HC.out)).below⟩
end Go.Proofs.Ythgkbjiclghfkaa
