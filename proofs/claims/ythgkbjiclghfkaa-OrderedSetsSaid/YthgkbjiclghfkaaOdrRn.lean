/- Layer 12: the reference's Next where a place is known. -/
import Derived.Test.YthgkbjiclghfkaaOdrT
import Derived.Test.YthgkbjiclghfkaaOdrNx
namespace Go.Proofs.Ythgkbjiclghfkaa
open Go.RowKit Go.Joins M1
set_option linter.unusedVariables false
set_option maxHeartbeats 8000000 in
theorem rnext_z (B b : Nat) (v : Value) (R : List Rs) (k : V5) (hk : k = v5z) (w : World) (h : RM B b v R w) (hL : R.length ≤ 1000000) :
    Calls Try.prog 27 #[.pointer (some ⟨b, 0, none⟩), .agg #[.int .i64 k.k, .int .i64 k.p, .int .i64 k.q, .string k.s, .int .i64 k.r]] w fun e w' => e = .returned (NxV (nxAt R 0)) ∧ Below w.heap.size w w' := by
  obtain ⟨i0, hi0, jz0, jz1, jz2⟩ := info_parts info_rs
  have NV : ∀ W, (binOp .neq 31 (.agg #[.int .i64 k.k, .int .i64 k.p, .int .i64 k.q, .string k.s, .int .i64 k.r]) (.agg #[.int .i64 0, .int .i64 0, .int .i64 0, .string ⟨#[]⟩, .int .i64 0])).run Try.prog W = .ok (.bool false) W := fun W => by rw [neq_val]; rw [show eqV k.k k.p k.q k.s k.r 0 0 0 ⟨#[]⟩ 0 = decide (k = v5z) from eqV_dec k v5z]; simp [hk]
  obtain ⟨p, cap, rfl, hp⟩ := h.form
  have HP := Lib.hid hp
  have HB0 : Hid (Below w.heap.size w (((w.alloc (.cells #[.int .i64 k.k, .int .i64 k.p, .int .i64 k.q, .string k.s, .int .i64 k.r] 31)).alloc (.cells #[.int .i64 0, .int .i64 0, .int .i64 0, .string ⟨#[]⟩, .int .i64 0] 31)).alloc (.cells #[.int .i64 0, .int .i64 0, .int .i64 0, .string ⟨#[]⟩, .int .i64 0] 31))) := Lib.hid ((((Ch.refl [] w).alloc _).alloc _).alloc _).below
  have HM0 : Hid (RM B b (.slice p R.length cap) R (((w.alloc (.cells #[.int .i64 k.k, .int .i64 k.p, .int .i64 k.q, .string k.s, .int .i64 k.r] 31)).alloc (.cells #[.int .i64 0, .int .i64 0, .int .i64 0, .string ⟨#[]⟩, .int .i64 0] 31)).alloc (.cells #[.int .i64 0, .int .i64 0, .int .i64 0, .string ⟨#[]⟩, .int .i64 0] 31))) := Lib.hid (h.ch ((((Ch.refl [] w).alloc _).alloc _).alloc _) (by simp))
  have KA0 : Hid (Blk 31 (w.heap.size + 1) #[.int .i64 0, .int .i64 0, .int .i64 0, .string ⟨#[]⟩, .int .i64 0] (((w.alloc (.cells #[.int .i64 k.k, .int .i64 k.p, .int .i64 k.q, .string k.s, .int .i64 k.r] 31)).alloc (.cells #[.int .i64 0, .int .i64 0, .int .i64 0, .string ⟨#[]⟩, .int .i64 0] 31)).alloc (.cells #[.int .i64 0, .int .i64 0, .int .i64 0, .string ⟨#[]⟩, .int .i64 0] 31))) := Lib.hid ((Blk.new (w.alloc (.cells #[.int .i64 k.k, .int .i64 k.p, .int .i64 k.q, .string k.s, .int .i64 k.r] 31)) _ _ _ (by simp)).ch ((Ch.refl [] _).alloc _) (by simp))
  have KC0 : Hid (Blk 31 (w.heap.size + 1 + 1) #[.int .i64 0, .int .i64 0, .int .i64 0, .string ⟨#[]⟩, .int .i64 0] (((w.alloc (.cells #[.int .i64 k.k, .int .i64 k.p, .int .i64 k.q, .string k.s, .int .i64 k.r] 31)).alloc (.cells #[.int .i64 0, .int .i64 0, .int .i64 0, .string ⟨#[]⟩, .int .i64 0] 31)).alloc (.cells #[.int .i64 0, .int .i64 0, .int .i64 0, .string ⟨#[]⟩, .int .i64 0] 31))) := Lib.hid (Blk.new ((w.alloc (.cells #[.int .i64 k.k, .int .i64 k.p, .int .i64 k.q, .string k.s, .int .i64 k.r] 31)).alloc (.cells #[.int .i64 0, .int .i64 0, .int .i64 0, .string ⟨#[]⟩, .int .i64 0] 31)) _ _ _ (by simp))
  have hbw := h.blk.lt

  clear h hp hk
  go_enter Try.func27, Try.ntmps27
  go_upto_region 9 with fail
  have HM := HM0
  have HB := HB0
  have KA := KA0
  have KC := KC0
  generalize (((w.alloc (.cells #[.int .i64 k.k, .int .i64 k.p, .int .i64 k.q, .string k.s, .int .i64 k.r] 31)).alloc (.cells #[.int .i64 0, .int .i64 0, .int .i64 0, .string ⟨#[]⟩, .int .i64 0] 31)).alloc (.cells #[.int .i64 0, .int .i64 0, .int .i64 0, .string ⟨#[]⟩, .int .i64 0] 31)) = W0 at *
  clear NV KA0 KC0 HB0 HM0
  go_loopw [9] (fun v9 wr => ∃ i : Nat, 0 ≤ i ∧ i ≤ R.length ∧ v9 = .int .i64 (i : Int) ∧ Hid (∀ j (hj : j < R.length), 0 ≤ j → j < i → R[j].gone = true) ∧ Hid (Ch [] W0 wr)) (fun v9 _ => R.length - (intOf v9).toNat)
  case atStart => exact ⟨0, Nat.le_refl _, Nat.zero_le _, rfl, Lib.hid (fun j hj h1 h2 => by omega), Lib.hid (Ch.refl _ _)⟩
  case round =>
    obtain ⟨i, hai, hi, rfl, HD, HC⟩ := hrel
    rename World => wr
    have HMr := Lib.hid (HM.out.ch HC.out (by simp))
    have KA2 := Lib.hid (KA.out.ch HC.out (by simp))
    have KC2 := Lib.hid (KC.out.ch HC.out (by simp))
    have HBW : Hid (Below w.heap.size w wr) := Lib.hid (HB.out.trans (HC.out.below.mono HB.out.size))
    have c0 : wr.cell? ⟨b, 0, none⟩ = some (.slice p R.length cap) := HMr.out.blk.cell 0
    have hbr := HMr.out.blk.lt
    by_cases hlt : i < R.length
    · have hlt' : (i : Int) < (R.length : Int) := by omega
      have hi0' : (0 : Int) ≤ (i : Int) := by omega
      have di : IntKind.i64.wrap ((i : Int) + 1) = (i : Int) + 1 := IntWalk.i64_in _ (by omega)
      obtain ⟨g, rfl⟩ := HP.out (by omega)
      have hg : g < wr.heap.size := (HMr.out.lt g (by simp [rmS, Go.Proofs.Ythgkbjiclghfkaa.ob, Value.ownBlock])).2
      have s0 : wr.cell? ⟨g, i * 11, none⟩ = some (.int .i64 R[i].key.k) := HMr.out.cellAt i 0 hlt (by omega)
      have s1 : wr.cell? ⟨g, i * 11 + 1, none⟩ = some (.int .i64 R[i].key.p) := HMr.out.cellAt i 1 hlt (by omega)
      have s2 : wr.cell? ⟨g, i * 11 + 2, none⟩ = some (.int .i64 R[i].key.q) := HMr.out.cellAt i 2 hlt (by omega)
      have s3 : wr.cell? ⟨g, i * 11 + 3, none⟩ = some (.string R[i].key.s) := HMr.out.cellAt i 3 hlt (by omega)
      have s4 : wr.cell? ⟨g, i * 11 + 4, none⟩ = some (.int .i64 R[i].key.r) := HMr.out.cellAt i 4 hlt (by omega)
      have s5 : wr.cell? ⟨g, i * 11 + 5, none⟩ = some (.int .i64 R[i].val.k) := HMr.out.cellAt i 5 hlt (by omega)
      have s6 : wr.cell? ⟨g, i * 11 + 6, none⟩ = some (.int .i64 R[i].val.p) := HMr.out.cellAt i 6 hlt (by omega)
      have s7 : wr.cell? ⟨g, i * 11 + 7, none⟩ = some (.int .i64 R[i].val.q) := HMr.out.cellAt i 7 hlt (by omega)
      have s8 : wr.cell? ⟨g, i * 11 + 8, none⟩ = some (.string R[i].val.s) := HMr.out.cellAt i 8 hlt (by omega)
      have s9 : wr.cell? ⟨g, i * 11 + 9, none⟩ = some (.int .i64 R[i].val.r) := HMr.out.cellAt i 9 hlt (by omega)
      cases hgn : R[i].gone with
      | true =>
        have s10 : wr.cell? ⟨g, i * 11 + 10, none⟩ = some (.bool true) := (HMr.out.cellAt i 10 hlt (by omega)).trans (show some (Value.bool R[i].gone) = some (Value.bool true) from congrArg (fun x => some (Value.bool x)) hgn)
        have HD2 : Hid (∀ j (hj : j < R.length), 0 ≤ j → j < i + 1 → R[j].gone = true) := Lib.hid fun j hj h1 h2 => by
          rcases Nat.lt_or_eq_of_le (Nat.le_of_lt_succ h2) with h3 | rfl
          · exact HD.out j hj h1 h3
          · exact hgn
        clear hgn
        go_wp2
        go_roundw
        case rel => exact ⟨i + 1, by omega, by omega, by go_num, HD2, HC⟩
        case measure => simp [intOf]; omega
      | false =>
        have s10 : wr.cell? ⟨g, i * 11 + 10, none⟩ = some (.bool false) := (HMr.out.cellAt i 10 hlt (by omega)).trans (show some (Value.bool R[i].gone) = some (Value.bool false) from congrArg (fun x => some (Value.bool x)) hgn)
        have HX : Hid (nxAt R 0 = ⟨R[i].key, R[i].val, true, 0⟩) := Lib.hid (by unfold nxAt; rw [firstL_mk hai hlt hgn HD.out]; simp [List.getElem?_eq_getElem hlt])
        clear hgn
        have d0 : wr.cell? ⟨w.heap.size + 1, 0, none⟩ = some (.int .i64 0) := KA2.out.cell 0
        have df0 := KA2.out.fz 0
        have d1 : wr.cell? ⟨w.heap.size + 1, 1, none⟩ = some (.int .i64 0) := KA2.out.cell 1
        have df1 := KA2.out.fz 1
        have d2 : wr.cell? ⟨w.heap.size + 1, 2, none⟩ = some (.int .i64 0) := KA2.out.cell 2
        have df2 := KA2.out.fz 2
        have d3 : wr.cell? ⟨w.heap.size + 1, 3, none⟩ = some (.string ⟨#[]⟩) := KA2.out.cell 3
        have df3 := KA2.out.fz 3
        have d4 : wr.cell? ⟨w.heap.size + 1, 4, none⟩ = some (.int .i64 0) := KA2.out.cell 4
        have df4 := KA2.out.fz 4
        have dl := KA2.out.lt
        have e0 : wr.cell? ⟨w.heap.size + 1 + 1, 0, none⟩ = some (.int .i64 0) := KC2.out.cell 0
        have ef0 := KC2.out.fz 0
        have e1 : wr.cell? ⟨w.heap.size + 1 + 1, 1, none⟩ = some (.int .i64 0) := KC2.out.cell 1
        have ef1 := KC2.out.fz 1
        have e2 : wr.cell? ⟨w.heap.size + 1 + 1, 2, none⟩ = some (.int .i64 0) := KC2.out.cell 2
        have ef2 := KC2.out.fz 2
        have e3 : wr.cell? ⟨w.heap.size + 1 + 1, 3, none⟩ = some (.string ⟨#[]⟩) := KC2.out.cell 3
        have ef3 := KC2.out.fz 3
        have e4 : wr.cell? ⟨w.heap.size + 1 + 1, 4, none⟩ = some (.int .i64 0) := KC2.out.cell 4
        have ef4 := KC2.out.fz 4
        have el := KC2.out.lt
        go_upto_region 12 with fail
        go_region
        all_goals (
          go_wp2
          show bodyPost _ _ _ Exit.ret _ (st5 (st5 wr (w.heap.size + 1) (.int .i64 R[i].key.k) (.int .i64 R[i].key.p) (.int .i64 R[i].key.q) (.string R[i].key.s) (.int .i64 R[i].key.r)) (w.heap.size + 1 + 1) (.int .i64 R[i].val.k) (.int .i64 R[i].val.p) (.int .i64 R[i].val.q) (.string R[i].val.s) (.int .i64 R[i].val.r)).drew
          have I1 : Blk 31 (w.heap.size + 1) #[.int .i64 R[i].key.k, .int .i64 R[i].key.p, .int .i64 R[i].key.q, .string R[i].key.s, .int .i64 R[i].key.r] (st5 (st5 wr (w.heap.size + 1) (.int .i64 R[i].key.k) (.int .i64 R[i].key.p) (.int .i64 R[i].key.q) (.string R[i].key.s) (.int .i64 R[i].key.r)) (w.heap.size + 1 + 1) (.int .i64 R[i].val.k) (.int .i64 R[i].val.p) (.int .i64 R[i].val.q) (.string R[i].val.s) (.int .i64 R[i].val.r)).drew := Blk.ch (w := (st5 (st5 wr (w.heap.size + 1) (.int .i64 R[i].key.k) (.int .i64 R[i].key.p) (.int .i64 R[i].key.q) (.string R[i].key.s) (.int .i64 R[i].key.r)) (w.heap.size + 1 + 1) (.int .i64 R[i].val.k) (.int .i64 R[i].val.p) (.int .i64 R[i].val.q) (.string R[i].val.s) (.int .i64 R[i].val.r))) ((st5_blk KA2.out).ch (st5_ch (S := [(w.heap.size + 1 + 1)]) (Ch.refl _ _) (.inl (by simp))) (by simp)) ((Ch.refl [] _).drew) (by simp)
          have I2 : Blk 31 (w.heap.size + 1 + 1) #[.int .i64 R[i].val.k, .int .i64 R[i].val.p, .int .i64 R[i].val.q, .string R[i].val.s, .int .i64 R[i].val.r] (st5 (st5 wr (w.heap.size + 1) (.int .i64 R[i].key.k) (.int .i64 R[i].key.p) (.int .i64 R[i].key.q) (.string R[i].key.s) (.int .i64 R[i].key.r)) (w.heap.size + 1 + 1) (.int .i64 R[i].val.k) (.int .i64 R[i].val.p) (.int .i64 R[i].val.q) (.string R[i].val.s) (.int .i64 R[i].val.r)).drew := Blk.ch (w := (st5 (st5 wr (w.heap.size + 1) (.int .i64 R[i].key.k) (.int .i64 R[i].key.p) (.int .i64 R[i].key.q) (.string R[i].key.s) (.int .i64 R[i].key.r)) (w.heap.size + 1 + 1) (.int .i64 R[i].val.k) (.int .i64 R[i].val.p) (.int .i64 R[i].val.q) (.string R[i].val.s) (.int .i64 R[i].val.r))) (st5_blk (KC2.out.ch (st5_ch (S := [(w.heap.size + 1)]) (Ch.refl _ _) (.inl (by simp))) (by simp))) ((Ch.refl [] _).drew) (by simp)
          have hS : Below w.heap.size w (st5 (st5 wr (w.heap.size + 1) (.int .i64 R[i].key.k) (.int .i64 R[i].key.p) (.int .i64 R[i].key.q) (.string R[i].key.s) (.int .i64 R[i].key.r)) (w.heap.size + 1 + 1) (.int .i64 R[i].val.k) (.int .i64 R[i].val.p) (.int .i64 R[i].val.q) (.string R[i].val.s) (.int .i64 R[i].val.r)).drew := (st5_bel (st5_bel HBW.out (by omega)) (by omega)).drew
          generalize (st5 (st5 wr (w.heap.size + 1) (.int .i64 R[i].key.k) (.int .i64 R[i].key.p) (.int .i64 R[i].key.q) (.string R[i].key.s) (.int .i64 R[i].key.r)) (w.heap.size + 1 + 1) (.int .i64 R[i].val.k) (.int .i64 R[i].val.p) (.int .i64 R[i].val.q) (.string R[i].val.s) (.int .i64 R[i].val.r)).drew = W9 at *
          have x0 := I1.cell 0
          have x1 := I1.cell 1
          have x2 := I1.cell 2
          have x3 := I1.cell 3
          have x4 := I1.cell 4
          have y0 := I2.cell 0
          have y1 := I2.cell 1
          have y2 := I2.cell 2
          have y3 := I2.cell 3
          have y4 := I2.cell 4
          simp at x0 x1 x2 x3 x4 y0 y1 y2 y3 y4
          refine bodyPost_ret (v := .tuple #[.agg #[.int .i64 R[i].key.k, .int .i64 R[i].key.p, .int .i64 R[i].key.q, .string R[i].key.s, .int .i64 R[i].key.r], .agg #[.int .i64 R[i].val.k, .int .i64 R[i].val.p, .int .i64 R[i].val.q, .string R[i].val.s, .int .i64 R[i].val.r], .bool true, .int .i64 0]) (by simp [results, Try.results27, go_sem, x0, x1, x2, x3, x4, y0, y1, y2, y3, y4]) rfl ⟨by rw [HX.out]; rfl, hS⟩
)
    · have hlt' : ¬ (i : Int) < (R.length : Int) := by omega
      have HX : Hid (nxAt R 0 = ⟨v5z, v5z, false, 0⟩) := Lib.hid (by unfold nxAt; rw [firstL_no (fun j hj h1 => HD.out j hj h1 (by omega))])
      have d0 : wr.cell? ⟨w.heap.size + 1, 0, none⟩ = some (.int .i64 0) := KA2.out.cell 0
      have df0 := KA2.out.fz 0
      have d1 : wr.cell? ⟨w.heap.size + 1, 1, none⟩ = some (.int .i64 0) := KA2.out.cell 1
      have df1 := KA2.out.fz 1
      have d2 : wr.cell? ⟨w.heap.size + 1, 2, none⟩ = some (.int .i64 0) := KA2.out.cell 2
      have df2 := KA2.out.fz 2
      have d3 : wr.cell? ⟨w.heap.size + 1, 3, none⟩ = some (.string ⟨#[]⟩) := KA2.out.cell 3
      have df3 := KA2.out.fz 3
      have d4 : wr.cell? ⟨w.heap.size + 1, 4, none⟩ = some (.int .i64 0) := KA2.out.cell 4
      have df4 := KA2.out.fz 4
      have dl := KA2.out.lt
      have e0 : wr.cell? ⟨w.heap.size + 1 + 1, 0, none⟩ = some (.int .i64 0) := KC2.out.cell 0
      have ef0 := KC2.out.fz 0
      have e1 : wr.cell? ⟨w.heap.size + 1 + 1, 1, none⟩ = some (.int .i64 0) := KC2.out.cell 1
      have ef1 := KC2.out.fz 1
      have e2 : wr.cell? ⟨w.heap.size + 1 + 1, 2, none⟩ = some (.int .i64 0) := KC2.out.cell 2
      have ef2 := KC2.out.fz 2
      have e3 : wr.cell? ⟨w.heap.size + 1 + 1, 3, none⟩ = some (.string ⟨#[]⟩) := KC2.out.cell 3
      have ef3 := KC2.out.fz 3
      have e4 : wr.cell? ⟨w.heap.size + 1 + 1, 4, none⟩ = some (.int .i64 0) := KC2.out.cell 4
      have ef4 := KC2.out.fz 4
      have el := KC2.out.lt
      go_wp2
      show bodyPost _ _ _ Exit.ret _ (st5 (st5 wr (w.heap.size + 1) (.int .i64 0) (.int .i64 0) (.int .i64 0) (.string ⟨#[]⟩) (.int .i64 0)) (w.heap.size + 1 + 1) (.int .i64 0) (.int .i64 0) (.int .i64 0) (.string ⟨#[]⟩) (.int .i64 0))
      have I1 : Blk 31 (w.heap.size + 1) #[.int .i64 0, .int .i64 0, .int .i64 0, .string ⟨#[]⟩, .int .i64 0] (st5 (st5 wr (w.heap.size + 1) (.int .i64 0) (.int .i64 0) (.int .i64 0) (.string ⟨#[]⟩) (.int .i64 0)) (w.heap.size + 1 + 1) (.int .i64 0) (.int .i64 0) (.int .i64 0) (.string ⟨#[]⟩) (.int .i64 0)) := (st5_blk KA2.out).ch (st5_ch (S := [(w.heap.size + 1 + 1)]) (Ch.refl _ _) (.inl (by simp))) (by simp)
      have I2 : Blk 31 (w.heap.size + 1 + 1) #[.int .i64 0, .int .i64 0, .int .i64 0, .string ⟨#[]⟩, .int .i64 0] (st5 (st5 wr (w.heap.size + 1) (.int .i64 0) (.int .i64 0) (.int .i64 0) (.string ⟨#[]⟩) (.int .i64 0)) (w.heap.size + 1 + 1) (.int .i64 0) (.int .i64 0) (.int .i64 0) (.string ⟨#[]⟩) (.int .i64 0)) := st5_blk (KC2.out.ch (st5_ch (S := [(w.heap.size + 1)]) (Ch.refl _ _) (.inl (by simp))) (by simp))
      have hS : Below w.heap.size w (st5 (st5 wr (w.heap.size + 1) (.int .i64 0) (.int .i64 0) (.int .i64 0) (.string ⟨#[]⟩) (.int .i64 0)) (w.heap.size + 1 + 1) (.int .i64 0) (.int .i64 0) (.int .i64 0) (.string ⟨#[]⟩) (.int .i64 0)) := st5_bel (st5_bel HBW.out (by omega)) (by omega)
      generalize (st5 (st5 wr (w.heap.size + 1) (.int .i64 0) (.int .i64 0) (.int .i64 0) (.string ⟨#[]⟩) (.int .i64 0)) (w.heap.size + 1 + 1) (.int .i64 0) (.int .i64 0) (.int .i64 0) (.string ⟨#[]⟩) (.int .i64 0)) = W9 at *
      have x0 := I1.cell 0
      have x1 := I1.cell 1
      have x2 := I1.cell 2
      have x3 := I1.cell 3
      have x4 := I1.cell 4
      have y0 := I2.cell 0
      have y1 := I2.cell 1
      have y2 := I2.cell 2
      have y3 := I2.cell 3
      have y4 := I2.cell 4
      simp at x0 x1 x2 x3 x4 y0 y1 y2 y3 y4
      refine bodyPost_ret (v := .tuple #[.agg #[.int .i64 0, .int .i64 0, .int .i64 0, .string ⟨#[]⟩, .int .i64 0], .agg #[.int .i64 0, .int .i64 0, .int .i64 0, .string ⟨#[]⟩, .int .i64 0], .bool false, .int .i64 0]) (by simp [results, Try.results27, go_sem, x0, x1, x2, x3, x4, y0, y1, y2, y3, y4]) rfl ⟨by rw [HX.out]; rfl, hS⟩

set_option maxHeartbeats 8000000 in
theorem rnext_s (B b : Nat) (v : Value) (R : List Rs) (k : V5) (hk : k ≠ v5z) (n : Nat) (hn : n < R.length) (hf : fnd R k = some n) (w : World) (h : RM B b v R w) (hL : R.length ≤ 1000000) :
    Calls Try.prog 27 #[.pointer (some ⟨b, 0, none⟩), .agg #[.int .i64 k.k, .int .i64 k.p, .int .i64 k.q, .string k.s, .int .i64 k.r]] w fun e w' => e = .returned (NxV (nxAt R (n + 1))) ∧ Below w.heap.size w w' := by
  obtain ⟨i0, hi0, jz0, jz1, jz2⟩ := info_parts info_rs
  have NV : ∀ W, (binOp .neq 31 (.agg #[.int .i64 k.k, .int .i64 k.p, .int .i64 k.q, .string k.s, .int .i64 k.r]) (.agg #[.int .i64 0, .int .i64 0, .int .i64 0, .string ⟨#[]⟩, .int .i64 0])).run Try.prog W = .ok (.bool true) W := fun W => by rw [neq_val]; rw [show eqV k.k k.p k.q k.s k.r 0 0 0 ⟨#[]⟩ 0 = decide (k = v5z) from eqV_dec k v5z]; simp [hk]
  obtain ⟨p, cap, rfl, hp⟩ := h.form
  have HP := Lib.hid hp
  have HB0 : Hid (Below w.heap.size w (((w.alloc (.cells #[.int .i64 k.k, .int .i64 k.p, .int .i64 k.q, .string k.s, .int .i64 k.r] 31)).alloc (.cells #[.int .i64 0, .int .i64 0, .int .i64 0, .string ⟨#[]⟩, .int .i64 0] 31)).alloc (.cells #[.int .i64 0, .int .i64 0, .int .i64 0, .string ⟨#[]⟩, .int .i64 0] 31))) := Lib.hid ((((Ch.refl [] w).alloc _).alloc _).alloc _).below
  have HM0 : Hid (RM B b (.slice p R.length cap) R (((w.alloc (.cells #[.int .i64 k.k, .int .i64 k.p, .int .i64 k.q, .string k.s, .int .i64 k.r] 31)).alloc (.cells #[.int .i64 0, .int .i64 0, .int .i64 0, .string ⟨#[]⟩, .int .i64 0] 31)).alloc (.cells #[.int .i64 0, .int .i64 0, .int .i64 0, .string ⟨#[]⟩, .int .i64 0] 31))) := Lib.hid (h.ch ((((Ch.refl [] w).alloc _).alloc _).alloc _) (by simp))
  have KA0 : Hid (Blk 31 (w.heap.size + 1) #[.int .i64 0, .int .i64 0, .int .i64 0, .string ⟨#[]⟩, .int .i64 0] (((w.alloc (.cells #[.int .i64 k.k, .int .i64 k.p, .int .i64 k.q, .string k.s, .int .i64 k.r] 31)).alloc (.cells #[.int .i64 0, .int .i64 0, .int .i64 0, .string ⟨#[]⟩, .int .i64 0] 31)).alloc (.cells #[.int .i64 0, .int .i64 0, .int .i64 0, .string ⟨#[]⟩, .int .i64 0] 31))) := Lib.hid ((Blk.new (w.alloc (.cells #[.int .i64 k.k, .int .i64 k.p, .int .i64 k.q, .string k.s, .int .i64 k.r] 31)) _ _ _ (by simp)).ch ((Ch.refl [] _).alloc _) (by simp))
  have KC0 : Hid (Blk 31 (w.heap.size + 1 + 1) #[.int .i64 0, .int .i64 0, .int .i64 0, .string ⟨#[]⟩, .int .i64 0] (((w.alloc (.cells #[.int .i64 k.k, .int .i64 k.p, .int .i64 k.q, .string k.s, .int .i64 k.r] 31)).alloc (.cells #[.int .i64 0, .int .i64 0, .int .i64 0, .string ⟨#[]⟩, .int .i64 0] 31)).alloc (.cells #[.int .i64 0, .int .i64 0, .int .i64 0, .string ⟨#[]⟩, .int .i64 0] 31))) := Lib.hid (Blk.new ((w.alloc (.cells #[.int .i64 k.k, .int .i64 k.p, .int .i64 k.q, .string k.s, .int .i64 k.r] 31)).alloc (.cells #[.int .i64 0, .int .i64 0, .int .i64 0, .string ⟨#[]⟩, .int .i64 0] 31)) _ _ _ (by simp))
  have hbw := h.blk.lt
  have QF : Hid (Calls Try.prog 35 #[.pointer (some ⟨b, 0, none⟩), .agg #[.int .i64 k.k, .int .i64 k.p, .int .i64 k.q, .string k.s, .int .i64 k.r]] (((w.alloc (.cells #[.int .i64 k.k, .int .i64 k.p, .int .i64 k.q, .string k.s, .int .i64 k.r] 31)).alloc (.cells #[.int .i64 0, .int .i64 0, .int .i64 0, .string ⟨#[]⟩, .int .i64 0] 31)).alloc (.cells #[.int .i64 0, .int .i64 0, .int .i64 0, .string ⟨#[]⟩, .int .i64 0] 31)) fun e w' => e = .returned (.int .i64 (n : Int)) ∧ Below (((w.alloc (.cells #[.int .i64 k.k, .int .i64 k.p, .int .i64 k.q, .string k.s, .int .i64 k.r] 31)).alloc (.cells #[.int .i64 0, .int .i64 0, .int .i64 0, .string ⟨#[]⟩, .int .i64 0] 31)).alloc (.cells #[.int .i64 0, .int .i64 0, .int .i64 0, .string ⟨#[]⟩, .int .i64 0] 31)).heap.size (((w.alloc (.cells #[.int .i64 k.k, .int .i64 k.p, .int .i64 k.q, .string k.s, .int .i64 k.r] 31)).alloc (.cells #[.int .i64 0, .int .i64 0, .int .i64 0, .string ⟨#[]⟩, .int .i64 0] 31)).alloc (.cells #[.int .i64 0, .int .i64 0, .int .i64 0, .string ⟨#[]⟩, .int .i64 0] 31)) w') := Lib.hid (by
    have := rfind_any B b (.slice p R.length cap) R k (((w.alloc (.cells #[.int .i64 k.k, .int .i64 k.p, .int .i64 k.q, .string k.s, .int .i64 k.r] 31)).alloc (.cells #[.int .i64 0, .int .i64 0, .int .i64 0, .string ⟨#[]⟩, .int .i64 0] 31)).alloc (.cells #[.int .i64 0, .int .i64 0, .int .i64 0, .string ⟨#[]⟩, .int .i64 0] 31)) HM0.out hL
    rw [hf] at this
    exact this)
  have dn : IntKind.i64.wrap ((n : Int) + 1) = (n : Int) + 1 := IntWalk.i64_in _ (by omega)
  have HN : Hid (n + 1 ≤ R.length) := Lib.hid hn
  clear h hp hk hf
  go_enter Try.func27, Try.ntmps27
  go_upto_region 9 with (go_at_call 35; (with_reducible refine (QF.out).mono ?_); rintro e W0 ⟨rfl, hb0⟩; have HM := Lib.hid (HM0.out.below hb0); have HB := Lib.hid (HB0.out.trans (hb0.mono HB0.out.size)); have KA := Lib.hid (KA0.out.below hb0); have KC := Lib.hid (KC0.out.below hb0); clear hb0)
  clear QF
  clear NV KA0 KC0 HB0 HM0
  go_loopw [9] (fun v9 wr => ∃ i : Nat, (n + 1) ≤ i ∧ i ≤ R.length ∧ v9 = .int .i64 (i : Int) ∧ Hid (∀ j (hj : j < R.length), (n + 1) ≤ j → j < i → R[j].gone = true) ∧ Hid (Ch [] W0 wr)) (fun v9 _ => R.length - (intOf v9).toNat)
  case atStart => exact ⟨n + 1, Nat.le_refl _, HN.out, by go_num, Lib.hid (fun j hj h1 h2 => by omega), Lib.hid (Ch.refl _ _)⟩
  case round =>
    obtain ⟨i, hai, hi, rfl, HD, HC⟩ := hrel
    rename World => wr
    have HMr := Lib.hid (HM.out.ch HC.out (by simp))
    have KA2 := Lib.hid (KA.out.ch HC.out (by simp))
    have KC2 := Lib.hid (KC.out.ch HC.out (by simp))
    have HBW : Hid (Below w.heap.size w wr) := Lib.hid (HB.out.trans (HC.out.below.mono HB.out.size))
    have c0 : wr.cell? ⟨b, 0, none⟩ = some (.slice p R.length cap) := HMr.out.blk.cell 0
    have hbr := HMr.out.blk.lt
    by_cases hlt : i < R.length
    · have hlt' : (i : Int) < (R.length : Int) := by omega
      have hi0' : (0 : Int) ≤ (i : Int) := by omega
      have di : IntKind.i64.wrap ((i : Int) + 1) = (i : Int) + 1 := IntWalk.i64_in _ (by omega)
      obtain ⟨g, rfl⟩ := HP.out (by omega)
      have hg : g < wr.heap.size := (HMr.out.lt g (by simp [rmS, Go.Proofs.Ythgkbjiclghfkaa.ob, Value.ownBlock])).2
      have s0 : wr.cell? ⟨g, i * 11, none⟩ = some (.int .i64 R[i].key.k) := HMr.out.cellAt i 0 hlt (by omega)
      have s1 : wr.cell? ⟨g, i * 11 + 1, none⟩ = some (.int .i64 R[i].key.p) := HMr.out.cellAt i 1 hlt (by omega)
      have s2 : wr.cell? ⟨g, i * 11 + 2, none⟩ = some (.int .i64 R[i].key.q) := HMr.out.cellAt i 2 hlt (by omega)
      have s3 : wr.cell? ⟨g, i * 11 + 3, none⟩ = some (.string R[i].key.s) := HMr.out.cellAt i 3 hlt (by omega)
      have s4 : wr.cell? ⟨g, i * 11 + 4, none⟩ = some (.int .i64 R[i].key.r) := HMr.out.cellAt i 4 hlt (by omega)
      have s5 : wr.cell? ⟨g, i * 11 + 5, none⟩ = some (.int .i64 R[i].val.k) := HMr.out.cellAt i 5 hlt (by omega)
      have s6 : wr.cell? ⟨g, i * 11 + 6, none⟩ = some (.int .i64 R[i].val.p) := HMr.out.cellAt i 6 hlt (by omega)
      have s7 : wr.cell? ⟨g, i * 11 + 7, none⟩ = some (.int .i64 R[i].val.q) := HMr.out.cellAt i 7 hlt (by omega)
      have s8 : wr.cell? ⟨g, i * 11 + 8, none⟩ = some (.string R[i].val.s) := HMr.out.cellAt i 8 hlt (by omega)
      have s9 : wr.cell? ⟨g, i * 11 + 9, none⟩ = some (.int .i64 R[i].val.r) := HMr.out.cellAt i 9 hlt (by omega)
      cases hgn : R[i].gone with
      | true =>
        have s10 : wr.cell? ⟨g, i * 11 + 10, none⟩ = some (.bool true) := (HMr.out.cellAt i 10 hlt (by omega)).trans (show some (Value.bool R[i].gone) = some (Value.bool true) from congrArg (fun x => some (Value.bool x)) hgn)
        have HD2 : Hid (∀ j (hj : j < R.length), (n + 1) ≤ j → j < i + 1 → R[j].gone = true) := Lib.hid fun j hj h1 h2 => by
          rcases Nat.lt_or_eq_of_le (Nat.le_of_lt_succ h2) with h3 | rfl
          · exact HD.out j hj h1 h3
          · exact hgn
        clear hgn
        go_wp2
        go_roundw
        case rel => exact ⟨i + 1, by omega, by omega, by go_num, HD2, HC⟩
        case measure => simp [intOf]; omega
      | false =>
        have s10 : wr.cell? ⟨g, i * 11 + 10, none⟩ = some (.bool false) := (HMr.out.cellAt i 10 hlt (by omega)).trans (show some (Value.bool R[i].gone) = some (Value.bool false) from congrArg (fun x => some (Value.bool x)) hgn)
        have HX : Hid (nxAt R (n + 1) = ⟨R[i].key, R[i].val, true, 0⟩) := Lib.hid (by unfold nxAt; rw [firstL_mk hai hlt hgn HD.out]; simp [List.getElem?_eq_getElem hlt])
        clear hgn
        have d0 : wr.cell? ⟨w.heap.size + 1, 0, none⟩ = some (.int .i64 0) := KA2.out.cell 0
        have df0 := KA2.out.fz 0
        have d1 : wr.cell? ⟨w.heap.size + 1, 1, none⟩ = some (.int .i64 0) := KA2.out.cell 1
        have df1 := KA2.out.fz 1
        have d2 : wr.cell? ⟨w.heap.size + 1, 2, none⟩ = some (.int .i64 0) := KA2.out.cell 2
        have df2 := KA2.out.fz 2
        have d3 : wr.cell? ⟨w.heap.size + 1, 3, none⟩ = some (.string ⟨#[]⟩) := KA2.out.cell 3
        have df3 := KA2.out.fz 3
        have d4 : wr.cell? ⟨w.heap.size + 1, 4, none⟩ = some (.int .i64 0) := KA2.out.cell 4
        have df4 := KA2.out.fz 4
        have dl := KA2.out.lt
        have e0 : wr.cell? ⟨w.heap.size + 1 + 1, 0, none⟩ = some (.int .i64 0) := KC2.out.cell 0
        have ef0 := KC2.out.fz 0
        have e1 : wr.cell? ⟨w.heap.size + 1 + 1, 1, none⟩ = some (.int .i64 0) := KC2.out.cell 1
        have ef1 := KC2.out.fz 1
        have e2 : wr.cell? ⟨w.heap.size + 1 + 1, 2, none⟩ = some (.int .i64 0) := KC2.out.cell 2
        have ef2 := KC2.out.fz 2
        have e3 : wr.cell? ⟨w.heap.size + 1 + 1, 3, none⟩ = some (.string ⟨#[]⟩) := KC2.out.cell 3
        have ef3 := KC2.out.fz 3
        have e4 : wr.cell? ⟨w.heap.size + 1 + 1, 4, none⟩ = some (.int .i64 0) := KC2.out.cell 4
        have ef4 := KC2.out.fz 4
        have el := KC2.out.lt
        go_upto_region 12 with fail
        go_region
        all_goals (
          go_wp2
          show bodyPost _ _ _ Exit.ret _ (st5 (st5 wr (w.heap.size + 1) (.int .i64 R[i].key.k) (.int .i64 R[i].key.p) (.int .i64 R[i].key.q) (.string R[i].key.s) (.int .i64 R[i].key.r)) (w.heap.size + 1 + 1) (.int .i64 R[i].val.k) (.int .i64 R[i].val.p) (.int .i64 R[i].val.q) (.string R[i].val.s) (.int .i64 R[i].val.r)).drew
          have I1 : Blk 31 (w.heap.size + 1) #[.int .i64 R[i].key.k, .int .i64 R[i].key.p, .int .i64 R[i].key.q, .string R[i].key.s, .int .i64 R[i].key.r] (st5 (st5 wr (w.heap.size + 1) (.int .i64 R[i].key.k) (.int .i64 R[i].key.p) (.int .i64 R[i].key.q) (.string R[i].key.s) (.int .i64 R[i].key.r)) (w.heap.size + 1 + 1) (.int .i64 R[i].val.k) (.int .i64 R[i].val.p) (.int .i64 R[i].val.q) (.string R[i].val.s) (.int .i64 R[i].val.r)).drew := Blk.ch (w := (st5 (st5 wr (w.heap.size + 1) (.int .i64 R[i].key.k) (.int .i64 R[i].key.p) (.int .i64 R[i].key.q) (.string R[i].key.s) (.int .i64 R[i].key.r)) (w.heap.size + 1 + 1) (.int .i64 R[i].val.k) (.int .i64 R[i].val.p) (.int .i64 R[i].val.q) (.string R[i].val.s) (.int .i64 R[i].val.r))) ((st5_blk KA2.out).ch (st5_ch (S := [(w.heap.size + 1 + 1)]) (Ch.refl _ _) (.inl (by simp))) (by simp)) ((Ch.refl [] _).drew) (by simp)
          have I2 : Blk 31 (w.heap.size + 1 + 1) #[.int .i64 R[i].val.k, .int .i64 R[i].val.p, .int .i64 R[i].val.q, .string R[i].val.s, .int .i64 R[i].val.r] (st5 (st5 wr (w.heap.size + 1) (.int .i64 R[i].key.k) (.int .i64 R[i].key.p) (.int .i64 R[i].key.q) (.string R[i].key.s) (.int .i64 R[i].key.r)) (w.heap.size + 1 + 1) (.int .i64 R[i].val.k) (.int .i64 R[i].val.p) (.int .i64 R[i].val.q) (.string R[i].val.s) (.int .i64 R[i].val.r)).drew := Blk.ch (w := (st5 (st5 wr (w.heap.size + 1) (.int .i64 R[i].key.k) (.int .i64 R[i].key.p) (.int .i64 R[i].key.q) (.string R[i].key.s) (.int .i64 R[i].key.r)) (w.heap.size + 1 + 1) (.int .i64 R[i].val.k) (.int .i64 R[i].val.p) (.int .i64 R[i].val.q) (.string R[i].val.s) (.int .i64 R[i].val.r))) (st5_blk (KC2.out.ch (st5_ch (S := [(w.heap.size + 1)]) (Ch.refl _ _) (.inl (by simp))) (by simp))) ((Ch.refl [] _).drew) (by simp)
          have hS : Below w.heap.size w (st5 (st5 wr (w.heap.size + 1) (.int .i64 R[i].key.k) (.int .i64 R[i].key.p) (.int .i64 R[i].key.q) (.string R[i].key.s) (.int .i64 R[i].key.r)) (w.heap.size + 1 + 1) (.int .i64 R[i].val.k) (.int .i64 R[i].val.p) (.int .i64 R[i].val.q) (.string R[i].val.s) (.int .i64 R[i].val.r)).drew := (st5_bel (st5_bel HBW.out (by omega)) (by omega)).drew
          generalize (st5 (st5 wr (w.heap.size + 1) (.int .i64 R[i].key.k) (.int .i64 R[i].key.p) (.int .i64 R[i].key.q) (.string R[i].key.s) (.int .i64 R[i].key.r)) (w.heap.size + 1 + 1) (.int .i64 R[i].val.k) (.int .i64 R[i].val.p) (.int .i64 R[i].val.q) (.string R[i].val.s) (.int .i64 R[i].val.r)).drew = W9 at *
          have x0 := I1.cell 0
          have x1 := I1.cell 1
          have x2 := I1.cell 2
          have x3 := I1.cell 3
          have x4 := I1.cell 4
          have y0 := I2.cell 0
          have y1 := I2.cell 1
          have y2 := I2.cell 2
          have y3 := I2.cell 3
          have y4 := I2.cell 4
          simp at x0 x1 x2 x3 x4 y0 y1 y2 y3 y4
          refine bodyPost_ret (v := .tuple #[.agg #[.int .i64 R[i].key.k, .int .i64 R[i].key.p, .int .i64 R[i].key.q, .string R[i].key.s, .int .i64 R[i].key.r], .agg #[.int .i64 R[i].val.k, .int .i64 R[i].val.p, .int .i64 R[i].val.q, .string R[i].val.s, .int .i64 R[i].val.r], .bool true, .int .i64 0]) (by simp [results, Try.results27, go_sem, x0, x1, x2, x3, x4, y0, y1, y2, y3, y4]) rfl ⟨by rw [HX.out]; rfl, hS⟩
)
    · have hlt' : ¬ (i : Int) < (R.length : Int) := by omega
      have HX : Hid (nxAt R (n + 1) = ⟨v5z, v5z, false, 0⟩) := Lib.hid (by unfold nxAt; rw [firstL_no (fun j hj h1 => HD.out j hj h1 (by omega))])
      have d0 : wr.cell? ⟨w.heap.size + 1, 0, none⟩ = some (.int .i64 0) := KA2.out.cell 0
      have df0 := KA2.out.fz 0
      have d1 : wr.cell? ⟨w.heap.size + 1, 1, none⟩ = some (.int .i64 0) := KA2.out.cell 1
      have df1 := KA2.out.fz 1
      have d2 : wr.cell? ⟨w.heap.size + 1, 2, none⟩ = some (.int .i64 0) := KA2.out.cell 2
      have df2 := KA2.out.fz 2
      have d3 : wr.cell? ⟨w.heap.size + 1, 3, none⟩ = some (.string ⟨#[]⟩) := KA2.out.cell 3
      have df3 := KA2.out.fz 3
      have d4 : wr.cell? ⟨w.heap.size + 1, 4, none⟩ = some (.int .i64 0) := KA2.out.cell 4
      have df4 := KA2.out.fz 4
      have dl := KA2.out.lt
      have e0 : wr.cell? ⟨w.heap.size + 1 + 1, 0, none⟩ = some (.int .i64 0) := KC2.out.cell 0
      have ef0 := KC2.out.fz 0
      have e1 : wr.cell? ⟨w.heap.size + 1 + 1, 1, none⟩ = some (.int .i64 0) := KC2.out.cell 1
      have ef1 := KC2.out.fz 1
      have e2 : wr.cell? ⟨w.heap.size + 1 + 1, 2, none⟩ = some (.int .i64 0) := KC2.out.cell 2
      have ef2 := KC2.out.fz 2
      have e3 : wr.cell? ⟨w.heap.size + 1 + 1, 3, none⟩ = some (.string ⟨#[]⟩) := KC2.out.cell 3
      have ef3 := KC2.out.fz 3
      have e4 : wr.cell? ⟨w.heap.size + 1 + 1, 4, none⟩ = some (.int .i64 0) := KC2.out.cell 4
      have ef4 := KC2.out.fz 4
      have el := KC2.out.lt
      go_wp2
      show bodyPost _ _ _ Exit.ret _ (st5 (st5 wr (w.heap.size + 1) (.int .i64 0) (.int .i64 0) (.int .i64 0) (.string ⟨#[]⟩) (.int .i64 0)) (w.heap.size + 1 + 1) (.int .i64 0) (.int .i64 0) (.int .i64 0) (.string ⟨#[]⟩) (.int .i64 0))
      have I1 : Blk 31 (w.heap.size + 1) #[.int .i64 0, .int .i64 0, .int .i64 0, .string ⟨#[]⟩, .int .i64 0] (st5 (st5 wr (w.heap.size + 1) (.int .i64 0) (.int .i64 0) (.int .i64 0) (.string ⟨#[]⟩) (.int .i64 0)) (w.heap.size + 1 + 1) (.int .i64 0) (.int .i64 0) (.int .i64 0) (.string ⟨#[]⟩) (.int .i64 0)) := (st5_blk KA2.out).ch (st5_ch (S := [(w.heap.size + 1 + 1)]) (Ch.refl _ _) (.inl (by simp))) (by simp)
      have I2 : Blk 31 (w.heap.size + 1 + 1) #[.int .i64 0, .int .i64 0, .int .i64 0, .string ⟨#[]⟩, .int .i64 0] (st5 (st5 wr (w.heap.size + 1) (.int .i64 0) (.int .i64 0) (.int .i64 0) (.string ⟨#[]⟩) (.int .i64 0)) (w.heap.size + 1 + 1) (.int .i64 0) (.int .i64 0) (.int .i64 0) (.string ⟨#[]⟩) (.int .i64 0)) := st5_blk (KC2.out.ch (st5_ch (S := [(w.heap.size + 1)]) (Ch.refl _ _) (.inl (by simp))) (by simp))
      have hS : Below w.heap.size w (st5 (st5 wr (w.heap.size + 1) (.int .i64 0) (.int .i64 0) (.int .i64 0) (.string ⟨#[]⟩) (.int .i64 0)) (w.heap.size + 1 + 1) (.int .i64 0) (.int .i64 0) (.int .i64 0) (.string ⟨#[]⟩) (.int .i64 0)) := st5_bel (st5_bel HBW.out (by omega)) (by omega)
      generalize (st5 (st5 wr (w.heap.size + 1) (.int .i64 0) (.int .i64 0) (.int .i64 0) (.string ⟨#[]⟩) (.int .i64 0)) (w.heap.size + 1 + 1) (.int .i64 0) (.int .i64 0) (.int .i64 0) (.string ⟨#[]⟩) (.int .i64 0)) = W9 at *
      have x0 := I1.cell 0
      have x1 := I1.cell 1
      have x2 := I1.cell 2
      have x3 := I1.cell 3
      have x4 := I1.cell 4
      have y0 := I2.cell 0
      have y1 := I2.cell 1
      have y2 := I2.cell 2
      have y3 := I2.cell 3
      have y4 := I2.cell 4
      simp at x0 x1 x2 x3 x4 y0 y1 y2 y3 y4
      refine bodyPost_ret (v := .tuple #[.agg #[.int .i64 0, .int .i64 0, .int .i64 0, .string ⟨#[]⟩, .int .i64 0], .agg #[.int .i64 0, .int .i64 0, .int .i64 0, .string ⟨#[]⟩, .int .i64 0], .bool false, .int .i64 0]) (by simp [results, Try.results27, go_sem, x0, x1, x2, x3, x4, y0, y1, y2, y3, y4]) rfl ⟨by rw [HX.out]; rfl, hS⟩

end Go.Proofs.Ythgkbjiclghfkaa
