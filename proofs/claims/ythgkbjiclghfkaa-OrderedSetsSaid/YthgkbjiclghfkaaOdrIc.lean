/- Layer 12: the reference's Set: an insertion that drops what was removed. -/
import Derived.Test.YthgkbjiclghfkaaOdrIb
namespace Go.Proofs.Ythgkbjiclghfkaa
open Go.RowKit Go.Joins M1
set_option linter.unusedVariables false
/-- What the reference keeps. -/
def kR (R : List Rs) : List Rs := R.filter aliveR
theorem kR_step {R : List Rs} {k : Nat} (hk : k < R.length) : kR (R.take (k + 1)) = if R[k].gone then kR (R.take k) else kR (R.take k) ++ [⟨R[k].key, R[k].val, false⟩] := by
  unfold kR
  rw [List.take_succ_eq_append_getElem hk, List.filter_append]
  cases h : R[k].gone with
  | true => simp [h, aliveR]
  | false =>
    have e : R[k] = ⟨R[k].key, R[k].val, false⟩ := by rw [← h]
    rw [if_neg (by simp)]
    congr 1
    rw [List.filter_cons, if_pos (by simp [aliveR, h])]
    simpa using e
theorem own_base {w : World} {B B' : Nat} {e : TypeId} {size n : Nat} {v : Value} {xs : List Value} (h : w.ownsRow B e size v n xs) (hb : B' ≤ B) : w.ownsRow B' e size v n xs := by
  obtain ⟨q1, q2⟩ := h
  refine ⟨q1, q2.imp id ?_⟩
  rintro ⟨x, cp, cur, r1, r2, r3⟩
  exact ⟨x, cp, cur, r1, Nat.le_trans hb r2, r3⟩
theorem kR_len (R : List Rs) (k : Nat) : (kR (R.take k)).length ≤ k := by
  unfold kR
  exact Nat.le_trans (List.length_filter_le _ _) (by rw [List.length_take]; omega)
set_option maxHeartbeats 16000000 in
theorem rset_j0 (B b : Nat) (v : Value) (R : List Rs) (k x : V5) (w : World) (h : RM B b v R w) (hL : R.length ≤ 1000000) (hBw : B ≤ w.heap.size) (hk : k.k ≠ 0) (hv : okV k = true) (hx : okV x = true) (hx0 : x.k ≠ 0) (hd : lenR R + 8 < R.length - lenR R) (hf : fnd R k = none) :
    Calls Try.prog 25 #[.pointer (some ⟨b, 0, none⟩), .agg #[.int .i64 k.k, .int .i64 k.p, .int .i64 k.q, .string k.s, .int .i64 k.r], .agg #[.int .i64 x.k, .int .i64 x.p, .int .i64 x.q, .string x.s, .int .i64 x.r]] w fun e w' => RSaid B b v R k x w e w' := by
  have HC0 : Hid (Ch [] w ((w.alloc (.cells #[.int .i64 k.k, .int .i64 k.p, .int .i64 k.q, .string k.s, .int .i64 k.r] 31)).alloc (.cells #[.int .i64 x.k, .int .i64 x.p, .int .i64 x.q, .string x.s, .int .i64 x.r] 31))) := Lib.hid (((Ch.refl [] w).alloc _).alloc _)
  have BKK : Hid (∀ W, Ch [] ((w.alloc (.cells #[.int .i64 k.k, .int .i64 k.p, .int .i64 k.q, .string k.s, .int .i64 k.r] 31)).alloc (.cells #[.int .i64 x.k, .int .i64 x.p, .int .i64 x.q, .string x.s, .int .i64 x.r] 31)) W → Blk 31 w.heap.size #[.int .i64 k.k, .int .i64 k.p, .int .i64 k.q, .string k.s, .int .i64 k.r] W) := Lib.hid fun W hc => ((Blk.new w 31 _ _ rfl).ch ((Ch.refl [] _).alloc _) (by simp)).ch hc (by simp)
  have BKX : Hid (∀ W, Ch [] ((w.alloc (.cells #[.int .i64 k.k, .int .i64 k.p, .int .i64 k.q, .string k.s, .int .i64 k.r] 31)).alloc (.cells #[.int .i64 x.k, .int .i64 x.p, .int .i64 x.q, .string x.s, .int .i64 x.r] 31)) W → Blk 31 (w.heap.size + 1) #[.int .i64 x.k, .int .i64 x.p, .int .i64 x.q, .string x.s, .int .i64 x.r] W) := Lib.hid fun W hc => (Blk.new (w.alloc (.cells #[.int .i64 k.k, .int .i64 k.p, .int .i64 k.q, .string k.s, .int .i64 k.r] 31)) 31 _ _ (by simp)).ch hc (by simp)
  have Q1 : Hid (∀ w, Calls Try.prog 22 #[.agg #[.int .i64 k.k, .int .i64 k.p, .int .i64 k.q, .string k.s, .int .i64 k.r]] w fun e w' => e = .returned (.bool true) ∧ Below w.heap.size w w') := Lib.hid fun w => by rw [← hv]; exact rvalid5 k.k k.p k.q k.s k.r w
  have Q2 : Hid (∀ w, Calls Try.prog 22 #[.agg #[.int .i64 x.k, .int .i64 x.p, .int .i64 x.q, .string x.s, .int .i64 x.r]] w fun e w' => e = .returned (.bool true) ∧ Below w.heap.size w w') := Lib.hid fun w => by rw [← hx]; exact rvalid5 x.k x.p x.q x.s x.r w
  have QF : Hid (∀ W, Ch [] w W → Calls Try.prog 35 #[.pointer (some ⟨b, 0, none⟩), .agg #[.int .i64 k.k, .int .i64 k.p, .int .i64 k.q, .string k.s, .int .i64 k.r]] W fun e w' => e = .returned (.int .i64 (-1)) ∧ Below W.heap.size W w') := Lib.hid fun W hc => by
    have := rfind_any B b v R k W (h.ch hc (by simp)) hL
    rw [hf] at this
    exact this
  obtain ⟨i0, hi0, jz0, jz1, jz2⟩ := info_parts info_rs
  have hz := errR_ok hk hv hx
  have HZ := Lib.hid hz
  have HS : Hid (setR R k x = kR R ++ [⟨k, x, false⟩]) := Lib.hid (by unfold setR; rw [if_neg (by simpa using hz), hf]; simp [hx0, insR, hd, kR])
  obtain ⟨p, cap, rfl, hp⟩ := h.form
  obtain ⟨g, rfl⟩ := hp (by omega)
  have HLL := Lib.hid hL
  have HBW := Lib.hid hBw
  have HLO := Lib.hid h.lo
  have HBL := Lib.hid h.blk.lt
  have HRR : Hid (∀ W, Ch [] w W → RM B b (.slice (some ⟨g, 0, none⟩) R.length cap) R W) := Lib.hid fun W hc => h.ch hc (by simp)
  have hcl := lenR_le R
  have hd1 : IntKind.i64.wrap ((R.length : Int) - (lenR R : Int)) = (R.length : Int) - (lenR R : Int) := IntWalk.i64_in _ (by omega)
  have hd2 : IntKind.i64.wrap ((lenR R : Int) + 8) = (lenR R : Int) + 8 := IntWalk.i64_in _ (by omega)
  have hd3 : (lenR R : Int) + 8 < (R.length : Int) - (lenR R : Int) := by omega
  have e0 : (k.k == 0) = false := by rw [beq_eq_false_iff_ne]; exact hk
  have e2 : (x.k == 0) = false := by rw [beq_eq_false_iff_ne]; exact hx0
  clear h hBw hk hv hx hx0 hz hp hf hcl hd
  go_enter Try.func25, Try.ntmps25
  go_wp2_with (first | (go_at_call 22; (with_reducible refine (Q1.out _).mono ?_); rintro e w1 ⟨rfl, hb1⟩; have HD1 : Hid (Ch [] ((w.alloc (.cells #[.int .i64 k.k, .int .i64 k.p, .int .i64 k.q, .string k.s, .int .i64 k.r] 31)).alloc (.cells #[.int .i64 x.k, .int .i64 x.p, .int .i64 x.q, .string x.s, .int .i64 x.r] 31)) w1) := Lib.hid ((Ch.refl [] _).trans (Ch.of_below hb1)); clear hb1; have q1_0 : w1.cell? ⟨w.heap.size, 0, none⟩ = some (.int .i64 k.k) := (BKK.out _ HD1.out).cell 0; have q1_1 : w1.cell? ⟨w.heap.size, 1, none⟩ = some (.int .i64 k.p) := (BKK.out _ HD1.out).cell 1; have q1_2 : w1.cell? ⟨w.heap.size, 2, none⟩ = some (.int .i64 k.q) := (BKK.out _ HD1.out).cell 2; have q1_3 : w1.cell? ⟨w.heap.size, 3, none⟩ = some (.string k.s) := (BKK.out _ HD1.out).cell 3; have q1_4 : w1.cell? ⟨w.heap.size, 4, none⟩ = some (.int .i64 k.r) := (BKK.out _ HD1.out).cell 4; have u1 := (BKK.out _ HD1.out).lt; have r1_0 : w1.cell? ⟨w.heap.size + 1, 0, none⟩ = some (.int .i64 x.k) := (BKX.out _ HD1.out).cell 0; have r1_1 : w1.cell? ⟨w.heap.size + 1, 1, none⟩ = some (.int .i64 x.p) := (BKX.out _ HD1.out).cell 1; have r1_2 : w1.cell? ⟨w.heap.size + 1, 2, none⟩ = some (.int .i64 x.q) := (BKX.out _ HD1.out).cell 2; have r1_3 : w1.cell? ⟨w.heap.size + 1, 3, none⟩ = some (.string x.s) := (BKX.out _ HD1.out).cell 3; have r1_4 : w1.cell? ⟨w.heap.size + 1, 4, none⟩ = some (.int .i64 x.r) := (BKX.out _ HD1.out).cell 4; have t1 := (BKX.out _ HD1.out).lt) | (go_at_call 22; (with_reducible refine (Q2.out _).mono ?_); rintro e w2 ⟨rfl, hb2⟩; have HD2 : Hid (Ch [] ((w.alloc (.cells #[.int .i64 k.k, .int .i64 k.p, .int .i64 k.q, .string k.s, .int .i64 k.r] 31)).alloc (.cells #[.int .i64 x.k, .int .i64 x.p, .int .i64 x.q, .string x.s, .int .i64 x.r] 31)) w2) := Lib.hid (HD1.out.trans (Ch.of_below hb2)); clear hb2; have q2_0 : w2.cell? ⟨w.heap.size, 0, none⟩ = some (.int .i64 k.k) := (BKK.out _ HD2.out).cell 0; have q2_1 : w2.cell? ⟨w.heap.size, 1, none⟩ = some (.int .i64 k.p) := (BKK.out _ HD2.out).cell 1; have q2_2 : w2.cell? ⟨w.heap.size, 2, none⟩ = some (.int .i64 k.q) := (BKK.out _ HD2.out).cell 2; have q2_3 : w2.cell? ⟨w.heap.size, 3, none⟩ = some (.string k.s) := (BKK.out _ HD2.out).cell 3; have q2_4 : w2.cell? ⟨w.heap.size, 4, none⟩ = some (.int .i64 k.r) := (BKK.out _ HD2.out).cell 4; have u2 := (BKK.out _ HD2.out).lt; have r2_0 : w2.cell? ⟨w.heap.size + 1, 0, none⟩ = some (.int .i64 x.k) := (BKX.out _ HD2.out).cell 0; have r2_1 : w2.cell? ⟨w.heap.size + 1, 1, none⟩ = some (.int .i64 x.p) := (BKX.out _ HD2.out).cell 1; have r2_2 : w2.cell? ⟨w.heap.size + 1, 2, none⟩ = some (.int .i64 x.q) := (BKX.out _ HD2.out).cell 2; have r2_3 : w2.cell? ⟨w.heap.size + 1, 3, none⟩ = some (.string x.s) := (BKX.out _ HD2.out).cell 3; have r2_4 : w2.cell? ⟨w.heap.size + 1, 4, none⟩ = some (.int .i64 x.r) := (BKX.out _ HD2.out).cell 4; have t2 := (BKX.out _ HD2.out).lt) | (go_at_call 35; (with_reducible refine (QF.out _ (HC0.out.trans HD2.out)).mono ?_); rintro e w3 ⟨rfl, hb3⟩; have HD3 : Hid (Ch [] ((w.alloc (.cells #[.int .i64 k.k, .int .i64 k.p, .int .i64 k.q, .string k.s, .int .i64 k.r] 31)).alloc (.cells #[.int .i64 x.k, .int .i64 x.p, .int .i64 x.q, .string x.s, .int .i64 x.r] 31)) w3) := Lib.hid (HD2.out.trans (Ch.of_below hb3)); clear hb3; have q3_0 : w3.cell? ⟨w.heap.size, 0, none⟩ = some (.int .i64 k.k) := (BKK.out _ HD3.out).cell 0; have q3_1 : w3.cell? ⟨w.heap.size, 1, none⟩ = some (.int .i64 k.p) := (BKK.out _ HD3.out).cell 1; have q3_2 : w3.cell? ⟨w.heap.size, 2, none⟩ = some (.int .i64 k.q) := (BKK.out _ HD3.out).cell 2; have q3_3 : w3.cell? ⟨w.heap.size, 3, none⟩ = some (.string k.s) := (BKK.out _ HD3.out).cell 3; have q3_4 : w3.cell? ⟨w.heap.size, 4, none⟩ = some (.int .i64 k.r) := (BKK.out _ HD3.out).cell 4; have u3 := (BKK.out _ HD3.out).lt; have r3_0 : w3.cell? ⟨w.heap.size + 1, 0, none⟩ = some (.int .i64 x.k) := (BKX.out _ HD3.out).cell 0; have r3_1 : w3.cell? ⟨w.heap.size + 1, 1, none⟩ = some (.int .i64 x.p) := (BKX.out _ HD3.out).cell 1; have r3_2 : w3.cell? ⟨w.heap.size + 1, 2, none⟩ = some (.int .i64 x.q) := (BKX.out _ HD3.out).cell 2; have r3_3 : w3.cell? ⟨w.heap.size + 1, 3, none⟩ = some (.string x.s) := (BKX.out _ HD3.out).cell 3; have r3_4 : w3.cell? ⟨w.heap.size + 1, 4, none⟩ = some (.int .i64 x.r) := (BKX.out _ HD3.out).cell 4; have t3 := (BKX.out _ HD3.out).lt; have HR3 := Lib.hid (HRR.out w3 (HC0.out.trans HD3.out)); have c3 : w3.cell? ⟨b, 0, none⟩ = some (.slice (some ⟨g, 0, none⟩) R.length cap) := HR3.out.blk.cell 0; have hb3 := HR3.out.blk.lt) | (go_at_call 28; (with_reducible refine (rlen_any B b _ R w3 HR3.out HLL.out).mono ?_); rintro e w4 ⟨rfl, rfl⟩))
  have HB3 : Hid (B ≤ w3.heap.size) := Lib.hid (Nat.le_trans HBW.out (HC0.out.trans HD3.out).size)
  have HC3 : Hid (Ch [] w w3) := Lib.hid (HC0.out.trans HD3.out)
  have HOW : Hid (w3.ownsRow w3.heap.size 69 11 (.slice none 0 0) (kR (R.take 0)).length ((kR (R.take 0)).flatMap rsC)) := Lib.hid (World.ownsRow_nil _ _ _ _)
  clear hd1 hd2 hd3
  go_loopw [9, 10] (fun v9 v10 wr => ∃ (j : Nat) (p3 : Option Addr) (c3 : Nat), j ≤ R.length ∧ v9 = .slice p3 (kR (R.take j)).length c3 ∧ v10 = .int .i64 (j : Int) ∧ Hid (wr.ownsRow w3.heap.size 69 11 (.slice p3 (kR (R.take j)).length c3) (kR (R.take j)).length ((kR (R.take j)).flatMap rsC)) ∧ Hid (Below w3.heap.size w3 wr)) (fun _ v10 _ => R.length - (intOf v10).toNat)
  case atStart => exact ⟨0, none, 0, Nat.zero_le _, rfl, rfl, HOW, Lib.hid (Below.refl _ _)⟩
  case round =>
    obtain ⟨j, p3, c3, hj, rfl, rfl, HV, HB⟩ := hrel
    rename World => W0
    have HM := Lib.hid (HR3.out.below HB.out)
    have d0 : W0.cell? ⟨b, 0, none⟩ = some (.slice (some ⟨g, 0, none⟩) R.length cap) := HM.out.blk.cell 0
    have hbw := HM.out.blk.lt
    by_cases hlt : j < R.length
    · have hlt' : (j : Int) < (R.length : Int) := by omega
      have hi0' : (0 : Int) ≤ (j : Int) := by omega
      have di : IntKind.i64.wrap ((j : Int) + 1) = (j : Int) + 1 := IntWalk.i64_in _ (by omega)
      have hg : g < W0.heap.size := (HM.out.lt g (by simp [rmS, Go.Proofs.Ythgkbjiclghfkaa.ob, Value.ownBlock])).2
      have s0 : W0.cell? ⟨g, j * 11, none⟩ = some (.int .i64 R[j].key.k) := HM.out.cellAt j 0 hlt (by omega)
      have s1 : W0.cell? ⟨g, j * 11 + 1, none⟩ = some (.int .i64 R[j].key.p) := HM.out.cellAt j 1 hlt (by omega)
      have s2 : W0.cell? ⟨g, j * 11 + 2, none⟩ = some (.int .i64 R[j].key.q) := HM.out.cellAt j 2 hlt (by omega)
      have s3 : W0.cell? ⟨g, j * 11 + 3, none⟩ = some (.string R[j].key.s) := HM.out.cellAt j 3 hlt (by omega)
      have s4 : W0.cell? ⟨g, j * 11 + 4, none⟩ = some (.int .i64 R[j].key.r) := HM.out.cellAt j 4 hlt (by omega)
      have s5 : W0.cell? ⟨g, j * 11 + 5, none⟩ = some (.int .i64 R[j].val.k) := HM.out.cellAt j 5 hlt (by omega)
      have s6 : W0.cell? ⟨g, j * 11 + 6, none⟩ = some (.int .i64 R[j].val.p) := HM.out.cellAt j 6 hlt (by omega)
      have s7 : W0.cell? ⟨g, j * 11 + 7, none⟩ = some (.int .i64 R[j].val.q) := HM.out.cellAt j 7 hlt (by omega)
      have s8 : W0.cell? ⟨g, j * 11 + 8, none⟩ = some (.string R[j].val.s) := HM.out.cellAt j 8 hlt (by omega)
      have s9 : W0.cell? ⟨g, j * 11 + 9, none⟩ = some (.int .i64 R[j].val.r) := HM.out.cellAt j 9 hlt (by omega)
      have hst := kR_step hlt
      have hln := kR_len R j
      have hsz := HB.out.size
      cases hgn : R[j].gone with
      | false =>
        have s10 : W0.cell? ⟨g, j * 11 + 10, none⟩ = some (.bool false) := (HM.out.cellAt j 10 hlt (by omega)).trans (show some (Value.bool R[j].gone) = some (Value.bool false) from congrArg (fun x => some (Value.bool x)) hgn)
        rw [hgn, if_neg (by simp)] at hst
        clear hgn
        have HST := Lib.hid hst
        have HLN := Lib.hid hln
        have HH : Hid ((W0.alloc (.cells #[.int .i64 R[j].key.k, .int .i64 R[j].key.p, .int .i64 R[j].key.q, .string R[j].key.s, .int .i64 R[j].key.r, .int .i64 R[j].val.k, .int .i64 R[j].val.p, .int .i64 R[j].val.q, .string R[j].val.s, .int .i64 R[j].val.r, .bool false] 69)).ownsRow w3.heap.size 69 11 (.slice p3 (kR (R.take j)).length c3) (kR (R.take j)).length ((kR (R.take j)).flatMap rsC)) := Lib.hid (((Ch.refl [] W0).alloc _).ownB HV.out (by simp))
        clear hst hln
        clear HV
        generalize hN : (kR (R.take j)).length = N at *
        have HN := Lib.hid hN
        clear hN
        go_wp2_with (at_builtin; refine wpList_append_own_at _ rfl _ _ 58 rfl w3.heap.size 69 i0 (.agg #[.int .i64 0, .int .i64 0, .int .i64 0, .string ⟨#[]⟩, .int .i64 0, .int .i64 0, .int .i64 0, .int .i64 0, .string ⟨#[]⟩, .int .i64 0, .bool false]) 11 104 Try.underlying58 hi0 jz0 jz1 jz2 rfl (by decide) _ _ _ rfl HH.out ⟨W0.heap.size, 0, none⟩ 1 1 (rsC ⟨R[j].key, R[j].val, false⟩) rfl rfl (rsC_at ⟨R[j].key, R[j].val, false⟩ _ _ rfl) (rsC_one _) (by unfold maxLen; have := HLN.out; have := HLL.out; omega) (by have := HLN.out; have := HLL.out; omega) (by simp; omega) ?_)
        intro v5 w5 ho5 hg5 _ _
        obtain ⟨p5, c5, rfl⟩ := ownB_form ho5
        have HB5 : Hid (Below w3.heap.size w3 w5) := Lib.hid ((HB.out.alloc HB.out.size _).grown hg5 (by simp; omega) (fun q e => (own_lo HH.out (mem_ob.2 e)).1))
        have HO5 : Hid (w5.ownsRow w3.heap.size 69 11 (.slice p5 (N + 1) c5) (kR (R.take (j + 1))).length ((kR (R.take (j + 1))).flatMap rsC)) := Lib.hid (by
          rw [HST.out, List.length_append, List.flatMap_append, HN.out]; simpa using ho5)
        clear ho5 hg5
        go_wp2
        go_roundw
        case rel => exact ⟨j + 1, p5, c5, by omega, by rw [HST.out, List.length_append, HN.out]; rfl, by go_num, by have := HO5.out; rw [show N + 1 = (kR (R.take (j + 1))).length from by rw [HST.out, List.length_append, HN.out]; rfl] at this; exact Lib.hid this, HB5⟩
        case measure => simp [intOf]; omega
      | true =>
        have s10 : W0.cell? ⟨g, j * 11 + 10, none⟩ = some (.bool true) := (HM.out.cellAt j 10 hlt (by omega)).trans (show some (Value.bool R[j].gone) = some (Value.bool true) from congrArg (fun x => some (Value.bool x)) hgn)
        rw [hgn, if_pos rfl] at hst
        have HH : Hid (W0.ownsRow w3.heap.size 69 11 (.slice p3 (kR (R.take (j + 1))).length c3) (kR (R.take (j + 1))).length ((kR (R.take (j + 1))).flatMap rsC)) := Lib.hid (by rw [hst]; exact HV.out)
        have HST := Lib.hid hst
        clear hgn hst hln
        go_wp2
        go_roundw
        case rel => exact ⟨j + 1, p3, c3, by omega, by rw [HST.out], by go_num, HH, HB⟩
        case measure => simp [intOf]; omega
    · have hlt' : ¬ (j : Int) < (R.length : Int) := by omega
      have hT : kR (R.take j) = kR R := by rw [show j = R.length by omega, List.take_length]
      have hkn : (kR (R.take j)).length = (kR R).length := by rw [hT]
      have HV2 : Hid (W0.ownsRow w3.heap.size 69 11 (.slice p3 (kR (R.take j)).length c3) (kR R).length ((kR R).flatMap rsC)) := Lib.hid (by have := HV.out; rw [hT] at this ⊢; exact this)
      clear HV hT
      generalize (kR (R.take j)).length = n at *
      obtain rfl := hkn
      have f0 := HM.out.blk.fz 0
      have HKL : Hid ((kR R).length ≤ R.length) := Lib.hid (List.length_filter_le _ _)
      have hs6 : Ch [b] W0 (W0.setCell ⟨b, 0, none⟩ (.slice p3 (kR R).length c3)) := (Ch.refl [b] W0).set b 0 _ (.inl (by simp))
      have HM6 : Hid (RM B b (.slice p3 (kR R).length c3) (kR R) (W0.setCell ⟨b, 0, none⟩ (.slice p3 (kR R).length c3))) := Lib.hid ⟨HM.out.blk.set 0 _, HLO.out, hs6.ownB (own_base HV2.out HB3.out) (fun y hy => by have h1 := (own_lo HV2.out hy).1; have h2 := HC3.out.size; have h3 := HBL.out; simp; omega)⟩
      have hd0 : Ch [] ((w.alloc (.cells #[.int .i64 k.k, .int .i64 k.p, .int .i64 k.q, .string k.s, .int .i64 k.r] 31)).alloc (.cells #[.int .i64 x.k, .int .i64 x.p, .int .i64 x.q, .string x.s, .int .i64 x.r] 31)) W0 := HD3.out.trans (Ch.of_below HB.out)
      have HK6 : Hid (Blk 31 w.heap.size #[.int .i64 k.k, .int .i64 k.p, .int .i64 k.q, .string k.s, .int .i64 k.r] (W0.setCell ⟨b, 0, none⟩ (.slice p3 (kR R).length c3))) := Lib.hid ((BKK.out _ hd0).ch hs6 (by have h3 := HBL.out; simp; omega))
      have HX6 : Hid (Blk 31 (w.heap.size + 1) #[.int .i64 x.k, .int .i64 x.p, .int .i64 x.q, .string x.s, .int .i64 x.r] (W0.setCell ⟨b, 0, none⟩ (.slice p3 (kR R).length c3))) := Lib.hid ((BKX.out _ hd0).ch hs6 (by have h3 := HBL.out; simp; omega))
      have HC6 : Hid (Ch [b] w (W0.setCell ⟨b, 0, none⟩ (.slice p3 (kR R).length c3))) := Lib.hid (((HC3.out.trans (Ch.of_below HB.out)).mono (by simp)).trans hs6)
      have HP6 : Hid (∀ y ∈ ob (Value.slice p3 (kR R).length c3), w.heap.size ≤ y) := Lib.hid fun y hy => Nat.le_trans HC3.out.size (own_lo HV2.out hy).1
      have HRB6 : Hid (∀ y ∈ ob (Value.slice p3 (kR R).length c3), y ≠ b) := Lib.hid (ob_blk HM6.out.row HM6.out.blk (by decide))
      clear hs6 hd0
      go_upto_region 24 with fail
      clear d0 f0 hbw
      generalize (W0.setCell ⟨b, 0, none⟩ (.slice p3 (kR R).length c3)) = w6 at *
      have y6_0 : w6.cell? ⟨w.heap.size, 0, none⟩ = some (.int .i64 k.k) := HK6.out.cell 0; have y6_1 : w6.cell? ⟨w.heap.size, 1, none⟩ = some (.int .i64 k.p) := HK6.out.cell 1; have y6_2 : w6.cell? ⟨w.heap.size, 2, none⟩ = some (.int .i64 k.q) := HK6.out.cell 2; have y6_3 : w6.cell? ⟨w.heap.size, 3, none⟩ = some (.string k.s) := HK6.out.cell 3; have y6_4 : w6.cell? ⟨w.heap.size, 4, none⟩ = some (.int .i64 k.r) := HK6.out.cell 4; have z6_0 : w6.cell? ⟨w.heap.size + 1, 0, none⟩ = some (.int .i64 x.k) := HX6.out.cell 0; have z6_1 : w6.cell? ⟨w.heap.size + 1, 1, none⟩ = some (.int .i64 x.p) := HX6.out.cell 1; have z6_2 : w6.cell? ⟨w.heap.size + 1, 2, none⟩ = some (.int .i64 x.q) := HX6.out.cell 2; have z6_3 : w6.cell? ⟨w.heap.size + 1, 3, none⟩ = some (.string x.s) := HX6.out.cell 3; have z6_4 : w6.cell? ⟨w.heap.size + 1, 4, none⟩ = some (.int .i64 x.r) := HX6.out.cell 4
      have z6 : w6.cell? ⟨b, 0, none⟩ = some (.slice p3 (kR R).length c3) := HM6.out.blk.cell 0
      have hb6 := HM6.out.blk.lt
      have hk6 := HK6.out.lt
      have hx6 := HX6.out.lt
      have HB6 : Hid (B ≤ w6.heap.size) := Lib.hid (Nat.le_trans HBW.out HC6.out.size)
      clear q1_0 q1_1 q1_2 q1_3 q1_4 u1 r1_0 r1_1 r1_2 r1_3 r1_4 t1 q2_0 q2_1 q2_2 q2_3 q2_4 u2 r2_0 r2_1 r2_2 r2_3 r2_4 t2
      go_region_law (refine step_append_lies _ (by rfl) _ _ 58 (by rfl) B 69 i0 (.agg #[.int .i64 0, .int .i64 0, .int .i64 0, .string ⟨#[]⟩, .int .i64 0, .int .i64 0, .int .i64 0, .int .i64 0, .string ⟨#[]⟩, .int .i64 0, .bool false]) 11 104 Try.underlying58 hi0 jz0 jz1 jz2 rfl (by decide) _ (kR R).length ((kR R).flatMap rsC) (by rfl) (Ch.ownB (by first | exact ((Ch.refl [] w6).drew).alloc _ | exact ((Ch.refl [] w6).alloc _).drew) HM6.out.row (by simp)) ⟨w6.heap.size, 0, none⟩ 1 1 (rsC ⟨k, x, false⟩) (by rfl) (by rfl) (by first | exact rsC_at ⟨k, x, false⟩ w6.drew _ rfl | exact rsC_at ⟨k, x, false⟩ w6 _ rfl) (rsC_one _) (by decide) (by unfold maxLen; have := HLL.out; have := HKL.out; omega) (by have := HLL.out; have := HKL.out; omega) (by have := HB6.out; simp; omega) _ (by rfl) ?_; intro g1 cp w5 hown1 hgrow hat hlt1; have h35 : Ch (ob (.slice p3 (kR R).length c3)) w6 w5 := Ch.trans (by first | exact ((Ch.refl _ w6).drew).alloc _ | exact ((Ch.refl _ w6).alloc _).drew) (Ch.of_grown hgrow (fun y e => mem_ob.2 e)); have H35 := Lib.hid h35; have HO1 := Lib.hid hown1; have HAT := Lib.hid hat; have hbk5 := HM6.out.blk.ch h35 (fun hy => HRB6.out _ hy rfl); have HBK5 := Lib.hid hbk5; have u0 : w5.cell? ⟨b, 0, none⟩ = some (.slice p3 (kR R).length c3) := hbk5.cell 0; have v0 := hbk5.fz 0; have hb5 := hbk5.lt; clear h35 hown1 hgrow hat hbk5)
      all_goals (
        have hgb : g1 ≠ b := ob_blk HO1.out HBK5.out (by decide) g1 (mem_ob.2 rfl)
        have hs : Ch [b] w5 (w5.setCell ⟨b, 0, none⟩ (.slice (some ⟨g1, 0, none⟩) ((kR R).length + 1) cp)) := (Ch.refl [b] w5).set b 0 _ (.inl (by simp))
        have HX : Hid (RSaid B b (.slice (some ⟨g, 0, none⟩) R.length cap) R k x w (.returned (.int .i64 0)) (w5.setCell ⟨b, 0, none⟩ (.slice (some ⟨g1, 0, none⟩) ((kR R).length + 1) cp))) := Lib.hid ⟨by rw [HZ.out], ⟨.slice (some ⟨g1, 0, none⟩) ((kR R).length + 1) cp, by
            rw [HS.out]
            refine ⟨HBK5.out.set 0 _, HLO.out, ?_⟩
            have := hs.ownB HO1.out (fun y hy => by simp [Go.Proofs.Ythgkbjiclghfkaa.ob, Value.ownBlock] at hy; subst hy; simpa using hgb)
            simpa using this, fun y hy => by
            simp only [rmS, List.mem_cons] at hy
            rcases hy with rfl | hy
            · exact .inl (by simp [rmS])
            · right
              rcases HAT.out with h' | h'
              · exact HP6.out y (by rw [mem_ob] at hy ⊢; rw [h']; simpa [Value.ownBlock] using hy)
              · simp [Go.Proofs.Ythgkbjiclghfkaa.ob, Value.ownBlock] at hy; subst hy; rw [h']; simp; have := HC6.out.size; omega⟩, (HC6.out.fresh HP6.out H35.out).mono (by simp [rmS]) |>.trans (hs.mono (by simp [rmS]))⟩
        go_wp2
        go_ret
        exact HX.out)
set_option maxHeartbeats 16000000 in
theorem rset_j1 (B b : Nat) (v : Value) (R : List Rs) (k x : V5) (w : World) (h : RM B b v R w) (hL : R.length ≤ 1000000) (hBw : B ≤ w.heap.size) (hk : k.k ≠ 0) (hv : okV k = true) (hx : okV x = true) (hx0 : x.k ≠ 0) (hd : lenR R + 8 < R.length - lenR R) (i : Nat) (hi : i < R.length) (hf : fnd R k = some i) (hgn : R[i].gone = true) :
    Calls Try.prog 25 #[.pointer (some ⟨b, 0, none⟩), .agg #[.int .i64 k.k, .int .i64 k.p, .int .i64 k.q, .string k.s, .int .i64 k.r], .agg #[.int .i64 x.k, .int .i64 x.p, .int .i64 x.q, .string x.s, .int .i64 x.r]] w fun e w' => RSaid B b v R k x w e w' := by
  have HC0 : Hid (Ch [] w ((w.alloc (.cells #[.int .i64 k.k, .int .i64 k.p, .int .i64 k.q, .string k.s, .int .i64 k.r] 31)).alloc (.cells #[.int .i64 x.k, .int .i64 x.p, .int .i64 x.q, .string x.s, .int .i64 x.r] 31))) := Lib.hid (((Ch.refl [] w).alloc _).alloc _)
  have BKK : Hid (∀ W, Ch [] ((w.alloc (.cells #[.int .i64 k.k, .int .i64 k.p, .int .i64 k.q, .string k.s, .int .i64 k.r] 31)).alloc (.cells #[.int .i64 x.k, .int .i64 x.p, .int .i64 x.q, .string x.s, .int .i64 x.r] 31)) W → Blk 31 w.heap.size #[.int .i64 k.k, .int .i64 k.p, .int .i64 k.q, .string k.s, .int .i64 k.r] W) := Lib.hid fun W hc => ((Blk.new w 31 _ _ rfl).ch ((Ch.refl [] _).alloc _) (by simp)).ch hc (by simp)
  have BKX : Hid (∀ W, Ch [] ((w.alloc (.cells #[.int .i64 k.k, .int .i64 k.p, .int .i64 k.q, .string k.s, .int .i64 k.r] 31)).alloc (.cells #[.int .i64 x.k, .int .i64 x.p, .int .i64 x.q, .string x.s, .int .i64 x.r] 31)) W → Blk 31 (w.heap.size + 1) #[.int .i64 x.k, .int .i64 x.p, .int .i64 x.q, .string x.s, .int .i64 x.r] W) := Lib.hid fun W hc => (Blk.new (w.alloc (.cells #[.int .i64 k.k, .int .i64 k.p, .int .i64 k.q, .string k.s, .int .i64 k.r] 31)) 31 _ _ (by simp)).ch hc (by simp)
  have Q1 : Hid (∀ w, Calls Try.prog 22 #[.agg #[.int .i64 k.k, .int .i64 k.p, .int .i64 k.q, .string k.s, .int .i64 k.r]] w fun e w' => e = .returned (.bool true) ∧ Below w.heap.size w w') := Lib.hid fun w => by rw [← hv]; exact rvalid5 k.k k.p k.q k.s k.r w
  have Q2 : Hid (∀ w, Calls Try.prog 22 #[.agg #[.int .i64 x.k, .int .i64 x.p, .int .i64 x.q, .string x.s, .int .i64 x.r]] w fun e w' => e = .returned (.bool true) ∧ Below w.heap.size w w') := Lib.hid fun w => by rw [← hx]; exact rvalid5 x.k x.p x.q x.s x.r w
  have QF : Hid (∀ W, Ch [] w W → Calls Try.prog 35 #[.pointer (some ⟨b, 0, none⟩), .agg #[.int .i64 k.k, .int .i64 k.p, .int .i64 k.q, .string k.s, .int .i64 k.r]] W fun e w' => e = .returned (.int .i64 ((i : Int))) ∧ Below W.heap.size W w') := Lib.hid fun W hc => by
    have := rfind_any B b v R k W (h.ch hc (by simp)) hL
    rw [hf] at this
    exact this
  obtain ⟨i0, hi0, jz0, jz1, jz2⟩ := info_parts info_rs
  have hz := errR_ok hk hv hx
  have HZ := Lib.hid hz
  have HS : Hid (setR R k x = kR R ++ [⟨k, x, false⟩]) := Lib.hid (by unfold setR; rw [if_neg (by simpa using hz), hf]; simp [hx0, insR, hd, kR, List.getElem?_eq_getElem hi, hgn])
  obtain ⟨p, cap, rfl, hp⟩ := h.form
  obtain ⟨g, rfl⟩ := hp (by omega)
  have hi2 : (i : Int) < (R.length : Int) := by omega
  have hi4 : (0 : Int) ≤ (i : Int) := by omega
  have HGN : Hid (∀ W, RM B b (.slice (some ⟨g, 0, none⟩) R.length cap) R W → W.cell? ⟨g, i * 11 + 10, none⟩ = some (.bool true) ∧ g < W.heap.size) := Lib.hid fun W hm => ⟨(hm.cellAt i 10 hi (by omega)).trans (show some (Value.bool R[i].gone) = some (Value.bool true) from congrArg (fun x => some (Value.bool x)) hgn), (hm.lt g (by simp [rmS, Go.Proofs.Ythgkbjiclghfkaa.ob, Value.ownBlock])).2⟩
  have HLL := Lib.hid hL
  have HBW := Lib.hid hBw
  have HLO := Lib.hid h.lo
  have HBL := Lib.hid h.blk.lt
  have HRR : Hid (∀ W, Ch [] w W → RM B b (.slice (some ⟨g, 0, none⟩) R.length cap) R W) := Lib.hid fun W hc => h.ch hc (by simp)
  have hcl := lenR_le R
  have hd1 : IntKind.i64.wrap ((R.length : Int) - (lenR R : Int)) = (R.length : Int) - (lenR R : Int) := IntWalk.i64_in _ (by omega)
  have hd2 : IntKind.i64.wrap ((lenR R : Int) + 8) = (lenR R : Int) + 8 := IntWalk.i64_in _ (by omega)
  have hd3 : (lenR R : Int) + 8 < (R.length : Int) - (lenR R : Int) := by omega
  have e0 : (k.k == 0) = false := by rw [beq_eq_false_iff_ne]; exact hk
  have e2 : (x.k == 0) = false := by rw [beq_eq_false_iff_ne]; exact hx0
  clear h hBw hk hv hx hx0 hz hp hf hgn hcl hd
  go_enter Try.func25, Try.ntmps25
  go_wp2_with (first | (go_at_call 22; (with_reducible refine (Q1.out _).mono ?_); rintro e w1 ⟨rfl, hb1⟩; have HD1 : Hid (Ch [] ((w.alloc (.cells #[.int .i64 k.k, .int .i64 k.p, .int .i64 k.q, .string k.s, .int .i64 k.r] 31)).alloc (.cells #[.int .i64 x.k, .int .i64 x.p, .int .i64 x.q, .string x.s, .int .i64 x.r] 31)) w1) := Lib.hid ((Ch.refl [] _).trans (Ch.of_below hb1)); clear hb1; have q1_0 : w1.cell? ⟨w.heap.size, 0, none⟩ = some (.int .i64 k.k) := (BKK.out _ HD1.out).cell 0; have q1_1 : w1.cell? ⟨w.heap.size, 1, none⟩ = some (.int .i64 k.p) := (BKK.out _ HD1.out).cell 1; have q1_2 : w1.cell? ⟨w.heap.size, 2, none⟩ = some (.int .i64 k.q) := (BKK.out _ HD1.out).cell 2; have q1_3 : w1.cell? ⟨w.heap.size, 3, none⟩ = some (.string k.s) := (BKK.out _ HD1.out).cell 3; have q1_4 : w1.cell? ⟨w.heap.size, 4, none⟩ = some (.int .i64 k.r) := (BKK.out _ HD1.out).cell 4; have u1 := (BKK.out _ HD1.out).lt; have r1_0 : w1.cell? ⟨w.heap.size + 1, 0, none⟩ = some (.int .i64 x.k) := (BKX.out _ HD1.out).cell 0; have r1_1 : w1.cell? ⟨w.heap.size + 1, 1, none⟩ = some (.int .i64 x.p) := (BKX.out _ HD1.out).cell 1; have r1_2 : w1.cell? ⟨w.heap.size + 1, 2, none⟩ = some (.int .i64 x.q) := (BKX.out _ HD1.out).cell 2; have r1_3 : w1.cell? ⟨w.heap.size + 1, 3, none⟩ = some (.string x.s) := (BKX.out _ HD1.out).cell 3; have r1_4 : w1.cell? ⟨w.heap.size + 1, 4, none⟩ = some (.int .i64 x.r) := (BKX.out _ HD1.out).cell 4; have t1 := (BKX.out _ HD1.out).lt) | (go_at_call 22; (with_reducible refine (Q2.out _).mono ?_); rintro e w2 ⟨rfl, hb2⟩; have HD2 : Hid (Ch [] ((w.alloc (.cells #[.int .i64 k.k, .int .i64 k.p, .int .i64 k.q, .string k.s, .int .i64 k.r] 31)).alloc (.cells #[.int .i64 x.k, .int .i64 x.p, .int .i64 x.q, .string x.s, .int .i64 x.r] 31)) w2) := Lib.hid (HD1.out.trans (Ch.of_below hb2)); clear hb2; have q2_0 : w2.cell? ⟨w.heap.size, 0, none⟩ = some (.int .i64 k.k) := (BKK.out _ HD2.out).cell 0; have q2_1 : w2.cell? ⟨w.heap.size, 1, none⟩ = some (.int .i64 k.p) := (BKK.out _ HD2.out).cell 1; have q2_2 : w2.cell? ⟨w.heap.size, 2, none⟩ = some (.int .i64 k.q) := (BKK.out _ HD2.out).cell 2; have q2_3 : w2.cell? ⟨w.heap.size, 3, none⟩ = some (.string k.s) := (BKK.out _ HD2.out).cell 3; have q2_4 : w2.cell? ⟨w.heap.size, 4, none⟩ = some (.int .i64 k.r) := (BKK.out _ HD2.out).cell 4; have u2 := (BKK.out _ HD2.out).lt; have r2_0 : w2.cell? ⟨w.heap.size + 1, 0, none⟩ = some (.int .i64 x.k) := (BKX.out _ HD2.out).cell 0; have r2_1 : w2.cell? ⟨w.heap.size + 1, 1, none⟩ = some (.int .i64 x.p) := (BKX.out _ HD2.out).cell 1; have r2_2 : w2.cell? ⟨w.heap.size + 1, 2, none⟩ = some (.int .i64 x.q) := (BKX.out _ HD2.out).cell 2; have r2_3 : w2.cell? ⟨w.heap.size + 1, 3, none⟩ = some (.string x.s) := (BKX.out _ HD2.out).cell 3; have r2_4 : w2.cell? ⟨w.heap.size + 1, 4, none⟩ = some (.int .i64 x.r) := (BKX.out _ HD2.out).cell 4; have t2 := (BKX.out _ HD2.out).lt) | (go_at_call 35; (with_reducible refine (QF.out _ (HC0.out.trans HD2.out)).mono ?_); rintro e w3 ⟨rfl, hb3⟩; have HD3 : Hid (Ch [] ((w.alloc (.cells #[.int .i64 k.k, .int .i64 k.p, .int .i64 k.q, .string k.s, .int .i64 k.r] 31)).alloc (.cells #[.int .i64 x.k, .int .i64 x.p, .int .i64 x.q, .string x.s, .int .i64 x.r] 31)) w3) := Lib.hid (HD2.out.trans (Ch.of_below hb3)); clear hb3; have q3_0 : w3.cell? ⟨w.heap.size, 0, none⟩ = some (.int .i64 k.k) := (BKK.out _ HD3.out).cell 0; have q3_1 : w3.cell? ⟨w.heap.size, 1, none⟩ = some (.int .i64 k.p) := (BKK.out _ HD3.out).cell 1; have q3_2 : w3.cell? ⟨w.heap.size, 2, none⟩ = some (.int .i64 k.q) := (BKK.out _ HD3.out).cell 2; have q3_3 : w3.cell? ⟨w.heap.size, 3, none⟩ = some (.string k.s) := (BKK.out _ HD3.out).cell 3; have q3_4 : w3.cell? ⟨w.heap.size, 4, none⟩ = some (.int .i64 k.r) := (BKK.out _ HD3.out).cell 4; have u3 := (BKK.out _ HD3.out).lt; have r3_0 : w3.cell? ⟨w.heap.size + 1, 0, none⟩ = some (.int .i64 x.k) := (BKX.out _ HD3.out).cell 0; have r3_1 : w3.cell? ⟨w.heap.size + 1, 1, none⟩ = some (.int .i64 x.p) := (BKX.out _ HD3.out).cell 1; have r3_2 : w3.cell? ⟨w.heap.size + 1, 2, none⟩ = some (.int .i64 x.q) := (BKX.out _ HD3.out).cell 2; have r3_3 : w3.cell? ⟨w.heap.size + 1, 3, none⟩ = some (.string x.s) := (BKX.out _ HD3.out).cell 3; have r3_4 : w3.cell? ⟨w.heap.size + 1, 4, none⟩ = some (.int .i64 x.r) := (BKX.out _ HD3.out).cell 4; have t3 := (BKX.out _ HD3.out).lt; have HR3 := Lib.hid (HRR.out w3 (HC0.out.trans HD3.out)); have c3 : w3.cell? ⟨b, 0, none⟩ = some (.slice (some ⟨g, 0, none⟩) R.length cap) := HR3.out.blk.cell 0; have hb3 := HR3.out.blk.lt; obtain ⟨gc, hgl⟩ := HGN.out w3 HR3.out) | (go_at_call 28; (with_reducible refine (rlen_any B b _ R w3 HR3.out HLL.out).mono ?_); rintro e w4 ⟨rfl, rfl⟩))
  have HB3 : Hid (B ≤ w3.heap.size) := Lib.hid (Nat.le_trans HBW.out (HC0.out.trans HD3.out).size)
  have HC3 : Hid (Ch [] w w3) := Lib.hid (HC0.out.trans HD3.out)
  have HOW : Hid (w3.ownsRow w3.heap.size 69 11 (.slice none 0 0) (kR (R.take 0)).length ((kR (R.take 0)).flatMap rsC)) := Lib.hid (World.ownsRow_nil _ _ _ _)
  clear hd1 hd2 hd3 gc hgl
  go_loopw [9, 10] (fun v9 v10 wr => ∃ (j : Nat) (p3 : Option Addr) (c3 : Nat), j ≤ R.length ∧ v9 = .slice p3 (kR (R.take j)).length c3 ∧ v10 = .int .i64 (j : Int) ∧ Hid (wr.ownsRow w3.heap.size 69 11 (.slice p3 (kR (R.take j)).length c3) (kR (R.take j)).length ((kR (R.take j)).flatMap rsC)) ∧ Hid (Below w3.heap.size w3 wr)) (fun _ v10 _ => R.length - (intOf v10).toNat)
  case atStart => exact ⟨0, none, 0, Nat.zero_le _, rfl, rfl, HOW, Lib.hid (Below.refl _ _)⟩
  case round =>
    obtain ⟨j, p3, c3, hj, rfl, rfl, HV, HB⟩ := hrel
    rename World => W0
    have HM := Lib.hid (HR3.out.below HB.out)
    have d0 : W0.cell? ⟨b, 0, none⟩ = some (.slice (some ⟨g, 0, none⟩) R.length cap) := HM.out.blk.cell 0
    have hbw := HM.out.blk.lt
    by_cases hlt : j < R.length
    · have hlt' : (j : Int) < (R.length : Int) := by omega
      have hi0' : (0 : Int) ≤ (j : Int) := by omega
      have di : IntKind.i64.wrap ((j : Int) + 1) = (j : Int) + 1 := IntWalk.i64_in _ (by omega)
      have hg : g < W0.heap.size := (HM.out.lt g (by simp [rmS, Go.Proofs.Ythgkbjiclghfkaa.ob, Value.ownBlock])).2
      have s0 : W0.cell? ⟨g, j * 11, none⟩ = some (.int .i64 R[j].key.k) := HM.out.cellAt j 0 hlt (by omega)
      have s1 : W0.cell? ⟨g, j * 11 + 1, none⟩ = some (.int .i64 R[j].key.p) := HM.out.cellAt j 1 hlt (by omega)
      have s2 : W0.cell? ⟨g, j * 11 + 2, none⟩ = some (.int .i64 R[j].key.q) := HM.out.cellAt j 2 hlt (by omega)
      have s3 : W0.cell? ⟨g, j * 11 + 3, none⟩ = some (.string R[j].key.s) := HM.out.cellAt j 3 hlt (by omega)
      have s4 : W0.cell? ⟨g, j * 11 + 4, none⟩ = some (.int .i64 R[j].key.r) := HM.out.cellAt j 4 hlt (by omega)
      have s5 : W0.cell? ⟨g, j * 11 + 5, none⟩ = some (.int .i64 R[j].val.k) := HM.out.cellAt j 5 hlt (by omega)
      have s6 : W0.cell? ⟨g, j * 11 + 6, none⟩ = some (.int .i64 R[j].val.p) := HM.out.cellAt j 6 hlt (by omega)
      have s7 : W0.cell? ⟨g, j * 11 + 7, none⟩ = some (.int .i64 R[j].val.q) := HM.out.cellAt j 7 hlt (by omega)
      have s8 : W0.cell? ⟨g, j * 11 + 8, none⟩ = some (.string R[j].val.s) := HM.out.cellAt j 8 hlt (by omega)
      have s9 : W0.cell? ⟨g, j * 11 + 9, none⟩ = some (.int .i64 R[j].val.r) := HM.out.cellAt j 9 hlt (by omega)
      have hst := kR_step hlt
      have hln := kR_len R j
      have hsz := HB.out.size
      cases hgn : R[j].gone with
      | false =>
        have s10 : W0.cell? ⟨g, j * 11 + 10, none⟩ = some (.bool false) := (HM.out.cellAt j 10 hlt (by omega)).trans (show some (Value.bool R[j].gone) = some (Value.bool false) from congrArg (fun x => some (Value.bool x)) hgn)
        rw [hgn, if_neg (by simp)] at hst
        clear hgn
        have HST := Lib.hid hst
        have HLN := Lib.hid hln
        have HH : Hid ((W0.alloc (.cells #[.int .i64 R[j].key.k, .int .i64 R[j].key.p, .int .i64 R[j].key.q, .string R[j].key.s, .int .i64 R[j].key.r, .int .i64 R[j].val.k, .int .i64 R[j].val.p, .int .i64 R[j].val.q, .string R[j].val.s, .int .i64 R[j].val.r, .bool false] 69)).ownsRow w3.heap.size 69 11 (.slice p3 (kR (R.take j)).length c3) (kR (R.take j)).length ((kR (R.take j)).flatMap rsC)) := Lib.hid (((Ch.refl [] W0).alloc _).ownB HV.out (by simp))
        clear hst hln
        clear HV
        generalize hN : (kR (R.take j)).length = N at *
        have HN := Lib.hid hN
        clear hN
        go_wp2_with (at_builtin; refine wpList_append_own_at _ rfl _ _ 58 rfl w3.heap.size 69 i0 (.agg #[.int .i64 0, .int .i64 0, .int .i64 0, .string ⟨#[]⟩, .int .i64 0, .int .i64 0, .int .i64 0, .int .i64 0, .string ⟨#[]⟩, .int .i64 0, .bool false]) 11 104 Try.underlying58 hi0 jz0 jz1 jz2 rfl (by decide) _ _ _ rfl HH.out ⟨W0.heap.size, 0, none⟩ 1 1 (rsC ⟨R[j].key, R[j].val, false⟩) rfl rfl (rsC_at ⟨R[j].key, R[j].val, false⟩ _ _ rfl) (rsC_one _) (by unfold maxLen; have := HLN.out; have := HLL.out; omega) (by have := HLN.out; have := HLL.out; omega) (by simp; omega) ?_)
        intro v5 w5 ho5 hg5 _ _
        obtain ⟨p5, c5, rfl⟩ := ownB_form ho5
        have HB5 : Hid (Below w3.heap.size w3 w5) := Lib.hid ((HB.out.alloc HB.out.size _).grown hg5 (by simp; omega) (fun q e => (own_lo HH.out (mem_ob.2 e)).1))
        have HO5 : Hid (w5.ownsRow w3.heap.size 69 11 (.slice p5 (N + 1) c5) (kR (R.take (j + 1))).length ((kR (R.take (j + 1))).flatMap rsC)) := Lib.hid (by
          rw [HST.out, List.length_append, List.flatMap_append, HN.out]; simpa using ho5)
        clear ho5 hg5
        go_wp2
        go_roundw
        case rel => exact ⟨j + 1, p5, c5, by omega, by rw [HST.out, List.length_append, HN.out]; rfl, by go_num, by have := HO5.out; rw [show N + 1 = (kR (R.take (j + 1))).length from by rw [HST.out, List.length_append, HN.out]; rfl] at this; exact Lib.hid this, HB5⟩
        case measure => simp [intOf]; omega
      | true =>
        have s10 : W0.cell? ⟨g, j * 11 + 10, none⟩ = some (.bool true) := (HM.out.cellAt j 10 hlt (by omega)).trans (show some (Value.bool R[j].gone) = some (Value.bool true) from congrArg (fun x => some (Value.bool x)) hgn)
        rw [hgn, if_pos rfl] at hst
        have HH : Hid (W0.ownsRow w3.heap.size 69 11 (.slice p3 (kR (R.take (j + 1))).length c3) (kR (R.take (j + 1))).length ((kR (R.take (j + 1))).flatMap rsC)) := Lib.hid (by rw [hst]; exact HV.out)
        have HST := Lib.hid hst
        clear hgn hst hln
        go_wp2
        go_roundw
        case rel => exact ⟨j + 1, p3, c3, by omega, by rw [HST.out], by go_num, HH, HB⟩
        case measure => simp [intOf]; omega
    · have hlt' : ¬ (j : Int) < (R.length : Int) := by omega
      have hT : kR (R.take j) = kR R := by rw [show j = R.length by omega, List.take_length]
      have hkn : (kR (R.take j)).length = (kR R).length := by rw [hT]
      have HV2 : Hid (W0.ownsRow w3.heap.size 69 11 (.slice p3 (kR (R.take j)).length c3) (kR R).length ((kR R).flatMap rsC)) := Lib.hid (by have := HV.out; rw [hT] at this ⊢; exact this)
      clear HV hT
      generalize (kR (R.take j)).length = n at *
      obtain rfl := hkn
      have f0 := HM.out.blk.fz 0
      have HKL : Hid ((kR R).length ≤ R.length) := Lib.hid (List.length_filter_le _ _)
      have hs6 : Ch [b] W0 (W0.setCell ⟨b, 0, none⟩ (.slice p3 (kR R).length c3)) := (Ch.refl [b] W0).set b 0 _ (.inl (by simp))
      have HM6 : Hid (RM B b (.slice p3 (kR R).length c3) (kR R) (W0.setCell ⟨b, 0, none⟩ (.slice p3 (kR R).length c3))) := Lib.hid ⟨HM.out.blk.set 0 _, HLO.out, hs6.ownB (own_base HV2.out HB3.out) (fun y hy => by have h1 := (own_lo HV2.out hy).1; have h2 := HC3.out.size; have h3 := HBL.out; simp; omega)⟩
      have hd0 : Ch [] ((w.alloc (.cells #[.int .i64 k.k, .int .i64 k.p, .int .i64 k.q, .string k.s, .int .i64 k.r] 31)).alloc (.cells #[.int .i64 x.k, .int .i64 x.p, .int .i64 x.q, .string x.s, .int .i64 x.r] 31)) W0 := HD3.out.trans (Ch.of_below HB.out)
      have HK6 : Hid (Blk 31 w.heap.size #[.int .i64 k.k, .int .i64 k.p, .int .i64 k.q, .string k.s, .int .i64 k.r] (W0.setCell ⟨b, 0, none⟩ (.slice p3 (kR R).length c3))) := Lib.hid ((BKK.out _ hd0).ch hs6 (by have h3 := HBL.out; simp; omega))
      have HX6 : Hid (Blk 31 (w.heap.size + 1) #[.int .i64 x.k, .int .i64 x.p, .int .i64 x.q, .string x.s, .int .i64 x.r] (W0.setCell ⟨b, 0, none⟩ (.slice p3 (kR R).length c3))) := Lib.hid ((BKX.out _ hd0).ch hs6 (by have h3 := HBL.out; simp; omega))
      have HC6 : Hid (Ch [b] w (W0.setCell ⟨b, 0, none⟩ (.slice p3 (kR R).length c3))) := Lib.hid (((HC3.out.trans (Ch.of_below HB.out)).mono (by simp)).trans hs6)
      have HP6 : Hid (∀ y ∈ ob (Value.slice p3 (kR R).length c3), w.heap.size ≤ y) := Lib.hid fun y hy => Nat.le_trans HC3.out.size (own_lo HV2.out hy).1
      have HRB6 : Hid (∀ y ∈ ob (Value.slice p3 (kR R).length c3), y ≠ b) := Lib.hid (ob_blk HM6.out.row HM6.out.blk (by decide))
      clear hs6 hd0
      go_upto_region 24 with fail
      clear d0 f0 hbw
      generalize (W0.setCell ⟨b, 0, none⟩ (.slice p3 (kR R).length c3)) = w6 at *
      have y6_0 : w6.cell? ⟨w.heap.size, 0, none⟩ = some (.int .i64 k.k) := HK6.out.cell 0; have y6_1 : w6.cell? ⟨w.heap.size, 1, none⟩ = some (.int .i64 k.p) := HK6.out.cell 1; have y6_2 : w6.cell? ⟨w.heap.size, 2, none⟩ = some (.int .i64 k.q) := HK6.out.cell 2; have y6_3 : w6.cell? ⟨w.heap.size, 3, none⟩ = some (.string k.s) := HK6.out.cell 3; have y6_4 : w6.cell? ⟨w.heap.size, 4, none⟩ = some (.int .i64 k.r) := HK6.out.cell 4; have z6_0 : w6.cell? ⟨w.heap.size + 1, 0, none⟩ = some (.int .i64 x.k) := HX6.out.cell 0; have z6_1 : w6.cell? ⟨w.heap.size + 1, 1, none⟩ = some (.int .i64 x.p) := HX6.out.cell 1; have z6_2 : w6.cell? ⟨w.heap.size + 1, 2, none⟩ = some (.int .i64 x.q) := HX6.out.cell 2; have z6_3 : w6.cell? ⟨w.heap.size + 1, 3, none⟩ = some (.string x.s) := HX6.out.cell 3; have z6_4 : w6.cell? ⟨w.heap.size + 1, 4, none⟩ = some (.int .i64 x.r) := HX6.out.cell 4
      have z6 : w6.cell? ⟨b, 0, none⟩ = some (.slice p3 (kR R).length c3) := HM6.out.blk.cell 0
      have hb6 := HM6.out.blk.lt
      have hk6 := HK6.out.lt
      have hx6 := HX6.out.lt
      have HB6 : Hid (B ≤ w6.heap.size) := Lib.hid (Nat.le_trans HBW.out HC6.out.size)
      clear q1_0 q1_1 q1_2 q1_3 q1_4 u1 r1_0 r1_1 r1_2 r1_3 r1_4 t1 q2_0 q2_1 q2_2 q2_3 q2_4 u2 r2_0 r2_1 r2_2 r2_3 r2_4 t2
      go_region_law (refine step_append_lies _ (by rfl) _ _ 58 (by rfl) B 69 i0 (.agg #[.int .i64 0, .int .i64 0, .int .i64 0, .string ⟨#[]⟩, .int .i64 0, .int .i64 0, .int .i64 0, .int .i64 0, .string ⟨#[]⟩, .int .i64 0, .bool false]) 11 104 Try.underlying58 hi0 jz0 jz1 jz2 rfl (by decide) _ (kR R).length ((kR R).flatMap rsC) (by rfl) (Ch.ownB (by first | exact ((Ch.refl [] w6).drew).alloc _ | exact ((Ch.refl [] w6).alloc _).drew) HM6.out.row (by simp)) ⟨w6.heap.size, 0, none⟩ 1 1 (rsC ⟨k, x, false⟩) (by rfl) (by rfl) (by first | exact rsC_at ⟨k, x, false⟩ w6.drew _ rfl | exact rsC_at ⟨k, x, false⟩ w6 _ rfl) (rsC_one _) (by decide) (by unfold maxLen; have := HLL.out; have := HKL.out; omega) (by have := HLL.out; have := HKL.out; omega) (by have := HB6.out; simp; omega) _ (by rfl) ?_; intro g1 cp w5 hown1 hgrow hat hlt1; have h35 : Ch (ob (.slice p3 (kR R).length c3)) w6 w5 := Ch.trans (by first | exact ((Ch.refl _ w6).drew).alloc _ | exact ((Ch.refl _ w6).alloc _).drew) (Ch.of_grown hgrow (fun y e => mem_ob.2 e)); have H35 := Lib.hid h35; have HO1 := Lib.hid hown1; have HAT := Lib.hid hat; have hbk5 := HM6.out.blk.ch h35 (fun hy => HRB6.out _ hy rfl); have HBK5 := Lib.hid hbk5; have u0 : w5.cell? ⟨b, 0, none⟩ = some (.slice p3 (kR R).length c3) := hbk5.cell 0; have v0 := hbk5.fz 0; have hb5 := hbk5.lt; clear h35 hown1 hgrow hat hbk5)
      all_goals (
        have hgb : g1 ≠ b := ob_blk HO1.out HBK5.out (by decide) g1 (mem_ob.2 rfl)
        have hs : Ch [b] w5 (w5.setCell ⟨b, 0, none⟩ (.slice (some ⟨g1, 0, none⟩) ((kR R).length + 1) cp)) := (Ch.refl [b] w5).set b 0 _ (.inl (by simp))
        have HX : Hid (RSaid B b (.slice (some ⟨g, 0, none⟩) R.length cap) R k x w (.returned (.int .i64 0)) (w5.setCell ⟨b, 0, none⟩ (.slice (some ⟨g1, 0, none⟩) ((kR R).length + 1) cp))) := Lib.hid ⟨by rw [HZ.out], ⟨.slice (some ⟨g1, 0, none⟩) ((kR R).length + 1) cp, by
            rw [HS.out]
            refine ⟨HBK5.out.set 0 _, HLO.out, ?_⟩
            have := hs.ownB HO1.out (fun y hy => by simp [Go.Proofs.Ythgkbjiclghfkaa.ob, Value.ownBlock] at hy; subst hy; simpa using hgb)
            simpa using this, fun y hy => by
            simp only [rmS, List.mem_cons] at hy
            rcases hy with rfl | hy
            · exact .inl (by simp [rmS])
            · right
              rcases HAT.out with h' | h'
              · exact HP6.out y (by rw [mem_ob] at hy ⊢; rw [h']; simpa [Value.ownBlock] using hy)
              · simp [Go.Proofs.Ythgkbjiclghfkaa.ob, Value.ownBlock] at hy; subst hy; rw [h']; simp; have := HC6.out.size; omega⟩, (HC6.out.fresh HP6.out H35.out).mono (by simp [rmS]) |>.trans (hs.mono (by simp [rmS]))⟩
        go_wp2
        go_ret
        exact HX.out)
end Go.Proofs.Ythgkbjiclghfkaa
