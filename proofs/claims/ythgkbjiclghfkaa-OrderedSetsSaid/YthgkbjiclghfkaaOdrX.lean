/- Layer 12: the reference's Set: values replaced and keys removed. -/
import Derived.Test.YthgkbjiclghfkaaOdrW
import Derived.Deep.RegionHeld3
namespace Go.Proofs.Ythgkbjiclghfkaa
open Go.RowKit Go.Joins M1
set_option linter.unusedVariables false
theorem RM.put {B b g cap : Nat} {R : List Rs} {w : World} (h : RM B b (.slice (some ⟨g, 0, none⟩) R.length cap) R w) (i : Nat) (hi : i < R.length) (us : List Value) (j : Nat) (hj : j + us.length ≤ 11) (s' : Rs) (hs : rsC s' = patch (rsC R[i]) j us) :
    RM B b (.slice (some ⟨g, 0, none⟩) R.length cap) (R.set i s') (stL w g (i * 11 + j) us) ∧ Ch [g] w (stL w g (i * 11 + j) us) := by
  have hgb : g ≠ b := ob_blk h.row h.blk (by decide) g (mem_ob.2 rfl)
  refine ⟨⟨stL_blk (fun e => hgb e.symm) us _ h.blk, h.lo, ?_⟩, stL_ch (by simp) us _ (Ch.refl _ _)⟩
  have hr := h.row
  rw [← map_flat] at hr
  have := row_store (n := 11) us (C := R.map rsC) (fun c hc => by obtain ⟨s, _, rfl⟩ := List.mem_map.1 hc; rfl) i j (by simpa using hi) hj hr
  rw [List.getElem_map, ← hs, ← List.map_set, map_flat] at this
  simpa using this
theorem RSaid.drew {B b : Nat} {v : Value} {R : List Rs} {k x : V5} {w w' : World} {e : Ending} (h : RSaid B b v R k x w e w') : RSaid B b v R k x w e w'.drew := by
  obtain ⟨h1, ⟨v', h2, h3⟩, h4⟩ := h
  exact ⟨h1, ⟨v', h2.ch ((Ch.refl [] _).drew) (by simp), h3⟩, h4.drew⟩
set_option maxHeartbeats 8000000 in
theorem rset_v (B b : Nat) (v : Value) (R : List Rs) (k x : V5) (w : World) (h : RM B b v R w) (hL : R.length ≤ 1000000) (hBw : B ≤ w.heap.size) (hk : k.k ≠ 0) (hv : okV k = true) (hx : okV x = true) (hx0 : x.k ≠ 0) (i : Nat) (hi : i < R.length) (hf : fnd R k = some i) (hgn : R[i].gone = false) :
    Calls Try.prog 25 #[.pointer (some ⟨b, 0, none⟩), .agg #[.int .i64 k.k, .int .i64 k.p, .int .i64 k.q, .string k.s, .int .i64 k.r], .agg #[.int .i64 x.k, .int .i64 x.p, .int .i64 x.q, .string x.s, .int .i64 x.r]] w fun e w' => RSaid B b v R k x w e w' := by
  have HC0 : Hid (Ch [] w ((w.alloc (.cells #[.int .i64 k.k, .int .i64 k.p, .int .i64 k.q, .string k.s, .int .i64 k.r] 31)).alloc (.cells #[.int .i64 x.k, .int .i64 x.p, .int .i64 x.q, .string x.s, .int .i64 x.r] 31))) := Lib.hid (((Ch.refl [] w).alloc _).alloc _)
  have BKK : Hid (∀ W, Ch [] ((w.alloc (.cells #[.int .i64 k.k, .int .i64 k.p, .int .i64 k.q, .string k.s, .int .i64 k.r] 31)).alloc (.cells #[.int .i64 x.k, .int .i64 x.p, .int .i64 x.q, .string x.s, .int .i64 x.r] 31)) W → Blk 31 w.heap.size #[.int .i64 k.k, .int .i64 k.p, .int .i64 k.q, .string k.s, .int .i64 k.r] W) := Lib.hid fun W hc => ((Blk.new w 31 _ _ rfl).ch ((Ch.refl [] _).alloc _) (by simp)).ch hc (by simp)
  have BKX : Hid (∀ W, Ch [] ((w.alloc (.cells #[.int .i64 k.k, .int .i64 k.p, .int .i64 k.q, .string k.s, .int .i64 k.r] 31)).alloc (.cells #[.int .i64 x.k, .int .i64 x.p, .int .i64 x.q, .string x.s, .int .i64 x.r] 31)) W → Blk 31 (w.heap.size + 1) #[.int .i64 x.k, .int .i64 x.p, .int .i64 x.q, .string x.s, .int .i64 x.r] W) := Lib.hid fun W hc => (Blk.new (w.alloc (.cells #[.int .i64 k.k, .int .i64 k.p, .int .i64 k.q, .string k.s, .int .i64 k.r] 31)) 31 _ _ (by simp)).ch hc (by simp)
  have Q1 : Hid (∀ w, Calls Try.prog 22 #[.agg #[.int .i64 k.k, .int .i64 k.p, .int .i64 k.q, .string k.s, .int .i64 k.r]] w fun e w' => e = .returned (.bool true) ∧ Below w.heap.size w w') := Lib.hid fun w => by rw [← hv]; exact rvalid5 k.k k.p k.q k.s k.r w
  have Q2 : Hid (∀ w, Calls Try.prog 22 #[.agg #[.int .i64 x.k, .int .i64 x.p, .int .i64 x.q, .string x.s, .int .i64 x.r]] w fun e w' => e = .returned (.bool true) ∧ Below w.heap.size w w') := Lib.hid fun w => by rw [← hx]; exact rvalid5 x.k x.p x.q x.s x.r w
  have QF : Hid (∀ W, Ch [] w W → Calls Try.prog 35 #[.pointer (some ⟨b, 0, none⟩), .agg #[.int .i64 k.k, .int .i64 k.p, .int .i64 k.q, .string k.s, .int .i64 k.r]] W fun e w' => e = .returned (.int .i64 ((i : Int))) ∧ Below W.heap.size W w') := Lib.hid fun W hc => by
    have := rfind_any B b v R k W (h.ch hc (by simp)) hL
    rw [hf] at this
    exact this
  obtain ⟨i0, hi0, jz0, jz1, jz2⟩ := info_parts info_rs
  obtain ⟨_, hkk⟩ := fnd_lt hf
  have hz := errR_ok hk hv hx
  have HZ := Lib.hid hz
  obtain ⟨p, cap, rfl, hp⟩ := h.form
  obtain ⟨g, rfl⟩ := hp (by omega)
  have hi2 : (i : Int) < (R.length : Int) := by omega
  have hi4 : (0 : Int) ≤ (i : Int) := by omega
  have hi5 : ((i : Int) ≥ 0) = True := by simp
  have HL := Lib.hid hL
  have e0 : (k.k == 0) = false := by rw [beq_eq_false_iff_ne]; exact hk
  have e2 : (x.k == 0) = false := by rw [beq_eq_false_iff_ne]; exact hx0
  have HR : Hid (setR R k x = R.set i ⟨k, x, false⟩) := Lib.hid (by unfold setR; rw [if_neg (by simpa using hz), hf]; simp [hx0, hgn, List.getElem?_eq_getElem hi])
  have HX : Hid (∀ W, Ch [] w W → RSaid B b (.slice (some ⟨g, 0, none⟩) R.length cap) R k x w (.returned (.int .i64 0)) (stL W g (i * 11 + 5) [.int .i64 x.k, .int .i64 x.p, .int .i64 x.q, .string x.s, .int .i64 x.r])) := Lib.hid fun W hc => by
    obtain ⟨q1, q4⟩ := (h.ch hc (by simp)).put i hi [.int .i64 x.k, .int .i64 x.p, .int .i64 x.q, .string x.s, .int .i64 x.r] 5 (by simp) ⟨k, x, false⟩ (by simp [rsC, patch, hkk, hgn])
    exact ⟨by rw [HZ.out], ⟨_, by rw [HR.out]; exact q1, fun y hy => .inl hy⟩, (hc.mono (by simp)).trans (q4.mono (by simp [rmS, Go.Proofs.Ythgkbjiclghfkaa.ob, Value.ownBlock]))⟩
  have HFZ : Hid (∀ W, Ch [] w W → W.cell? ⟨b, 0, none⟩ = some (.slice (some ⟨g, 0, none⟩) R.length cap) ∧ b < W.heap.size ∧ g < W.heap.size ∧ (∀ j, W.frozen? ⟨g, j, none⟩ = false) ∧ W.cell? ⟨g, i * 11 + 5, none⟩ = some (.int .i64 R[i].val.k) ∧ W.cell? ⟨g, i * 11 + 6, none⟩ = some (.int .i64 R[i].val.p) ∧ W.cell? ⟨g, i * 11 + 7, none⟩ = some (.int .i64 R[i].val.q) ∧ W.cell? ⟨g, i * 11 + 8, none⟩ = some (.string R[i].val.s) ∧ W.cell? ⟨g, i * 11 + 9, none⟩ = some (.int .i64 R[i].val.r) ∧ W.cell? ⟨g, i * 11 + 10, none⟩ = some (.bool R[i].gone)) := Lib.hid fun W hc => by
    have ho := h.ch hc (by simp)
    exact ⟨ho.blk.cell 0, ho.blk.lt, (own_lo ho.row (mem_ob.2 rfl)).2, fun j => ho.row.frozenAt j, ho.cellAt i 5 hi (by omega), ho.cellAt i 6 hi (by omega), ho.cellAt i 7 hi (by omega), ho.cellAt i 8 hi (by omega), ho.cellAt i 9 hi (by omega), ho.cellAt i 10 hi (by omega)⟩
  have HG : Hid (R[i].gone = false) := Lib.hid hgn
  clear h hL hBw hk hv hx hx0 hz hf hp hkk hgn
  go_enter Try.func25, Try.ntmps25
  go_upto_region 13 with (first | (go_at_call 22; (with_reducible refine (Q1.out _).mono ?_); rintro e w1 ⟨rfl, hb1⟩; have HD1 : Hid (Ch [] ((w.alloc (.cells #[.int .i64 k.k, .int .i64 k.p, .int .i64 k.q, .string k.s, .int .i64 k.r] 31)).alloc (.cells #[.int .i64 x.k, .int .i64 x.p, .int .i64 x.q, .string x.s, .int .i64 x.r] 31)) w1) := Lib.hid ((Ch.refl [] _).trans (Ch.of_below hb1)); clear hb1; have q1_0 : w1.cell? ⟨w.heap.size, 0, none⟩ = some (.int .i64 k.k) := (BKK.out _ HD1.out).cell 0; have q1_1 : w1.cell? ⟨w.heap.size, 1, none⟩ = some (.int .i64 k.p) := (BKK.out _ HD1.out).cell 1; have q1_2 : w1.cell? ⟨w.heap.size, 2, none⟩ = some (.int .i64 k.q) := (BKK.out _ HD1.out).cell 2; have q1_3 : w1.cell? ⟨w.heap.size, 3, none⟩ = some (.string k.s) := (BKK.out _ HD1.out).cell 3; have q1_4 : w1.cell? ⟨w.heap.size, 4, none⟩ = some (.int .i64 k.r) := (BKK.out _ HD1.out).cell 4; have u1 := (BKK.out _ HD1.out).lt; have r1_0 : w1.cell? ⟨w.heap.size + 1, 0, none⟩ = some (.int .i64 x.k) := (BKX.out _ HD1.out).cell 0; have r1_1 : w1.cell? ⟨w.heap.size + 1, 1, none⟩ = some (.int .i64 x.p) := (BKX.out _ HD1.out).cell 1; have r1_2 : w1.cell? ⟨w.heap.size + 1, 2, none⟩ = some (.int .i64 x.q) := (BKX.out _ HD1.out).cell 2; have r1_3 : w1.cell? ⟨w.heap.size + 1, 3, none⟩ = some (.string x.s) := (BKX.out _ HD1.out).cell 3; have r1_4 : w1.cell? ⟨w.heap.size + 1, 4, none⟩ = some (.int .i64 x.r) := (BKX.out _ HD1.out).cell 4; have t1 := (BKX.out _ HD1.out).lt) | (go_at_call 22; (with_reducible refine (Q2.out _).mono ?_); rintro e w2 ⟨rfl, hb2⟩; have HD2 : Hid (Ch [] ((w.alloc (.cells #[.int .i64 k.k, .int .i64 k.p, .int .i64 k.q, .string k.s, .int .i64 k.r] 31)).alloc (.cells #[.int .i64 x.k, .int .i64 x.p, .int .i64 x.q, .string x.s, .int .i64 x.r] 31)) w2) := Lib.hid (HD1.out.trans (Ch.of_below hb2)); clear hb2; have q2_0 : w2.cell? ⟨w.heap.size, 0, none⟩ = some (.int .i64 k.k) := (BKK.out _ HD2.out).cell 0; have q2_1 : w2.cell? ⟨w.heap.size, 1, none⟩ = some (.int .i64 k.p) := (BKK.out _ HD2.out).cell 1; have q2_2 : w2.cell? ⟨w.heap.size, 2, none⟩ = some (.int .i64 k.q) := (BKK.out _ HD2.out).cell 2; have q2_3 : w2.cell? ⟨w.heap.size, 3, none⟩ = some (.string k.s) := (BKK.out _ HD2.out).cell 3; have q2_4 : w2.cell? ⟨w.heap.size, 4, none⟩ = some (.int .i64 k.r) := (BKK.out _ HD2.out).cell 4; have u2 := (BKK.out _ HD2.out).lt; have r2_0 : w2.cell? ⟨w.heap.size + 1, 0, none⟩ = some (.int .i64 x.k) := (BKX.out _ HD2.out).cell 0; have r2_1 : w2.cell? ⟨w.heap.size + 1, 1, none⟩ = some (.int .i64 x.p) := (BKX.out _ HD2.out).cell 1; have r2_2 : w2.cell? ⟨w.heap.size + 1, 2, none⟩ = some (.int .i64 x.q) := (BKX.out _ HD2.out).cell 2; have r2_3 : w2.cell? ⟨w.heap.size + 1, 3, none⟩ = some (.string x.s) := (BKX.out _ HD2.out).cell 3; have r2_4 : w2.cell? ⟨w.heap.size + 1, 4, none⟩ = some (.int .i64 x.r) := (BKX.out _ HD2.out).cell 4; have t2 := (BKX.out _ HD2.out).lt) | (go_at_call 35; (with_reducible refine (QF.out _ (HC0.out.trans HD2.out)).mono ?_); rintro e w3 ⟨rfl, hb3⟩; have HD3 : Hid (Ch [] ((w.alloc (.cells #[.int .i64 k.k, .int .i64 k.p, .int .i64 k.q, .string k.s, .int .i64 k.r] 31)).alloc (.cells #[.int .i64 x.k, .int .i64 x.p, .int .i64 x.q, .string x.s, .int .i64 x.r] 31)) w3) := Lib.hid (HD2.out.trans (Ch.of_below hb3)); clear hb3; have q3_0 : w3.cell? ⟨w.heap.size, 0, none⟩ = some (.int .i64 k.k) := (BKK.out _ HD3.out).cell 0; have q3_1 : w3.cell? ⟨w.heap.size, 1, none⟩ = some (.int .i64 k.p) := (BKK.out _ HD3.out).cell 1; have q3_2 : w3.cell? ⟨w.heap.size, 2, none⟩ = some (.int .i64 k.q) := (BKK.out _ HD3.out).cell 2; have q3_3 : w3.cell? ⟨w.heap.size, 3, none⟩ = some (.string k.s) := (BKK.out _ HD3.out).cell 3; have q3_4 : w3.cell? ⟨w.heap.size, 4, none⟩ = some (.int .i64 k.r) := (BKK.out _ HD3.out).cell 4; have u3 := (BKK.out _ HD3.out).lt; have r3_0 : w3.cell? ⟨w.heap.size + 1, 0, none⟩ = some (.int .i64 x.k) := (BKX.out _ HD3.out).cell 0; have r3_1 : w3.cell? ⟨w.heap.size + 1, 1, none⟩ = some (.int .i64 x.p) := (BKX.out _ HD3.out).cell 1; have r3_2 : w3.cell? ⟨w.heap.size + 1, 2, none⟩ = some (.int .i64 x.q) := (BKX.out _ HD3.out).cell 2; have r3_3 : w3.cell? ⟨w.heap.size + 1, 3, none⟩ = some (.string x.s) := (BKX.out _ HD3.out).cell 3; have r3_4 : w3.cell? ⟨w.heap.size + 1, 4, none⟩ = some (.int .i64 x.r) := (BKX.out _ HD3.out).cell 4; have t3 := (BKX.out _ HD3.out).lt; obtain ⟨z0, z1, z2, z3, z5, z6, z7, z8, z9, z10⟩ := HFZ.out w3 (HC0.out.trans HD3.out); rw [HG.out] at z10))
  go_region
  all_goals (
    go_wp2
    go_ret
    first | exact HX.out _ ((HC0.out.trans HD3.out).drew) | exact (HX.out _ (HC0.out.trans HD3.out)).drew)
end Go.Proofs.Ythgkbjiclghfkaa
