/- Layer 12: the reference's Set: an insertion that drops nothing. -/
import Derived.Test.YthgkbjiclghfkaaOdrW
import Derived.Test.YthgkbjiclghfkaaOdrU
import Derived.Test.YthgkbjiclghfkaaOdrI
import Derived.Deep.AppendLies
import Derived.Carry
namespace Go.Proofs.Ythgkbjiclghfkaa
open Go.RowKit Go.Joins M1
set_option linter.unusedVariables false
def rsA (s : Rs) : Array Value := #[.int .i64 s.key.k, .int .i64 s.key.p, .int .i64 s.key.q, .string s.key.s, .int .i64 s.key.r, .int .i64 s.val.k, .int .i64 s.val.p, .int .i64 s.val.q, .string s.val.s, .int .i64 s.val.r, .bool s.gone]
theorem rsC_at (s : Rs) (W : World) (n : Nat) (hn : n = W.heap.size) : ∀ j u, (rsC s)[j]? = some u → (W.alloc (.cells (rsA s) 69)).cell? ((⟨n, 0, none⟩ : Addr).add j) = some u := by
  subst hn
  intro j u hu
  have ha : (⟨W.heap.size, 0, none⟩ : Addr).add j = ⟨W.heap.size, j, none⟩ := by cases j <;> simp [Addr.add]
  rw [ha, Blk.cell (Blk.new W 69 (rsA s) _ rfl)]
  simpa [rsA, rsC] using hu
theorem rsC_one (s : Rs) : ∀ u ∈ rsC s, u.oneCell' = true := by
  intro u hu
  simp [rsC] at hu
  rcases hu with rfl | rfl | rfl | rfl | rfl | rfl | rfl | rfl | rfl | rfl | rfl <;> rfl
set_option maxHeartbeats 16000000 in
theorem rset_i0 (B b : Nat) (v : Value) (R : List Rs) (k x : V5) (w : World) (h : RM B b v R w) (hL : R.length ≤ 1000000) (hBw : B ≤ w.heap.size) (hk : k.k ≠ 0) (hv : okV k = true) (hx : okV x = true) (hx0 : x.k ≠ 0) (hd : ¬ lenR R + 8 < R.length - lenR R) (hf : fnd R k = none) :
    Calls Try.prog 25 #[.pointer (some ⟨b, 0, none⟩), .agg #[.int .i64 k.k, .int .i64 k.p, .int .i64 k.q, .string k.s, .int .i64 k.r], .agg #[.int .i64 x.k, .int .i64 x.p, .int .i64 x.q, .string x.s, .int .i64 x.r]] w fun e w' => RSaid B b v R k x w e w' := by
  have HC0 : Hid (Ch [] w ((w.alloc (.cells #[.int .i64 k.k, .int .i64 k.p, .int .i64 k.q, .string k.s, .int .i64 k.r] 31)).alloc (.cells #[.int .i64 x.k, .int .i64 x.p, .int .i64 x.q, .string x.s, .int .i64 x.r] 31))) := Lib.hid (((Ch.refl [] w).alloc _).alloc _)
  have BKK : Hid (∀ W, Ch [] ((w.alloc (.cells #[.int .i64 k.k, .int .i64 k.p, .int .i64 k.q, .string k.s, .int .i64 k.r] 31)).alloc (.cells #[.int .i64 x.k, .int .i64 x.p, .int .i64 x.q, .string x.s, .int .i64 x.r] 31)) W → Blk 31 w.heap.size #[.int .i64 k.k, .int .i64 k.p, .int .i64 k.q, .string k.s, .int .i64 k.r] W) := Lib.hid fun W hc => ((Blk.new w 31 _ _ rfl).ch ((Ch.refl [] _).alloc _) (by simp)).ch hc (by simp)
  have BKX : Hid (∀ W, Ch [] ((w.alloc (.cells #[.int .i64 k.k, .int .i64 k.p, .int .i64 k.q, .string k.s, .int .i64 k.r] 31)).alloc (.cells #[.int .i64 x.k, .int .i64 x.p, .int .i64 x.q, .string x.s, .int .i64 x.r] 31)) W → Blk 31 (w.heap.size + 1) #[.int .i64 x.k, .int .i64 x.p, .int .i64 x.q, .string x.s, .int .i64 x.r] W) := Lib.hid fun W hc => (Blk.new (w.alloc (.cells #[.int .i64 k.k, .int .i64 k.p, .int .i64 k.q, .string k.s, .int .i64 k.r] 31)) 31 _ _ (by simp)).ch hc (by simp)
  have Q1 : Hid (∀ w, Calls Try.prog 22 #[.agg #[.int .i64 k.k, .int .i64 k.p, .int .i64 k.q, .string k.s, .int .i64 k.r]] w fun e w' => e = .returned (.bool true) ∧ Below w.heap.size w w') := Lib.hid fun w => by rw [← hv]; exact rvalid5 k.k k.p k.q k.s k.r w
  have Q2 : Hid (∀ w, Calls Try.prog 22 #[.agg #[.int .i64 x.k, .int .i64 x.p, .int .i64 x.q, .string x.s, .int .i64 x.r]] w fun e w' => e = .returned (.bool true) ∧ Below w.heap.size w w') := Lib.hid fun w => by rw [← hx]; exact rvalid5 x.k x.p x.q x.s x.r w
  have QF : Hid (∀ W, Ch [] w W → Calls Try.prog 35 #[.pointer (some ⟨b, 0, none⟩), .agg #[.int .i64 k.k, .int .i64 k.p, .int .i64 k.q, .string k.s, .int .i64 k.r]] W fun e w' => e = .returned (.int .i64 (-1)) ∧ Below W.heap.size W w') := Lib.hid fun W hc => by
    have := rfind_any B b v R k W (h.ch hc (by simp)) hL
    rw [hf] at this
    exact this
  obtain ⟨i0, hi0, jz0, jz1, jz2⟩ := info_parts info_rs
  have hz := errR_ok hk hv hx
  have HZ := Lib.hid hz
  have HS : Hid (setR R k x = R ++ [⟨k, x, false⟩]) := Lib.hid (by unfold setR; rw [if_neg (by simpa using hz), hf]; simp [hx0, insR, hd])
  obtain ⟨p, cap, rfl, hp⟩ := h.form
  have HLL := Lib.hid hL
  have HBW := Lib.hid hBw
  have HLO := Lib.hid h.lo
  have HRB : Hid (∀ y ∈ ob (Value.slice p R.length cap), y ≠ b) := Lib.hid (ob_blk h.row h.blk (by decide))
  have HRR : Hid (∀ W, Ch [] w W → RM B b (.slice p R.length cap) R W) := Lib.hid fun W hc => h.ch hc (by simp)
  have hcl := lenR_le R
  have hd1 : IntKind.i64.wrap ((R.length : Int) - (lenR R : Int)) = (R.length : Int) - (lenR R : Int) := IntWalk.i64_in _ (by omega)
  have hd2 : IntKind.i64.wrap ((lenR R : Int) + 8) = (lenR R : Int) + 8 := IntWalk.i64_in _ (by omega)
  have hd3 : ¬ (lenR R : Int) + 8 < (R.length : Int) - (lenR R : Int) := by omega
  have e0 : (k.k == 0) = false := by rw [beq_eq_false_iff_ne]; exact hk
  have e2 : (x.k == 0) = false := by rw [beq_eq_false_iff_ne]; exact hx0
  clear h hL hBw hk hv hx hx0 hz hp hf hcl hd
  go_enter Try.func25, Try.ntmps25
  go_upto_region 24 with (first | (go_at_call 22; (with_reducible refine (Q1.out _).mono ?_); rintro e w1 ⟨rfl, hb1⟩; have HD1 : Hid (Ch [] ((w.alloc (.cells #[.int .i64 k.k, .int .i64 k.p, .int .i64 k.q, .string k.s, .int .i64 k.r] 31)).alloc (.cells #[.int .i64 x.k, .int .i64 x.p, .int .i64 x.q, .string x.s, .int .i64 x.r] 31)) w1) := Lib.hid ((Ch.refl [] _).trans (Ch.of_below hb1)); clear hb1; have q1_0 : w1.cell? ⟨w.heap.size, 0, none⟩ = some (.int .i64 k.k) := (BKK.out _ HD1.out).cell 0; have q1_1 : w1.cell? ⟨w.heap.size, 1, none⟩ = some (.int .i64 k.p) := (BKK.out _ HD1.out).cell 1; have q1_2 : w1.cell? ⟨w.heap.size, 2, none⟩ = some (.int .i64 k.q) := (BKK.out _ HD1.out).cell 2; have q1_3 : w1.cell? ⟨w.heap.size, 3, none⟩ = some (.string k.s) := (BKK.out _ HD1.out).cell 3; have q1_4 : w1.cell? ⟨w.heap.size, 4, none⟩ = some (.int .i64 k.r) := (BKK.out _ HD1.out).cell 4; have u1 := (BKK.out _ HD1.out).lt; have r1_0 : w1.cell? ⟨w.heap.size + 1, 0, none⟩ = some (.int .i64 x.k) := (BKX.out _ HD1.out).cell 0; have r1_1 : w1.cell? ⟨w.heap.size + 1, 1, none⟩ = some (.int .i64 x.p) := (BKX.out _ HD1.out).cell 1; have r1_2 : w1.cell? ⟨w.heap.size + 1, 2, none⟩ = some (.int .i64 x.q) := (BKX.out _ HD1.out).cell 2; have r1_3 : w1.cell? ⟨w.heap.size + 1, 3, none⟩ = some (.string x.s) := (BKX.out _ HD1.out).cell 3; have r1_4 : w1.cell? ⟨w.heap.size + 1, 4, none⟩ = some (.int .i64 x.r) := (BKX.out _ HD1.out).cell 4; have t1 := (BKX.out _ HD1.out).lt) | (go_at_call 22; (with_reducible refine (Q2.out _).mono ?_); rintro e w2 ⟨rfl, hb2⟩; have HD2 : Hid (Ch [] ((w.alloc (.cells #[.int .i64 k.k, .int .i64 k.p, .int .i64 k.q, .string k.s, .int .i64 k.r] 31)).alloc (.cells #[.int .i64 x.k, .int .i64 x.p, .int .i64 x.q, .string x.s, .int .i64 x.r] 31)) w2) := Lib.hid (HD1.out.trans (Ch.of_below hb2)); clear hb2; have q2_0 : w2.cell? ⟨w.heap.size, 0, none⟩ = some (.int .i64 k.k) := (BKK.out _ HD2.out).cell 0; have q2_1 : w2.cell? ⟨w.heap.size, 1, none⟩ = some (.int .i64 k.p) := (BKK.out _ HD2.out).cell 1; have q2_2 : w2.cell? ⟨w.heap.size, 2, none⟩ = some (.int .i64 k.q) := (BKK.out _ HD2.out).cell 2; have q2_3 : w2.cell? ⟨w.heap.size, 3, none⟩ = some (.string k.s) := (BKK.out _ HD2.out).cell 3; have q2_4 : w2.cell? ⟨w.heap.size, 4, none⟩ = some (.int .i64 k.r) := (BKK.out _ HD2.out).cell 4; have u2 := (BKK.out _ HD2.out).lt; have r2_0 : w2.cell? ⟨w.heap.size + 1, 0, none⟩ = some (.int .i64 x.k) := (BKX.out _ HD2.out).cell 0; have r2_1 : w2.cell? ⟨w.heap.size + 1, 1, none⟩ = some (.int .i64 x.p) := (BKX.out _ HD2.out).cell 1; have r2_2 : w2.cell? ⟨w.heap.size + 1, 2, none⟩ = some (.int .i64 x.q) := (BKX.out _ HD2.out).cell 2; have r2_3 : w2.cell? ⟨w.heap.size + 1, 3, none⟩ = some (.string x.s) := (BKX.out _ HD2.out).cell 3; have r2_4 : w2.cell? ⟨w.heap.size + 1, 4, none⟩ = some (.int .i64 x.r) := (BKX.out _ HD2.out).cell 4; have t2 := (BKX.out _ HD2.out).lt) | (go_at_call 35; (with_reducible refine (QF.out _ (HC0.out.trans HD2.out)).mono ?_); rintro e w3 ⟨rfl, hb3⟩; have HD3 : Hid (Ch [] ((w.alloc (.cells #[.int .i64 k.k, .int .i64 k.p, .int .i64 k.q, .string k.s, .int .i64 k.r] 31)).alloc (.cells #[.int .i64 x.k, .int .i64 x.p, .int .i64 x.q, .string x.s, .int .i64 x.r] 31)) w3) := Lib.hid (HD2.out.trans (Ch.of_below hb3)); clear hb3; have q3_0 : w3.cell? ⟨w.heap.size, 0, none⟩ = some (.int .i64 k.k) := (BKK.out _ HD3.out).cell 0; have q3_1 : w3.cell? ⟨w.heap.size, 1, none⟩ = some (.int .i64 k.p) := (BKK.out _ HD3.out).cell 1; have q3_2 : w3.cell? ⟨w.heap.size, 2, none⟩ = some (.int .i64 k.q) := (BKK.out _ HD3.out).cell 2; have q3_3 : w3.cell? ⟨w.heap.size, 3, none⟩ = some (.string k.s) := (BKK.out _ HD3.out).cell 3; have q3_4 : w3.cell? ⟨w.heap.size, 4, none⟩ = some (.int .i64 k.r) := (BKK.out _ HD3.out).cell 4; have u3 := (BKK.out _ HD3.out).lt; have r3_0 : w3.cell? ⟨w.heap.size + 1, 0, none⟩ = some (.int .i64 x.k) := (BKX.out _ HD3.out).cell 0; have r3_1 : w3.cell? ⟨w.heap.size + 1, 1, none⟩ = some (.int .i64 x.p) := (BKX.out _ HD3.out).cell 1; have r3_2 : w3.cell? ⟨w.heap.size + 1, 2, none⟩ = some (.int .i64 x.q) := (BKX.out _ HD3.out).cell 2; have r3_3 : w3.cell? ⟨w.heap.size + 1, 3, none⟩ = some (.string x.s) := (BKX.out _ HD3.out).cell 3; have r3_4 : w3.cell? ⟨w.heap.size + 1, 4, none⟩ = some (.int .i64 x.r) := (BKX.out _ HD3.out).cell 4; have t3 := (BKX.out _ HD3.out).lt; have HR3 := Lib.hid (HRR.out w3 (HC0.out.trans HD3.out)); have c3 : w3.cell? ⟨b, 0, none⟩ = some (.slice p R.length cap) := HR3.out.blk.cell 0; have hb3 := HR3.out.blk.lt) | (go_at_call 28; (with_reducible refine (rlen_any B b _ R w3 HR3.out HLL.out).mono ?_); rintro e w4 ⟨rfl, rfl⟩))
  have HB3 : Hid (B ≤ w3.heap.size) := Lib.hid (Nat.le_trans HBW.out (HC0.out.trans HD3.out).size)
  have HC3 : Hid (Ch [] w w3) := Lib.hid (HC0.out.trans HD3.out)
  clear hd1 hd2 hd3
  go_region_law (refine step_append_lies _ (by rfl) _ _ 58 (by rfl) B 69 i0 (.agg #[.int .i64 0, .int .i64 0, .int .i64 0, .string ⟨#[]⟩, .int .i64 0, .int .i64 0, .int .i64 0, .int .i64 0, .string ⟨#[]⟩, .int .i64 0, .bool false]) 11 104 Try.underlying58 hi0 jz0 jz1 jz2 rfl (by decide) _ R.length (R.flatMap rsC) (by rfl) (Ch.ownB (by first | exact ((Ch.refl [] w3).drew).alloc _ | exact ((Ch.refl [] w3).alloc _).drew) HR3.out.row (by simp)) ⟨w3.heap.size, 0, none⟩ 1 1 (rsC ⟨k, x, false⟩) (by rfl) (by rfl) (by first | exact rsC_at ⟨k, x, false⟩ w3.drew _ rfl | exact rsC_at ⟨k, x, false⟩ w3 _ rfl) (rsC_one _) (by decide) (by unfold maxLen; have := HLL.out; omega) (by have := HLL.out; omega) (by have := HB3.out; simp; omega) _ (by rfl) ?_; intro g1 cp w5 hown1 hgrow hat hlt1; have h35 : Ch (ob (.slice p R.length cap)) w3 w5 := Ch.trans (by first | exact ((Ch.refl _ w3).drew).alloc _ | exact ((Ch.refl _ w3).alloc _).drew) (Ch.of_grown hgrow (fun y e => mem_ob.2 e)); have H35 := Lib.hid h35; have HO1 := Lib.hid hown1; have HAT := Lib.hid hat; have hbk5 := HR3.out.blk.ch h35 (fun hy => HRB.out _ hy rfl); have HBK5 := Lib.hid hbk5; have u0 : w5.cell? ⟨b, 0, none⟩ = some (.slice p R.length cap) := hbk5.cell 0; have v0 := hbk5.fz 0; have hb5 := hbk5.lt; clear h35 hown1 hgrow hat hbk5)
  all_goals (
    have hgb : g1 ≠ b := ob_blk HO1.out HBK5.out (by decide) g1 (mem_ob.2 rfl)
    have hs : Ch [b] w5 (w5.setCell ⟨b, 0, none⟩ (.slice (some ⟨g1, 0, none⟩) (R.length + 1) cp)) := (Ch.refl [b] w5).set b 0 _ (.inl (by simp))
    have HX : Hid (RSaid B b (.slice p R.length cap) R k x w (.returned (.int .i64 0)) (w5.setCell ⟨b, 0, none⟩ (.slice (some ⟨g1, 0, none⟩) (R.length + 1) cp))) := Lib.hid ⟨by rw [HZ.out], ⟨.slice (some ⟨g1, 0, none⟩) (R.length + 1) cp, by
        rw [HS.out]
        refine ⟨HBK5.out.set 0 _, HLO.out, ?_⟩
        have := hs.ownB HO1.out (fun y hy => by simp [Go.Proofs.Ythgkbjiclghfkaa.ob, Value.ownBlock] at hy; subst hy; simpa using hgb)
        simpa using this, fun y hy => by
        simp only [rmS, List.mem_cons] at hy
        rcases hy with rfl | hy
        · exact .inl (by simp [rmS])
        · rcases HAT.out with h' | h'
          · exact .inl (by simp only [rmS, List.mem_cons]; right; rw [mem_ob] at hy ⊢; rw [h']; simpa [Value.ownBlock] using hy)
          · right; simp [Go.Proofs.Ythgkbjiclghfkaa.ob, Value.ownBlock] at hy; subst hy; rw [h']; simp; have := HC3.out.size; omega⟩, ((HC3.out.mono (T := rmS b (.slice p R.length cap)) (by simp)).trans (H35.out.mono (fun y hy => by simp [rmS, hy]))).trans (hs.mono (by simp [rmS]))⟩
    go_wp2
    go_ret
    exact HX.out)
set_option maxHeartbeats 16000000 in
theorem rset_i1 (B b : Nat) (v : Value) (R : List Rs) (k x : V5) (w : World) (h : RM B b v R w) (hL : R.length ≤ 1000000) (hBw : B ≤ w.heap.size) (hk : k.k ≠ 0) (hv : okV k = true) (hx : okV x = true) (hx0 : x.k ≠ 0) (hd : ¬ lenR R + 8 < R.length - lenR R) (i : Nat) (hi : i < R.length) (hf : fnd R k = some i) (hgn : R[i].gone = true) :
    Calls Try.prog 25 #[.pointer (some ⟨b, 0, none⟩), .agg #[.int .i64 k.k, .int .i64 k.p, .int .i64 k.q, .string k.s, .int .i64 k.r], .agg #[.int .i64 x.k, .int .i64 x.p, .int .i64 x.q, .string x.s, .int .i64 x.r]] w fun e w' => RSaid B b v R k x w e w' := by
  have HC0 : Hid (Ch [] w ((w.alloc (.cells #[.int .i64 k.k, .int .i64 k.p, .int .i64 k.q, .string k.s, .int .i64 k.r] 31)).alloc (.cells #[.int .i64 x.k, .int .i64 x.p, .int .i64 x.q, .string x.s, .int .i64 x.r] 31))) := Lib.hid (((Ch.refl [] w).alloc _).alloc _)
  have BKK : Hid (∀ W, Ch [] ((w.alloc (.cells #[.int .i64 k.k, .int .i64 k.p, .int .i64 k.q, .string k.s, .int .i64 k.r] 31)).alloc (.cells #[.int .i64 x.k, .int .i64 x.p, .int .i64 x.q, .string x.s, .int .i64 x.r] 31)) W → Blk 31 w.heap.size #[.int .i64 k.k, .int .i64 k.p, .int .i64 k.q, .string k.s, .int .i64 k.r] W) := Lib.hid fun W hc => ((Blk.new w 31 _ _ rfl).ch ((Ch.refl [] _).alloc _) (by simp)).ch hc (by simp)
  have BKX : Hid (∀ W, Ch [] ((w.alloc (.cells #[.int .i64 k.k, .int .i64 k.p, .int .i64 k.q, .string k.s, .int .i64 k.r] 31)).alloc (.cells #[.int .i64 x.k, .int .i64 x.p, .int .i64 x.q, .string x.s, .int .i64 x.r] 31)) W → Blk 31 (w.heap.size + 1) #[.int .i64 x.k, .int .i64 x.p, .int .i64 x.q, .string x.s, .int .i64 x.r] W) := Lib.hid fun W hc => (Blk.new (w.alloc (.cells #[.int .i64 k.k, .int .i64 k.p, .int .i64 k.q, .string k.s, .int .i64 k.r] 31)) 31 _ _ (by simp)).ch hc (by simp)
  have Q1 : Hid (∀ w, Calls Try.prog 22 #[.agg #[.int .i64 k.k, .int .i64 k.p, .int .i64 k.q, .string k.s, .int .i64 k.r]] w fun e w' => e = .returned (.bool true) ∧ Below w.heap.size w w') := Lib.hid fun w => by rw [← hv]; exact rvalid5 k.k k.p k.q k.s k.r w
  have Q2 : Hid (∀ w, Calls Try.prog 22 #[.agg #[.int .i64 x.k, .int .i64 x.p, .int .i64 x.q, .string x.s, .int .i64 x.r]] w fun e w' => e = .returned (.bool true) ∧ Below w.heap.size w w') := Lib.hid fun w => by rw [← hx]; exact rvalid5 x.k x.p x.q x.s x.r w
  have QF : Hid (∀ W, Ch [] w W → Calls Try.prog 35 #[.pointer (some ⟨b, 0, none⟩), .agg #[.int .i64 k.k, .int .i64 k.p, .int .i64 k.q, .string k.s, .int .i64 k.r]] W fun e w' => e = .returned (.int .i64 ((i : Int))) ∧ Below W.heap.size W w') := Lib.hid fun W hc => by
    have := rfind_any B b v R k W (h.ch hc (by simp)) hL
    rw [hf] at this
    exact this
  obtain ⟨i0, hi0, jz0, jz1, jz2⟩ := info_parts info_rs
  have hz := errR_ok hk hv hx
  have HZ := Lib.hid hz
  have HS : Hid (setR R k x = R ++ [⟨k, x, false⟩]) := Lib.hid (by unfold setR; rw [if_neg (by simpa using hz), hf]; simp [hx0, insR, hd, List.getElem?_eq_getElem hi, hgn])
  obtain ⟨p, cap, rfl, hp⟩ := h.form
  obtain ⟨g, rfl⟩ := hp (by omega)
  have hi2 : (i : Int) < (R.length : Int) := by omega
  have hi4 : (0 : Int) ≤ (i : Int) := by omega
  have HGN : Hid (∀ W, RM B b (.slice (some ⟨g, 0, none⟩) R.length cap) R W → W.cell? ⟨g, i * 11 + 10, none⟩ = some (.bool true) ∧ g < W.heap.size) := Lib.hid fun W hm => ⟨(hm.cellAt i 10 hi (by omega)).trans (show some (Value.bool R[i].gone) = some (Value.bool true) from congrArg (fun x => some (Value.bool x)) hgn), (hm.lt g (by simp [rmS, Go.Proofs.Ythgkbjiclghfkaa.ob, Value.ownBlock])).2⟩
  have HLL := Lib.hid hL
  have HBW := Lib.hid hBw
  have HLO := Lib.hid h.lo
  have HRB : Hid (∀ y ∈ ob (Value.slice (some ⟨g, 0, none⟩) R.length cap), y ≠ b) := Lib.hid (ob_blk h.row h.blk (by decide))
  have HRR : Hid (∀ W, Ch [] w W → RM B b (.slice (some ⟨g, 0, none⟩) R.length cap) R W) := Lib.hid fun W hc => h.ch hc (by simp)
  have hcl := lenR_le R
  have hd1 : IntKind.i64.wrap ((R.length : Int) - (lenR R : Int)) = (R.length : Int) - (lenR R : Int) := IntWalk.i64_in _ (by omega)
  have hd2 : IntKind.i64.wrap ((lenR R : Int) + 8) = (lenR R : Int) + 8 := IntWalk.i64_in _ (by omega)
  have hd3 : ¬ (lenR R : Int) + 8 < (R.length : Int) - (lenR R : Int) := by omega
  have e0 : (k.k == 0) = false := by rw [beq_eq_false_iff_ne]; exact hk
  have e2 : (x.k == 0) = false := by rw [beq_eq_false_iff_ne]; exact hx0
  clear h hL hBw hk hv hx hx0 hz hp hf hgn hcl hd
  go_enter Try.func25, Try.ntmps25
  go_upto_region 24 with (first | (go_at_call 22; (with_reducible refine (Q1.out _).mono ?_); rintro e w1 ⟨rfl, hb1⟩; have HD1 : Hid (Ch [] ((w.alloc (.cells #[.int .i64 k.k, .int .i64 k.p, .int .i64 k.q, .string k.s, .int .i64 k.r] 31)).alloc (.cells #[.int .i64 x.k, .int .i64 x.p, .int .i64 x.q, .string x.s, .int .i64 x.r] 31)) w1) := Lib.hid ((Ch.refl [] _).trans (Ch.of_below hb1)); clear hb1; have q1_0 : w1.cell? ⟨w.heap.size, 0, none⟩ = some (.int .i64 k.k) := (BKK.out _ HD1.out).cell 0; have q1_1 : w1.cell? ⟨w.heap.size, 1, none⟩ = some (.int .i64 k.p) := (BKK.out _ HD1.out).cell 1; have q1_2 : w1.cell? ⟨w.heap.size, 2, none⟩ = some (.int .i64 k.q) := (BKK.out _ HD1.out).cell 2; have q1_3 : w1.cell? ⟨w.heap.size, 3, none⟩ = some (.string k.s) := (BKK.out _ HD1.out).cell 3; have q1_4 : w1.cell? ⟨w.heap.size, 4, none⟩ = some (.int .i64 k.r) := (BKK.out _ HD1.out).cell 4; have u1 := (BKK.out _ HD1.out).lt; have r1_0 : w1.cell? ⟨w.heap.size + 1, 0, none⟩ = some (.int .i64 x.k) := (BKX.out _ HD1.out).cell 0; have r1_1 : w1.cell? ⟨w.heap.size + 1, 1, none⟩ = some (.int .i64 x.p) := (BKX.out _ HD1.out).cell 1; have r1_2 : w1.cell? ⟨w.heap.size + 1, 2, none⟩ = some (.int .i64 x.q) := (BKX.out _ HD1.out).cell 2; have r1_3 : w1.cell? ⟨w.heap.size + 1, 3, none⟩ = some (.string x.s) := (BKX.out _ HD1.out).cell 3; have r1_4 : w1.cell? ⟨w.heap.size + 1, 4, none⟩ = some (.int .i64 x.r) := (BKX.out _ HD1.out).cell 4; have t1 := (BKX.out _ HD1.out).lt) | (go_at_call 22; (with_reducible refine (Q2.out _).mono ?_); rintro e w2 ⟨rfl, hb2⟩; have HD2 : Hid (Ch [] ((w.alloc (.cells #[.int .i64 k.k, .int .i64 k.p, .int .i64 k.q, .string k.s, .int .i64 k.r] 31)).alloc (.cells #[.int .i64 x.k, .int .i64 x.p, .int .i64 x.q, .string x.s, .int .i64 x.r] 31)) w2) := Lib.hid (HD1.out.trans (Ch.of_below hb2)); clear hb2; have q2_0 : w2.cell? ⟨w.heap.size, 0, none⟩ = some (.int .i64 k.k) := (BKK.out _ HD2.out).cell 0; have q2_1 : w2.cell? ⟨w.heap.size, 1, none⟩ = some (.int .i64 k.p) := (BKK.out _ HD2.out).cell 1; have q2_2 : w2.cell? ⟨w.heap.size, 2, none⟩ = some (.int .i64 k.q) := (BKK.out _ HD2.out).cell 2; have q2_3 : w2.cell? ⟨w.heap.size, 3, none⟩ = some (.string k.s) := (BKK.out _ HD2.out).cell 3; have q2_4 : w2.cell? ⟨w.heap.size, 4, none⟩ = some (.int .i64 k.r) := (BKK.out _ HD2.out).cell 4; have u2 := (BKK.out _ HD2.out).lt; have r2_0 : w2.cell? ⟨w.heap.size + 1, 0, none⟩ = some (.int .i64 x.k) := (BKX.out _ HD2.out).cell 0; have r2_1 : w2.cell? ⟨w.heap.size + 1, 1, none⟩ = some (.int .i64 x.p) := (BKX.out _ HD2.out).cell 1; have r2_2 : w2.cell? ⟨w.heap.size + 1, 2, none⟩ = some (.int .i64 x.q) := (BKX.out _ HD2.out).cell 2; have r2_3 : w2.cell? ⟨w.heap.size + 1, 3, none⟩ = some (.string x.s) := (BKX.out _ HD2.out).cell 3; have r2_4 : w2.cell? ⟨w.heap.size + 1, 4, none⟩ = some (.int .i64 x.r) := (BKX.out _ HD2.out).cell 4; have t2 := (BKX.out _ HD2.out).lt) | (go_at_call 35; (with_reducible refine (QF.out _ (HC0.out.trans HD2.out)).mono ?_); rintro e w3 ⟨rfl, hb3⟩; have HD3 : Hid (Ch [] ((w.alloc (.cells #[.int .i64 k.k, .int .i64 k.p, .int .i64 k.q, .string k.s, .int .i64 k.r] 31)).alloc (.cells #[.int .i64 x.k, .int .i64 x.p, .int .i64 x.q, .string x.s, .int .i64 x.r] 31)) w3) := Lib.hid (HD2.out.trans (Ch.of_below hb3)); clear hb3; have q3_0 : w3.cell? ⟨w.heap.size, 0, none⟩ = some (.int .i64 k.k) := (BKK.out _ HD3.out).cell 0; have q3_1 : w3.cell? ⟨w.heap.size, 1, none⟩ = some (.int .i64 k.p) := (BKK.out _ HD3.out).cell 1; have q3_2 : w3.cell? ⟨w.heap.size, 2, none⟩ = some (.int .i64 k.q) := (BKK.out _ HD3.out).cell 2; have q3_3 : w3.cell? ⟨w.heap.size, 3, none⟩ = some (.string k.s) := (BKK.out _ HD3.out).cell 3; have q3_4 : w3.cell? ⟨w.heap.size, 4, none⟩ = some (.int .i64 k.r) := (BKK.out _ HD3.out).cell 4; have u3 := (BKK.out _ HD3.out).lt; have r3_0 : w3.cell? ⟨w.heap.size + 1, 0, none⟩ = some (.int .i64 x.k) := (BKX.out _ HD3.out).cell 0; have r3_1 : w3.cell? ⟨w.heap.size + 1, 1, none⟩ = some (.int .i64 x.p) := (BKX.out _ HD3.out).cell 1; have r3_2 : w3.cell? ⟨w.heap.size + 1, 2, none⟩ = some (.int .i64 x.q) := (BKX.out _ HD3.out).cell 2; have r3_3 : w3.cell? ⟨w.heap.size + 1, 3, none⟩ = some (.string x.s) := (BKX.out _ HD3.out).cell 3; have r3_4 : w3.cell? ⟨w.heap.size + 1, 4, none⟩ = some (.int .i64 x.r) := (BKX.out _ HD3.out).cell 4; have t3 := (BKX.out _ HD3.out).lt; have HR3 := Lib.hid (HRR.out w3 (HC0.out.trans HD3.out)); have c3 : w3.cell? ⟨b, 0, none⟩ = some (.slice (some ⟨g, 0, none⟩) R.length cap) := HR3.out.blk.cell 0; have hb3 := HR3.out.blk.lt; obtain ⟨gc, hgl⟩ := HGN.out w3 HR3.out) | (go_at_call 28; (with_reducible refine (rlen_any B b _ R w3 HR3.out HLL.out).mono ?_); rintro e w4 ⟨rfl, rfl⟩))
  have HB3 : Hid (B ≤ w3.heap.size) := Lib.hid (Nat.le_trans HBW.out (HC0.out.trans HD3.out).size)
  have HC3 : Hid (Ch [] w w3) := Lib.hid (HC0.out.trans HD3.out)
  clear hd1 hd2 hd3
  go_region_law (refine step_append_lies _ (by rfl) _ _ 58 (by rfl) B 69 i0 (.agg #[.int .i64 0, .int .i64 0, .int .i64 0, .string ⟨#[]⟩, .int .i64 0, .int .i64 0, .int .i64 0, .int .i64 0, .string ⟨#[]⟩, .int .i64 0, .bool false]) 11 104 Try.underlying58 hi0 jz0 jz1 jz2 rfl (by decide) _ R.length (R.flatMap rsC) (by rfl) (Ch.ownB (by first | exact ((Ch.refl [] w3).drew).alloc _ | exact ((Ch.refl [] w3).alloc _).drew) HR3.out.row (by simp)) ⟨w3.heap.size, 0, none⟩ 1 1 (rsC ⟨k, x, false⟩) (by rfl) (by rfl) (by first | exact rsC_at ⟨k, x, false⟩ w3.drew _ rfl | exact rsC_at ⟨k, x, false⟩ w3 _ rfl) (rsC_one _) (by decide) (by unfold maxLen; have := HLL.out; omega) (by have := HLL.out; omega) (by have := HB3.out; simp; omega) _ (by rfl) ?_; intro g1 cp w5 hown1 hgrow hat hlt1; have h35 : Ch (ob (.slice (some ⟨g, 0, none⟩) R.length cap)) w3 w5 := Ch.trans (by first | exact ((Ch.refl _ w3).drew).alloc _ | exact ((Ch.refl _ w3).alloc _).drew) (Ch.of_grown hgrow (fun y e => mem_ob.2 e)); have H35 := Lib.hid h35; have HO1 := Lib.hid hown1; have HAT := Lib.hid hat; have hbk5 := HR3.out.blk.ch h35 (fun hy => HRB.out _ hy rfl); have HBK5 := Lib.hid hbk5; have u0 : w5.cell? ⟨b, 0, none⟩ = some (.slice (some ⟨g, 0, none⟩) R.length cap) := hbk5.cell 0; have v0 := hbk5.fz 0; have hb5 := hbk5.lt; clear h35 hown1 hgrow hat hbk5)
  all_goals (
    have hgb : g1 ≠ b := ob_blk HO1.out HBK5.out (by decide) g1 (mem_ob.2 rfl)
    have hs : Ch [b] w5 (w5.setCell ⟨b, 0, none⟩ (.slice (some ⟨g1, 0, none⟩) (R.length + 1) cp)) := (Ch.refl [b] w5).set b 0 _ (.inl (by simp))
    have HX : Hid (RSaid B b (.slice (some ⟨g, 0, none⟩) R.length cap) R k x w (.returned (.int .i64 0)) (w5.setCell ⟨b, 0, none⟩ (.slice (some ⟨g1, 0, none⟩) (R.length + 1) cp))) := Lib.hid ⟨by rw [HZ.out], ⟨.slice (some ⟨g1, 0, none⟩) (R.length + 1) cp, by
        rw [HS.out]
        refine ⟨HBK5.out.set 0 _, HLO.out, ?_⟩
        have := hs.ownB HO1.out (fun y hy => by simp [Go.Proofs.Ythgkbjiclghfkaa.ob, Value.ownBlock] at hy; subst hy; simpa using hgb)
        simpa using this, fun y hy => by
        simp only [rmS, List.mem_cons] at hy
        rcases hy with rfl | hy
        · exact .inl (by simp [rmS])
        · rcases HAT.out with h' | h'
          · exact .inl (by simp only [rmS, List.mem_cons]; right; rw [mem_ob] at hy ⊢; rw [h']; simpa [Value.ownBlock] using hy)
          · right; simp [Go.Proofs.Ythgkbjiclghfkaa.ob, Value.ownBlock] at hy; subst hy; rw [h']; simp; have := HC3.out.size; omega⟩, ((HC3.out.mono (T := rmS b (.slice (some ⟨g, 0, none⟩) R.length cap)) (by simp)).trans (H35.out.mono (fun y hy => by simp [rmS, hy]))).trans (hs.mono (by simp [rmS]))⟩
    go_wp2
    go_ret
    exact HX.out)
end Go.Proofs.Ythgkbjiclghfkaa
