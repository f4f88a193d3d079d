/- Layer 12: the functions of ordered maps (10). -/
import Derived.Test.YtaaelhhiceildaaOdrK
import Derived.Deep.DeepCutAuto
import Derived.Deep.CutBlock
import Derived.BigQuiet
import Derived.RegionTactic
import Derived.Deep.RegionLaw
import Derived.Lib.ItoaWalk
namespace Go.Proofs.Ytaaelhhiceildaa
open Go.RowKit Go.Joins M1
set_option linter.unusedVariables false
def st11 (W : World) (g o : Nat) (a0 a1 a2 a3 a4 a5 a6 a7 a8 a9 a10 : Value) : World := ((((((((((W.setCell ⟨g, o, none⟩ a0).setCell ⟨g, o + 1, none⟩ a1).setCell ⟨g, o + 2, none⟩ a2).setCell ⟨g, o + 3, none⟩ a3).setCell ⟨g, o + 4, none⟩ a4).setCell ⟨g, o + 5, none⟩ a5).setCell ⟨g, o + 6, none⟩ a6).setCell ⟨g, o + 7, none⟩ a7).setCell ⟨g, o + 8, none⟩ a8).setCell ⟨g, o + 9, none⟩ a9).setCell ⟨g, o + 10, none⟩ a10
theorem st11_eq (W : World) (g o : Nat) (a0 a1 a2 a3 a4 a5 a6 a7 a8 a9 a10 : Value) : st11 W g o a0 a1 a2 a3 a4 a5 a6 a7 a8 a9 a10 = stL W g (o + 0) [a0, a1, a2, a3, a4, a5, a6, a7, a8, a9, a10] := rfl
set_option maxHeartbeats 4000000 in
theorem set_d (B b : Nat) (v m : Value) (L : List Sl) (k x : V5) (w : World) (h : Om B b v m L w) (hL : L.length ≤ 1000000) (hBw : B ≤ w.heap.size) (hk : k.k ≠ 0) (hv : okV k = true) (hx : okV x = true) (hx0 : x.k = 0) (i : Nat) (hl : lastI L k = some i) (hi : i < L.length) (hb0 : L[i].bh = 0) :
    Calls Try.prog 48 #[.pointer (some ⟨b, 0, none⟩), .agg #[.int .i64 k.k, .int .i64 k.p, .int .i64 k.q, .string k.s, .int .i64 k.r], .agg #[.int .i64 x.k, .int .i64 x.p, .int .i64 x.q, .string x.s, .int .i64 x.r]] w fun e w' => SetSaid B b v m L k x w e w' := by
  have HC0 : Hid (Ch [] w ((w.alloc (.cells #[.int .i64 k.k, .int .i64 k.p, .int .i64 k.q, .string k.s, .int .i64 k.r] 26)).alloc (.cells #[.int .i64 x.k, .int .i64 x.p, .int .i64 x.q, .string x.s, .int .i64 x.r] 26))) := Lib.hid (((Ch.refl [] w).alloc _).alloc _)
  have BKK : Hid (∀ W, Ch [] ((w.alloc (.cells #[.int .i64 k.k, .int .i64 k.p, .int .i64 k.q, .string k.s, .int .i64 k.r] 26)).alloc (.cells #[.int .i64 x.k, .int .i64 x.p, .int .i64 x.q, .string x.s, .int .i64 x.r] 26)) W → Blk 26 w.heap.size #[.int .i64 k.k, .int .i64 k.p, .int .i64 k.q, .string k.s, .int .i64 k.r] W) := Lib.hid fun W hc => ((Blk.new w 26 _ _ rfl).ch (((Ch.refl [] _).alloc _)) (by simp)).ch hc (by simp)
  have BKX : Hid (∀ W, Ch [] ((w.alloc (.cells #[.int .i64 k.k, .int .i64 k.p, .int .i64 k.q, .string k.s, .int .i64 k.r] 26)).alloc (.cells #[.int .i64 x.k, .int .i64 x.p, .int .i64 x.q, .string x.s, .int .i64 x.r] 26)) W → Blk 26 (w.heap.size + 1) #[.int .i64 x.k, .int .i64 x.p, .int .i64 x.q, .string x.s, .int .i64 x.r] W) := Lib.hid fun W hc => (Blk.new (w.alloc (.cells #[.int .i64 k.k, .int .i64 k.p, .int .i64 k.q, .string k.s, .int .i64 k.r] 26)) 26 _ _ (by simp)).ch hc (by simp)
  have Q1 : Hid (∀ w, Calls Try.prog 26 #[.agg #[.int .i64 k.k, .int .i64 k.p, .int .i64 k.q, .string k.s, .int .i64 k.r]] w fun e w' => e = .returned (.bool true) ∧ Below w.heap.size w w') := Lib.hid fun w => by rw [← hv]; exact valid5 k.k k.p k.q k.s k.r w
  have Q2 : Hid (∀ w, Calls Try.prog 26 #[.agg #[.int .i64 x.k, .int .i64 x.p, .int .i64 x.q, .string x.s, .int .i64 x.r]] w fun e w' => e = .returned (.bool true) ∧ Below w.heap.size w w') := Lib.hid fun w => by rw [← hx]; exact valid5 x.k x.p x.q x.s x.r w
  have e0 : (k.k == 0) = false := by rw [beq_eq_false_iff_ne]; exact hk
  have hz := errR_ok hk hv hx
  have QE : Hid (∀ W, Ch [] w W → Calls Try.prog 52 #[.pointer (some ⟨b, 0, none⟩), .agg #[.int .i64 k.k, .int .i64 k.p, .int .i64 k.q, .string k.s, .int .i64 k.r]] W fun e w' => e = .returned (.tuple #[.int .i64 (i : Int), .bool true]) ∧ Below W.heap.size W w') := Lib.hid fun W hc => (entry_any B b v m L k W (h.keep hc) hL).mono fun e w' ⟨h1, h2⟩ => ⟨by unfold EnSaid at h1; rw [hl] at h1; simp only [List.getElem?_eq_getElem hi, (liveB_iff _).2 hb0] at h1; exact h1, h2⟩
  have HR := Lib.hid (setR_del h.inv hz hx0 hl)
  have HZ := Lib.hid hz
  obtain ⟨_, hkk, _⟩ := lastI_some hl
  have HIV := Lib.hid (inv_del h.inv hi hb0 k hkk)
  obtain ⟨p, cap, rfl, hp⟩ := h.form
  obtain ⟨g, rfl⟩ := hp (by omega)
  have hi2 : (i : Int) < (L.length : Int) := by omega
  have HL := Lib.hid hL
  have hi3 : i ≤ 1000000 := by omega
  have HOO := Lib.hid h
  have hcl := cnt_le L
  have e2 : (x.k != 0) = false := by rw [bne_eq_false_iff_eq]; exact hx0
  have hw1 : IntKind.i64.wrap ((i : Int) + 1) = (i : Int) + 1 := IntWalk.i64_in _ (by omega)
  have hw2 : IntKind.i64.wrap ((cnt L : Int) - 1) = (cnt L : Int) - 1 := IntWalk.i64_in _ (by omega)
  have HX : Hid (∀ W, Ch [] w W → SetSaid B b (.slice (some ⟨g, 0, none⟩) L.length cap) m L k x w (.returned (.int .i64 0)) ((st11 W g (i * 11) (.int .i64 k.k) (.int .i64 k.p) (.int .i64 k.q) (.string k.s) (.int .i64 k.r) (.int .i64 0) (.int .i64 0) (.int .i64 0) (.string ⟨#[]⟩) (.int .i64 0) (.int .i64 ((i : Int) + 1))).drew.setCell ⟨b, 1, none⟩ (.int .i64 ((cnt L : Int) - 1)))) := Lib.hid fun W hc => by
    rw [st11_eq]
    obtain ⟨q1, q2, q3, q4⟩ := (h.keep hc).put i hi [.int .i64 k.k, .int .i64 k.p, .int .i64 k.q, .string k.s, .int .i64 k.r, .int .i64 0, .int .i64 0, .int .i64 0, .string ⟨#[]⟩, .int .i64 0, .int .i64 ((i : Int) + 1)] 0 (by simp) ⟨k, v5z, i + 1⟩ (by simp [slC, patch, v5z]) hkk.symm
    have hgb : g ≠ b := h.apart.1 g (mem_ob.2 rfl)
    have q5 : Ch [b] (stL W g (i * 11 + 0) [.int .i64 k.k, .int .i64 k.p, .int .i64 k.q, .string k.s, .int .i64 k.r, .int .i64 0, .int .i64 0, .int .i64 0, .string ⟨#[]⟩, .int .i64 0, .int .i64 ((i : Int) + 1)]) ((stL W g (i * 11 + 0) [.int .i64 k.k, .int .i64 k.p, .int .i64 k.q, .string k.s, .int .i64 k.r, .int .i64 0, .int .i64 0, .int .i64 0, .string ⟨#[]⟩, .int .i64 0, .int .i64 ((i : Int) + 1)]).drew.setCell ⟨b, 1, none⟩ (.int .i64 ((cnt L : Int) - 1))) := ((Ch.refl _ _).drew).set b 1 _ (.inl (by simp))
    refine ⟨by rw [HZ.out], ⟨_, _, _, ⟨?_, h.lo, ?_, mpP.ch q3 q5 (fun y hy => by simp; exact h.apart.2.1 y hy), HIV.out.1⟩, HR.out.symm, by simp, fun y hy => .inl hy⟩, ((hc.mono (by simp)).trans (q4.mono (by simp [omS, Go.Proofs.Ytaaelhhiceildaa.ob, Value.ownBlock]))).trans (q5.mono (by simp [omS]))⟩
    · have := (q1.ch ((Ch.refl [] _).drew) (by simp)).set 1 (.int .i64 ((cnt L : Int) - 1))
      rw [show (cnt (L.set i ⟨k, v5z, i + 1⟩) : Int) = (cnt L : Int) - 1 from by have := HIV.out.2; omega]
      exact this
    · have := q5.ownB q2 (fun y hy => by simp [Go.Proofs.Ytaaelhhiceildaa.ob, Value.ownBlock] at hy; subst hy; simpa using hgb)
      rw [List.length_set] at this ⊢; exact this
  have HFZ : Hid (∀ W, Ch [] w W → W.cell? ⟨b, 0, none⟩ = some (.slice (some ⟨g, 0, none⟩) L.length cap) ∧ b < W.heap.size ∧ g < W.heap.size ∧ (∀ j, W.frozen? ⟨g, j, none⟩ = false) ∧ W.cell? ⟨g, i * 11, none⟩ = some (.int .i64 L[i].key.k) ∧ W.cell? ⟨g, i * 11 + 1, none⟩ = some (.int .i64 L[i].key.p) ∧ W.cell? ⟨g, i * 11 + 2, none⟩ = some (.int .i64 L[i].key.q) ∧ W.cell? ⟨g, i * 11 + 3, none⟩ = some (.string L[i].key.s) ∧ W.cell? ⟨g, i * 11 + 4, none⟩ = some (.int .i64 L[i].key.r) ∧ W.cell? ⟨g, i * 11 + 5, none⟩ = some (.int .i64 L[i].val.k) ∧ W.cell? ⟨g, i * 11 + 6, none⟩ = some (.int .i64 L[i].val.p) ∧ W.cell? ⟨g, i * 11 + 7, none⟩ = some (.int .i64 L[i].val.q) ∧ W.cell? ⟨g, i * 11 + 8, none⟩ = some (.string L[i].val.s) ∧ W.cell? ⟨g, i * 11 + 9, none⟩ = some (.int .i64 L[i].val.r) ∧ W.cell? ⟨g, i * 11 + 10, none⟩ = some (.int .i64 L[i].bh)) := Lib.hid fun W hc => by
    have ho := h.keep hc
    exact ⟨ho.blk.cell 0, ho.blk.lt, (own_lo ho.row (mem_ob.2 rfl)).2, fun j => ho.row.frozenAt j, ho.slot i hi⟩
  have HBB : Hid (∀ W, Ch [] w W → Blk 72 b #[.slice (some ⟨g, 0, none⟩) L.length cap, .int .i64 (cnt L), m] (st11 W g (i * 11) (.int .i64 k.k) (.int .i64 k.p) (.int .i64 k.q) (.string k.s) (.int .i64 k.r) (.int .i64 0) (.int .i64 0) (.int .i64 0) (.string ⟨#[]⟩) (.int .i64 0) (.int .i64 ((i : Int) + 1))).drew) := Lib.hid fun W hc => by rw [st11_eq]; exact Blk.ch (w := stL W g (i * 11 + 0) [.int .i64 k.k, .int .i64 k.p, .int .i64 k.q, .string k.s, .int .i64 k.r, .int .i64 0, .int .i64 0, .int .i64 0, .string ⟨#[]⟩, .int .i64 0, .int .i64 ((i : Int) + 1)]) ((h.keep hc).put i hi [.int .i64 k.k, .int .i64 k.p, .int .i64 k.q, .string k.s, .int .i64 k.r, .int .i64 0, .int .i64 0, .int .i64 0, .string ⟨#[]⟩, .int .i64 0, .int .i64 ((i : Int) + 1)] 0 (by simp) ⟨k, v5z, i + 1⟩ (by simp [slC, patch, v5z]) hkk.symm).1 ((Ch.refl [] _).drew) (by simp)
  clear h hL hBw hk hv hx hx0 hl hb0 hz hp hkk hcl
  go_enter Try.func48, Try.ntmps48
  go_upto_region 13 with (first | (go_at_call 26; (with_reducible refine (Q1.out _).mono ?_); rintro e w1 ⟨rfl, hb1⟩; have HD1 : Hid (Ch [] ((w.alloc (.cells #[.int .i64 k.k, .int .i64 k.p, .int .i64 k.q, .string k.s, .int .i64 k.r] 26)).alloc (.cells #[.int .i64 x.k, .int .i64 x.p, .int .i64 x.q, .string x.s, .int .i64 x.r] 26)) w1) := Lib.hid (((Ch.refl [] _)).trans (Ch.of_below hb1)); clear hb1; have q1_0 : w1.cell? ⟨w.heap.size, 0, none⟩ = some (.int .i64 k.k) := (BKK.out _ HD1.out).cell 0; have q1_1 : w1.cell? ⟨w.heap.size, 1, none⟩ = some (.int .i64 k.p) := (BKK.out _ HD1.out).cell 1; have q1_2 : w1.cell? ⟨w.heap.size, 2, none⟩ = some (.int .i64 k.q) := (BKK.out _ HD1.out).cell 2; have q1_3 : w1.cell? ⟨w.heap.size, 3, none⟩ = some (.string k.s) := (BKK.out _ HD1.out).cell 3; have q1_4 : w1.cell? ⟨w.heap.size, 4, none⟩ = some (.int .i64 k.r) := (BKK.out _ HD1.out).cell 4; have t1_0 : w1.cell? ⟨w.heap.size + 1, 0, none⟩ = some (.int .i64 x.k) := (BKX.out _ HD1.out).cell 0; have t1_1 : w1.cell? ⟨w.heap.size + 1, 1, none⟩ = some (.int .i64 x.p) := (BKX.out _ HD1.out).cell 1; have t1_2 : w1.cell? ⟨w.heap.size + 1, 2, none⟩ = some (.int .i64 x.q) := (BKX.out _ HD1.out).cell 2; have t1_3 : w1.cell? ⟨w.heap.size + 1, 3, none⟩ = some (.string x.s) := (BKX.out _ HD1.out).cell 3; have t1_4 : w1.cell? ⟨w.heap.size + 1, 4, none⟩ = some (.int .i64 x.r) := (BKX.out _ HD1.out).cell 4) | (go_at_call 26; (with_reducible refine (Q2.out _).mono ?_); rintro e w2 ⟨rfl, hb2⟩; have HD2 : Hid (Ch [] ((w.alloc (.cells #[.int .i64 k.k, .int .i64 k.p, .int .i64 k.q, .string k.s, .int .i64 k.r] 26)).alloc (.cells #[.int .i64 x.k, .int .i64 x.p, .int .i64 x.q, .string x.s, .int .i64 x.r] 26)) w2) := Lib.hid ((HD1.out).trans (Ch.of_below hb2)); clear hb2; have q2_0 : w2.cell? ⟨w.heap.size, 0, none⟩ = some (.int .i64 k.k) := (BKK.out _ HD2.out).cell 0; have q2_1 : w2.cell? ⟨w.heap.size, 1, none⟩ = some (.int .i64 k.p) := (BKK.out _ HD2.out).cell 1; have q2_2 : w2.cell? ⟨w.heap.size, 2, none⟩ = some (.int .i64 k.q) := (BKK.out _ HD2.out).cell 2; have q2_3 : w2.cell? ⟨w.heap.size, 3, none⟩ = some (.string k.s) := (BKK.out _ HD2.out).cell 3; have q2_4 : w2.cell? ⟨w.heap.size, 4, none⟩ = some (.int .i64 k.r) := (BKK.out _ HD2.out).cell 4; have t2_0 : w2.cell? ⟨w.heap.size + 1, 0, none⟩ = some (.int .i64 x.k) := (BKX.out _ HD2.out).cell 0; have t2_1 : w2.cell? ⟨w.heap.size + 1, 1, none⟩ = some (.int .i64 x.p) := (BKX.out _ HD2.out).cell 1; have t2_2 : w2.cell? ⟨w.heap.size + 1, 2, none⟩ = some (.int .i64 x.q) := (BKX.out _ HD2.out).cell 2; have t2_3 : w2.cell? ⟨w.heap.size + 1, 3, none⟩ = some (.string x.s) := (BKX.out _ HD2.out).cell 3; have t2_4 : w2.cell? ⟨w.heap.size + 1, 4, none⟩ = some (.int .i64 x.r) := (BKX.out _ HD2.out).cell 4) | (go_at_call 52; (with_reducible refine (QE.out _ (HC0.out.trans HD2.out)).mono ?_); rintro e w3 ⟨rfl, hb3⟩; have HD3 : Hid (Ch [] ((w.alloc (.cells #[.int .i64 k.k, .int .i64 k.p, .int .i64 k.q, .string k.s, .int .i64 k.r] 26)).alloc (.cells #[.int .i64 x.k, .int .i64 x.p, .int .i64 x.q, .string x.s, .int .i64 x.r] 26)) w3) := Lib.hid ((HD2.out).trans (Ch.of_below hb3)); clear hb3; have q3_0 : w3.cell? ⟨w.heap.size, 0, none⟩ = some (.int .i64 k.k) := (BKK.out _ HD3.out).cell 0; have q3_1 : w3.cell? ⟨w.heap.size, 1, none⟩ = some (.int .i64 k.p) := (BKK.out _ HD3.out).cell 1; have q3_2 : w3.cell? ⟨w.heap.size, 2, none⟩ = some (.int .i64 k.q) := (BKK.out _ HD3.out).cell 2; have q3_3 : w3.cell? ⟨w.heap.size, 3, none⟩ = some (.string k.s) := (BKK.out _ HD3.out).cell 3; have q3_4 : w3.cell? ⟨w.heap.size, 4, none⟩ = some (.int .i64 k.r) := (BKK.out _ HD3.out).cell 4; have t3_0 : w3.cell? ⟨w.heap.size + 1, 0, none⟩ = some (.int .i64 x.k) := (BKX.out _ HD3.out).cell 0; have t3_1 : w3.cell? ⟨w.heap.size + 1, 1, none⟩ = some (.int .i64 x.p) := (BKX.out _ HD3.out).cell 1; have t3_2 : w3.cell? ⟨w.heap.size + 1, 2, none⟩ = some (.int .i64 x.q) := (BKX.out _ HD3.out).cell 2; have t3_3 : w3.cell? ⟨w.heap.size + 1, 3, none⟩ = some (.string x.s) := (BKX.out _ HD3.out).cell 3; have t3_4 : w3.cell? ⟨w.heap.size + 1, 4, none⟩ = some (.int .i64 x.r) := (BKX.out _ HD3.out).cell 4))
  obtain ⟨z0, z1, z2, z3, y0, y1, y2, y3, y4, y5, y6, y7, y8, y9, y10⟩ := HFZ.out w3 (HC0.out.trans HD3.out)
  have hq := (BKK.out _ HD3.out).lt
  have HD4 : Hid (Ch [] w w3) := Lib.hid (HC0.out.trans HD3.out)
  go_region
  go_upto_region 14 with fail
  go_name_world V hV
  have HBV : Hid (Blk 72 b #[.slice (some ⟨g, 0, none⟩) L.length cap, .int .i64 (cnt L), m] V) := Lib.hid (by rw [← hV]; exact HBB.out _ HD4.out)
  have HXV : Hid (SetSaid B b (.slice (some ⟨g, 0, none⟩) L.length cap) m L k x w (.returned (.int .i64 0)) (V.setCell ⟨b, 1, none⟩ (.int .i64 ((cnt L : Int) - 1)))) := Lib.hid (by rw [← hV]; exact HX.out _ HD4.out)
  have r1 : V.cell? ⟨b, 1, none⟩ = some (.int .i64 (cnt L : Int)) := HBV.out.cell 1
  have r2 : V.frozen? ⟨b, 1, none⟩ = false := HBV.out.fz 1
  have r3 := HBV.out.lt
  clear hV z0 z1 z2 z3 y0 y1 y2 y3 y4 y5 y6 y7 y8 y9 y10
  go_wp2
  go_ret
  exact HXV.out
theorem set_any (B b : Nat) (v m : Value) (L : List Sl) (k x : V5) (w : World) (h : Om B b v m L w) (hL : L.length ≤ 1000000) (hBw : B ≤ w.heap.size) :
    Calls Try.prog 48 #[.pointer (some ⟨b, 0, none⟩), .agg #[.int .i64 k.k, .int .i64 k.p, .int .i64 k.q, .string k.s, .int .i64 k.r], .agg #[.int .i64 x.k, .int .i64 x.p, .int .i64 x.q, .string x.s, .int .i64 x.r]] w fun e w' => SetSaid B b v m L k x w e w' := by
  by_cases hk : k.k = 0
  · exact set_k0 B b v m L k x w h hL hBw hk
  cases hv : okV k with
  | false => exact set_k1 B b v m L k x w h hL hBw hk hv
  | true =>
    cases hx : okV x with
    | false => exact set_x1 B b v m L k x w h hL hBw hk hv hx
    | true =>
      cases hl : lastI L k with
      | none =>
        have hen : ∀ e, EnSaid L k e → e = .returned (.tuple #[.int .i64 0, .bool false]) := fun e he => by unfold EnSaid at he; rw [hl] at he; exact he
        by_cases hx0 : x.k = 0
        · exact set_n0 B b v m L k x w h hL hBw hk hv hx hx0 0 hen (fun i hi => by rw [hl] at hi; cases hi)
        · exact set_n1 B b v m L k x w h hL hBw hk hv hx hx0 0 hen (fun i hi => by rw [hl] at hi; cases hi)
      | some i =>
        obtain ⟨hi, _, _⟩ := lastI_some hl
        by_cases hb0 : L[i].bh = 0
        · by_cases hx0 : x.k = 0
          · exact set_d B b v m L k x w h hL hBw hk hv hx hx0 i hl hi hb0
          · exact set_v B b v m L k x w h hL hBw hk hv hx hx0 i hl hi hb0
        · have hlf : liveB L[i] = false := by cases hh : liveB L[i] with
            | false => rfl
            | true => exact absurd ((liveB_iff _).1 hh) hb0
          have hen : ∀ e, EnSaid L k e → e = .returned (.tuple #[.int .i64 (i : Int), .bool false]) := fun e he => by
            unfold EnSaid at he; rw [hl] at he; simp only [List.getElem?_eq_getElem hi, hlf] at he; exact he
          have hnk : ∀ j, lastI L k = some j → ∃ hj : j < L.length, L[j].bh ≠ 0 := fun j hj => by
            rw [hl] at hj
            have := Option.some.inj hj
            subst this
            exact ⟨hi, hb0⟩
          by_cases hx0 : x.k = 0
          · exact set_n0 B b v m L k x w h hL hBw hk hv hx hx0 i hen hnk
          · exact set_n1 B b v m L k x w h hL hBw hk hv hx hx0 i hen hnk
end Go.Proofs.Ytaaelhhiceildaa
