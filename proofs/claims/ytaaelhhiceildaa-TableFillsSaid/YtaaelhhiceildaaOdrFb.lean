/- Layer 12: the functions of ordered maps (4). -/
import Derived.Test.YtaaelhhiceildaaOdrF
import Derived.Deep.DeepCutAuto
import Derived.Deep.CutBlock
import Derived.BigQuiet
import Derived.Lib.ItoaWalk
import Derived.RegionTactic
import Derived.Deep.RegionLaw
namespace Go.Proofs.Ytaaelhhiceildaa
open Go.RowKit M1
set_option linter.unusedVariables false
set_option maxHeartbeats 16000000 in
theorem next_s1 (B b : Nat) (v m : Value) (L : List Sl) (k : V5) (w : World) (h : Om B b v m L w) (hL : L.length ≤ 1000000) (hk : k ≠ v5z) (i : Nat) (hl : lastI L k = some i) (hp : presL L (i + 1) < L.length) :
    Calls Try.prog 40 #[.pointer (some ⟨b, 0, none⟩), .agg #[.int .i64 k.k, .int .i64 k.p, .int .i64 k.q, .string k.s, .int .i64 k.r]] w fun e w' => NxSaid B b v m L (nxAt (rabs L) (i + 1)) w e w' := by
  have NV : ∀ W, (binOp .neq 26 (.agg #[.int .i64 k.k, .int .i64 k.p, .int .i64 k.q, .string k.s, .int .i64 k.r]) (.agg #[.int .i64 0, .int .i64 0, .int .i64 0, .string ⟨#[]⟩, .int .i64 0])).run Try.prog W = .ok (.bool true) W := fun W => by rw [neq_val]; rw [show eqV k.k k.p k.q k.s k.r 0 0 0 ⟨#[]⟩ 0 = decide (k = v5z) from eqV_dec k v5z]; simp [hk]
  have LK : ∀ n, (Instr.lookup 70 m (.agg #[.int .i64 k.k, .int .i64 k.p, .int .i64 k.q, .string k.s, .int .i64 k.r]) true).run Try.prog ((((w.alloc (.cells #[.int .i64 k.k, .int .i64 k.p, .int .i64 k.q, .string k.s, .int .i64 k.r] 26)).alloc (.cells #[.int .i64 0, .int .i64 0, .int .i64 0, .string ⟨#[]⟩, .int .i64 0] 26)).alloc (.cells #[.int .i64 0, .int .i64 0, .int .i64 0, .string ⟨#[]⟩, .int .i64 0] 26)).drewN n) = _ := fun n => h.look k _ (((((Ch.refl [] w).alloc _).alloc _).alloc _).drewN n)
  have HW0 : Hid (Ch [] w (((w.alloc (.cells #[.int .i64 k.k, .int .i64 k.p, .int .i64 k.q, .string k.s, .int .i64 k.r] 26)).alloc (.cells #[.int .i64 0, .int .i64 0, .int .i64 0, .string ⟨#[]⟩, .int .i64 0] 26)).alloc (.cells #[.int .i64 0, .int .i64 0, .int .i64 0, .string ⟨#[]⟩, .int .i64 0] 26))) := Lib.hid ((((Ch.refl [] w).alloc _).alloc _).alloc _)
  have HWn : Hid (∀ n, Ch [] w ((((w.alloc (.cells #[.int .i64 k.k, .int .i64 k.p, .int .i64 k.q, .string k.s, .int .i64 k.r] 26)).alloc (.cells #[.int .i64 0, .int .i64 0, .int .i64 0, .string ⟨#[]⟩, .int .i64 0] 26)).alloc (.cells #[.int .i64 0, .int .i64 0, .int .i64 0, .string ⟨#[]⟩, .int .i64 0] 26)).drewN n)) := Lib.hid fun n => HW0.out.drewN n
  have KA : Hid (∀ n, Blk 26 (w.heap.size + 1) #[.int .i64 0, .int .i64 0, .int .i64 0, .string ⟨#[]⟩, .int .i64 0] ((((w.alloc (.cells #[.int .i64 k.k, .int .i64 k.p, .int .i64 k.q, .string k.s, .int .i64 k.r] 26)).alloc (.cells #[.int .i64 0, .int .i64 0, .int .i64 0, .string ⟨#[]⟩, .int .i64 0] 26)).alloc (.cells #[.int .i64 0, .int .i64 0, .int .i64 0, .string ⟨#[]⟩, .int .i64 0] 26)).drewN n)) := Lib.hid fun n => ((Blk.new (w.alloc (.cells #[.int .i64 k.k, .int .i64 k.p, .int .i64 k.q, .string k.s, .int .i64 k.r] 26)) 26 #[.int .i64 0, .int .i64 0, .int .i64 0, .string ⟨#[]⟩, .int .i64 0] (w.heap.size + 1) (by simp)).ch (((Ch.refl [] _).alloc (.cells #[.int .i64 0, .int .i64 0, .int .i64 0, .string ⟨#[]⟩, .int .i64 0] 26)).drewN n) (by simp))
  have KC : Hid (∀ n, Blk 26 (w.heap.size + 1 + 1) #[.int .i64 0, .int .i64 0, .int .i64 0, .string ⟨#[]⟩, .int .i64 0] ((((w.alloc (.cells #[.int .i64 k.k, .int .i64 k.p, .int .i64 k.q, .string k.s, .int .i64 k.r] 26)).alloc (.cells #[.int .i64 0, .int .i64 0, .int .i64 0, .string ⟨#[]⟩, .int .i64 0] 26)).alloc (.cells #[.int .i64 0, .int .i64 0, .int .i64 0, .string ⟨#[]⟩, .int .i64 0] 26)).drewN n)) := Lib.hid fun n => ((Blk.new ((w.alloc (.cells #[.int .i64 k.k, .int .i64 k.p, .int .i64 k.q, .string k.s, .int .i64 k.r] 26)).alloc (.cells #[.int .i64 0, .int .i64 0, .int .i64 0, .string ⟨#[]⟩, .int .i64 0] 26)) 26 #[.int .i64 0, .int .i64 0, .int .i64 0, .string ⟨#[]⟩, .int .i64 0] (w.heap.size + 1 + 1) (by simp)).ch ((Ch.refl [] _).drewN n) (by simp))
  obtain ⟨c0, c1, c2, f0, f1, f2, hb⟩ := h.cells
  have CC := fun n => ((h.keep (HWn.out n)).cells).2.2.1
  have HO := Lib.hid h
  have HLT := Lib.hid h.lt
  rw [hl] at LK
  dsimp only [Option.map, Option.getD, Option.isSome] at LK
  obtain ⟨hi, _, _⟩ := lastI_some hl
  have QP : Hid (∀ W, Ch [] w W → Calls Try.prog 58 #[.pointer (some ⟨b, 0, none⟩), .int .i64 ((i : Int) + 1)] W fun e w' => e = .returned (.int .i64 (presL L (i + 1) : Int)) ∧ (∃ L', Om B b v m L' w' ∧ rabs L' = rabs L ∧ L'.length = L.length) ∧ Ch (omS b v m) W w') := Lib.hid fun W hc => present_any B b v m L (i + 1) W (h.keep hc) hL (by omega)
  obtain ⟨p, cap, rfl, hpp⟩ := h.form
  have HX : Hid (nxAt (rabs L) (i + 1) = ⟨L[presL L (i + 1)].key, L[presL L (i + 1)].val, true, 0⟩) := Lib.hid (nx_some hp)
  obtain ⟨g, rfl⟩ := hpp (by omega)
  have hne : ((presL L (i + 1) : Int) == (L.length : Int)) = false := by rw [beq_eq_false_iff_ne]; omega
  have hpi : (presL L (i + 1) : Int) < (L.length : Int) := by omega
  have HPQ := Lib.hid hp
  have hL3 : presL L (i + 1) ≤ 1000000 := by omega
  generalize hpe : presL L (i + 1) = P at *
  have HL := Lib.hid hL
  have hi4 : IntKind.i64.wrap ((i : Int) + 1) = (i : Int) + 1 := IntWalk.i64_in _ (by omega)
  clear h hl hk hL hpp hpe
  go_enter Try.func40, Try.ntmps40
  go_upto_region 5 with fail
  go_quiet (fail)
  go_upto_region 10 with (go_at_call 58; (with_reducible refine (QP.out _ (by first | exact HW0.out | exact HWn.out _)).mono ?_); rintro e w2 ⟨rfl, ⟨L2, ho2, hr2, hn2⟩, hc2⟩; have HO2 := Lib.hid ho2; have HC2 := Lib.hid hc2; obtain ⟨c0', c1', c2', f0', f1', f2', hb'⟩ := ho2.cells; clear ho2 hc2)
  have KA2 : Hid (Blk 26 (w.heap.size + 1) #[.int .i64 0, .int .i64 0, .int .i64 0, .string ⟨#[]⟩, .int .i64 0] w2) := Lib.hid ((KA.out _).ch HC2.out (fun hg => by have := (HLT.out _ hg).2; omega))
  have KC2 : Hid (Blk 26 (w.heap.size + 1 + 1) #[.int .i64 0, .int .i64 0, .int .i64 0, .string ⟨#[]⟩, .int .i64 0] w2) := Lib.hid ((KC.out _).ch HC2.out (fun hg => by have := (HLT.out _ hg).2; omega))
  have HCW := Lib.hid (((HWn.out _).mono (T := omS b (.slice (some ⟨g, 0, none⟩) L.length cap) m) (by simp)).trans HC2.out)
  obtain ⟨d0, d1, d2, d3, d4⟩ : w2.cell? ⟨w.heap.size + 1, 0, none⟩ = some (.int .i64 0) ∧ w2.cell? ⟨w.heap.size + 1, 1, none⟩ = some (.int .i64 0) ∧ w2.cell? ⟨w.heap.size + 1, 2, none⟩ = some (.int .i64 0) ∧ w2.cell? ⟨w.heap.size + 1, 3, none⟩ = some (.string ⟨#[]⟩) ∧ w2.cell? ⟨w.heap.size + 1, 4, none⟩ = some (.int .i64 0) := ⟨KA2.out.cell 0, KA2.out.cell 1, KA2.out.cell 2, KA2.out.cell 3, KA2.out.cell 4⟩
  obtain ⟨x0, x1, x2, x3, x4⟩ : w2.cell? ⟨w.heap.size + 1 + 1, 0, none⟩ = some (.int .i64 0) ∧ w2.cell? ⟨w.heap.size + 1 + 1, 1, none⟩ = some (.int .i64 0) ∧ w2.cell? ⟨w.heap.size + 1 + 1, 2, none⟩ = some (.int .i64 0) ∧ w2.cell? ⟨w.heap.size + 1 + 1, 3, none⟩ = some (.string ⟨#[]⟩) ∧ w2.cell? ⟨w.heap.size + 1 + 1, 4, none⟩ = some (.int .i64 0) := ⟨KC2.out.cell 0, KC2.out.cell 1, KC2.out.cell 2, KC2.out.cell 3, KC2.out.cell 4⟩
  have e0 := KA2.out.fz 0
  have e1 := KA2.out.fz 1
  have e2 := KA2.out.fz 2
  have e3 := KA2.out.fz 3
  have e4 := KA2.out.fz 4
  have y0 := KC2.out.fz 0
  have y1 := KC2.out.fz 1
  have y2 := KC2.out.fz 2
  have y3 := KC2.out.fz 3
  have y4 := KC2.out.fz 4
  have hlen : P < L2.length := by have := HPQ.out; omega
  obtain ⟨s0, s1, s2, s3, s4, s5, s6, s7, s8, s9, _⟩ := HO2.out.slot P hlen
  have HKV : Hid (L2[P].key = (L[P]'(HPQ.out)).key ∧ L2[P].val = (L[P]'(HPQ.out)).val) := Lib.hid (by
    have e1 := rabs_at L2 P hlen
    have e2 := rabs_at L P HPQ.out
    have e3 : rab L2[P] = rab (L[P]'(HPQ.out)) := by rw [← e1, ← e2]; simp only [hr2]
    exact ⟨congrArg Rs.key e3, congrArg Rs.val e3⟩)
  go_upto_region 12 with fail
  go_region
  all_goals (
    go_wp2
    have hlt1 : ∀ y ∈ omS b (.slice (some ⟨g, 0, none⟩) L.length cap) m, y ≠ w.heap.size + 1 ∧ y ≠ w.heap.size + 1 + 1 := fun g' hg' => by have := (HLT.out _ hg').2; omega
    show bodyPost _ _ _ Exit.ret _ (st5 (st5 w2 (w.heap.size + 1) (.int .i64 L2[P].key.k) (.int .i64 L2[P].key.p) (.int .i64 L2[P].key.q) (.string L2[P].key.s) (.int .i64 L2[P].key.r)) (w.heap.size + 1 + 1) (.int .i64 L2[P].val.k) (.int .i64 L2[P].val.p) (.int .i64 L2[P].val.q) (.string L2[P].val.s) (.int .i64 L2[P].val.r)).drew
    have I1 : Blk 26 (w.heap.size + 1) #[.int .i64 L2[P].key.k, .int .i64 L2[P].key.p, .int .i64 L2[P].key.q, .string L2[P].key.s, .int .i64 L2[P].key.r] (st5 (st5 w2 (w.heap.size + 1) (.int .i64 L2[P].key.k) (.int .i64 L2[P].key.p) (.int .i64 L2[P].key.q) (.string L2[P].key.s) (.int .i64 L2[P].key.r)) (w.heap.size + 1 + 1) (.int .i64 L2[P].val.k) (.int .i64 L2[P].val.p) (.int .i64 L2[P].val.q) (.string L2[P].val.s) (.int .i64 L2[P].val.r)).drew := Blk.ch (w := (st5 (st5 w2 (w.heap.size + 1) (.int .i64 L2[P].key.k) (.int .i64 L2[P].key.p) (.int .i64 L2[P].key.q) (.string L2[P].key.s) (.int .i64 L2[P].key.r)) (w.heap.size + 1 + 1) (.int .i64 L2[P].val.k) (.int .i64 L2[P].val.p) (.int .i64 L2[P].val.q) (.string L2[P].val.s) (.int .i64 L2[P].val.r))) ((st5_blk KA2.out).ch (st5_ch (S := [w.heap.size + 1 + 1]) (Ch.refl _ _) (.inl (by simp))) (by simp)) ((Ch.refl [] _).drew) (by simp)
    have I2 : Blk 26 (w.heap.size + 1 + 1) #[.int .i64 L2[P].val.k, .int .i64 L2[P].val.p, .int .i64 L2[P].val.q, .string L2[P].val.s, .int .i64 L2[P].val.r] (st5 (st5 w2 (w.heap.size + 1) (.int .i64 L2[P].key.k) (.int .i64 L2[P].key.p) (.int .i64 L2[P].key.q) (.string L2[P].key.s) (.int .i64 L2[P].key.r)) (w.heap.size + 1 + 1) (.int .i64 L2[P].val.k) (.int .i64 L2[P].val.p) (.int .i64 L2[P].val.q) (.string L2[P].val.s) (.int .i64 L2[P].val.r)).drew := Blk.ch (w := (st5 (st5 w2 (w.heap.size + 1) (.int .i64 L2[P].key.k) (.int .i64 L2[P].key.p) (.int .i64 L2[P].key.q) (.string L2[P].key.s) (.int .i64 L2[P].key.r)) (w.heap.size + 1 + 1) (.int .i64 L2[P].val.k) (.int .i64 L2[P].val.p) (.int .i64 L2[P].val.q) (.string L2[P].val.s) (.int .i64 L2[P].val.r))) (st5_blk (KC2.out.ch (st5_ch (S := [w.heap.size + 1]) (Ch.refl _ _) (.inl (by simp))) (by simp))) ((Ch.refl [] _).drew) (by simp)
    have hch : Ch [w.heap.size + 1, w.heap.size + 1 + 1] w2 (st5 (st5 w2 (w.heap.size + 1) (.int .i64 L2[P].key.k) (.int .i64 L2[P].key.p) (.int .i64 L2[P].key.q) (.string L2[P].key.s) (.int .i64 L2[P].key.r)) (w.heap.size + 1 + 1) (.int .i64 L2[P].val.k) (.int .i64 L2[P].val.p) (.int .i64 L2[P].val.q) (.string L2[P].val.s) (.int .i64 L2[P].val.r)).drew := Ch.drew (W := (st5 (st5 w2 (w.heap.size + 1) (.int .i64 L2[P].key.k) (.int .i64 L2[P].key.p) (.int .i64 L2[P].key.q) (.string L2[P].key.s) (.int .i64 L2[P].key.r)) (w.heap.size + 1 + 1) (.int .i64 L2[P].val.k) (.int .i64 L2[P].val.p) (.int .i64 L2[P].val.q) (.string L2[P].val.s) (.int .i64 L2[P].val.r))) (st5_ch (st5_ch (Ch.refl _ _) (.inl (by simp))) (.inl (by simp)))
    have HO9 := HO2.out.ch hch (fun g hg => by have := hlt1 g hg; simp; omega)
    have HC9 := HCW.out.fresh (L := [w.heap.size + 1, w.heap.size + 1 + 1]) (fun g hg => by simp at hg; omega) hch
    generalize (st5 (st5 w2 (w.heap.size + 1) (.int .i64 L2[P].key.k) (.int .i64 L2[P].key.p) (.int .i64 L2[P].key.q) (.string L2[P].key.s) (.int .i64 L2[P].key.r)) (w.heap.size + 1 + 1) (.int .i64 L2[P].val.k) (.int .i64 L2[P].val.p) (.int .i64 L2[P].val.q) (.string L2[P].val.s) (.int .i64 L2[P].val.r)).drew = W9 at *
    have q0 := I1.cell 0
    have q1 := I1.cell 1
    have q2 := I1.cell 2
    have q3 := I1.cell 3
    have q4 := I1.cell 4
    have r0 := I2.cell 0
    have r1 := I2.cell 1
    have r2 := I2.cell 2
    have r3 := I2.cell 3
    have r4 := I2.cell 4
    simp at q0 q1 q2 q3 q4 r0 r1 r2 r3 r4
    refine bodyPost_ret (v := .tuple #[.agg #[.int .i64 L2[P].key.k, .int .i64 L2[P].key.p, .int .i64 L2[P].key.q, .string L2[P].key.s, .int .i64 L2[P].key.r], .agg #[.int .i64 L2[P].val.k, .int .i64 L2[P].val.p, .int .i64 L2[P].val.q, .string L2[P].val.s, .int .i64 L2[P].val.r], .bool true, .int .i64 0]) (by simp [results, Try.results40, go_sem, q0, q1, q2, q3, q4, r0, r1, r2, r3, r4]) rfl ⟨?_, ⟨L2, HO9, hr2, hn2⟩, HC9⟩
    rw [HX.out]
    rw [HKV.out.1, HKV.out.2])
end Go.Proofs.Ytaaelhhiceildaa
