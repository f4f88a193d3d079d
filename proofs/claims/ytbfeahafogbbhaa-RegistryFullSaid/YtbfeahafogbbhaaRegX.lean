/- Layer 18: names put (3). -/
import Derived.Test.YtbfeahafogbbhaaRegU
namespace Go.Proofs.Ytbfeahafogbbhaa
open Go.RowKit Go.Joins M1
set_option linter.unusedVariables false
set_option maxRecDepth 20000 in
set_option maxHeartbeats 2000000 in
theorem put_new (B t : Nat) (vk vf : Value) (K : List V5) (F : List Int) (w : World) (h : Rg B t vk vf (.map none) K F w) (nm : ByteArray) (x : V5) (hs : nm.size ≤ 4096) (hv : okV x = true) (hz : x.k ≠ 0) :
    Calls Try.prog 22 #[.pointer (some ⟨t, 0, none⟩), .string nm, .agg #[.int .i64 x.k, .int .i64 x.p, .int .i64 x.q, .string x.s, .int .i64 x.r]] w fun e w' => e = .returned (.int .i64 0) ∧ ∃ g, w.heap.size ≤ g ∧ Blk 66 t #[vk, vf, .map (some g)] w' ∧ Ch [t] w w' ∧ Mp g [(nm, x)] w' := by
  have HLK : Hid (∀ W, (Instr.lookup 64 (.map none) (.string nm) true).run Try.prog W = .ok (.tuple #[.agg #[.int .i64 0, .int .i64 0, .int .i64 0, .string ⟨#[]⟩, .int .i64 0], .bool false]) W) := Lib.hid fun W => look_nil nm W
  have HBK := Lib.hid h.blk
  have hs2 : ¬ (4096 : Int) < (nm.size : Int) := by omega
  have hzb : (x.k == 0) = false := by rw [beq_eq_false_iff_ne]; exact hz
  have QV : Hid (∀ W, Calls Try.prog 37 #[.agg #[.int .i64 x.k, .int .i64 x.p, .int .i64 x.q, .string x.s, .int .i64 x.r]] W fun e w' => e = .returned (.bool true) ∧ Below W.heap.size W w') := Lib.hid fun W => by
    have := valid5 x.k x.p x.q x.s x.r W
    rw [show validF x.k x.p x.q x.s x.r = true from hv] at this
    exact this
  have ML : ∀ W, (Builtin.len_ #[64] 3 #[.map none]).run Try.prog W = .ok (.int .i64 0) W := fun W => by kernel_rfl
  have ME : ∀ W, (binOp .eql 64 (.map none) (.map none)).run Try.prog W = .ok (.bool true) W := fun W => by kernel_rfl
  have hmm := @run_makeMap Try.prog
  clear h hv
  go_enter Try.func22, Try.ntmps22
  go_upto_region 1 with fail
  have HC0 : Hid (Ch [] w (w.alloc (.cells #[.int .i64 x.k, .int .i64 x.p, .int .i64 x.q, .string x.s, .int .i64 x.r] 33))) := Lib.hid ((Ch.refl [] w).alloc _)
  have HX0 : Hid (Blk 33 w.heap.size #[.int .i64 x.k, .int .i64 x.p, .int .i64 x.q, .string x.s, .int .i64 x.r] (w.alloc (.cells #[.int .i64 x.k, .int .i64 x.p, .int .i64 x.q, .string x.s, .int .i64 x.r] 33))) := Lib.hid (Blk.new w _ _ _ rfl)
  have HN : Hid (t ≠ w.heap.size) := Lib.hid (by have := HBK.out.lt; omega)
  obtain ⟨b0, hb0⟩ : ∃ b0, b0 = w.heap.size := ⟨_, rfl⟩
  rw [← hb0] at HX0 HN ⊢
  clear hb0
  generalize (w.alloc (.cells #[.int .i64 x.k, .int .i64 x.p, .int .i64 x.q, .string x.s, .int .i64 x.r] 33)) = w0 at *
  have HB1 := Lib.hid (HBK.out.ch HC0.out (not_nil _))
  have c2 : w0.cell? ⟨t, 2, none⟩ = some (.map none) := HB1.out.cell 2
  have ct := HB1.out.lt
  have l0 := HLK.out w0
  have x0 : w0.cell? ⟨b0, 0, none⟩ = some (.int .i64 x.k) := HX0.out.cell 0
  have x1 : w0.cell? ⟨b0, 1, none⟩ = some (.int .i64 x.p) := HX0.out.cell 1
  have x2 : w0.cell? ⟨b0, 2, none⟩ = some (.int .i64 x.q) := HX0.out.cell 2
  have x3 : w0.cell? ⟨b0, 3, none⟩ = some (.string x.s) := HX0.out.cell 3
  have x4 : w0.cell? ⟨b0, 4, none⟩ = some (.int .i64 x.r) := HX0.out.cell 4
  have xl := HX0.out.lt
  go_wp2_with (go_at_call 37; (with_reducible refine (QV.out _).mono ?_); rintro e w1 ⟨rfl, hb1⟩; have HC1 := Lib.hid ((HC0.out.alloc _).trans (Ch.of_below hb1)); have HB2 := Lib.hid (HBK.out.ch HC1.out (not_nil _)); have HX2 := Lib.hid (HX0.out.ch (((Ch.refl [] _).alloc _).trans (Ch.of_below hb1)) (not_nil _)); have e2 : w1.cell? ⟨t, 2, none⟩ = some (.map none) := HB2.out.cell 2; have et := HB2.out.lt; have ef := HB2.out.fz 2; have y0 : w1.cell? ⟨b0, 0, none⟩ = some (.int .i64 x.k) := HX2.out.cell 0; have y1 : w1.cell? ⟨b0, 1, none⟩ = some (.int .i64 x.p) := HX2.out.cell 1; have y2 : w1.cell? ⟨b0, 2, none⟩ = some (.int .i64 x.q) := HX2.out.cell 2; have y3 : w1.cell? ⟨b0, 3, none⟩ = some (.string x.s) := HX2.out.cell 3; have y4 : w1.cell? ⟨b0, 4, none⟩ = some (.int .i64 x.r) := HX2.out.cell 4; have yl := HX2.out.lt; clear hb1)
  have HCV : Hid (Ch [t] w1 ((w1.setCell ⟨t, 2, none⟩ (.map (some w1.heap.size))).alloc (.map #[] 0))) := Lib.hid (((Ch.refl [t] w1).set t 2 _ (.inl (by simp))).alloc _)
  have HBV : Hid (Blk 66 t #[vk, vf, .map (some w1.heap.size)] ((w1.setCell ⟨t, 2, none⟩ (.map (some w1.heap.size))).alloc (.map #[] 0))) := Lib.hid ((HB2.out.set 2 (.map (some w1.heap.size))).ch ((Ch.refl [] _).alloc _) (not_nil _))
  have HMV : Hid (Mp w1.heap.size [] ((w1.setCell ⟨t, 2, none⟩ (.map (some w1.heap.size))).alloc (.map #[] 0))) := Lib.hid (Mp.new _ _ (by simp))
  have HXV : Hid (Blk 33 b0 #[.int .i64 x.k, .int .i64 x.p, .int .i64 x.q, .string x.s, .int .i64 x.r] ((w1.setCell ⟨t, 2, none⟩ (.map (some w1.heap.size))).alloc (.map #[] 0))) := Lib.hid (HX2.out.ch HCV.out (by simp; exact fun e => HN.out e.symm))
  obtain ⟨g, hg⟩ : ∃ g, g = w1.heap.size := ⟨_, rfl⟩
  have HGW : Hid (w.heap.size ≤ g) := Lib.hid (by rw [hg]; exact HC1.out.size)
  have HGT : Hid (t ≠ g) := Lib.hid (by have := HB2.out.lt; omega)
  rw [← hg] at HCV HBV HMV HXV ⊢
  clear e2 et ef y0 y1 y2 y3 y4 yl hg
  generalize ((w1.setCell ⟨t, 2, none⟩ (.map (some g))).alloc (.map #[] 0)) = v at *
  have e2 : v.cell? ⟨t, 2, none⟩ = some (.map (some g)) := HBV.out.cell 2
  have et := HBV.out.lt
  have y0 : v.cell? ⟨b0, 0, none⟩ = some (.int .i64 x.k) := HXV.out.cell 0
  have y1 : v.cell? ⟨b0, 1, none⟩ = some (.int .i64 x.p) := HXV.out.cell 1
  have y2 : v.cell? ⟨b0, 2, none⟩ = some (.int .i64 x.q) := HXV.out.cell 2
  have y3 : v.cell? ⟨b0, 3, none⟩ = some (.string x.s) := HXV.out.cell 3
  have y4 : v.cell? ⟨b0, 4, none⟩ = some (.int .i64 x.r) := HXV.out.cell 4
  have yl := HXV.out.lt
  obtain ⟨w2, hr2, hm2, hc2⟩ := put_run (HMV.out.ch (Ch.refl [] v).drew (by simp)) nm x
  have hr3 : (Instr.mapUpdate 64 (.map (some g)) (.string nm) (.agg #[.int .i64 x.k, .int .i64 x.p, .int .i64 x.q, .string x.s, .int .i64 x.r])).run Try.prog v.drew = .ok () w2 := hr2
  have HM2 := Lib.hid hm2
  have HC2 : Hid (Ch [g] v w2) := Lib.hid ((Ch.refl [g] v).drew.trans hc2)
  clear hm2 hc2 hr2
  go_region
  go_wp2
  go_ret
  refine ⟨rfl, g, HGW.out, HBV.out.ch HC2.out (by simpa using HGT.out), ?_, HM2.out⟩
  have hA : Ch [t] w v := (HC1.out.mono (fun g hg => absurd hg (not_nil g))).trans HCV.out
  exact ⟨HC2.out.os.trans hA.os, HC2.out.tape.trans hA.tape, HC2.out.output.trans hA.output, Nat.le_trans hA.size HC2.out.size, fun i q1 q2 => (HC2.out.block i (Nat.lt_of_lt_of_le q1 hA.size) (by have := HGW.out; simp; omega)).trans (hA.block i q1 q2)⟩
end Go.Proofs.Ytbfeahafogbbhaa
