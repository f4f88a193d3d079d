/- Layer 18: names taken out. -/
import Derived.Test.YtbfeahafogbbhaaRegX
namespace Go.Proofs.Ytbfeahafogbbhaa
open Go.RowKit Go.Joins M1
set_option linter.unusedVariables false
set_option maxRecDepth 20000 in
set_option maxHeartbeats 2000000 in
theorem put_del (B t g : Nat) (vk vf : Value) (K : List V5) (F : List Int) (N : MP) (w : World) (h : Rg B t vk vf (.map (some g)) K F w) (hB : B ≤ g) (hm : Mp g N w) (hu : Uniq N) (hl : N.length ≤ 1000) (nm : ByteArray) (x : V5) (hs : nm.size ≤ 4096) (hv : okV x = true) (hz : x.k = 0) :
    Calls Try.prog 22 #[.pointer (some ⟨t, 0, none⟩), .string nm, .agg #[.int .i64 x.k, .int .i64 x.p, .int .i64 x.q, .string x.s, .int .i64 x.r]] w fun e w' => e = .returned (.int .i64 0) ∧ Ch [g] w w' ∧ Mp g (delM N nm) w' := by
  have HLK := Lib.hid fun W (hc : Ch [] w W) => (look_run (hm.ch hc (by simp)) nm).1
  have HLEN : Hid (∀ W, Ch [] w W → ∀ T, (Builtin.len_ #[64] T #[.map (some g)]).run Try.prog W = .ok (.int .i64 (N.length : Int)) W) := Lib.hid fun W hc T => len_run (hm.ch hc (by simp)) T
  have HBK := Lib.hid h.blk
  have HM := Lib.hid hm
  have HT : Hid (t ≠ g) := Lib.hid (fun e => by
    obtain ⟨es, c, h3, _⟩ := hm
    have h4 := h.blk
    unfold Blk at h4
    rw [e, h3] at h4
    cases h4)
  obtain ⟨y, hy⟩ : ∃ y, y = (look N nm).getD v5z := ⟨_, rfl⟩
  rw [← hy] at HLK
  have HLK : Hid (∀ W, Ch [] w W → (Instr.lookup 64 (.map (some g)) (.string nm) true).run Try.prog W = .ok (.tuple #[.agg #[.int .i64 y.k, .int .i64 y.p, .int .i64 y.q, .string y.s, .int .i64 y.r], .bool (look N nm).isSome]) W) := HLK
  have HQ := fun W => eq_mapnil g W
  have hs2 : ¬ (4096 : Int) < (nm.size : Int) := by omega
  have hzb : (x.k == 0) = true := by rw [beq_iff_eq]; exact hz
  clear hz
  have QV : Hid (∀ W, Calls Try.prog 37 #[.agg #[.int .i64 x.k, .int .i64 x.p, .int .i64 x.q, .string x.s, .int .i64 x.r]] W fun e w' => e = .returned (.bool true) ∧ Below W.heap.size W w') := Lib.hid fun W => by
    have := valid5 x.k x.p x.q x.s x.r W
    rw [show validF x.k x.p x.q x.s x.r = true from hv] at this
    exact this
  clear hy h hm hu hl hv
  generalize (look N nm).isSome = b at *
  go_enter Try.func22, Try.ntmps22
  go_upto_region 1 with fail
  have HC0 : Hid (Ch [] w (w.alloc (.cells #[.int .i64 x.k, .int .i64 x.p, .int .i64 x.q, .string x.s, .int .i64 x.r] 33))) := Lib.hid ((Ch.refl [] w).alloc _)
  have HX0 : Hid (Blk 33 w.heap.size #[.int .i64 x.k, .int .i64 x.p, .int .i64 x.q, .string x.s, .int .i64 x.r] (w.alloc (.cells #[.int .i64 x.k, .int .i64 x.p, .int .i64 x.q, .string x.s, .int .i64 x.r] 33))) := Lib.hid (Blk.new w _ _ _ rfl)
  have HN : Hid (t ≠ w.heap.size) := Lib.hid (by have := HBK.out.lt; omega)
  have HG0 : Hid (w.heap.size ≠ g) := Lib.hid (by have := HM.out.lt; omega)
  obtain ⟨b0, hb0⟩ : ∃ b0, b0 = w.heap.size := ⟨_, rfl⟩
  rw [← hb0] at HX0 HN HG0 ⊢
  clear hb0
  generalize (w.alloc (.cells #[.int .i64 x.k, .int .i64 x.p, .int .i64 x.q, .string x.s, .int .i64 x.r] 33)) = w0 at *
  have HB1 := Lib.hid (HBK.out.ch HC0.out (not_nil _))
  have c2 : w0.cell? ⟨t, 2, none⟩ = some (.map (some g)) := HB1.out.cell 2
  have ct := HB1.out.lt
  have l0 := HLK.out w0 HC0.out
  have x0 : w0.cell? ⟨b0, 0, none⟩ = some (.int .i64 x.k) := HX0.out.cell 0
  have x1 : w0.cell? ⟨b0, 1, none⟩ = some (.int .i64 x.p) := HX0.out.cell 1
  have x2 : w0.cell? ⟨b0, 2, none⟩ = some (.int .i64 x.q) := HX0.out.cell 2
  have x3 : w0.cell? ⟨b0, 3, none⟩ = some (.string x.s) := HX0.out.cell 3
  have x4 : w0.cell? ⟨b0, 4, none⟩ = some (.int .i64 x.r) := HX0.out.cell 4
  have xl := HX0.out.lt
  go_wp2_with (go_at_call 37; (with_reducible refine (QV.out _).mono ?_); rintro e w1 ⟨rfl, hb1⟩; have HC1 := Lib.hid ((HC0.out.alloc _).trans (Ch.of_below hb1)); have HB2 := Lib.hid (HBK.out.ch HC1.out (not_nil _)); have HX2 := Lib.hid (HX0.out.ch (((Ch.refl [] _).alloc _).trans (Ch.of_below hb1)) (not_nil _)); have e2 : w1.cell? ⟨t, 2, none⟩ = some (.map (some g)) := HB2.out.cell 2; have et := HB2.out.lt; have y0 : w1.cell? ⟨b0, 0, none⟩ = some (.int .i64 x.k) := HX2.out.cell 0; have y1 : w1.cell? ⟨b0, 1, none⟩ = some (.int .i64 x.p) := HX2.out.cell 1; have y2 : w1.cell? ⟨b0, 2, none⟩ = some (.int .i64 x.q) := HX2.out.cell 2; have y3 : w1.cell? ⟨b0, 3, none⟩ = some (.string x.s) := HX2.out.cell 3; have y4 : w1.cell? ⟨b0, 4, none⟩ = some (.int .i64 x.r) := HX2.out.cell 4; have yl := HX2.out.lt; have n1 := HLEN.out w1 HC1.out; clear hb1; obtain ⟨w2, hr2, hm2, hc2⟩ := del_run (HM.out.ch HC1.out (by simp)) nm 0; have hr3 : (Builtin.delete_ #[64, 9] 0 #[.map (some g), .string nm]).run Try.prog w1 = .ok (.tuple #[]) w2 := hr2; have HM2 := Lib.hid hm2; have HC2 := Lib.hid ((HC1.out.mono (fun g hg => absurd hg (not_nil g))).trans hc2); clear hm2 hc2 hr2)
  go_wp2
  go_ret
  exact ⟨rfl, HC2.out, HM2.out⟩
set_option maxRecDepth 20000 in
set_option maxHeartbeats 2000000 in
theorem put_delnil (B t : Nat) (vk vf : Value) (K : List V5) (F : List Int) (w : World) (h : Rg B t vk vf (.map none) K F w) (nm : ByteArray) (x : V5) (hs : nm.size ≤ 4096) (hv : okV x = true) (hz : x.k = 0) :
    Calls Try.prog 22 #[.pointer (some ⟨t, 0, none⟩), .string nm, .agg #[.int .i64 x.k, .int .i64 x.p, .int .i64 x.q, .string x.s, .int .i64 x.r]] w fun e w' => e = .returned (.int .i64 0) ∧ Ch [] w w' := by
  have HLK : Hid (∀ W, (Instr.lookup 64 (.map none) (.string nm) true).run Try.prog W = .ok (.tuple #[.agg #[.int .i64 0, .int .i64 0, .int .i64 0, .string ⟨#[]⟩, .int .i64 0], .bool false]) W) := Lib.hid fun W => look_nil nm W
  have MD : ∀ W, (Builtin.delete_ #[64, 9] 0 #[.map none, .string nm]).run Try.prog W = .ok (.tuple #[]) W := fun W => by
    unfold Builtin.delete_
    simp only [List.getElem?_toArray, List.getElem?_cons_zero, List.getElem?_cons_succ, Sem.run_bind, run_underlying Try.underlying64, Result.andThen_ok, check_str, Sem.run_pure]
  have HBK := Lib.hid h.blk
  have hs2 : ¬ (4096 : Int) < (nm.size : Int) := by omega
  have hzb : (x.k == 0) = true := by rw [beq_iff_eq]; exact hz
  clear hz
  have QV : Hid (∀ W, Calls Try.prog 37 #[.agg #[.int .i64 x.k, .int .i64 x.p, .int .i64 x.q, .string x.s, .int .i64 x.r]] W fun e w' => e = .returned (.bool true) ∧ Below W.heap.size W w') := Lib.hid fun W => by
    have := valid5 x.k x.p x.q x.s x.r W
    rw [show validF x.k x.p x.q x.s x.r = true from hv] at this
    exact this
  clear h hv
  go_enter Try.func22, Try.ntmps22
  go_upto_region 1 with fail
  have HC0 : Hid (Ch [] w (w.alloc (.cells #[.int .i64 x.k, .int .i64 x.p, .int .i64 x.q, .string x.s, .int .i64 x.r] 33))) := Lib.hid ((Ch.refl [] w).alloc _)
  have HX0 : Hid (Blk 33 w.heap.size #[.int .i64 x.k, .int .i64 x.p, .int .i64 x.q, .string x.s, .int .i64 x.r] (w.alloc (.cells #[.int .i64 x.k, .int .i64 x.p, .int .i64 x.q, .string x.s, .int .i64 x.r] 33))) := Lib.hid (Blk.new w _ _ _ rfl)
  have HN : Hid (t ≠ w.heap.size) := Lib.hid (by have := HBK.out.lt; omega)
  obtain ⟨b0, hb0⟩ : ∃ b0, b0 = w.heap.size := ⟨_, rfl⟩
  rw [← hb0] at HX0 HN ⊢
  clear hb0
  generalize (w.alloc (.cells #[.int .i64 x.k, .int .i64 x.p, .int .i64 x.q, .string x.s, .int .i64 x.r] 33)) = w0 at *
  have HB1 := Lib.hid (HBK.out.ch HC0.out (not_nil _))
  have c2 : w0.cell? ⟨t, 2, none⟩ = some (.map none) := HB1.out.cell 2
  have ct := HB1.out.lt
  have l0 := HLK.out w0
  have x0 : w0.cell? ⟨b0, 0, none⟩ = some (.int .i64 x.k) := HX0.out.cell 0
  have x1 : w0.cell? ⟨b0, 1, none⟩ = some (.int .i64 x.p) := HX0.out.cell 1
  have x2 : w0.cell? ⟨b0, 2, none⟩ = some (.int .i64 x.q) := HX0.out.cell 2
  have x3 : w0.cell? ⟨b0, 3, none⟩ = some (.string x.s) := HX0.out.cell 3
  have x4 : w0.cell? ⟨b0, 4, none⟩ = some (.int .i64 x.r) := HX0.out.cell 4
  have xl := HX0.out.lt
  go_wp2_with (go_at_call 37; (with_reducible refine (QV.out _).mono ?_); rintro e w1 ⟨rfl, hb1⟩; have HC1 := Lib.hid ((HC0.out.alloc _).trans (Ch.of_below hb1)); have HB2 := Lib.hid (HBK.out.ch HC1.out (not_nil _)); have HX2 := Lib.hid (HX0.out.ch (((Ch.refl [] _).alloc _).trans (Ch.of_below hb1)) (not_nil _)); have e2 : w1.cell? ⟨t, 2, none⟩ = some (.map none) := HB2.out.cell 2; have et := HB2.out.lt; have y0 : w1.cell? ⟨b0, 0, none⟩ = some (.int .i64 x.k) := HX2.out.cell 0; have y1 : w1.cell? ⟨b0, 1, none⟩ = some (.int .i64 x.p) := HX2.out.cell 1; have y2 : w1.cell? ⟨b0, 2, none⟩ = some (.int .i64 x.q) := HX2.out.cell 2; have y3 : w1.cell? ⟨b0, 3, none⟩ = some (.string x.s) := HX2.out.cell 3; have y4 : w1.cell? ⟨b0, 4, none⟩ = some (.int .i64 x.r) := HX2.out.cell 4; have yl := HX2.out.lt; clear hb1)
  go_wp2
  go_ret
  exact ⟨rfl, HC1.out⟩

end Go.Proofs.Ytbfeahafogbbhaa
