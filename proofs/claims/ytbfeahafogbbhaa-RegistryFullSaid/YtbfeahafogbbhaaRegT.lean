/- Layer 18: names put. -/
import Derived.Test.YtbfeahafogbbhaaRegQ
namespace Go.Proofs.Ytbfeahafogbbhaa
open Go.RowKit Go.Joins M1
set_option linter.unusedVariables false
theorem len_run {g : Nat} {l : MP} {w : World} (h : Mp g l w) (t : TypeId) : (Builtin.len_ #[64] t #[.map (some g)]).run Try.prog w = .ok (.int .i64 (l.length : Int)) w := by
  obtain ⟨es, c, hb, he⟩ := h
  have hn : es.size = l.length := by have := congrArg List.length he; simpa using this
  unfold Builtin.len_
  simp only [List.getElem?_toArray, List.getElem?_cons_zero, Sem.run_bind, run_underlying Try.underlying64, Result.andThen_ok, Go.MapKept.run_getObj_map hb, Sem.run_pure, goInt, hn]
theorem Nm.len {B : Nat} {vm : Value} {N : MP} {w : World} (h : Nm B vm N w) (W : World) (hc : Ch [] w W) (t : TypeId) :
    (Builtin.len_ #[64] t #[vm]).run Try.prog W = .ok (.int .i64 (N.length : Int)) W := by
  rcases h.mp with ⟨rfl, rfl⟩ | ⟨g, rfl, h2, h3⟩
  · unfold Builtin.len_
    simp [run_underlying Try.underlying64, goInt]
  · exact len_run (h3.ch hc (by simp)) t
set_option maxRecDepth 20000 in
set_option maxHeartbeats 2000000 in
theorem put_long (B t : Nat) (vk vf vm : Value) (K : List V5) (F : List Int) (N : MP) (w : World) (h : Rg B t vk vf vm K F w) (hn : Nm B vm N w) (nm : ByteArray) (x : V5) (hs : 4096 < nm.size) :
    Calls Try.prog 22 #[.pointer (some ⟨t, 0, none⟩), .string nm, .agg #[.int .i64 x.k, .int .i64 x.p, .int .i64 x.q, .string x.s, .int .i64 x.r]] w fun e w' => e = .returned (.int .i64 14) ∧ Ch [] w w' := by
  have HLK := Lib.hid fun W hc => hn.look nm W hc
  have HBK := Lib.hid h.blk
  obtain ⟨y, hy⟩ : ∃ y, y = (look N nm).getD v5z := ⟨_, rfl⟩
  rw [← hy] at HLK
  have HLK : Hid (∀ W, Ch [] w W → (Instr.lookup 64 vm (.string nm) true).run Try.prog W = .ok (.tuple #[.agg #[.int .i64 y.k, .int .i64 y.p, .int .i64 y.q, .string y.s, .int .i64 y.r], .bool (look N nm).isSome]) W) := HLK
  clear hy h hn
  generalize (look N nm).isSome = b at *
  have hs2 : (4096 : Int) < (nm.size : Int) := by omega
  go_enter Try.func22, Try.ntmps22
  go_upto_region 1 with fail
  have HC0 : Hid (Ch [] w (w.alloc (.cells #[.int .i64 x.k, .int .i64 x.p, .int .i64 x.q, .string x.s, .int .i64 x.r] 33))) := Lib.hid ((Ch.refl [] w).alloc _)
  have HX0 : Hid (Blk 33 w.heap.size #[.int .i64 x.k, .int .i64 x.p, .int .i64 x.q, .string x.s, .int .i64 x.r] (w.alloc (.cells #[.int .i64 x.k, .int .i64 x.p, .int .i64 x.q, .string x.s, .int .i64 x.r] 33))) := Lib.hid (Blk.new w _ _ _ rfl)
  have HN : Hid (t ≠ w.heap.size) := Lib.hid (by have := HBK.out.lt; omega)
  obtain ⟨b0, hb0⟩ : ∃ b0, b0 = w.heap.size := ⟨_, rfl⟩
  have HB0 := Lib.hid hb0
  rw [← hb0] at HX0 HN ⊢
  clear hb0
  generalize (w.alloc (.cells #[.int .i64 x.k, .int .i64 x.p, .int .i64 x.q, .string x.s, .int .i64 x.r] 33)) = w0 at *
  have HB1 := Lib.hid (HBK.out.ch HC0.out (not_nil _))
  have c2 : w0.cell? ⟨t, 2, none⟩ = some vm := HB1.out.cell 2
  have ct := HB1.out.lt
  have l0 := HLK.out w0 HC0.out
  have x0 : w0.cell? ⟨b0, 0, none⟩ = some (.int .i64 x.k) := HX0.out.cell 0
  have x1 : w0.cell? ⟨b0, 1, none⟩ = some (.int .i64 x.p) := HX0.out.cell 1
  have x2 : w0.cell? ⟨b0, 2, none⟩ = some (.int .i64 x.q) := HX0.out.cell 2
  have x3 : w0.cell? ⟨b0, 3, none⟩ = some (.string x.s) := HX0.out.cell 3
  have x4 : w0.cell? ⟨b0, 4, none⟩ = some (.int .i64 x.r) := HX0.out.cell 4
  have xl := HX0.out.lt
  go_wp2
  go_ret
  exact ⟨rfl, HC0.out.alloc _⟩
set_option maxRecDepth 20000 in
set_option maxHeartbeats 2000000 in
theorem put_bad (B t : Nat) (vk vf vm : Value) (K : List V5) (F : List Int) (N : MP) (w : World) (h : Rg B t vk vf vm K F w) (hn : Nm B vm N w) (nm : ByteArray) (x : V5) (hs : nm.size ≤ 4096) (hv : okV x = false) :
    Calls Try.prog 22 #[.pointer (some ⟨t, 0, none⟩), .string nm, .agg #[.int .i64 x.k, .int .i64 x.p, .int .i64 x.q, .string x.s, .int .i64 x.r]] w fun e w' => e = .returned (.int .i64 2) ∧ Ch [] w w' := by
  have HLK := Lib.hid fun W hc => hn.look nm W hc
  have HBK := Lib.hid h.blk
  obtain ⟨y, hy⟩ : ∃ y, y = (look N nm).getD v5z := ⟨_, rfl⟩
  rw [← hy] at HLK
  have HLK : Hid (∀ W, Ch [] w W → (Instr.lookup 64 vm (.string nm) true).run Try.prog W = .ok (.tuple #[.agg #[.int .i64 y.k, .int .i64 y.p, .int .i64 y.q, .string y.s, .int .i64 y.r], .bool (look N nm).isSome]) W) := HLK
  clear hy h hn
  generalize (look N nm).isSome = b at *
  have hs2 : ¬ (4096 : Int) < (nm.size : Int) := by omega
  have QV : Hid (∀ W, Calls Try.prog 37 #[.agg #[.int .i64 x.k, .int .i64 x.p, .int .i64 x.q, .string x.s, .int .i64 x.r]] W fun e w' => e = .returned (.bool false) ∧ Below W.heap.size W w') := Lib.hid fun W => by
    have := valid5 x.k x.p x.q x.s x.r W
    rw [show validF x.k x.p x.q x.s x.r = false from hv] at this
    exact this
  go_enter Try.func22, Try.ntmps22
  go_upto_region 1 with fail
  have HC0 : Hid (Ch [] w (w.alloc (.cells #[.int .i64 x.k, .int .i64 x.p, .int .i64 x.q, .string x.s, .int .i64 x.r] 33))) := Lib.hid ((Ch.refl [] w).alloc _)
  have HX0 : Hid (Blk 33 w.heap.size #[.int .i64 x.k, .int .i64 x.p, .int .i64 x.q, .string x.s, .int .i64 x.r] (w.alloc (.cells #[.int .i64 x.k, .int .i64 x.p, .int .i64 x.q, .string x.s, .int .i64 x.r] 33))) := Lib.hid (Blk.new w _ _ _ rfl)
  have HN : Hid (t ≠ w.heap.size) := Lib.hid (by have := HBK.out.lt; omega)
  obtain ⟨b0, hb0⟩ : ∃ b0, b0 = w.heap.size := ⟨_, rfl⟩
  have HB0 := Lib.hid hb0
  rw [← hb0] at HX0 HN ⊢
  clear hb0
  generalize (w.alloc (.cells #[.int .i64 x.k, .int .i64 x.p, .int .i64 x.q, .string x.s, .int .i64 x.r] 33)) = w0 at *
  have HB1 := Lib.hid (HBK.out.ch HC0.out (not_nil _))
  have c2 : w0.cell? ⟨t, 2, none⟩ = some vm := HB1.out.cell 2
  have ct := HB1.out.lt
  have l0 := HLK.out w0 HC0.out
  have x0 : w0.cell? ⟨b0, 0, none⟩ = some (.int .i64 x.k) := HX0.out.cell 0
  have x1 : w0.cell? ⟨b0, 1, none⟩ = some (.int .i64 x.p) := HX0.out.cell 1
  have x2 : w0.cell? ⟨b0, 2, none⟩ = some (.int .i64 x.q) := HX0.out.cell 2
  have x3 : w0.cell? ⟨b0, 3, none⟩ = some (.string x.s) := HX0.out.cell 3
  have x4 : w0.cell? ⟨b0, 4, none⟩ = some (.int .i64 x.r) := HX0.out.cell 4
  have xl := HX0.out.lt
  go_wp2_with (go_at_call 37; (with_reducible refine (QV.out _).mono ?_); rintro e w1 ⟨rfl, hb1⟩; have HC1 := Lib.hid ((HC0.out.alloc _).trans (Ch.of_below hb1)); clear hb1)
  go_ret
  exact ⟨rfl, HC1.out⟩
set_option maxRecDepth 20000 in
set_option maxHeartbeats 2000000 in
theorem put_full (B t : Nat) (vk vf vm : Value) (K : List V5) (F : List Int) (N : MP) (w : World) (h : Rg B t vk vf vm K F w) (hn : Nm B vm N w) (nm : ByteArray) (x : V5) (hs : nm.size ≤ 4096) (hv : okV x = true) (hz : x.k ≠ 0) (hl : look N nm = none) (hN : N.length = 1000) :
    Calls Try.prog 22 #[.pointer (some ⟨t, 0, none⟩), .string nm, .agg #[.int .i64 x.k, .int .i64 x.p, .int .i64 x.q, .string x.s, .int .i64 x.r]] w fun e w' => e = .returned (.int .i64 17) ∧ Ch [] w w' := by
  have HLK := Lib.hid fun W hc => hn.look nm W hc
  have HBK := Lib.hid h.blk
  have HLEN : Hid (∀ W, Ch [] w W → ∀ T, (Builtin.len_ #[64] T #[vm]).run Try.prog W = .ok (.int .i64 1000) W) := Lib.hid fun W hc T => by rw [hn.len W hc T, hN]; rfl
  obtain ⟨y, hy⟩ : ∃ y, y = (look N nm).getD v5z := ⟨_, rfl⟩
  rw [← hy] at HLK
  have HLK : Hid (∀ W, Ch [] w W → (Instr.lookup 64 vm (.string nm) true).run Try.prog W = .ok (.tuple #[.agg #[.int .i64 y.k, .int .i64 y.p, .int .i64 y.q, .string y.s, .int .i64 y.r], .bool (look N nm).isSome]) W) := HLK
  clear hy h hn
  rw [hl] at HLK
  have HLK : Hid (∀ W, Ch [] w W → (Instr.lookup 64 vm (.string nm) true).run Try.prog W = .ok (.tuple #[.agg #[.int .i64 y.k, .int .i64 y.p, .int .i64 y.q, .string y.s, .int .i64 y.r], .bool false]) W) := HLK
  clear hl hN
  have hs2 : ¬ (4096 : Int) < (nm.size : Int) := by omega
  have hzb : (x.k == 0) = false := by rw [beq_eq_false_iff_ne]; exact hz
  have QV : Hid (∀ W, Calls Try.prog 37 #[.agg #[.int .i64 x.k, .int .i64 x.p, .int .i64 x.q, .string x.s, .int .i64 x.r]] W fun e w' => e = .returned (.bool true) ∧ Below W.heap.size W w') := Lib.hid fun W => by
    have := valid5 x.k x.p x.q x.s x.r W
    rw [show validF x.k x.p x.q x.s x.r = true from hv] at this
    exact this
  go_enter Try.func22, Try.ntmps22
  go_upto_region 1 with fail
  have HC0 : Hid (Ch [] w (w.alloc (.cells #[.int .i64 x.k, .int .i64 x.p, .int .i64 x.q, .string x.s, .int .i64 x.r] 33))) := Lib.hid ((Ch.refl [] w).alloc _)
  have HX0 : Hid (Blk 33 w.heap.size #[.int .i64 x.k, .int .i64 x.p, .int .i64 x.q, .string x.s, .int .i64 x.r] (w.alloc (.cells #[.int .i64 x.k, .int .i64 x.p, .int .i64 x.q, .string x.s, .int .i64 x.r] 33))) := Lib.hid (Blk.new w _ _ _ rfl)
  have HN : Hid (t ≠ w.heap.size) := Lib.hid (by have := HBK.out.lt; omega)
  obtain ⟨b0, hb0⟩ : ∃ b0, b0 = w.heap.size := ⟨_, rfl⟩
  have HB0 := Lib.hid hb0
  rw [← hb0] at HX0 HN ⊢
  clear hb0
  generalize (w.alloc (.cells #[.int .i64 x.k, .int .i64 x.p, .int .i64 x.q, .string x.s, .int .i64 x.r] 33)) = w0 at *
  have HB1 := Lib.hid (HBK.out.ch HC0.out (not_nil _))
  have c2 : w0.cell? ⟨t, 2, none⟩ = some vm := HB1.out.cell 2
  have ct := HB1.out.lt
  have l0 := HLK.out w0 HC0.out
  have x0 : w0.cell? ⟨b0, 0, none⟩ = some (.int .i64 x.k) := HX0.out.cell 0
  have x1 : w0.cell? ⟨b0, 1, none⟩ = some (.int .i64 x.p) := HX0.out.cell 1
  have x2 : w0.cell? ⟨b0, 2, none⟩ = some (.int .i64 x.q) := HX0.out.cell 2
  have x3 : w0.cell? ⟨b0, 3, none⟩ = some (.string x.s) := HX0.out.cell 3
  have x4 : w0.cell? ⟨b0, 4, none⟩ = some (.int .i64 x.r) := HX0.out.cell 4
  have xl := HX0.out.lt
  go_wp2_with (go_at_call 37; (with_reducible refine (QV.out _).mono ?_); rintro e w1 ⟨rfl, hb1⟩; have HC1 := Lib.hid ((HC0.out.alloc _).trans (Ch.of_below hb1)); have HB2 := Lib.hid (HBK.out.ch HC1.out (not_nil _)); have HX2 := Lib.hid (HX0.out.ch (((Ch.refl [] _).alloc _).trans (Ch.of_below hb1)) (not_nil _)); have e2 : w1.cell? ⟨t, 2, none⟩ = some vm := HB2.out.cell 2; have et := HB2.out.lt; have y0 : w1.cell? ⟨b0, 0, none⟩ = some (.int .i64 x.k) := HX2.out.cell 0; have yl := HX2.out.lt; have n1 := HLEN.out w1 HC1.out; clear hb1)
  go_ret
  exact ⟨rfl, HC1.out⟩
end Go.Proofs.Ytbfeahafogbbhaa
