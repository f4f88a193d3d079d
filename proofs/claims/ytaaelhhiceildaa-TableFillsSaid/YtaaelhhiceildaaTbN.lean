/- Layer 13: Remove. -/
import Derived.Test.YtaaelhhiceildaaTbJ
namespace Go.Proofs.Ytaaelhhiceildaa
open Go.RowKit Go.Joins M1
set_option linter.unusedVariables false
/-- What Remove leaves. -/
def cutA (l : List V5) (j : Nat) : List V5 := l.take j ++ (l.drop (j + 1)).take (l.length - j - 1) ++ l.drop (j + (l.length - j - 1))
theorem cutA_len (l : List V5) (j : Nat) (h : j < l.length) : (cutA l j).length = l.length := by unfold cutA; simp; omega
def remS (s : TS) (j : Nat) : TS := putS ⟨cutA s.arr j, min s.bl j, s.R, s.st⟩ (s.arr.length - 1) v5z
/-- What changes new blocks alone, behind a call. -/
theorem tb_fin {B t : Nat} {va : Value} {b : Nat} {v m : Value} {s' : TS} {w w3 w4 w5 : World} {S : List Nat} (h0 : Ch (tbS t va b v m) w w3) (h : TbSaid B t va b v m s' w3 w4) (k : Ch S w4 w5) (hS : ∀ y ∈ S, y ∉ tbS t va b v m ∧ y < w3.heap.size ∧ w.heap.size ≤ y) : TbSaid B t va b v m s' w w5 := by
  obtain ⟨⟨va', b', v', m', h1, h2⟩, h3⟩ := h
  have hall := h0.trans h3
  refine ⟨⟨va', b', v', m', h1.ch k (fun g hg hs => ?_), fun g hg => ?_⟩, ⟨k.os.trans hall.os, k.tape.trans hall.tape, k.output.trans hall.output, Nat.le_trans hall.size k.size, fun g q1 q2 => (k.block g (Nat.lt_of_lt_of_le q1 hall.size) (fun e => by have := (hS g e).2.2; omega)).trans (hall.block g q1 q2)⟩⟩
  · obtain ⟨a1, a2, a3⟩ := hS g hs
    rcases h2 g hg with q | q
    · exact a1 q
    · omega
  · rcases h2 g hg with q | q
    · exact .inl q
    · right; have := h0.size; omega
set_option maxHeartbeats 8000000 in
theorem rem_a (B t : Nat) (va : Value) (b : Nat) (v m : Value) (s : TS) (w : World) (h : Tb B t va b v m s w) (j : Nat) (hj : j < s.arr.length) (hL : s.arr.length ≤ 1000000)  (hle : s.bl ≤ j) :
    Calls Try.prog 23 #[.pointer (some ⟨t, 0, none⟩), .int .i64 ((j : Int) + 1)] w fun e w' => e = .returned (.tuple #[.agg #[.int .i64 s.arr[j].k, .int .i64 s.arr[j].p, .int .i64 s.arr[j].q, .string s.arr[j].s, .int .i64 s.arr[j].r], .int .i64 0]) ∧ TbSaid B t va b v m (putS ⟨cutA s.arr j, s.bl, s.R, s.st⟩ (s.arr.length - 1) v5z) w w' := by
  obtain ⟨p, cap, rfl, hp⟩ := h.form
  have hcap := own_cap h.row
  obtain ⟨g, rfl, hgl, _, key⟩ := hp (by omega)
  have QL := Lib.hid (tlen_any B t (.slice (some ⟨g, 0, none⟩) s.arr.length cap) b v m s (w.alloc (.cells #[.int .i64 0, .int .i64 0, .int .i64 0, .string ⟨#[]⟩, .int .i64 0] 26)) (h.ch0 ((Ch.refl [] w).alloc _)))
  have HB0 : Hid (Blk 26 w.heap.size #[.int .i64 0, .int .i64 0, .int .i64 0, .string ⟨#[]⟩, .int .i64 0] (w.alloc (.cells #[.int .i64 0, .int .i64 0, .int .i64 0, .string ⟨#[]⟩, .int .i64 0] 26))) := Lib.hid (Blk.new w _ _ _ rfl)
  have HT0 : Hid (Tb B t (.slice (some ⟨g, 0, none⟩) s.arr.length cap) b v m s (w.alloc (.cells #[.int .i64 0, .int .i64 0, .int .i64 0, .string ⟨#[]⟩, .int .i64 0] 26))) := Lib.hid (h.ch0 ((Ch.refl [] w).alloc _))
  have HC0 : Hid (Ch [] w (w.alloc (.cells #[.int .i64 0, .int .i64 0, .int .i64 0, .string ⟨#[]⟩, .int .i64 0] 26))) := Lib.hid ((Ch.refl [] w).alloc _)
  have HNT : Hid (∀ y ∈ tbS t (.slice (some ⟨g, 0, none⟩) s.arr.length cap) b v m, y < w.heap.size) := Lib.hid fun y hy => (h.lt y hy).2
  have HGM : Hid (g ∈ tbS t (.slice (some ⟨g, 0, none⟩) s.arr.length cap) b v m) := Lib.hid (by simp [tbS, Go.Proofs.Ytaaelhhiceildaa.ob, Value.ownBlock])
  obtain ⟨x, hx⟩ : ∃ x, x = s.arr[j] := ⟨_, rfl⟩
  rw [← hx]
  have hkx : ∀ q, q < 5 → w.cell? ⟨g, j * 5 + q, none⟩ = (vC x)[q]? := fun q hq => by have := key j hj q hq; rw [← hx] at this; exact this
  have HKX : Hid (∀ q, q < 5 → (w.alloc (.cells #[.int .i64 0, .int .i64 0, .int .i64 0, .string ⟨#[]⟩, .int .i64 0] 26)).cell? ⟨g, j * 5 + q, none⟩ = (vC x)[q]?) := Lib.hid fun q hq => (HC0.out.below.cell (p := ⟨g, _, none⟩) hgl).trans (hkx q hq)
  have h1 : ¬ (j : Int) + 1 < 1 := by omega
  have h2 : ¬ (s.arr.length : Int) < (j : Int) + 1 := by omega
  have hj2 : (j : Int) < (s.arr.length : Int) := by omega
  have hj3 : (j : Int) ≤ (s.arr.length : Int) := by omega
  have hj0 : (0 : Int) ≤ (j : Int) := by omega
  have hcn : (s.arr.length : Int) ≤ (cap : Int) := by omega
  have dj : IntKind.i64.wrap ((j : Int) + 1 - 1) = (j : Int) := by rw [show (j : Int) + 1 - 1 = j by omega]; exact IntWalk.i64_in _ (by omega)
  have dj0 : IntKind.i64.wrap (j : Int) = (j : Int) := IntWalk.i64_in _ (by omega)
  have hb1 : (s.bl : Int) ≤ (j : Int) := by omega
  have HJ := Lib.hid hj
  have HBL : Hid True := Lib.hid trivial
  have HLL := Lib.hid hL
  clear h hp key hx hkx hcap hle
  go_enter Try.func23, Try.ntmps23
  go_upto_region 6 with (go_at_call 19; (with_reducible refine (QL.out).mono ?_); rintro e wl ⟨rfl, rfl⟩)
  generalize (w.alloc (.cells #[.int .i64 0, .int .i64 0, .int .i64 0, .string ⟨#[]⟩, .int .i64 0] 26)) = w0 at *
  have c0 : w0.cell? ⟨t, 0, none⟩ = some (.slice (some ⟨g, 0, none⟩) s.arr.length cap) := HT0.out.blk.cell 0
  have hbt := HT0.out.blk.lt
  have hg0 : g < w0.heap.size := (HT0.out.lt g HGM.out).2
  have d0 : w0.cell? ⟨g, j * 5, none⟩ = some (.int .i64 x.k) := HKX.out 0 (by omega)
  have d1 : w0.cell? ⟨g, j * 5 + 1, none⟩ = some (.int .i64 x.p) := HKX.out 1 (by omega)
  have d2 : w0.cell? ⟨g, j * 5 + 2, none⟩ = some (.int .i64 x.q) := HKX.out 2 (by omega)
  have d3 : w0.cell? ⟨g, j * 5 + 3, none⟩ = some (.string x.s) := HKX.out 3 (by omega)
  have d4 : w0.cell? ⟨g, j * 5 + 4, none⟩ = some (.int .i64 x.r) := HKX.out 4 (by omega)
  have HB1 : Hid (Blk 26 w.heap.size #[.int .i64 0, .int .i64 0, .int .i64 0, .string ⟨#[]⟩, .int .i64 0] (w0.alloc (.cells #[.int .i64 x.k, .int .i64 x.p, .int .i64 x.q, .string x.s, .int .i64 x.r] 26))) := Lib.hid (HB0.out.ch ((Ch.refl [] w0).alloc _) (not_nil _))
  have HX1 : Hid (Blk 26 w0.heap.size #[.int .i64 x.k, .int .i64 x.p, .int .i64 x.q, .string x.s, .int .i64 x.r] (w0.alloc (.cells #[.int .i64 x.k, .int .i64 x.p, .int .i64 x.q, .string x.s, .int .i64 x.r] 26))) := Lib.hid (Blk.new w0 _ _ _ rfl)
  have HT1 : Hid (Tb B t (.slice (some ⟨g, 0, none⟩) s.arr.length cap) b v m s (w0.alloc (.cells #[.int .i64 x.k, .int .i64 x.p, .int .i64 x.q, .string x.s, .int .i64 x.r] 26))) := Lib.hid (HT0.out.ch0 ((Ch.refl [] w0).alloc _))
  have HC1 : Hid (Ch [] w (w0.alloc (.cells #[.int .i64 x.k, .int .i64 x.p, .int .i64 x.q, .string x.s, .int .i64 x.r] 26))) := Lib.hid (HC0.out.alloc _)
  have HN0 : Hid (w.heap.size < w0.heap.size) := Lib.hid HB0.out.lt
  go_upto_region 7 with fail
  clear d0 d1 d2 d3 d4 hg0 c0 hbt
  generalize (w0.alloc (.cells #[.int .i64 x.k, .int .i64 x.p, .int .i64 x.q, .string x.s, .int .i64 x.r] 26)) = w1 at *
  generalize w0.heap.size = nx at *
  have c0 : w1.cell? ⟨t, 0, none⟩ = some (.slice (some ⟨g, 0, none⟩) s.arr.length cap) := HT1.out.blk.cell 0
  have hbt := HT1.out.blk.lt
  have QD := Lib.hid (shdn_any HT1.out j (s.arr.length - j) (by have := HJ.out; omega) (by have := HJ.out; omega) HLL.out)
  go_upto_region 8 with (go_at_call 43; (with_reducible refine (QD.out).mono ?_); rintro e w2 ⟨rfl, ht2, hc2⟩)
  have HT2 : Hid (Tb B t (.slice (some ⟨g, 0, none⟩) s.arr.length cap) b v m ⟨cutA s.arr j, s.bl, s.R, s.st⟩ w2) := Lib.hid ht2
  have HC2 : Hid (Ch (tbS t (.slice (some ⟨g, 0, none⟩) s.arr.length cap) b v m) w w2) := Lib.hid ((HC1.out.mono (fun y hy => absurd hy (not_nil y))).trans (hc2.mono (fun y hy => by simp at hy; subst hy; exact HGM.out)))
  have HB2 : Hid (Blk 26 w.heap.size #[.int .i64 0, .int .i64 0, .int .i64 0, .string ⟨#[]⟩, .int .i64 0] w2) := Lib.hid (HB1.out.ch hc2 (by have := HNT.out g HGM.out; simp; omega))
  have HX2 : Hid (Blk 26 nx #[.int .i64 x.k, .int .i64 x.p, .int .i64 x.q, .string x.s, .int .i64 x.r] w2) := Lib.hid (HX1.out.ch hc2 (by have := HNT.out g HGM.out; have := HN0.out; simp; omega))
  clear ht2 hc2 c0 hbt QD
  have c1 : w2.cell? ⟨t, 1, none⟩ = some (.int .i64 (s.bl : Int)) := HT2.out.blk.cell 1
  have f1 := HT2.out.blk.fz 1
  have hbt := HT2.out.blk.lt
  have HQ3 : Hid (Tb B t (.slice (some ⟨g, 0, none⟩) s.arr.length cap) b v m ⟨cutA s.arr j, s.bl, s.R, s.st⟩ (w2.setCell ⟨t, 1, none⟩ (.int .i64 (s.bl : Int))) ∧ Ch [t] w2 (w2.setCell ⟨t, 1, none⟩ (.int .i64 (s.bl : Int)))) := Lib.hid (by
    have hs : Ch [t] w2 (w2.setCell ⟨t, 1, none⟩ (.int .i64 (s.bl : Int))) := (Ch.refl [t] w2).set t 1 _ (.inl (by simp))
    exact ⟨⟨HT2.out.blk.set 1 _, HT2.out.lo, hs.ownB HT2.out.row (fun y hy => by simp; exact (HT2.out.apr y hy).1), HT2.out.om.ch hs (fun y hy => by simp; intro e; subst e; exact HT2.out.apt hy), HT2.out.apt, HT2.out.apr, by have := HT2.out.bnd; show s.bl ≤ (cutA s.arr j).length; have : s.bl ≤ (cutA s.arr j).length := this; have := HBL.out; omega⟩, hs⟩)
  go_upto_region 9 with fail
  generalize (w2.setCell ⟨t, 1, none⟩ (.int .i64 (s.bl : Int))) = w3 at *
  have QP := put_any B t (.slice (some ⟨g, 0, none⟩) s.arr.length cap) b v m ⟨cutA s.arr j, s.bl, s.R, s.st⟩ w3 HQ3.out.1 (s.arr.length - 1) v5z (by show _ < (cutA s.arr j).length; rw [cutA_len _ _ HJ.out]; have := HJ.out; omega) (by show (cutA s.arr j).length ≤ _; rw [cutA_len _ _ HJ.out]; exact HLL.out)
  rw [show ((s.arr.length - 1 : Nat) : Int) + 1 = (s.arr.length : Int) by have := HJ.out; omega] at QP
  have QPH : Hid (Calls Try.prog 28 #[.pointer (some ⟨t, 0, none⟩), .int .i64 (s.arr.length : Int), .agg #[.int .i64 0, .int .i64 0, .int .i64 0, .string ⟨#[]⟩, .int .i64 0]] w3 fun e w' => e = .returned (.tuple #[]) ∧ TbSaid B t (.slice (some ⟨g, 0, none⟩) s.arr.length cap) b v m (putS ⟨cutA s.arr j, s.bl, s.R, s.st⟩ (s.arr.length - 1) v5z) w3 w') := Lib.hid QP
  have HC3 : Hid (Ch (tbS t (.slice (some ⟨g, 0, none⟩) s.arr.length cap) b v m) w w3) := Lib.hid (HC2.out.trans (HQ3.out.2.mono (by simp [tbS])))
  have HB3 : Hid (Blk 26 w.heap.size #[.int .i64 0, .int .i64 0, .int .i64 0, .string ⟨#[]⟩, .int .i64 0] w3) := Lib.hid (HB2.out.ch HQ3.out.2 (by have := HNT.out t (by simp [tbS]); simp; omega))
  have HX3 : Hid (Blk 26 nx #[.int .i64 x.k, .int .i64 x.p, .int .i64 x.q, .string x.s, .int .i64 x.r] w3) := Lib.hid (HX2.out.ch HQ3.out.2 (by have := HNT.out t (by simp [tbS]); have := HN0.out; simp; omega))
  clear c1 f1 hbt QP
  go_upto_region 10 with (go_at_call 28; (with_reducible refine (QPH.out).mono ?_); rintro e w4 ⟨rfl, hs4⟩)
  have HS4 := Lib.hid hs4
  have HB4 : Hid (Blk 26 w.heap.size #[.int .i64 0, .int .i64 0, .int .i64 0, .string ⟨#[]⟩, .int .i64 0] w4) := Lib.hid (HB3.out.ch hs4.2 (fun hq => absurd (HNT.out _ hq) (Nat.lt_irrefl _)))
  have HX4 : Hid (Blk 26 nx #[.int .i64 x.k, .int .i64 x.p, .int .i64 x.q, .string x.s, .int .i64 x.r] w4) := Lib.hid (HX3.out.ch hs4.2 (fun hq => by have := HNT.out _ hq; have := HN0.out; omega))
  clear hs4
  have d0 : w4.cell? ⟨nx, 0, none⟩ = some (.int .i64 x.k) := HX4.out.cell 0
  have d1 : w4.cell? ⟨nx, 1, none⟩ = some (.int .i64 x.p) := HX4.out.cell 1
  have d2 : w4.cell? ⟨nx, 2, none⟩ = some (.int .i64 x.q) := HX4.out.cell 2
  have d3 : w4.cell? ⟨nx, 3, none⟩ = some (.string x.s) := HX4.out.cell 3
  have d4 : w4.cell? ⟨nx, 4, none⟩ = some (.int .i64 x.r) := HX4.out.cell 4
  have hdl := HX4.out.lt
  have r0 : w4.cell? ⟨w.heap.size, 0, none⟩ = some (.int .i64 0) := HB4.out.cell 0
  have r1 : w4.cell? ⟨w.heap.size, 1, none⟩ = some (.int .i64 0) := HB4.out.cell 1
  have r2 : w4.cell? ⟨w.heap.size, 2, none⟩ = some (.int .i64 0) := HB4.out.cell 2
  have r3 : w4.cell? ⟨w.heap.size, 3, none⟩ = some (.string ⟨#[]⟩) := HB4.out.cell 3
  have r4 : w4.cell? ⟨w.heap.size, 4, none⟩ = some (.int .i64 0) := HB4.out.cell 4
  have rf0 := HB4.out.fz 0
  have rf1 := HB4.out.fz 1
  have rf2 := HB4.out.fz 2
  have rf3 := HB4.out.fz 3
  have rf4 := HB4.out.fz 4
  have hrl := HB4.out.lt
  go_wp2
  show bodyPost _ _ _ Exit.ret _ (st5 w4 w.heap.size (.int .i64 x.k) (.int .i64 x.p) (.int .i64 x.q) (.string x.s) (.int .i64 x.r))
  have hI : Blk 26 w.heap.size #[.int .i64 x.k, .int .i64 x.p, .int .i64 x.q, .string x.s, .int .i64 x.r] (st5 w4 w.heap.size (.int .i64 x.k) (.int .i64 x.p) (.int .i64 x.q) (.string x.s) (.int .i64 x.r)) := st5_blk HB4.out
  have HF : Hid (TbSaid B t (.slice (some ⟨g, 0, none⟩) s.arr.length cap) b v m (putS ⟨cutA s.arr j, s.bl, s.R, s.st⟩ (s.arr.length - 1) v5z) w (st5 w4 w.heap.size (.int .i64 x.k) (.int .i64 x.p) (.int .i64 x.q) (.string x.s) (.int .i64 x.r))) := Lib.hid (tb_fin HC3.out HS4.out (st5_ch (S := [w.heap.size]) (Ch.refl _ _) (.inl (by simp))) (fun y hy => by simp at hy; subst hy; exact ⟨fun hq => absurd (HNT.out _ hq) (Nat.lt_irrefl _), HB3.out.lt, Nat.le_refl _⟩))
  have y0 := hI.cell 0
  have y1 := hI.cell 1
  have y2 := hI.cell 2
  have y3 := hI.cell 3
  have y4 := hI.cell 4
  simp at y0 y1 y2 y3 y4
  generalize (st5 w4 w.heap.size (.int .i64 x.k) (.int .i64 x.p) (.int .i64 x.q) (.string x.s) (.int .i64 x.r)) = W9 at *
  refine bodyPost_ret (v := .tuple #[.agg #[.int .i64 x.k, .int .i64 x.p, .int .i64 x.q, .string x.s, .int .i64 x.r], .int .i64 0]) (by simp [results, Try.results23, go_sem, y0, y1, y2, y3, y4]) rfl ⟨rfl, HF.out⟩
set_option maxHeartbeats 8000000 in
theorem rem_b (B t : Nat) (va : Value) (b : Nat) (v m : Value) (s : TS) (w : World) (h : Tb B t va b v m s w) (j : Nat) (hj : j < s.arr.length) (hL : s.arr.length ≤ 1000000)  (hle : j < s.bl) :
    Calls Try.prog 23 #[.pointer (some ⟨t, 0, none⟩), .int .i64 ((j : Int) + 1)] w fun e w' => e = .returned (.tuple #[.agg #[.int .i64 s.arr[j].k, .int .i64 s.arr[j].p, .int .i64 s.arr[j].q, .string s.arr[j].s, .int .i64 s.arr[j].r], .int .i64 0]) ∧ TbSaid B t va b v m (putS ⟨cutA s.arr j, j, s.R, s.st⟩ (s.arr.length - 1) v5z) w w' := by
  obtain ⟨p, cap, rfl, hp⟩ := h.form
  have hcap := own_cap h.row
  obtain ⟨g, rfl, hgl, _, key⟩ := hp (by omega)
  have QL := Lib.hid (tlen_any B t (.slice (some ⟨g, 0, none⟩) s.arr.length cap) b v m s (w.alloc (.cells #[.int .i64 0, .int .i64 0, .int .i64 0, .string ⟨#[]⟩, .int .i64 0] 26)) (h.ch0 ((Ch.refl [] w).alloc _)))
  have HB0 : Hid (Blk 26 w.heap.size #[.int .i64 0, .int .i64 0, .int .i64 0, .string ⟨#[]⟩, .int .i64 0] (w.alloc (.cells #[.int .i64 0, .int .i64 0, .int .i64 0, .string ⟨#[]⟩, .int .i64 0] 26))) := Lib.hid (Blk.new w _ _ _ rfl)
  have HT0 : Hid (Tb B t (.slice (some ⟨g, 0, none⟩) s.arr.length cap) b v m s (w.alloc (.cells #[.int .i64 0, .int .i64 0, .int .i64 0, .string ⟨#[]⟩, .int .i64 0] 26))) := Lib.hid (h.ch0 ((Ch.refl [] w).alloc _))
  have HC0 : Hid (Ch [] w (w.alloc (.cells #[.int .i64 0, .int .i64 0, .int .i64 0, .string ⟨#[]⟩, .int .i64 0] 26))) := Lib.hid ((Ch.refl [] w).alloc _)
  have HNT : Hid (∀ y ∈ tbS t (.slice (some ⟨g, 0, none⟩) s.arr.length cap) b v m, y < w.heap.size) := Lib.hid fun y hy => (h.lt y hy).2
  have HGM : Hid (g ∈ tbS t (.slice (some ⟨g, 0, none⟩) s.arr.length cap) b v m) := Lib.hid (by simp [tbS, Go.Proofs.Ytaaelhhiceildaa.ob, Value.ownBlock])
  obtain ⟨x, hx⟩ : ∃ x, x = s.arr[j] := ⟨_, rfl⟩
  rw [← hx]
  have hkx : ∀ q, q < 5 → w.cell? ⟨g, j * 5 + q, none⟩ = (vC x)[q]? := fun q hq => by have := key j hj q hq; rw [← hx] at this; exact this
  have HKX : Hid (∀ q, q < 5 → (w.alloc (.cells #[.int .i64 0, .int .i64 0, .int .i64 0, .string ⟨#[]⟩, .int .i64 0] 26)).cell? ⟨g, j * 5 + q, none⟩ = (vC x)[q]?) := Lib.hid fun q hq => (HC0.out.below.cell (p := ⟨g, _, none⟩) hgl).trans (hkx q hq)
  have h1 : ¬ (j : Int) + 1 < 1 := by omega
  have h2 : ¬ (s.arr.length : Int) < (j : Int) + 1 := by omega
  have hj2 : (j : Int) < (s.arr.length : Int) := by omega
  have hj3 : (j : Int) ≤ (s.arr.length : Int) := by omega
  have hj0 : (0 : Int) ≤ (j : Int) := by omega
  have hcn : (s.arr.length : Int) ≤ (cap : Int) := by omega
  have dj : IntKind.i64.wrap ((j : Int) + 1 - 1) = (j : Int) := by rw [show (j : Int) + 1 - 1 = j by omega]; exact IntWalk.i64_in _ (by omega)
  have dj0 : IntKind.i64.wrap (j : Int) = (j : Int) := IntWalk.i64_in _ (by omega)
  have hb1 : (j : Int) < (s.bl : Int) := by omega
  have HJ := Lib.hid hj
  have HBL : Hid True := Lib.hid trivial
  have HLL := Lib.hid hL
  clear h hp key hx hkx hcap hle
  go_enter Try.func23, Try.ntmps23
  go_upto_region 6 with (go_at_call 19; (with_reducible refine (QL.out).mono ?_); rintro e wl ⟨rfl, rfl⟩)
  generalize (w.alloc (.cells #[.int .i64 0, .int .i64 0, .int .i64 0, .string ⟨#[]⟩, .int .i64 0] 26)) = w0 at *
  have c0 : w0.cell? ⟨t, 0, none⟩ = some (.slice (some ⟨g, 0, none⟩) s.arr.length cap) := HT0.out.blk.cell 0
  have hbt := HT0.out.blk.lt
  have hg0 : g < w0.heap.size := (HT0.out.lt g HGM.out).2
  have d0 : w0.cell? ⟨g, j * 5, none⟩ = some (.int .i64 x.k) := HKX.out 0 (by omega)
  have d1 : w0.cell? ⟨g, j * 5 + 1, none⟩ = some (.int .i64 x.p) := HKX.out 1 (by omega)
  have d2 : w0.cell? ⟨g, j * 5 + 2, none⟩ = some (.int .i64 x.q) := HKX.out 2 (by omega)
  have d3 : w0.cell? ⟨g, j * 5 + 3, none⟩ = some (.string x.s) := HKX.out 3 (by omega)
  have d4 : w0.cell? ⟨g, j * 5 + 4, none⟩ = some (.int .i64 x.r) := HKX.out 4 (by omega)
  have HB1 : Hid (Blk 26 w.heap.size #[.int .i64 0, .int .i64 0, .int .i64 0, .string ⟨#[]⟩, .int .i64 0] (w0.alloc (.cells #[.int .i64 x.k, .int .i64 x.p, .int .i64 x.q, .string x.s, .int .i64 x.r] 26))) := Lib.hid (HB0.out.ch ((Ch.refl [] w0).alloc _) (not_nil _))
  have HX1 : Hid (Blk 26 w0.heap.size #[.int .i64 x.k, .int .i64 x.p, .int .i64 x.q, .string x.s, .int .i64 x.r] (w0.alloc (.cells #[.int .i64 x.k, .int .i64 x.p, .int .i64 x.q, .string x.s, .int .i64 x.r] 26))) := Lib.hid (Blk.new w0 _ _ _ rfl)
  have HT1 : Hid (Tb B t (.slice (some ⟨g, 0, none⟩) s.arr.length cap) b v m s (w0.alloc (.cells #[.int .i64 x.k, .int .i64 x.p, .int .i64 x.q, .string x.s, .int .i64 x.r] 26))) := Lib.hid (HT0.out.ch0 ((Ch.refl [] w0).alloc _))
  have HC1 : Hid (Ch [] w (w0.alloc (.cells #[.int .i64 x.k, .int .i64 x.p, .int .i64 x.q, .string x.s, .int .i64 x.r] 26))) := Lib.hid (HC0.out.alloc _)
  have HN0 : Hid (w.heap.size < w0.heap.size) := Lib.hid HB0.out.lt
  go_upto_region 7 with fail
  clear d0 d1 d2 d3 d4 hg0 c0 hbt
  generalize (w0.alloc (.cells #[.int .i64 x.k, .int .i64 x.p, .int .i64 x.q, .string x.s, .int .i64 x.r] 26)) = w1 at *
  generalize w0.heap.size = nx at *
  have c0 : w1.cell? ⟨t, 0, none⟩ = some (.slice (some ⟨g, 0, none⟩) s.arr.length cap) := HT1.out.blk.cell 0
  have hbt := HT1.out.blk.lt
  have QD := Lib.hid (shdn_any HT1.out j (s.arr.length - j) (by have := HJ.out; omega) (by have := HJ.out; omega) HLL.out)
  go_upto_region 8 with (go_at_call 43; (with_reducible refine (QD.out).mono ?_); rintro e w2 ⟨rfl, ht2, hc2⟩)
  have HT2 : Hid (Tb B t (.slice (some ⟨g, 0, none⟩) s.arr.length cap) b v m ⟨cutA s.arr j, s.bl, s.R, s.st⟩ w2) := Lib.hid ht2
  have HC2 : Hid (Ch (tbS t (.slice (some ⟨g, 0, none⟩) s.arr.length cap) b v m) w w2) := Lib.hid ((HC1.out.mono (fun y hy => absurd hy (not_nil y))).trans (hc2.mono (fun y hy => by simp at hy; subst hy; exact HGM.out)))
  have HB2 : Hid (Blk 26 w.heap.size #[.int .i64 0, .int .i64 0, .int .i64 0, .string ⟨#[]⟩, .int .i64 0] w2) := Lib.hid (HB1.out.ch hc2 (by have := HNT.out g HGM.out; simp; omega))
  have HX2 : Hid (Blk 26 nx #[.int .i64 x.k, .int .i64 x.p, .int .i64 x.q, .string x.s, .int .i64 x.r] w2) := Lib.hid (HX1.out.ch hc2 (by have := HNT.out g HGM.out; have := HN0.out; simp; omega))
  clear ht2 hc2 c0 hbt QD
  have c1 : w2.cell? ⟨t, 1, none⟩ = some (.int .i64 (s.bl : Int)) := HT2.out.blk.cell 1
  have f1 := HT2.out.blk.fz 1
  have hbt := HT2.out.blk.lt
  have HQ3 : Hid (Tb B t (.slice (some ⟨g, 0, none⟩) s.arr.length cap) b v m ⟨cutA s.arr j, j, s.R, s.st⟩ (w2.setCell ⟨t, 1, none⟩ (.int .i64 (j : Int))) ∧ Ch [t] w2 (w2.setCell ⟨t, 1, none⟩ (.int .i64 (j : Int)))) := Lib.hid (by
    have hs : Ch [t] w2 (w2.setCell ⟨t, 1, none⟩ (.int .i64 (j : Int))) := (Ch.refl [t] w2).set t 1 _ (.inl (by simp))
    exact ⟨⟨HT2.out.blk.set 1 _, HT2.out.lo, hs.ownB HT2.out.row (fun y hy => by simp; exact (HT2.out.apr y hy).1), HT2.out.om.ch hs (fun y hy => by simp; intro e; subst e; exact HT2.out.apt hy), HT2.out.apt, HT2.out.apr, by have := HT2.out.bnd; show j ≤ (cutA s.arr j).length; have : s.bl ≤ (cutA s.arr j).length := this; have := HBL.out; omega⟩, hs⟩)
  go_upto_region 9 with fail
  generalize (w2.setCell ⟨t, 1, none⟩ (.int .i64 (j : Int))) = w3 at *
  have QP := put_any B t (.slice (some ⟨g, 0, none⟩) s.arr.length cap) b v m ⟨cutA s.arr j, j, s.R, s.st⟩ w3 HQ3.out.1 (s.arr.length - 1) v5z (by show _ < (cutA s.arr j).length; rw [cutA_len _ _ HJ.out]; have := HJ.out; omega) (by show (cutA s.arr j).length ≤ _; rw [cutA_len _ _ HJ.out]; exact HLL.out)
  rw [show ((s.arr.length - 1 : Nat) : Int) + 1 = (s.arr.length : Int) by have := HJ.out; omega] at QP
  have QPH : Hid (Calls Try.prog 28 #[.pointer (some ⟨t, 0, none⟩), .int .i64 (s.arr.length : Int), .agg #[.int .i64 0, .int .i64 0, .int .i64 0, .string ⟨#[]⟩, .int .i64 0]] w3 fun e w' => e = .returned (.tuple #[]) ∧ TbSaid B t (.slice (some ⟨g, 0, none⟩) s.arr.length cap) b v m (putS ⟨cutA s.arr j, j, s.R, s.st⟩ (s.arr.length - 1) v5z) w3 w') := Lib.hid QP
  have HC3 : Hid (Ch (tbS t (.slice (some ⟨g, 0, none⟩) s.arr.length cap) b v m) w w3) := Lib.hid (HC2.out.trans (HQ3.out.2.mono (by simp [tbS])))
  have HB3 : Hid (Blk 26 w.heap.size #[.int .i64 0, .int .i64 0, .int .i64 0, .string ⟨#[]⟩, .int .i64 0] w3) := Lib.hid (HB2.out.ch HQ3.out.2 (by have := HNT.out t (by simp [tbS]); simp; omega))
  have HX3 : Hid (Blk 26 nx #[.int .i64 x.k, .int .i64 x.p, .int .i64 x.q, .string x.s, .int .i64 x.r] w3) := Lib.hid (HX2.out.ch HQ3.out.2 (by have := HNT.out t (by simp [tbS]); have := HN0.out; simp; omega))
  clear c1 f1 hbt QP
  go_upto_region 10 with (go_at_call 28; (with_reducible refine (QPH.out).mono ?_); rintro e w4 ⟨rfl, hs4⟩)
  have HS4 := Lib.hid hs4
  have HB4 : Hid (Blk 26 w.heap.size #[.int .i64 0, .int .i64 0, .int .i64 0, .string ⟨#[]⟩, .int .i64 0] w4) := Lib.hid (HB3.out.ch hs4.2 (fun hq => absurd (HNT.out _ hq) (Nat.lt_irrefl _)))
  have HX4 : Hid (Blk 26 nx #[.int .i64 x.k, .int .i64 x.p, .int .i64 x.q, .string x.s, .int .i64 x.r] w4) := Lib.hid (HX3.out.ch hs4.2 (fun hq => by have := HNT.out _ hq; have := HN0.out; omega))
  clear hs4
  have d0 : w4.cell? ⟨nx, 0, none⟩ = some (.int .i64 x.k) := HX4.out.cell 0
  have d1 : w4.cell? ⟨nx, 1, none⟩ = some (.int .i64 x.p) := HX4.out.cell 1
  have d2 : w4.cell? ⟨nx, 2, none⟩ = some (.int .i64 x.q) := HX4.out.cell 2
  have d3 : w4.cell? ⟨nx, 3, none⟩ = some (.string x.s) := HX4.out.cell 3
  have d4 : w4.cell? ⟨nx, 4, none⟩ = some (.int .i64 x.r) := HX4.out.cell 4
  have hdl := HX4.out.lt
  have r0 : w4.cell? ⟨w.heap.size, 0, none⟩ = some (.int .i64 0) := HB4.out.cell 0
  have r1 : w4.cell? ⟨w.heap.size, 1, none⟩ = some (.int .i64 0) := HB4.out.cell 1
  have r2 : w4.cell? ⟨w.heap.size, 2, none⟩ = some (.int .i64 0) := HB4.out.cell 2
  have r3 : w4.cell? ⟨w.heap.size, 3, none⟩ = some (.string ⟨#[]⟩) := HB4.out.cell 3
  have r4 : w4.cell? ⟨w.heap.size, 4, none⟩ = some (.int .i64 0) := HB4.out.cell 4
  have rf0 := HB4.out.fz 0
  have rf1 := HB4.out.fz 1
  have rf2 := HB4.out.fz 2
  have rf3 := HB4.out.fz 3
  have rf4 := HB4.out.fz 4
  have hrl := HB4.out.lt
  go_wp2
  show bodyPost _ _ _ Exit.ret _ (st5 w4 w.heap.size (.int .i64 x.k) (.int .i64 x.p) (.int .i64 x.q) (.string x.s) (.int .i64 x.r))
  have hI : Blk 26 w.heap.size #[.int .i64 x.k, .int .i64 x.p, .int .i64 x.q, .string x.s, .int .i64 x.r] (st5 w4 w.heap.size (.int .i64 x.k) (.int .i64 x.p) (.int .i64 x.q) (.string x.s) (.int .i64 x.r)) := st5_blk HB4.out
  have HF : Hid (TbSaid B t (.slice (some ⟨g, 0, none⟩) s.arr.length cap) b v m (putS ⟨cutA s.arr j, j, s.R, s.st⟩ (s.arr.length - 1) v5z) w (st5 w4 w.heap.size (.int .i64 x.k) (.int .i64 x.p) (.int .i64 x.q) (.string x.s) (.int .i64 x.r))) := Lib.hid (tb_fin HC3.out HS4.out (st5_ch (S := [w.heap.size]) (Ch.refl _ _) (.inl (by simp))) (fun y hy => by simp at hy; subst hy; exact ⟨fun hq => absurd (HNT.out _ hq) (Nat.lt_irrefl _), HB3.out.lt, Nat.le_refl _⟩))
  have y0 := hI.cell 0
  have y1 := hI.cell 1
  have y2 := hI.cell 2
  have y3 := hI.cell 3
  have y4 := hI.cell 4
  simp at y0 y1 y2 y3 y4
  generalize (st5 w4 w.heap.size (.int .i64 x.k) (.int .i64 x.p) (.int .i64 x.q) (.string x.s) (.int .i64 x.r)) = W9 at *
  refine bodyPost_ret (v := .tuple #[.agg #[.int .i64 x.k, .int .i64 x.p, .int .i64 x.q, .string x.s, .int .i64 x.r], .int .i64 0]) (by simp [results, Try.results23, go_sem, y0, y1, y2, y3, y4]) rfl ⟨rfl, HF.out⟩
end Go.Proofs.Ytaaelhhiceildaa
namespace Go.Proofs.Ytaaelhhiceildaa
open Go.RowKit Go.Joins M1
set_option linter.unusedVariables false
set_option maxHeartbeats 8000000 in
theorem rem_lo (B t : Nat) (va : Value) (b : Nat) (v m : Value) (s : TS) (w : World) (h : Tb B t va b v m s w) (i : Int) (hL : s.arr.length ≤ 1000000) (hi : i < 1) :
    Calls Try.prog 23 #[.pointer (some ⟨t, 0, none⟩), .int .i64 i] w fun e w' => e = .returned (.tuple #[.agg #[.int .i64 0, .int .i64 0, .int .i64 0, .string ⟨#[]⟩, .int .i64 0], .int .i64 6]) ∧ Ch [] w w' := by
  have QL := Lib.hid (tlen_any B t va b v m s (w.alloc (.cells #[.int .i64 0, .int .i64 0, .int .i64 0, .string ⟨#[]⟩, .int .i64 0] 26)) (h.ch0 ((Ch.refl [] w).alloc _)))
  have HB0 : Hid (Blk 26 w.heap.size #[.int .i64 0, .int .i64 0, .int .i64 0, .string ⟨#[]⟩, .int .i64 0] (w.alloc (.cells #[.int .i64 0, .int .i64 0, .int .i64 0, .string ⟨#[]⟩, .int .i64 0] 26))) := Lib.hid (Blk.new w _ _ _ rfl)
  have HC0 : Hid (Ch [] w (w.alloc (.cells #[.int .i64 0, .int .i64 0, .int .i64 0, .string ⟨#[]⟩, .int .i64 0] 26))) := Lib.hid ((Ch.refl [] w).alloc _)
  clear h
  go_enter Try.func23, Try.ntmps23
  go_upto_region 5 with (go_at_call 19; (with_reducible refine (QL.out).mono ?_); rintro e wl ⟨rfl, rfl⟩)
  generalize (w.alloc (.cells #[.int .i64 0, .int .i64 0, .int .i64 0, .string ⟨#[]⟩, .int .i64 0] 26)) = w0 at *
  have r0 : w0.cell? ⟨w.heap.size, 0, none⟩ = some (.int .i64 0) := HB0.out.cell 0
  have r1 : w0.cell? ⟨w.heap.size, 1, none⟩ = some (.int .i64 0) := HB0.out.cell 1
  have r2 : w0.cell? ⟨w.heap.size, 2, none⟩ = some (.int .i64 0) := HB0.out.cell 2
  have r3 : w0.cell? ⟨w.heap.size, 3, none⟩ = some (.string ⟨#[]⟩) := HB0.out.cell 3
  have r4 : w0.cell? ⟨w.heap.size, 4, none⟩ = some (.int .i64 0) := HB0.out.cell 4
  have rf0 := HB0.out.fz 0
  have rf1 := HB0.out.fz 1
  have rf2 := HB0.out.fz 2
  have rf3 := HB0.out.fz 3
  have rf4 := HB0.out.fz 4
  have hrl := HB0.out.lt
  go_wp2
  show bodyPost _ _ _ Exit.ret _ (st5 w0 w.heap.size (.int .i64 0) (.int .i64 0) (.int .i64 0) (.string ⟨#[]⟩) (.int .i64 0))
  have hI : Blk 26 w.heap.size #[.int .i64 0, .int .i64 0, .int .i64 0, .string ⟨#[]⟩, .int .i64 0] (st5 w0 w.heap.size (.int .i64 0) (.int .i64 0) (.int .i64 0) (.string ⟨#[]⟩) (.int .i64 0)) := st5_blk HB0.out
  have HF : Hid (Ch [] w (st5 w0 w.heap.size (.int .i64 0) (.int .i64 0) (.int .i64 0) (.string ⟨#[]⟩) (.int .i64 0))) := Lib.hid (HC0.out.new (B := w.heap.size) (Nat.le_refl _) (st5_ch (S := [w.heap.size]) (Ch.refl _ _) (.inl (by simp))))
  have y0 := hI.cell 0
  have y1 := hI.cell 1
  have y2 := hI.cell 2
  have y3 := hI.cell 3
  have y4 := hI.cell 4
  simp at y0 y1 y2 y3 y4
  generalize (st5 w0 w.heap.size (.int .i64 0) (.int .i64 0) (.int .i64 0) (.string ⟨#[]⟩) (.int .i64 0)) = W9 at *
  refine bodyPost_ret (v := .tuple #[.agg #[.int .i64 0, .int .i64 0, .int .i64 0, .string ⟨#[]⟩, .int .i64 0], .int .i64 6]) (by simp [results, Try.results23, go_sem, y0, y1, y2, y3, y4]) rfl ⟨rfl, HF.out⟩
set_option maxHeartbeats 8000000 in
theorem rem_hi (B t : Nat) (va : Value) (b : Nat) (v m : Value) (s : TS) (w : World) (h : Tb B t va b v m s w) (i : Int) (hL : s.arr.length ≤ 1000000) (h1 : ¬ i < 1) (hi : (s.arr.length : Int) < i) :
    Calls Try.prog 23 #[.pointer (some ⟨t, 0, none⟩), .int .i64 i] w fun e w' => e = .returned (.tuple #[.agg #[.int .i64 0, .int .i64 0, .int .i64 0, .string ⟨#[]⟩, .int .i64 0], .int .i64 6]) ∧ Ch [] w w' := by
  have QL := Lib.hid (tlen_any B t va b v m s (w.alloc (.cells #[.int .i64 0, .int .i64 0, .int .i64 0, .string ⟨#[]⟩, .int .i64 0] 26)) (h.ch0 ((Ch.refl [] w).alloc _)))
  have HB0 : Hid (Blk 26 w.heap.size #[.int .i64 0, .int .i64 0, .int .i64 0, .string ⟨#[]⟩, .int .i64 0] (w.alloc (.cells #[.int .i64 0, .int .i64 0, .int .i64 0, .string ⟨#[]⟩, .int .i64 0] 26))) := Lib.hid (Blk.new w _ _ _ rfl)
  have HC0 : Hid (Ch [] w (w.alloc (.cells #[.int .i64 0, .int .i64 0, .int .i64 0, .string ⟨#[]⟩, .int .i64 0] 26))) := Lib.hid ((Ch.refl [] w).alloc _)
  clear h
  go_enter Try.func23, Try.ntmps23
  go_upto_region 5 with (go_at_call 19; (with_reducible refine (QL.out).mono ?_); rintro e wl ⟨rfl, rfl⟩)
  generalize (w.alloc (.cells #[.int .i64 0, .int .i64 0, .int .i64 0, .string ⟨#[]⟩, .int .i64 0] 26)) = w0 at *
  have r0 : w0.cell? ⟨w.heap.size, 0, none⟩ = some (.int .i64 0) := HB0.out.cell 0
  have r1 : w0.cell? ⟨w.heap.size, 1, none⟩ = some (.int .i64 0) := HB0.out.cell 1
  have r2 : w0.cell? ⟨w.heap.size, 2, none⟩ = some (.int .i64 0) := HB0.out.cell 2
  have r3 : w0.cell? ⟨w.heap.size, 3, none⟩ = some (.string ⟨#[]⟩) := HB0.out.cell 3
  have r4 : w0.cell? ⟨w.heap.size, 4, none⟩ = some (.int .i64 0) := HB0.out.cell 4
  have rf0 := HB0.out.fz 0
  have rf1 := HB0.out.fz 1
  have rf2 := HB0.out.fz 2
  have rf3 := HB0.out.fz 3
  have rf4 := HB0.out.fz 4
  have hrl := HB0.out.lt
  go_wp2
  show bodyPost _ _ _ Exit.ret _ (st5 w0 w.heap.size (.int .i64 0) (.int .i64 0) (.int .i64 0) (.string ⟨#[]⟩) (.int .i64 0))
  have hI : Blk 26 w.heap.size #[.int .i64 0, .int .i64 0, .int .i64 0, .string ⟨#[]⟩, .int .i64 0] (st5 w0 w.heap.size (.int .i64 0) (.int .i64 0) (.int .i64 0) (.string ⟨#[]⟩) (.int .i64 0)) := st5_blk HB0.out
  have HF : Hid (Ch [] w (st5 w0 w.heap.size (.int .i64 0) (.int .i64 0) (.int .i64 0) (.string ⟨#[]⟩) (.int .i64 0))) := Lib.hid (HC0.out.new (B := w.heap.size) (Nat.le_refl _) (st5_ch (S := [w.heap.size]) (Ch.refl _ _) (.inl (by simp))))
  have y0 := hI.cell 0
  have y1 := hI.cell 1
  have y2 := hI.cell 2
  have y3 := hI.cell 3
  have y4 := hI.cell 4
  simp at y0 y1 y2 y3 y4
  generalize (st5 w0 w.heap.size (.int .i64 0) (.int .i64 0) (.int .i64 0) (.string ⟨#[]⟩) (.int .i64 0)) = W9 at *
  refine bodyPost_ret (v := .tuple #[.agg #[.int .i64 0, .int .i64 0, .int .i64 0, .string ⟨#[]⟩, .int .i64 0], .int .i64 6]) (by simp [results, Try.results23, go_sem, y0, y1, y2, y3, y4]) rfl ⟨rfl, HF.out⟩
theorem rem_any (B t : Nat) (va : Value) (b : Nat) (v m : Value) (s : TS) (w : World) (h : Tb B t va b v m s w) (j : Nat) (hj : j < s.arr.length) (hL : s.arr.length ≤ 1000000) :
    Calls Try.prog 23 #[.pointer (some ⟨t, 0, none⟩), .int .i64 ((j : Int) + 1)] w fun e w' => e = .returned (.tuple #[.agg #[.int .i64 s.arr[j].k, .int .i64 s.arr[j].p, .int .i64 s.arr[j].q, .string s.arr[j].s, .int .i64 s.arr[j].r], .int .i64 0]) ∧ TbSaid B t va b v m (remS s j) w w' := by
  unfold remS
  by_cases hb : s.bl ≤ j
  · rw [Nat.min_eq_left hb]; exact rem_a B t va b v m s w h j hj hL hb
  · rw [Nat.min_eq_right (by omega)]; exact rem_b B t va b v m s w h j hj hL (by omega)
end Go.Proofs.Ytaaelhhiceildaa
