/- Layer 13: Insert. -/
import Derived.Test.YtaaelhhiceildaaTbR
import Derived.Test.YtaaelhhiceildaaTbN
namespace Go.Proofs.Ytaaelhhiceildaa
open Go.RowKit Go.Joins M1
set_option linter.unusedVariables false
/-- A part of the row moved up by one. -/
def upA (l : List V5) (j n : Nat) : List V5 := l.take (j + 1) ++ (l.drop j).take (n - j - 1) ++ l.drop n
theorem upA_len (l : List V5) (j n : Nat) (h : j < n) (hn : n ≤ l.length) : (upA l j n).length = l.length := by unfold upA; simp; omega
def lastA (s : TS) : V5 := (s.arr[s.arr.length - 1]?).getD v5z
/-- What Insert leaves, at a place that has a value. -/
def insS (s : TS) (j : Nat) (x : V5) : TS := putS ⟨upA (extS s (lastA s)).arr j s.arr.length, (extS s (lastA s)).bl, (extS s (lastA s)).R, (extS s (lastA s)).st⟩ j x
set_option maxHeartbeats 8000000 in
theorem ins_lo (B t : Nat) (va : Value) (b : Nat) (v m : Value) (s : TS) (w : World) (h : Tb B t va b v m s w) (i : Int) (x : V5) (hL : s.arr.length ≤ 1000000) (hi : i < 1) :
    Calls Try.prog 22 #[.pointer (some ⟨t, 0, none⟩), .int .i64 i, .agg #[.int .i64 x.k, .int .i64 x.p, .int .i64 x.q, .string x.s, .int .i64 x.r]] w fun e w' => e = .returned (.int .i64 6) ∧ Ch [] w w' := by
  have HT0 : Hid (Tb B t va b v m s (w.alloc (.cells #[.int .i64 x.k, .int .i64 x.p, .int .i64 x.q, .string x.s, .int .i64 x.r] 26))) := Lib.hid (h.ch0 ((Ch.refl [] w).alloc _))
  have KX0 : Hid (Blk 26 w.heap.size #[.int .i64 x.k, .int .i64 x.p, .int .i64 x.q, .string x.s, .int .i64 x.r] (w.alloc (.cells #[.int .i64 x.k, .int .i64 x.p, .int .i64 x.q, .string x.s, .int .i64 x.r] 26))) := Lib.hid (Blk.new w _ _ _ rfl)
  have HC0 : Hid (Ch [] w (w.alloc (.cells #[.int .i64 x.k, .int .i64 x.p, .int .i64 x.q, .string x.s, .int .i64 x.r] 26))) := Lib.hid ((Ch.refl [] w).alloc _)
  have QL := Lib.hid (tlen_any B t va b v m s (w.alloc (.cells #[.int .i64 x.k, .int .i64 x.p, .int .i64 x.q, .string x.s, .int .i64 x.r] 26)) HT0.out)
  clear h
  go_enter Try.func22, Try.ntmps22
  go_wp2_with (go_at_call 19; (with_reducible refine (QL.out).mono ?_); rintro e wl ⟨rfl, rfl⟩)
  go_ret
  exact ⟨rfl, HC0.out⟩
set_option maxHeartbeats 8000000 in
theorem ins_hi (B t : Nat) (va : Value) (b : Nat) (v m : Value) (s : TS) (w : World) (h : Tb B t va b v m s w) (i : Int) (x : V5) (hL : s.arr.length ≤ 1000000) (h1 : ¬ i < 1) (hi : (s.arr.length : Int) + 1 < i) :
    Calls Try.prog 22 #[.pointer (some ⟨t, 0, none⟩), .int .i64 i, .agg #[.int .i64 x.k, .int .i64 x.p, .int .i64 x.q, .string x.s, .int .i64 x.r]] w fun e w' => e = .returned (.int .i64 6) ∧ Ch [] w w' := by
  have HT0 : Hid (Tb B t va b v m s (w.alloc (.cells #[.int .i64 x.k, .int .i64 x.p, .int .i64 x.q, .string x.s, .int .i64 x.r] 26))) := Lib.hid (h.ch0 ((Ch.refl [] w).alloc _))
  have KX0 : Hid (Blk 26 w.heap.size #[.int .i64 x.k, .int .i64 x.p, .int .i64 x.q, .string x.s, .int .i64 x.r] (w.alloc (.cells #[.int .i64 x.k, .int .i64 x.p, .int .i64 x.q, .string x.s, .int .i64 x.r] 26))) := Lib.hid (Blk.new w _ _ _ rfl)
  have HC0 : Hid (Ch [] w (w.alloc (.cells #[.int .i64 x.k, .int .i64 x.p, .int .i64 x.q, .string x.s, .int .i64 x.r] 26))) := Lib.hid ((Ch.refl [] w).alloc _)
  have QL := Lib.hid (tlen_any B t va b v m s (w.alloc (.cells #[.int .i64 x.k, .int .i64 x.p, .int .i64 x.q, .string x.s, .int .i64 x.r] 26)) HT0.out)
  have dn1 : IntKind.i64.wrap ((s.arr.length : Int) + 1) = (s.arr.length : Int) + 1 := IntWalk.i64_in _ (by omega)
  clear h
  go_enter Try.func22, Try.ntmps22
  go_wp2_with (go_at_call 19; (with_reducible refine (QL.out).mono ?_); rintro e wl ⟨rfl, rfl⟩)
  go_ret
  exact ⟨rfl, HC0.out⟩
set_option maxHeartbeats 8000000 in
theorem ins_bad (B t : Nat) (va : Value) (b : Nat) (v m : Value) (s : TS) (w : World) (h : Tb B t va b v m s w) (i : Int) (x : V5) (hL : s.arr.length ≤ 1000000) (h1 : ¬ i < 1) (hi : ¬ (s.arr.length : Int) + 1 < i) (hx1 : okV x = false) :
    Calls Try.prog 22 #[.pointer (some ⟨t, 0, none⟩), .int .i64 i, .agg #[.int .i64 x.k, .int .i64 x.p, .int .i64 x.q, .string x.s, .int .i64 x.r]] w fun e w' => e = .returned (.int .i64 2) ∧ Ch [] w w' := by
  have HT0 : Hid (Tb B t va b v m s (w.alloc (.cells #[.int .i64 x.k, .int .i64 x.p, .int .i64 x.q, .string x.s, .int .i64 x.r] 26))) := Lib.hid (h.ch0 ((Ch.refl [] w).alloc _))
  have KX0 : Hid (Blk 26 w.heap.size #[.int .i64 x.k, .int .i64 x.p, .int .i64 x.q, .string x.s, .int .i64 x.r] (w.alloc (.cells #[.int .i64 x.k, .int .i64 x.p, .int .i64 x.q, .string x.s, .int .i64 x.r] 26))) := Lib.hid (Blk.new w _ _ _ rfl)
  have HC0 : Hid (Ch [] w (w.alloc (.cells #[.int .i64 x.k, .int .i64 x.p, .int .i64 x.q, .string x.s, .int .i64 x.r] 26))) := Lib.hid ((Ch.refl [] w).alloc _)
  have QL := Lib.hid (tlen_any B t va b v m s (w.alloc (.cells #[.int .i64 x.k, .int .i64 x.p, .int .i64 x.q, .string x.s, .int .i64 x.r] 26)) HT0.out)
  have dn1 : IntKind.i64.wrap ((s.arr.length : Int) + 1) = (s.arr.length : Int) + 1 := IntWalk.i64_in _ (by omega)
  have QV : Hid (∀ W, Calls Try.prog 26 #[.agg #[.int .i64 x.k, .int .i64 x.p, .int .i64 x.q, .string x.s, .int .i64 x.r]] W fun e w' => e = .returned (.bool false) ∧ Below W.heap.size W w') := Lib.hid fun W => by rw [← (show okV x = false from hx1)]; exact valid5 x.k x.p x.q x.s x.r W
  clear hx1
  clear h
  go_enter Try.func22, Try.ntmps22
  go_upto_region 6 with (go_at_call 19; (with_reducible refine (QL.out).mono ?_); rintro e wl ⟨rfl, rfl⟩)
  generalize (w.alloc (.cells #[.int .i64 x.k, .int .i64 x.p, .int .i64 x.q, .string x.s, .int .i64 x.r] 26)) = w0 at *
  have z0_0 : w0.cell? ⟨w.heap.size, 0, none⟩ = some (.int .i64 x.k) := KX0.out.cell 0
  have z0_1 : w0.cell? ⟨w.heap.size, 1, none⟩ = some (.int .i64 x.p) := KX0.out.cell 1
  have z0_2 : w0.cell? ⟨w.heap.size, 2, none⟩ = some (.int .i64 x.q) := KX0.out.cell 2
  have z0_3 : w0.cell? ⟨w.heap.size, 3, none⟩ = some (.string x.s) := KX0.out.cell 3
  have z0_4 : w0.cell? ⟨w.heap.size, 4, none⟩ = some (.int .i64 x.r) := KX0.out.cell 4
  have lz0 := KX0.out.lt
  go_wp2_with (go_at_call 26; (with_reducible refine (QV.out _).mono ?_); rintro e w1 ⟨rfl, hb1⟩; have HD1 : Hid (Ch [] w0 w1) := Lib.hid (Ch.of_below hb1); clear hb1)
  go_ret
  exact ⟨rfl, HC0.out.trans HD1.out⟩
set_option maxHeartbeats 8000000 in
theorem ins_end (B t : Nat) (va : Value) (b : Nat) (v m : Value) (s : TS) (w : World) (h : Tb B t va b v m s w) (i : Int) (hi : i = (s.arr.length : Int) + 1) (x : V5) (hL : s.arr.length + s.R.length ≤ 900000) (hBw : B ≤ w.heap.size) (hg : Good s.R) (hx1 : okV x = true) :
    Calls Try.prog 22 #[.pointer (some ⟨t, 0, none⟩), .int .i64 i, .agg #[.int .i64 x.k, .int .i64 x.p, .int .i64 x.q, .string x.s, .int .i64 x.r]] w fun e w' => e = .returned (.int .i64 (errR (extK s) x)) ∧ TbSaid B t va b v m (setT s (extK s) x) w w' := by
  have HT0 : Hid (Tb B t va b v m s (w.alloc (.cells #[.int .i64 x.k, .int .i64 x.p, .int .i64 x.q, .string x.s, .int .i64 x.r] 26))) := Lib.hid (h.ch0 ((Ch.refl [] w).alloc _))
  have KX0 : Hid (Blk 26 w.heap.size #[.int .i64 x.k, .int .i64 x.p, .int .i64 x.q, .string x.s, .int .i64 x.r] (w.alloc (.cells #[.int .i64 x.k, .int .i64 x.p, .int .i64 x.q, .string x.s, .int .i64 x.r] 26))) := Lib.hid (Blk.new w _ _ _ rfl)
  have HC0 : Hid (Ch [] w (w.alloc (.cells #[.int .i64 x.k, .int .i64 x.p, .int .i64 x.q, .string x.s, .int .i64 x.r] 26))) := Lib.hid ((Ch.refl [] w).alloc _)
  have QL := Lib.hid (tlen_any B t va b v m s (w.alloc (.cells #[.int .i64 x.k, .int .i64 x.p, .int .i64 x.q, .string x.s, .int .i64 x.r] 26)) HT0.out)
  have QV : Hid (∀ W, Calls Try.prog 26 #[.agg #[.int .i64 x.k, .int .i64 x.p, .int .i64 x.q, .string x.s, .int .i64 x.r]] W fun e w' => e = .returned (.bool true) ∧ Below W.heap.size W w') := Lib.hid fun W => by rw [← (show okV x = true from hx1)]; exact valid5 x.k x.p x.q x.s x.r W
  have HLL := Lib.hid hL
  have HG := Lib.hid hg
  have HBW := Lib.hid hBw
  obtain ⟨y, hy⟩ : ∃ y, extK s = y := ⟨_, rfl⟩
  rw [hy]
  have HKY : Hid (keyV i = y) := Lib.hid (by rw [hi]; exact hy)
  have dn1 : IntKind.i64.wrap ((s.arr.length : Int) + 1) = (s.arr.length : Int) + 1 := IntWalk.i64_in _ (by omega)
  have h1 : ¬ i < 1 := by omega
  have h2 : ¬ (s.arr.length : Int) + 1 < i := by omega
  have e8 : (i == (s.arr.length : Int) + 1) = true := beq_iff_eq.2 hi
  clear h hx1 hg hy hBw hi
  go_enter Try.func22, Try.ntmps22
  go_upto_region 6 with (go_at_call 19; (with_reducible refine (QL.out).mono ?_); rintro e wl ⟨rfl, rfl⟩)
  generalize (w.alloc (.cells #[.int .i64 x.k, .int .i64 x.p, .int .i64 x.q, .string x.s, .int .i64 x.r] 26)) = w0 at *
  have z0_0 : w0.cell? ⟨w.heap.size, 0, none⟩ = some (.int .i64 x.k) := KX0.out.cell 0
  have z0_1 : w0.cell? ⟨w.heap.size, 1, none⟩ = some (.int .i64 x.p) := KX0.out.cell 1
  have z0_2 : w0.cell? ⟨w.heap.size, 2, none⟩ = some (.int .i64 x.q) := KX0.out.cell 2
  have z0_3 : w0.cell? ⟨w.heap.size, 3, none⟩ = some (.string x.s) := KX0.out.cell 3
  have z0_4 : w0.cell? ⟨w.heap.size, 4, none⟩ = some (.int .i64 x.r) := KX0.out.cell 4
  have lz0 := KX0.out.lt
  go_upto_region 8 with (go_at_call 26; (with_reducible refine (QV.out _).mono ?_); rintro e w1 ⟨rfl, hb1⟩; have HD1 : Hid (Ch [] w0 w1) := Lib.hid (Ch.of_below hb1); clear hb1)
  clear z0_0 z0_1 z0_2 z0_3 z0_4 lz0
  have HC1 : Hid (Ch [] w w1) := Lib.hid (HC0.out.trans HD1.out)
  have HT1 := Lib.hid (HT0.out.ch0 HD1.out)
  have KX1 := Lib.hid (KX0.out.ch HD1.out (not_nil _))
  have z1_0 : w1.cell? ⟨w.heap.size, 0, none⟩ = some (.int .i64 x.k) := KX1.out.cell 0
  have z1_1 : w1.cell? ⟨w.heap.size, 1, none⟩ = some (.int .i64 x.p) := KX1.out.cell 1
  have z1_2 : w1.cell? ⟨w.heap.size, 2, none⟩ = some (.int .i64 x.q) := KX1.out.cell 2
  have z1_3 : w1.cell? ⟨w.heap.size, 3, none⟩ = some (.string x.s) := KX1.out.cell 3
  have z1_4 : w1.cell? ⟨w.heap.size, 4, none⟩ = some (.int .i64 x.r) := KX1.out.cell 4
  have lz1 := KX1.out.lt
  have QI : Hid (∀ W, Calls Try.prog 29 #[.int .i64 i] W fun e w' => e = .returned (.agg #[.int .i64 y.k, .int .i64 y.p, .int .i64 y.q, .string y.s, .int .i64 y.r]) ∧ Below W.heap.size W w') := Lib.hid fun W => by rw [← HKY.out]; exact ofInt_any _ W
  have QS : Hid (∀ W, Ch [] w1 W → Calls Try.prog 12 #[.pointer (some ⟨t, 0, none⟩), .agg #[.int .i64 y.k, .int .i64 y.p, .int .i64 y.q, .string y.s, .int .i64 y.r], .agg #[.int .i64 x.k, .int .i64 x.p, .int .i64 x.q, .string x.s, .int .i64 x.r]] W fun e w' => e = .returned (.int .i64 (errR y x)) ∧ TbSaid B t va b v m (setT s y x) w w') := Lib.hid fun W hc => (tset_any B t va b v m s W (HT1.out.ch0 hc) y x HLL.out (Nat.le_trans HBW.out (HC1.out.trans hc).size) HG.out).mono fun e w' hh => ⟨hh.1, tb_chain (fun g hg => .inl hg) ((HC1.out.trans hc).mono (fun g hg => absurd hg (not_nil g))) hh.2⟩
  go_upto_region 9 with fail
  go_region_law (first | (go_simp; go_at_call 29; (with_reducible refine (QI.out _).mono ?_); rintro e w6 ⟨rfl, hb6⟩; (first | have HC6 : Hid (Ch [] w1 w6) := Lib.hid (Ch.of_below hb6) | have HC6 : Hid (Ch [] w1 w6) := Lib.hid (((Ch.refl [] w1).drew).trans (Ch.of_below hb6)) | have HC6 : Hid (Ch [] w1 w6) := Lib.hid (((Ch.refl [] w1).drewN _).trans (Ch.of_below hb6))); have KX6 := Lib.hid (KX1.out.ch HC6.out (not_nil _)); have z6_0 : w6.cell? ⟨w.heap.size, 0, none⟩ = some (.int .i64 x.k) := KX6.out.cell 0; have z6_1 : w6.cell? ⟨w.heap.size, 1, none⟩ = some (.int .i64 x.p) := KX6.out.cell 1; have z6_2 : w6.cell? ⟨w.heap.size, 2, none⟩ = some (.int .i64 x.q) := KX6.out.cell 2; have z6_3 : w6.cell? ⟨w.heap.size, 3, none⟩ = some (.string x.s) := KX6.out.cell 3; have z6_4 : w6.cell? ⟨w.heap.size, 4, none⟩ = some (.int .i64 x.r) := KX6.out.cell 4; have lz6 := KX6.out.lt; clear hb6) | (go_simp; go_at_call 12; (with_reducible refine (QS.out _ ?hc).mono ?_); (case hc => first | exact HC6.out | exact HC6.out.drew | exact HC6.out.drewN _); rintro e w7 ⟨rfl, hs7⟩; have HS7 := Lib.hid hs7; clear hs7))
  all_goals (
    go_wp2
    go_ret
    exact ⟨rfl, HS7.out⟩)
set_option maxHeartbeats 8000000 in
theorem ins_mid (B t : Nat) (va : Value) (b : Nat) (v m : Value) (s : TS) (w : World) (h : Tb B t va b v m s w) (j : Nat) (x : V5) (hj : j < s.arr.length) (hL : s.arr.length + s.R.length ≤ 900000) (hBw : B ≤ w.heap.size) (hg : Good s.R) (hx1 : okV x = true) (hn1 : s.arr.length ≤ (extS s (lastA s)).arr.length) (hn2 : (extS s (lastA s)).arr.length ≤ 1000000) :
    Calls Try.prog 22 #[.pointer (some ⟨t, 0, none⟩), .int .i64 ((j : Int) + 1), .agg #[.int .i64 x.k, .int .i64 x.p, .int .i64 x.q, .string x.s, .int .i64 x.r]] w fun e w' => e = .returned (.int .i64 0) ∧ TbSaid B t va b v m (insS s j x) w w' := by
  obtain ⟨p, cap, rfl, hp⟩ := h.form
  obtain ⟨g, rfl, _, _, _⟩ := hp (by omega)
  have HT0 : Hid (Tb B t (.slice (some ⟨g, 0, none⟩) s.arr.length cap) b v m s (w.alloc (.cells #[.int .i64 x.k, .int .i64 x.p, .int .i64 x.q, .string x.s, .int .i64 x.r] 26))) := Lib.hid (h.ch0 ((Ch.refl [] w).alloc _))
  have KX0 : Hid (Blk 26 w.heap.size #[.int .i64 x.k, .int .i64 x.p, .int .i64 x.q, .string x.s, .int .i64 x.r] (w.alloc (.cells #[.int .i64 x.k, .int .i64 x.p, .int .i64 x.q, .string x.s, .int .i64 x.r] 26))) := Lib.hid (Blk.new w _ _ _ rfl)
  have HC0 : Hid (Ch [] w (w.alloc (.cells #[.int .i64 x.k, .int .i64 x.p, .int .i64 x.q, .string x.s, .int .i64 x.r] 26))) := Lib.hid ((Ch.refl [] w).alloc _)
  have QL := Lib.hid (tlen_any B t (.slice (some ⟨g, 0, none⟩) s.arr.length cap) b v m s (w.alloc (.cells #[.int .i64 x.k, .int .i64 x.p, .int .i64 x.q, .string x.s, .int .i64 x.r] 26)) HT0.out)
  have QV : Hid (∀ W, Calls Try.prog 26 #[.agg #[.int .i64 x.k, .int .i64 x.p, .int .i64 x.q, .string x.s, .int .i64 x.r]] W fun e w' => e = .returned (.bool true) ∧ Below W.heap.size W w') := Lib.hid fun W => by rw [← (show okV x = true from hx1)]; exact valid5 x.k x.p x.q x.s x.r W
  have HLL := Lib.hid hL
  have HG := Lib.hid hg
  have HBW := Lib.hid hBw
  have HN2 := Lib.hid hn2
  have HNT : Hid (∀ q ∈ tbS t (.slice (some ⟨g, 0, none⟩) s.arr.length cap) b v m, q < w.heap.size) := Lib.hid fun q hq => (h.lt q hq).2
  have dn1 : IntKind.i64.wrap ((s.arr.length : Int) + 1) = (s.arr.length : Int) + 1 := IntWalk.i64_in _ (by omega)
  obtain ⟨q, hq⟩ : ∃ q, s.arr.length = q + 1 := ⟨s.arr.length - 1, by omega⟩
  have HQ := Lib.hid hq
  have h1 : ¬ (j : Int) + 1 < 1 := by omega
  have h2 : ¬ (s.arr.length : Int) + 1 < (j : Int) + 1 := by omega
  have e8 : ((j : Int) + 1 == (s.arr.length : Int) + 1) = false := beq_eq_false_iff_ne.2 (by omega)
  have dq : IntKind.i64.wrap ((s.arr.length : Int) - 1) = (q : Int) := by rw [show (s.arr.length : Int) - 1 = (q : Int) by omega]; exact IntWalk.i64_in _ (by omega)
  have hq1 : (q : Int) < (s.arr.length : Int) := by omega
  have hq0 : (0 : Int) ≤ (q : Int) := by omega
  have HJ := Lib.hid hj
  have HLA : Hid (lastA s = s.arr[q]) := Lib.hid (by unfold lastA; rw [show s.arr.length - 1 = q by omega, List.getElem?_eq_getElem (by omega)]; rfl)
  have HKEY : Hid (∀ W, Tb B t (.slice (some ⟨g, 0, none⟩) s.arr.length cap) b v m s W → ∀ c, c < 5 → W.cell? ⟨g, q * 5 + c, none⟩ = (vC (lastA s))[c]?) := Lib.hid fun W hW c hc => by
    obtain ⟨p', cap', e', hp'⟩ := hW.form
    injection e' with e1 e2 e3
    obtain ⟨g', q1, q2, _, q3⟩ := hp' (by omega)
    have : g' = g := by rw [q1] at e1; injection e1 with e1; injection e1 with e1; exact e1.symm
    subst this
    rw [HLA.out]
    exact q3 q (by omega) c hc
  have HGM : Hid (g ∈ tbS t (.slice (some ⟨g, 0, none⟩) s.arr.length cap) b v m) := Lib.hid (by simp [tbS, Go.Proofs.Ytaaelhhiceildaa.ob, Value.ownBlock])
  unfold insS
  obtain ⟨s1, hs1⟩ : ∃ s1, extS s (lastA s) = s1 := ⟨_, rfl⟩
  rw [hs1] at hn1 HN2 ⊢
  have HS1 := Lib.hid hs1
  have HN1 := Lib.hid hn1
  obtain ⟨y, hy⟩ : ∃ y, lastA s = y := ⟨_, rfl⟩
  rw [hy] at HKEY HS1
  clear h hx1 hg hBw hp hq hn1 hn2 hs1 hy hj HLA
  go_enter Try.func22, Try.ntmps22
  go_upto_region 6 with (go_at_call 19; (with_reducible refine (QL.out).mono ?_); rintro e wl ⟨rfl, rfl⟩)
  generalize (w.alloc (.cells #[.int .i64 x.k, .int .i64 x.p, .int .i64 x.q, .string x.s, .int .i64 x.r] 26)) = w0 at *
  have z0_0 : w0.cell? ⟨w.heap.size, 0, none⟩ = some (.int .i64 x.k) := KX0.out.cell 0
  have z0_1 : w0.cell? ⟨w.heap.size, 1, none⟩ = some (.int .i64 x.p) := KX0.out.cell 1
  have z0_2 : w0.cell? ⟨w.heap.size, 2, none⟩ = some (.int .i64 x.q) := KX0.out.cell 2
  have z0_3 : w0.cell? ⟨w.heap.size, 3, none⟩ = some (.string x.s) := KX0.out.cell 3
  have z0_4 : w0.cell? ⟨w.heap.size, 4, none⟩ = some (.int .i64 x.r) := KX0.out.cell 4
  have lz0 := KX0.out.lt
  go_upto_region 8 with (go_at_call 26; (with_reducible refine (QV.out _).mono ?_); rintro e w1 ⟨rfl, hb1⟩; have HD1 : Hid (Ch [] w0 w1) := Lib.hid (Ch.of_below hb1); clear hb1)
  clear z0_0 z0_1 z0_2 z0_3 z0_4 lz0
  have HC1 : Hid (Ch [] w w1) := Lib.hid (HC0.out.trans HD1.out)
  have HT1 := Lib.hid (HT0.out.ch0 HD1.out)
  have KX1 := Lib.hid (KX0.out.ch HD1.out (not_nil _))
  have HBV : Hid (B ≤ w1.heap.size) := Lib.hid (Nat.le_trans HBW.out HC1.out.size)
  have c0 : w1.cell? ⟨t, 0, none⟩ = some (.slice (some ⟨g, 0, none⟩) s.arr.length cap) := HT1.out.blk.cell 0
  have hbl := HT1.out.blk.lt
  have hgl : g < w1.heap.size := (HT1.out.lt g HGM.out).2
  have d0 : w1.cell? ⟨g, q * 5, none⟩ = some (.int .i64 y.k) := HKEY.out w1 HT1.out 0 (by omega)
  have d1 : w1.cell? ⟨g, q * 5 + 1, none⟩ = some (.int .i64 y.p) := HKEY.out w1 HT1.out 1 (by omega)
  have d2 : w1.cell? ⟨g, q * 5 + 2, none⟩ = some (.int .i64 y.q) := HKEY.out w1 HT1.out 2 (by omega)
  have d3 : w1.cell? ⟨g, q * 5 + 3, none⟩ = some (.string y.s) := HKEY.out w1 HT1.out 3 (by omega)
  have d4 : w1.cell? ⟨g, q * 5 + 4, none⟩ = some (.int .i64 y.r) := HKEY.out w1 HT1.out 4 (by omega)
  have QX := Lib.hid (ext_any B t (.slice (some ⟨g, 0, none⟩) s.arr.length cap) b v m s w1 HT1.out y HG.out HLL.out HBV.out)
  rw [HS1.out] at QX
  go_upto_region 11 with (go_at_call 30; (with_reducible refine (QX.out).mono ?_); rintro e w2 ⟨rfl, ⟨va2, b2, v2, m2, ht2, hf2⟩, hc2⟩)
  clear c0 hbl hgl d0 d1 d2 d3 d4 QX
  have HT2 := Lib.hid ht2
  have HF2 := Lib.hid hf2
  have HC2 : Hid (Ch (tbS t (.slice (some ⟨g, 0, none⟩) s.arr.length cap) b v m) w w2) := Lib.hid ((HC1.out.mono (fun g hg => absurd hg (not_nil g))).trans hc2)
  have HXN : Hid (w.heap.size ∉ tbS t va2 b2 v2 m2) := Lib.hid fun hq => by
    rcases hf2 _ hq with h' | h'
    · exact absurd (HNT.out _ h') (Nat.lt_irrefl _)
    · have := KX1.out.lt; omega
  have KX2 := Lib.hid (KX1.out.ch hc2 (fun hq => absurd (HNT.out _ hq) (Nat.lt_irrefl _)))
  have HFW : Hid (∀ y ∈ tbS t va2 b2 v2 m2, y ∈ tbS t (.slice (some ⟨g, 0, none⟩) s.arr.length cap) b v m ∨ w.heap.size ≤ y) := Lib.hid fun y hy => by
    rcases hf2 y hy with h' | h'
    · exact .inl h'
    · right; have := HC1.out.size; omega
  clear ht2 hf2 hc2
  obtain ⟨p2, cap2, rfl, hp2⟩ := HT2.out.form
  obtain ⟨g2, rfl, _, _, _⟩ := hp2 (by have := HN1.out; have := HJ.out; omega)
  clear hp2
  have hcap2 := own_cap HT2.out.row
  have hcn : (s.arr.length : Int) ≤ (cap2 : Int) := by have := HN1.out; omega
  have dj : IntKind.i64.wrap ((j : Int) + 1 - 1) = (j : Int) := by rw [show (j : Int) + 1 - 1 = j by omega]; exact IntWalk.i64_in _ (by have := HJ.out; have := HLL.out; omega)
  have dj0 : IntKind.i64.wrap (j : Int) = (j : Int) := IntWalk.i64_in _ (by have := HJ.out; have := HLL.out; omega)
  have hj3 : (j : Int) ≤ (s.arr.length : Int) := by have := HJ.out; omega
  have hj2 : (j : Int) < (s.arr.length : Int) := by have := HJ.out; omega
  have hj0 : (0 : Int) ≤ (j : Int) := by omega
  clear hcap2
  have c0 : w2.cell? ⟨t, 0, none⟩ = some (.slice (some ⟨g2, 0, none⟩) s1.arr.length cap2) := HT2.out.blk.cell 0
  have hbl := HT2.out.blk.lt
  have QD := Lib.hid (shup_any HT2.out j (s.arr.length - j) (by have := HN1.out; have := HJ.out; omega) (by have := HJ.out; omega) HN2.out)
  rw [show j + (s.arr.length - j) = s.arr.length by have := HJ.out; omega] at QD
  go_upto_region 12 with (go_at_call 42; (with_reducible refine (QD.out).mono ?_); rintro e w3 ⟨rfl, ht3, hc3⟩)
  have HT3 : Hid (Tb B t (.slice (some ⟨g2, 0, none⟩) s1.arr.length cap2) b2 v2 m2 ⟨upA s1.arr j s.arr.length, s1.bl, s1.R, s1.st⟩ w3) := Lib.hid ht3
  have HC3 : Hid (Ch (tbS t (.slice (some ⟨g2, 0, none⟩) s1.arr.length cap2) b2 v2 m2) w2 w3) := Lib.hid (hc3.mono (fun y hy => by simp at hy; subst hy; simp [tbS, Go.Proofs.Ytaaelhhiceildaa.ob, Value.ownBlock]))
  have KX3 := Lib.hid (KX2.out.ch HC3.out HXN.out)
  clear ht3 hc3 c0 hbl QD dj dj0 hj3 hj2 hj0 hcn
  have z3_0 : w3.cell? ⟨w.heap.size, 0, none⟩ = some (.int .i64 x.k) := KX3.out.cell 0
  have z3_1 : w3.cell? ⟨w.heap.size, 1, none⟩ = some (.int .i64 x.p) := KX3.out.cell 1
  have z3_2 : w3.cell? ⟨w.heap.size, 2, none⟩ = some (.int .i64 x.q) := KX3.out.cell 2
  have z3_3 : w3.cell? ⟨w.heap.size, 3, none⟩ = some (.string x.s) := KX3.out.cell 3
  have z3_4 : w3.cell? ⟨w.heap.size, 4, none⟩ = some (.int .i64 x.r) := KX3.out.cell 4
  have lz3 := KX3.out.lt
  have HUL : Hid ((upA s1.arr j s.arr.length).length = s1.arr.length) := Lib.hid (upA_len _ _ _ HJ.out HN1.out)
  have QP := Lib.hid (put_any B t _ b2 v2 m2 ⟨upA s1.arr j s.arr.length, s1.bl, s1.R, s1.st⟩ w3 HT3.out j x (by show _ < (upA _ _ _).length; rw [HUL.out]; have := HJ.out; have := HN1.out; omega) (by show (upA _ _ _).length ≤ _; rw [HUL.out]; exact HN2.out))
  go_wp2_with (go_at_call 28; (with_reducible refine (QP.out).mono ?_); rintro e w4 ⟨rfl, hs4⟩; have HS4 := Lib.hid hs4; clear hs4)
  go_ret
  exact ⟨rfl, tb_chain HFW.out HC2.out (tb_next HC3.out HS4.out)⟩
end Go.Proofs.Ytaaelhhiceildaa
