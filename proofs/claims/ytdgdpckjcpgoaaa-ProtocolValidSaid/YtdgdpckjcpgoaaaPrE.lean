/- Layer 20: actions compared. -/
import Derived.Test.YtdgdpckjcpgoaaaPrS
namespace Go.Proofs.Ytdgdpckjcpgoaaa
open Go.RowKit Go.Joins M1
set_option linter.unusedVariables false
theorem eqV_v5 (a c : V5) : eqV a.k a.p a.q a.s a.r c.k c.p c.q c.s c.r = decide (a = c) := by
  unfold eqV
  rw [Bool.eq_iff_iff]
  cases a; cases c; simp
set_option maxHeartbeats 4000000 in
theorem asame_any_0 (k : Int) (op : Int) (f : V5) (l : List V5) (s : ByteArray) (lv : Int) (nx : Int) (kp : List V5) (k' : Int) (op' : Int) (f' : V5) (l' : List V5) (s' : ByteArray) (lv' : Int) (nx' : Int) (kp' : List V5) (p1 p2 p1' p2' : Option Addr) (c1 c2 c1' c2' : Nat) (w : World) (hd : ¬ k = k') (h1 : ValsA w (.slice p1 l.length c1) l) (h2 : ValsA w (.slice p2 kp.length c2) kp) (h1' : ValsA w (.slice p1' l'.length c1') l') (h2' : ValsA w (.slice p2' kp'.length c2') kp')
    (n1 : l.length ≤ 1000000) (n2 : kp.length ≤ 1000000) (n1' : l'.length ≤ 1000000) (n2' : kp'.length ≤ 1000000) :
    Calls Try.prog 26 #[.agg #[.int .i64 k, .int .i64 op, .int .i64 f.k, .int .i64 f.p, .int .i64 f.q, .string f.s, .int .i64 f.r, .slice p1 l.length c1, .string s, .int .i64 lv, .int .i64 nx, .slice p2 kp.length c2], .agg #[.int .i64 k', .int .i64 op', .int .i64 f'.k, .int .i64 f'.p, .int .i64 f'.q, .string f'.s, .int .i64 f'.r, .slice p1' l'.length c1', .string s', .int .i64 lv', .int .i64 nx', .slice p2' kp'.length c2']] w fun e w' => e = .returned (.bool false) ∧ Ch [] w w' := by
  obtain ⟨w0, hw0⟩ : ∃ w0, w0 = ((w.alloc (.cells #[.int .i64 k, .int .i64 op, .int .i64 f.k, .int .i64 f.p, .int .i64 f.q, .string f.s, .int .i64 f.r, .slice p1 l.length c1, .string s, .int .i64 lv, .int .i64 nx, .slice p2 kp.length c2] 31)).alloc (.cells #[.int .i64 k', .int .i64 op', .int .i64 f'.k, .int .i64 f'.p, .int .i64 f'.q, .string f'.s, .int .i64 f'.r, .slice p1' l'.length c1', .string s', .int .i64 lv', .int .i64 nx', .slice p2' kp'.length c2'] 31)) := ⟨_, rfl⟩
  have HC0 : Hid (Ch [] w w0) := Lib.hid (by rw [hw0]; exact ((Ch.refl [] w).alloc _).alloc _)
  have HB : Hid (Blk 31 (w.heap.size + 1) #[.int .i64 k', .int .i64 op', .int .i64 f'.k, .int .i64 f'.p, .int .i64 f'.q, .string f'.s, .int .i64 f'.r, .slice p1' l'.length c1', .string s', .int .i64 lv', .int .i64 nx', .slice p2' kp'.length c2'] w0) := Lib.hid (by rw [hw0]; exact Blk.new _ _ _ _ (by simp))
  have HA : Hid (Blk 31 w.heap.size #[.int .i64 k, .int .i64 op, .int .i64 f.k, .int .i64 f.p, .int .i64 f.q, .string f.s, .int .i64 f.r, .slice p1 l.length c1, .string s, .int .i64 lv, .int .i64 nx, .slice p2 kp.length c2] w0) := Lib.hid (by rw [hw0]; exact (Blk.new w _ _ _ rfl).ch ((Ch.refl [] _).alloc _) (not_nil _))
  have hd1 : (k == k') = false := by rw [beq_eq_false_iff_ne]; exact hd
  have HW := Lib.hid hw0
  clear hw0 h1 h2 h1' h2' n1 n2 n1' n2'
  go_enter Try.func26, Try.ntmps26
  go_upto_region 1 with fail
  rw [← HW.out]
  have a0 : w0.cell? ⟨w.heap.size, 0, none⟩ = some (.int .i64 k) := HA.out.cell 0
  have a1 : w0.cell? ⟨w.heap.size, 1, none⟩ = some (.int .i64 op) := HA.out.cell 1
  have a2 : w0.cell? ⟨w.heap.size, 2, none⟩ = some (.int .i64 f.k) := HA.out.cell 2
  have a3 : w0.cell? ⟨w.heap.size, 3, none⟩ = some (.int .i64 f.p) := HA.out.cell 3
  have a4 : w0.cell? ⟨w.heap.size, 4, none⟩ = some (.int .i64 f.q) := HA.out.cell 4
  have a5 : w0.cell? ⟨w.heap.size, 5, none⟩ = some (.string f.s) := HA.out.cell 5
  have a6 : w0.cell? ⟨w.heap.size, 6, none⟩ = some (.int .i64 f.r) := HA.out.cell 6
  have a7 : w0.cell? ⟨w.heap.size, 7, none⟩ = some (.slice p1 l.length c1) := HA.out.cell 7
  have a8 : w0.cell? ⟨w.heap.size, 8, none⟩ = some (.string s) := HA.out.cell 8
  have a9 : w0.cell? ⟨w.heap.size, 9, none⟩ = some (.int .i64 lv) := HA.out.cell 9
  have a10 : w0.cell? ⟨w.heap.size, 10, none⟩ = some (.int .i64 nx) := HA.out.cell 10
  have a11 : w0.cell? ⟨w.heap.size, 11, none⟩ = some (.slice p2 kp.length c2) := HA.out.cell 11
  have b0 : w0.cell? ⟨(w.heap.size + 1), 0, none⟩ = some (.int .i64 k') := HB.out.cell 0
  have b1 : w0.cell? ⟨(w.heap.size + 1), 1, none⟩ = some (.int .i64 op') := HB.out.cell 1
  have b2 : w0.cell? ⟨(w.heap.size + 1), 2, none⟩ = some (.int .i64 f'.k) := HB.out.cell 2
  have b3 : w0.cell? ⟨(w.heap.size + 1), 3, none⟩ = some (.int .i64 f'.p) := HB.out.cell 3
  have b4 : w0.cell? ⟨(w.heap.size + 1), 4, none⟩ = some (.int .i64 f'.q) := HB.out.cell 4
  have b5 : w0.cell? ⟨(w.heap.size + 1), 5, none⟩ = some (.string f'.s) := HB.out.cell 5
  have b6 : w0.cell? ⟨(w.heap.size + 1), 6, none⟩ = some (.int .i64 f'.r) := HB.out.cell 6
  have b7 : w0.cell? ⟨(w.heap.size + 1), 7, none⟩ = some (.slice p1' l'.length c1') := HB.out.cell 7
  have b8 : w0.cell? ⟨(w.heap.size + 1), 8, none⟩ = some (.string s') := HB.out.cell 8
  have b9 : w0.cell? ⟨(w.heap.size + 1), 9, none⟩ = some (.int .i64 lv') := HB.out.cell 9
  have b10 : w0.cell? ⟨(w.heap.size + 1), 10, none⟩ = some (.int .i64 nx') := HB.out.cell 10
  have b11 : w0.cell? ⟨(w.heap.size + 1), 11, none⟩ = some (.slice p2' kp'.length c2') := HB.out.cell 11
  have la := HA.out.lt
  have lb := HB.out.lt
  go_wp2
  go_ret
  exact ⟨rfl, HC0.out⟩
set_option maxHeartbeats 4000000 in
theorem asame_any_1 (k : Int) (op : Int) (f : V5) (l : List V5) (s : ByteArray) (lv : Int) (nx : Int) (kp : List V5) (op' : Int) (f' : V5) (l' : List V5) (s' : ByteArray) (lv' : Int) (nx' : Int) (kp' : List V5) (p1 p2 p1' p2' : Option Addr) (c1 c2 c1' c2' : Nat) (w : World) (hd : ¬ op = op') (h1 : ValsA w (.slice p1 l.length c1) l) (h2 : ValsA w (.slice p2 kp.length c2) kp) (h1' : ValsA w (.slice p1' l'.length c1') l') (h2' : ValsA w (.slice p2' kp'.length c2') kp')
    (n1 : l.length ≤ 1000000) (n2 : kp.length ≤ 1000000) (n1' : l'.length ≤ 1000000) (n2' : kp'.length ≤ 1000000) :
    Calls Try.prog 26 #[.agg #[.int .i64 k, .int .i64 op, .int .i64 f.k, .int .i64 f.p, .int .i64 f.q, .string f.s, .int .i64 f.r, .slice p1 l.length c1, .string s, .int .i64 lv, .int .i64 nx, .slice p2 kp.length c2], .agg #[.int .i64 k, .int .i64 op', .int .i64 f'.k, .int .i64 f'.p, .int .i64 f'.q, .string f'.s, .int .i64 f'.r, .slice p1' l'.length c1', .string s', .int .i64 lv', .int .i64 nx', .slice p2' kp'.length c2']] w fun e w' => e = .returned (.bool false) ∧ Ch [] w w' := by
  obtain ⟨w0, hw0⟩ : ∃ w0, w0 = ((w.alloc (.cells #[.int .i64 k, .int .i64 op, .int .i64 f.k, .int .i64 f.p, .int .i64 f.q, .string f.s, .int .i64 f.r, .slice p1 l.length c1, .string s, .int .i64 lv, .int .i64 nx, .slice p2 kp.length c2] 31)).alloc (.cells #[.int .i64 k, .int .i64 op', .int .i64 f'.k, .int .i64 f'.p, .int .i64 f'.q, .string f'.s, .int .i64 f'.r, .slice p1' l'.length c1', .string s', .int .i64 lv', .int .i64 nx', .slice p2' kp'.length c2'] 31)) := ⟨_, rfl⟩
  have HC0 : Hid (Ch [] w w0) := Lib.hid (by rw [hw0]; exact ((Ch.refl [] w).alloc _).alloc _)
  have HB : Hid (Blk 31 (w.heap.size + 1) #[.int .i64 k, .int .i64 op', .int .i64 f'.k, .int .i64 f'.p, .int .i64 f'.q, .string f'.s, .int .i64 f'.r, .slice p1' l'.length c1', .string s', .int .i64 lv', .int .i64 nx', .slice p2' kp'.length c2'] w0) := Lib.hid (by rw [hw0]; exact Blk.new _ _ _ _ (by simp))
  have HA : Hid (Blk 31 w.heap.size #[.int .i64 k, .int .i64 op, .int .i64 f.k, .int .i64 f.p, .int .i64 f.q, .string f.s, .int .i64 f.r, .slice p1 l.length c1, .string s, .int .i64 lv, .int .i64 nx, .slice p2 kp.length c2] w0) := Lib.hid (by rw [hw0]; exact (Blk.new w _ _ _ rfl).ch ((Ch.refl [] _).alloc _) (not_nil _))
  have hd1 : (op == op') = false := by rw [beq_eq_false_iff_ne]; exact hd
  have HW := Lib.hid hw0
  clear hw0 h1 h2 h1' h2' n1 n2 n1' n2'
  go_enter Try.func26, Try.ntmps26
  go_upto_region 1 with fail
  rw [← HW.out]
  have a0 : w0.cell? ⟨w.heap.size, 0, none⟩ = some (.int .i64 k) := HA.out.cell 0
  have a1 : w0.cell? ⟨w.heap.size, 1, none⟩ = some (.int .i64 op) := HA.out.cell 1
  have a2 : w0.cell? ⟨w.heap.size, 2, none⟩ = some (.int .i64 f.k) := HA.out.cell 2
  have a3 : w0.cell? ⟨w.heap.size, 3, none⟩ = some (.int .i64 f.p) := HA.out.cell 3
  have a4 : w0.cell? ⟨w.heap.size, 4, none⟩ = some (.int .i64 f.q) := HA.out.cell 4
  have a5 : w0.cell? ⟨w.heap.size, 5, none⟩ = some (.string f.s) := HA.out.cell 5
  have a6 : w0.cell? ⟨w.heap.size, 6, none⟩ = some (.int .i64 f.r) := HA.out.cell 6
  have a7 : w0.cell? ⟨w.heap.size, 7, none⟩ = some (.slice p1 l.length c1) := HA.out.cell 7
  have a8 : w0.cell? ⟨w.heap.size, 8, none⟩ = some (.string s) := HA.out.cell 8
  have a9 : w0.cell? ⟨w.heap.size, 9, none⟩ = some (.int .i64 lv) := HA.out.cell 9
  have a10 : w0.cell? ⟨w.heap.size, 10, none⟩ = some (.int .i64 nx) := HA.out.cell 10
  have a11 : w0.cell? ⟨w.heap.size, 11, none⟩ = some (.slice p2 kp.length c2) := HA.out.cell 11
  have b0 : w0.cell? ⟨(w.heap.size + 1), 0, none⟩ = some (.int .i64 k) := HB.out.cell 0
  have b1 : w0.cell? ⟨(w.heap.size + 1), 1, none⟩ = some (.int .i64 op') := HB.out.cell 1
  have b2 : w0.cell? ⟨(w.heap.size + 1), 2, none⟩ = some (.int .i64 f'.k) := HB.out.cell 2
  have b3 : w0.cell? ⟨(w.heap.size + 1), 3, none⟩ = some (.int .i64 f'.p) := HB.out.cell 3
  have b4 : w0.cell? ⟨(w.heap.size + 1), 4, none⟩ = some (.int .i64 f'.q) := HB.out.cell 4
  have b5 : w0.cell? ⟨(w.heap.size + 1), 5, none⟩ = some (.string f'.s) := HB.out.cell 5
  have b6 : w0.cell? ⟨(w.heap.size + 1), 6, none⟩ = some (.int .i64 f'.r) := HB.out.cell 6
  have b7 : w0.cell? ⟨(w.heap.size + 1), 7, none⟩ = some (.slice p1' l'.length c1') := HB.out.cell 7
  have b8 : w0.cell? ⟨(w.heap.size + 1), 8, none⟩ = some (.string s') := HB.out.cell 8
  have b9 : w0.cell? ⟨(w.heap.size + 1), 9, none⟩ = some (.int .i64 lv') := HB.out.cell 9
  have b10 : w0.cell? ⟨(w.heap.size + 1), 10, none⟩ = some (.int .i64 nx') := HB.out.cell 10
  have b11 : w0.cell? ⟨(w.heap.size + 1), 11, none⟩ = some (.slice p2' kp'.length c2') := HB.out.cell 11
  have la := HA.out.lt
  have lb := HB.out.lt
  go_wp2
  go_ret
  exact ⟨rfl, HC0.out⟩
set_option maxHeartbeats 4000000 in
theorem asame_any_2 (k : Int) (op : Int) (f : V5) (l : List V5) (s : ByteArray) (lv : Int) (nx : Int) (kp : List V5) (f' : V5) (l' : List V5) (s' : ByteArray) (lv' : Int) (nx' : Int) (kp' : List V5) (p1 p2 p1' p2' : Option Addr) (c1 c2 c1' c2' : Nat) (w : World) (hd : ¬ f = f') (h1 : ValsA w (.slice p1 l.length c1) l) (h2 : ValsA w (.slice p2 kp.length c2) kp) (h1' : ValsA w (.slice p1' l'.length c1') l') (h2' : ValsA w (.slice p2' kp'.length c2') kp')
    (n1 : l.length ≤ 1000000) (n2 : kp.length ≤ 1000000) (n1' : l'.length ≤ 1000000) (n2' : kp'.length ≤ 1000000) :
    Calls Try.prog 26 #[.agg #[.int .i64 k, .int .i64 op, .int .i64 f.k, .int .i64 f.p, .int .i64 f.q, .string f.s, .int .i64 f.r, .slice p1 l.length c1, .string s, .int .i64 lv, .int .i64 nx, .slice p2 kp.length c2], .agg #[.int .i64 k, .int .i64 op, .int .i64 f'.k, .int .i64 f'.p, .int .i64 f'.q, .string f'.s, .int .i64 f'.r, .slice p1' l'.length c1', .string s', .int .i64 lv', .int .i64 nx', .slice p2' kp'.length c2']] w fun e w' => e = .returned (.bool false) ∧ Ch [] w w' := by
  obtain ⟨w0, hw0⟩ : ∃ w0, w0 = ((w.alloc (.cells #[.int .i64 k, .int .i64 op, .int .i64 f.k, .int .i64 f.p, .int .i64 f.q, .string f.s, .int .i64 f.r, .slice p1 l.length c1, .string s, .int .i64 lv, .int .i64 nx, .slice p2 kp.length c2] 31)).alloc (.cells #[.int .i64 k, .int .i64 op, .int .i64 f'.k, .int .i64 f'.p, .int .i64 f'.q, .string f'.s, .int .i64 f'.r, .slice p1' l'.length c1', .string s', .int .i64 lv', .int .i64 nx', .slice p2' kp'.length c2'] 31)) := ⟨_, rfl⟩
  have HC0 : Hid (Ch [] w w0) := Lib.hid (by rw [hw0]; exact ((Ch.refl [] w).alloc _).alloc _)
  have HB : Hid (Blk 31 (w.heap.size + 1) #[.int .i64 k, .int .i64 op, .int .i64 f'.k, .int .i64 f'.p, .int .i64 f'.q, .string f'.s, .int .i64 f'.r, .slice p1' l'.length c1', .string s', .int .i64 lv', .int .i64 nx', .slice p2' kp'.length c2'] w0) := Lib.hid (by rw [hw0]; exact Blk.new _ _ _ _ (by simp))
  have HA : Hid (Blk 31 w.heap.size #[.int .i64 k, .int .i64 op, .int .i64 f.k, .int .i64 f.p, .int .i64 f.q, .string f.s, .int .i64 f.r, .slice p1 l.length c1, .string s, .int .i64 lv, .int .i64 nx, .slice p2 kp.length c2] w0) := Lib.hid (by rw [hw0]; exact (Blk.new w _ _ _ rfl).ch ((Ch.refl [] _).alloc _) (not_nil _))
  have QF : Hid (∀ W, Ch [] w0 W → Calls Try.prog 40 #[.agg #[.int .i64 f.k, .int .i64 f.p, .int .i64 f.q, .string f.s, .int .i64 f.r], .agg #[.int .i64 f'.k, .int .i64 f'.p, .int .i64 f'.q, .string f'.s, .int .i64 f'.r]] W fun e w' => e = .returned (.bool false) ∧ Ch [] w0 w') := Lib.hid fun W hW => by
    refine (same_any f.k f.p f.q f.s f.r f'.k f'.p f'.q f'.s f'.r W).mono ?_
    rintro e w' ⟨rfl, hc⟩
    refine ⟨?_, hW.trans (Ch.of_below hc)⟩
    rw [eqV_v5]; simp [hd]
  clear hd
  have HW := Lib.hid hw0
  clear hw0 h1 h2 h1' h2' n1 n2 n1' n2'
  go_enter Try.func26, Try.ntmps26
  go_upto_region 1 with fail
  rw [← HW.out]
  have a0 : w0.cell? ⟨w.heap.size, 0, none⟩ = some (.int .i64 k) := HA.out.cell 0
  have a1 : w0.cell? ⟨w.heap.size, 1, none⟩ = some (.int .i64 op) := HA.out.cell 1
  have a2 : w0.cell? ⟨w.heap.size, 2, none⟩ = some (.int .i64 f.k) := HA.out.cell 2
  have a3 : w0.cell? ⟨w.heap.size, 3, none⟩ = some (.int .i64 f.p) := HA.out.cell 3
  have a4 : w0.cell? ⟨w.heap.size, 4, none⟩ = some (.int .i64 f.q) := HA.out.cell 4
  have a5 : w0.cell? ⟨w.heap.size, 5, none⟩ = some (.string f.s) := HA.out.cell 5
  have a6 : w0.cell? ⟨w.heap.size, 6, none⟩ = some (.int .i64 f.r) := HA.out.cell 6
  have a7 : w0.cell? ⟨w.heap.size, 7, none⟩ = some (.slice p1 l.length c1) := HA.out.cell 7
  have a8 : w0.cell? ⟨w.heap.size, 8, none⟩ = some (.string s) := HA.out.cell 8
  have a9 : w0.cell? ⟨w.heap.size, 9, none⟩ = some (.int .i64 lv) := HA.out.cell 9
  have a10 : w0.cell? ⟨w.heap.size, 10, none⟩ = some (.int .i64 nx) := HA.out.cell 10
  have a11 : w0.cell? ⟨w.heap.size, 11, none⟩ = some (.slice p2 kp.length c2) := HA.out.cell 11
  have b0 : w0.cell? ⟨(w.heap.size + 1), 0, none⟩ = some (.int .i64 k) := HB.out.cell 0
  have b1 : w0.cell? ⟨(w.heap.size + 1), 1, none⟩ = some (.int .i64 op) := HB.out.cell 1
  have b2 : w0.cell? ⟨(w.heap.size + 1), 2, none⟩ = some (.int .i64 f'.k) := HB.out.cell 2
  have b3 : w0.cell? ⟨(w.heap.size + 1), 3, none⟩ = some (.int .i64 f'.p) := HB.out.cell 3
  have b4 : w0.cell? ⟨(w.heap.size + 1), 4, none⟩ = some (.int .i64 f'.q) := HB.out.cell 4
  have b5 : w0.cell? ⟨(w.heap.size + 1), 5, none⟩ = some (.string f'.s) := HB.out.cell 5
  have b6 : w0.cell? ⟨(w.heap.size + 1), 6, none⟩ = some (.int .i64 f'.r) := HB.out.cell 6
  have b7 : w0.cell? ⟨(w.heap.size + 1), 7, none⟩ = some (.slice p1' l'.length c1') := HB.out.cell 7
  have b8 : w0.cell? ⟨(w.heap.size + 1), 8, none⟩ = some (.string s') := HB.out.cell 8
  have b9 : w0.cell? ⟨(w.heap.size + 1), 9, none⟩ = some (.int .i64 lv') := HB.out.cell 9
  have b10 : w0.cell? ⟨(w.heap.size + 1), 10, none⟩ = some (.int .i64 nx') := HB.out.cell 10
  have b11 : w0.cell? ⟨(w.heap.size + 1), 11, none⟩ = some (.slice p2' kp'.length c2') := HB.out.cell 11
  have la := HA.out.lt
  have lb := HB.out.lt
  go_wp2_with (first | (go_at_call 40; (with_reducible refine (QF.out _ (Ch.refl _ _)).mono ?_); rintro e wf ⟨rfl, hc⟩; have HCf := Lib.hid hc; clear hc; have fa0 : wf.cell? ⟨w.heap.size, 0, none⟩ = some (.int .i64 k) := (HA.out.ch HCf.out (not_nil _)).cell 0; have fa1 : wf.cell? ⟨w.heap.size, 1, none⟩ = some (.int .i64 op) := (HA.out.ch HCf.out (not_nil _)).cell 1; have fa2 : wf.cell? ⟨w.heap.size, 2, none⟩ = some (.int .i64 f.k) := (HA.out.ch HCf.out (not_nil _)).cell 2; have fa3 : wf.cell? ⟨w.heap.size, 3, none⟩ = some (.int .i64 f.p) := (HA.out.ch HCf.out (not_nil _)).cell 3; have fa4 : wf.cell? ⟨w.heap.size, 4, none⟩ = some (.int .i64 f.q) := (HA.out.ch HCf.out (not_nil _)).cell 4; have fa5 : wf.cell? ⟨w.heap.size, 5, none⟩ = some (.string f.s) := (HA.out.ch HCf.out (not_nil _)).cell 5; have fa6 : wf.cell? ⟨w.heap.size, 6, none⟩ = some (.int .i64 f.r) := (HA.out.ch HCf.out (not_nil _)).cell 6; have fa7 : wf.cell? ⟨w.heap.size, 7, none⟩ = some (.slice p1 l.length c1) := (HA.out.ch HCf.out (not_nil _)).cell 7; have fa8 : wf.cell? ⟨w.heap.size, 8, none⟩ = some (.string s) := (HA.out.ch HCf.out (not_nil _)).cell 8; have fa9 : wf.cell? ⟨w.heap.size, 9, none⟩ = some (.int .i64 lv) := (HA.out.ch HCf.out (not_nil _)).cell 9; have fa10 : wf.cell? ⟨w.heap.size, 10, none⟩ = some (.int .i64 nx) := (HA.out.ch HCf.out (not_nil _)).cell 10; have fa11 : wf.cell? ⟨w.heap.size, 11, none⟩ = some (.slice p2 kp.length c2) := (HA.out.ch HCf.out (not_nil _)).cell 11; have fb0 : wf.cell? ⟨w.heap.size + 1, 0, none⟩ = some (.int .i64 k) := (HB.out.ch HCf.out (not_nil _)).cell 0; have fb1 : wf.cell? ⟨w.heap.size + 1, 1, none⟩ = some (.int .i64 op) := (HB.out.ch HCf.out (not_nil _)).cell 1; have fb2 : wf.cell? ⟨w.heap.size + 1, 2, none⟩ = some (.int .i64 f'.k) := (HB.out.ch HCf.out (not_nil _)).cell 2; have fb3 : wf.cell? ⟨w.heap.size + 1, 3, none⟩ = some (.int .i64 f'.p) := (HB.out.ch HCf.out (not_nil _)).cell 3; have fb4 : wf.cell? ⟨w.heap.size + 1, 4, none⟩ = some (.int .i64 f'.q) := (HB.out.ch HCf.out (not_nil _)).cell 4; have fb5 : wf.cell? ⟨w.heap.size + 1, 5, none⟩ = some (.string f'.s) := (HB.out.ch HCf.out (not_nil _)).cell 5; have fb6 : wf.cell? ⟨w.heap.size + 1, 6, none⟩ = some (.int .i64 f'.r) := (HB.out.ch HCf.out (not_nil _)).cell 6; have fb7 : wf.cell? ⟨w.heap.size + 1, 7, none⟩ = some (.slice p1' l'.length c1') := (HB.out.ch HCf.out (not_nil _)).cell 7; have fb8 : wf.cell? ⟨w.heap.size + 1, 8, none⟩ = some (.string s') := (HB.out.ch HCf.out (not_nil _)).cell 8; have fb9 : wf.cell? ⟨w.heap.size + 1, 9, none⟩ = some (.int .i64 lv') := (HB.out.ch HCf.out (not_nil _)).cell 9; have fb10 : wf.cell? ⟨w.heap.size + 1, 10, none⟩ = some (.int .i64 nx') := (HB.out.ch HCf.out (not_nil _)).cell 10; have fb11 : wf.cell? ⟨w.heap.size + 1, 11, none⟩ = some (.slice p2' kp'.length c2') := (HB.out.ch HCf.out (not_nil _)).cell 11; have fla := (HA.out.ch HCf.out (not_nil _)).lt; have flb := (HB.out.ch HCf.out (not_nil _)).lt))
  go_ret
  exact ⟨rfl, HC0.out.trans HCf.out⟩
set_option maxHeartbeats 4000000 in
theorem asame_any_3 (k : Int) (op : Int) (f : V5) (l : List V5) (s : ByteArray) (lv : Int) (nx : Int) (kp : List V5) (l' : List V5) (s' : ByteArray) (lv' : Int) (nx' : Int) (kp' : List V5) (p1 p2 p1' p2' : Option Addr) (c1 c2 c1' c2' : Nat) (w : World) (hd : ¬ l = l') (h1 : ValsA w (.slice p1 l.length c1) l) (h2 : ValsA w (.slice p2 kp.length c2) kp) (h1' : ValsA w (.slice p1' l'.length c1') l') (h2' : ValsA w (.slice p2' kp'.length c2') kp')
    (n1 : l.length ≤ 1000000) (n2 : kp.length ≤ 1000000) (n1' : l'.length ≤ 1000000) (n2' : kp'.length ≤ 1000000) :
    Calls Try.prog 26 #[.agg #[.int .i64 k, .int .i64 op, .int .i64 f.k, .int .i64 f.p, .int .i64 f.q, .string f.s, .int .i64 f.r, .slice p1 l.length c1, .string s, .int .i64 lv, .int .i64 nx, .slice p2 kp.length c2], .agg #[.int .i64 k, .int .i64 op, .int .i64 f.k, .int .i64 f.p, .int .i64 f.q, .string f.s, .int .i64 f.r, .slice p1' l'.length c1', .string s', .int .i64 lv', .int .i64 nx', .slice p2' kp'.length c2']] w fun e w' => e = .returned (.bool false) ∧ Ch [] w w' := by
  obtain ⟨w0, hw0⟩ : ∃ w0, w0 = ((w.alloc (.cells #[.int .i64 k, .int .i64 op, .int .i64 f.k, .int .i64 f.p, .int .i64 f.q, .string f.s, .int .i64 f.r, .slice p1 l.length c1, .string s, .int .i64 lv, .int .i64 nx, .slice p2 kp.length c2] 31)).alloc (.cells #[.int .i64 k, .int .i64 op, .int .i64 f.k, .int .i64 f.p, .int .i64 f.q, .string f.s, .int .i64 f.r, .slice p1' l'.length c1', .string s', .int .i64 lv', .int .i64 nx', .slice p2' kp'.length c2'] 31)) := ⟨_, rfl⟩
  have HC0 : Hid (Ch [] w w0) := Lib.hid (by rw [hw0]; exact ((Ch.refl [] w).alloc _).alloc _)
  have HB : Hid (Blk 31 (w.heap.size + 1) #[.int .i64 k, .int .i64 op, .int .i64 f.k, .int .i64 f.p, .int .i64 f.q, .string f.s, .int .i64 f.r, .slice p1' l'.length c1', .string s', .int .i64 lv', .int .i64 nx', .slice p2' kp'.length c2'] w0) := Lib.hid (by rw [hw0]; exact Blk.new _ _ _ _ (by simp))
  have HA : Hid (Blk 31 w.heap.size #[.int .i64 k, .int .i64 op, .int .i64 f.k, .int .i64 f.p, .int .i64 f.q, .string f.s, .int .i64 f.r, .slice p1 l.length c1, .string s, .int .i64 lv, .int .i64 nx, .slice p2 kp.length c2] w0) := Lib.hid (by rw [hw0]; exact (Blk.new w _ _ _ rfl).ch ((Ch.refl [] _).alloc _) (not_nil _))
  have QL : Hid (∀ W, Ch [] w0 W → Calls Try.prog 41 #[.slice p1 l.length c1, .slice p1' l'.length c1'] W fun e w' => e = .returned (.bool false) ∧ Ch [] w0 w') := Lib.hid fun W hW => by
    refine (equal_any _ _ l l' W (h1.below (HC0.out.trans hW)) (h1'.below (HC0.out.trans hW)) n1 n1').mono ?_
    rintro e w' ⟨rfl, hc⟩
    exact ⟨by simp [hd], hW.trans hc⟩
  have QF : Hid (∀ W, Ch [] w0 W → Calls Try.prog 40 #[.agg #[.int .i64 f.k, .int .i64 f.p, .int .i64 f.q, .string f.s, .int .i64 f.r], .agg #[.int .i64 f.k, .int .i64 f.p, .int .i64 f.q, .string f.s, .int .i64 f.r]] W fun e w' => e = .returned (.bool true) ∧ Ch [] w0 w') := Lib.hid fun W hW => by
    refine (same_any f.k f.p f.q f.s f.r f.k f.p f.q f.s f.r W).mono ?_
    rintro e w' ⟨rfl, hc⟩
    refine ⟨?_, hW.trans (Ch.of_below hc)⟩
    rw [eqV_v5]; simp
  clear hd
  have HW := Lib.hid hw0
  clear hw0 h1 h2 h1' h2' n1 n2 n1' n2'
  go_enter Try.func26, Try.ntmps26
  go_upto_region 1 with fail
  rw [← HW.out]
  have a0 : w0.cell? ⟨w.heap.size, 0, none⟩ = some (.int .i64 k) := HA.out.cell 0
  have a1 : w0.cell? ⟨w.heap.size, 1, none⟩ = some (.int .i64 op) := HA.out.cell 1
  have a2 : w0.cell? ⟨w.heap.size, 2, none⟩ = some (.int .i64 f.k) := HA.out.cell 2
  have a3 : w0.cell? ⟨w.heap.size, 3, none⟩ = some (.int .i64 f.p) := HA.out.cell 3
  have a4 : w0.cell? ⟨w.heap.size, 4, none⟩ = some (.int .i64 f.q) := HA.out.cell 4
  have a5 : w0.cell? ⟨w.heap.size, 5, none⟩ = some (.string f.s) := HA.out.cell 5
  have a6 : w0.cell? ⟨w.heap.size, 6, none⟩ = some (.int .i64 f.r) := HA.out.cell 6
  have a7 : w0.cell? ⟨w.heap.size, 7, none⟩ = some (.slice p1 l.length c1) := HA.out.cell 7
  have a8 : w0.cell? ⟨w.heap.size, 8, none⟩ = some (.string s) := HA.out.cell 8
  have a9 : w0.cell? ⟨w.heap.size, 9, none⟩ = some (.int .i64 lv) := HA.out.cell 9
  have a10 : w0.cell? ⟨w.heap.size, 10, none⟩ = some (.int .i64 nx) := HA.out.cell 10
  have a11 : w0.cell? ⟨w.heap.size, 11, none⟩ = some (.slice p2 kp.length c2) := HA.out.cell 11
  have b0 : w0.cell? ⟨(w.heap.size + 1), 0, none⟩ = some (.int .i64 k) := HB.out.cell 0
  have b1 : w0.cell? ⟨(w.heap.size + 1), 1, none⟩ = some (.int .i64 op) := HB.out.cell 1
  have b2 : w0.cell? ⟨(w.heap.size + 1), 2, none⟩ = some (.int .i64 f.k) := HB.out.cell 2
  have b3 : w0.cell? ⟨(w.heap.size + 1), 3, none⟩ = some (.int .i64 f.p) := HB.out.cell 3
  have b4 : w0.cell? ⟨(w.heap.size + 1), 4, none⟩ = some (.int .i64 f.q) := HB.out.cell 4
  have b5 : w0.cell? ⟨(w.heap.size + 1), 5, none⟩ = some (.string f.s) := HB.out.cell 5
  have b6 : w0.cell? ⟨(w.heap.size + 1), 6, none⟩ = some (.int .i64 f.r) := HB.out.cell 6
  have b7 : w0.cell? ⟨(w.heap.size + 1), 7, none⟩ = some (.slice p1' l'.length c1') := HB.out.cell 7
  have b8 : w0.cell? ⟨(w.heap.size + 1), 8, none⟩ = some (.string s') := HB.out.cell 8
  have b9 : w0.cell? ⟨(w.heap.size + 1), 9, none⟩ = some (.int .i64 lv') := HB.out.cell 9
  have b10 : w0.cell? ⟨(w.heap.size + 1), 10, none⟩ = some (.int .i64 nx') := HB.out.cell 10
  have b11 : w0.cell? ⟨(w.heap.size + 1), 11, none⟩ = some (.slice p2' kp'.length c2') := HB.out.cell 11
  have la := HA.out.lt
  have lb := HB.out.lt
  go_wp2_with (first | (go_at_call 40; (with_reducible refine (QF.out _ (Ch.refl _ _)).mono ?_); rintro e wf ⟨rfl, hc⟩; have HCf := Lib.hid hc; clear hc; have fa0 : wf.cell? ⟨w.heap.size, 0, none⟩ = some (.int .i64 k) := (HA.out.ch HCf.out (not_nil _)).cell 0; have fa1 : wf.cell? ⟨w.heap.size, 1, none⟩ = some (.int .i64 op) := (HA.out.ch HCf.out (not_nil _)).cell 1; have fa2 : wf.cell? ⟨w.heap.size, 2, none⟩ = some (.int .i64 f.k) := (HA.out.ch HCf.out (not_nil _)).cell 2; have fa3 : wf.cell? ⟨w.heap.size, 3, none⟩ = some (.int .i64 f.p) := (HA.out.ch HCf.out (not_nil _)).cell 3; have fa4 : wf.cell? ⟨w.heap.size, 4, none⟩ = some (.int .i64 f.q) := (HA.out.ch HCf.out (not_nil _)).cell 4; have fa5 : wf.cell? ⟨w.heap.size, 5, none⟩ = some (.string f.s) := (HA.out.ch HCf.out (not_nil _)).cell 5; have fa6 : wf.cell? ⟨w.heap.size, 6, none⟩ = some (.int .i64 f.r) := (HA.out.ch HCf.out (not_nil _)).cell 6; have fa7 : wf.cell? ⟨w.heap.size, 7, none⟩ = some (.slice p1 l.length c1) := (HA.out.ch HCf.out (not_nil _)).cell 7; have fa8 : wf.cell? ⟨w.heap.size, 8, none⟩ = some (.string s) := (HA.out.ch HCf.out (not_nil _)).cell 8; have fa9 : wf.cell? ⟨w.heap.size, 9, none⟩ = some (.int .i64 lv) := (HA.out.ch HCf.out (not_nil _)).cell 9; have fa10 : wf.cell? ⟨w.heap.size, 10, none⟩ = some (.int .i64 nx) := (HA.out.ch HCf.out (not_nil _)).cell 10; have fa11 : wf.cell? ⟨w.heap.size, 11, none⟩ = some (.slice p2 kp.length c2) := (HA.out.ch HCf.out (not_nil _)).cell 11; have fb0 : wf.cell? ⟨w.heap.size + 1, 0, none⟩ = some (.int .i64 k) := (HB.out.ch HCf.out (not_nil _)).cell 0; have fb1 : wf.cell? ⟨w.heap.size + 1, 1, none⟩ = some (.int .i64 op) := (HB.out.ch HCf.out (not_nil _)).cell 1; have fb2 : wf.cell? ⟨w.heap.size + 1, 2, none⟩ = some (.int .i64 f.k) := (HB.out.ch HCf.out (not_nil _)).cell 2; have fb3 : wf.cell? ⟨w.heap.size + 1, 3, none⟩ = some (.int .i64 f.p) := (HB.out.ch HCf.out (not_nil _)).cell 3; have fb4 : wf.cell? ⟨w.heap.size + 1, 4, none⟩ = some (.int .i64 f.q) := (HB.out.ch HCf.out (not_nil _)).cell 4; have fb5 : wf.cell? ⟨w.heap.size + 1, 5, none⟩ = some (.string f.s) := (HB.out.ch HCf.out (not_nil _)).cell 5; have fb6 : wf.cell? ⟨w.heap.size + 1, 6, none⟩ = some (.int .i64 f.r) := (HB.out.ch HCf.out (not_nil _)).cell 6; have fb7 : wf.cell? ⟨w.heap.size + 1, 7, none⟩ = some (.slice p1' l'.length c1') := (HB.out.ch HCf.out (not_nil _)).cell 7; have fb8 : wf.cell? ⟨w.heap.size + 1, 8, none⟩ = some (.string s') := (HB.out.ch HCf.out (not_nil _)).cell 8; have fb9 : wf.cell? ⟨w.heap.size + 1, 9, none⟩ = some (.int .i64 lv') := (HB.out.ch HCf.out (not_nil _)).cell 9; have fb10 : wf.cell? ⟨w.heap.size + 1, 10, none⟩ = some (.int .i64 nx') := (HB.out.ch HCf.out (not_nil _)).cell 10; have fb11 : wf.cell? ⟨w.heap.size + 1, 11, none⟩ = some (.slice p2' kp'.length c2') := (HB.out.ch HCf.out (not_nil _)).cell 11; have fla := (HA.out.ch HCf.out (not_nil _)).lt; have flb := (HB.out.ch HCf.out (not_nil _)).lt) | (go_at_call 41; (with_reducible refine (QL.out _ (HCf.out)).mono ?_); rintro e wl ⟨rfl, hc⟩; have HCl := Lib.hid hc; clear hc; have la0 : wl.cell? ⟨w.heap.size, 0, none⟩ = some (.int .i64 k) := (HA.out.ch HCl.out (not_nil _)).cell 0; have la1 : wl.cell? ⟨w.heap.size, 1, none⟩ = some (.int .i64 op) := (HA.out.ch HCl.out (not_nil _)).cell 1; have la2 : wl.cell? ⟨w.heap.size, 2, none⟩ = some (.int .i64 f.k) := (HA.out.ch HCl.out (not_nil _)).cell 2; have la3 : wl.cell? ⟨w.heap.size, 3, none⟩ = some (.int .i64 f.p) := (HA.out.ch HCl.out (not_nil _)).cell 3; have la4 : wl.cell? ⟨w.heap.size, 4, none⟩ = some (.int .i64 f.q) := (HA.out.ch HCl.out (not_nil _)).cell 4; have la5 : wl.cell? ⟨w.heap.size, 5, none⟩ = some (.string f.s) := (HA.out.ch HCl.out (not_nil _)).cell 5; have la6 : wl.cell? ⟨w.heap.size, 6, none⟩ = some (.int .i64 f.r) := (HA.out.ch HCl.out (not_nil _)).cell 6; have la7 : wl.cell? ⟨w.heap.size, 7, none⟩ = some (.slice p1 l.length c1) := (HA.out.ch HCl.out (not_nil _)).cell 7; have la8 : wl.cell? ⟨w.heap.size, 8, none⟩ = some (.string s) := (HA.out.ch HCl.out (not_nil _)).cell 8; have la9 : wl.cell? ⟨w.heap.size, 9, none⟩ = some (.int .i64 lv) := (HA.out.ch HCl.out (not_nil _)).cell 9; have la10 : wl.cell? ⟨w.heap.size, 10, none⟩ = some (.int .i64 nx) := (HA.out.ch HCl.out (not_nil _)).cell 10; have la11 : wl.cell? ⟨w.heap.size, 11, none⟩ = some (.slice p2 kp.length c2) := (HA.out.ch HCl.out (not_nil _)).cell 11; have lb0 : wl.cell? ⟨w.heap.size + 1, 0, none⟩ = some (.int .i64 k) := (HB.out.ch HCl.out (not_nil _)).cell 0; have lb1 : wl.cell? ⟨w.heap.size + 1, 1, none⟩ = some (.int .i64 op) := (HB.out.ch HCl.out (not_nil _)).cell 1; have lb2 : wl.cell? ⟨w.heap.size + 1, 2, none⟩ = some (.int .i64 f.k) := (HB.out.ch HCl.out (not_nil _)).cell 2; have lb3 : wl.cell? ⟨w.heap.size + 1, 3, none⟩ = some (.int .i64 f.p) := (HB.out.ch HCl.out (not_nil _)).cell 3; have lb4 : wl.cell? ⟨w.heap.size + 1, 4, none⟩ = some (.int .i64 f.q) := (HB.out.ch HCl.out (not_nil _)).cell 4; have lb5 : wl.cell? ⟨w.heap.size + 1, 5, none⟩ = some (.string f.s) := (HB.out.ch HCl.out (not_nil _)).cell 5; have lb6 : wl.cell? ⟨w.heap.size + 1, 6, none⟩ = some (.int .i64 f.r) := (HB.out.ch HCl.out (not_nil _)).cell 6; have lb7 : wl.cell? ⟨w.heap.size + 1, 7, none⟩ = some (.slice p1' l'.length c1') := (HB.out.ch HCl.out (not_nil _)).cell 7; have lb8 : wl.cell? ⟨w.heap.size + 1, 8, none⟩ = some (.string s') := (HB.out.ch HCl.out (not_nil _)).cell 8; have lb9 : wl.cell? ⟨w.heap.size + 1, 9, none⟩ = some (.int .i64 lv') := (HB.out.ch HCl.out (not_nil _)).cell 9; have lb10 : wl.cell? ⟨w.heap.size + 1, 10, none⟩ = some (.int .i64 nx') := (HB.out.ch HCl.out (not_nil _)).cell 10; have lb11 : wl.cell? ⟨w.heap.size + 1, 11, none⟩ = some (.slice p2' kp'.length c2') := (HB.out.ch HCl.out (not_nil _)).cell 11; have lla := (HA.out.ch HCl.out (not_nil _)).lt; have llb := (HB.out.ch HCl.out (not_nil _)).lt))
  go_ret
  exact ⟨rfl, HC0.out.trans HCl.out⟩
set_option maxHeartbeats 4000000 in
theorem asame_any_4 (k : Int) (op : Int) (f : V5) (l : List V5) (s : ByteArray) (lv : Int) (nx : Int) (kp : List V5) (s' : ByteArray) (lv' : Int) (nx' : Int) (kp' : List V5) (p1 p2 p1' p2' : Option Addr) (c1 c2 c1' c2' : Nat) (w : World) (hd : ¬ s = s') (h1 : ValsA w (.slice p1 l.length c1) l) (h2 : ValsA w (.slice p2 kp.length c2) kp) (h1' : ValsA w (.slice p1' l.length c1') l) (h2' : ValsA w (.slice p2' kp'.length c2') kp')
    (n1 : l.length ≤ 1000000) (n2 : kp.length ≤ 1000000) (n1' : l.length ≤ 1000000) (n2' : kp'.length ≤ 1000000) :
    Calls Try.prog 26 #[.agg #[.int .i64 k, .int .i64 op, .int .i64 f.k, .int .i64 f.p, .int .i64 f.q, .string f.s, .int .i64 f.r, .slice p1 l.length c1, .string s, .int .i64 lv, .int .i64 nx, .slice p2 kp.length c2], .agg #[.int .i64 k, .int .i64 op, .int .i64 f.k, .int .i64 f.p, .int .i64 f.q, .string f.s, .int .i64 f.r, .slice p1' l.length c1', .string s', .int .i64 lv', .int .i64 nx', .slice p2' kp'.length c2']] w fun e w' => e = .returned (.bool false) ∧ Ch [] w w' := by
  obtain ⟨w0, hw0⟩ : ∃ w0, w0 = ((w.alloc (.cells #[.int .i64 k, .int .i64 op, .int .i64 f.k, .int .i64 f.p, .int .i64 f.q, .string f.s, .int .i64 f.r, .slice p1 l.length c1, .string s, .int .i64 lv, .int .i64 nx, .slice p2 kp.length c2] 31)).alloc (.cells #[.int .i64 k, .int .i64 op, .int .i64 f.k, .int .i64 f.p, .int .i64 f.q, .string f.s, .int .i64 f.r, .slice p1' l.length c1', .string s', .int .i64 lv', .int .i64 nx', .slice p2' kp'.length c2'] 31)) := ⟨_, rfl⟩
  have HC0 : Hid (Ch [] w w0) := Lib.hid (by rw [hw0]; exact ((Ch.refl [] w).alloc _).alloc _)
  have HB : Hid (Blk 31 (w.heap.size + 1) #[.int .i64 k, .int .i64 op, .int .i64 f.k, .int .i64 f.p, .int .i64 f.q, .string f.s, .int .i64 f.r, .slice p1' l.length c1', .string s', .int .i64 lv', .int .i64 nx', .slice p2' kp'.length c2'] w0) := Lib.hid (by rw [hw0]; exact Blk.new _ _ _ _ (by simp))
  have HA : Hid (Blk 31 w.heap.size #[.int .i64 k, .int .i64 op, .int .i64 f.k, .int .i64 f.p, .int .i64 f.q, .string f.s, .int .i64 f.r, .slice p1 l.length c1, .string s, .int .i64 lv, .int .i64 nx, .slice p2 kp.length c2] w0) := Lib.hid (by rw [hw0]; exact (Blk.new w _ _ _ rfl).ch ((Ch.refl [] _).alloc _) (not_nil _))
  have QL : Hid (∀ W, Ch [] w0 W → Calls Try.prog 41 #[.slice p1 l.length c1, .slice p1' l.length c1'] W fun e w' => e = .returned (.bool true) ∧ Ch [] w0 w') := Lib.hid fun W hW => by
    refine (equal_any _ _ l l W (h1.below (HC0.out.trans hW)) (h1'.below (HC0.out.trans hW)) n1 n1').mono ?_
    rintro e w' ⟨rfl, hc⟩
    exact ⟨by simp, hW.trans hc⟩
  have QF : Hid (∀ W, Ch [] w0 W → Calls Try.prog 40 #[.agg #[.int .i64 f.k, .int .i64 f.p, .int .i64 f.q, .string f.s, .int .i64 f.r], .agg #[.int .i64 f.k, .int .i64 f.p, .int .i64 f.q, .string f.s, .int .i64 f.r]] W fun e w' => e = .returned (.bool true) ∧ Ch [] w0 w') := Lib.hid fun W hW => by
    refine (same_any f.k f.p f.q f.s f.r f.k f.p f.q f.s f.r W).mono ?_
    rintro e w' ⟨rfl, hc⟩
    refine ⟨?_, hW.trans (Ch.of_below hc)⟩
    rw [eqV_v5]; simp
  have hd1 : ¬ s.toList = s'.toList := fun e => hd (of_decide_eq_true (by rw [← beqS]; simpa using e))
  have hd2 : (s.toList == s'.toList) = false := by simpa using hd1
  have HW := Lib.hid hw0
  clear hw0 h1 h2 h1' h2' n1 n2 n1' n2'
  go_enter Try.func26, Try.ntmps26
  go_upto_region 1 with fail
  rw [← HW.out]
  have a0 : w0.cell? ⟨w.heap.size, 0, none⟩ = some (.int .i64 k) := HA.out.cell 0
  have a1 : w0.cell? ⟨w.heap.size, 1, none⟩ = some (.int .i64 op) := HA.out.cell 1
  have a2 : w0.cell? ⟨w.heap.size, 2, none⟩ = some (.int .i64 f.k) := HA.out.cell 2
  have a3 : w0.cell? ⟨w.heap.size, 3, none⟩ = some (.int .i64 f.p) := HA.out.cell 3
  have a4 : w0.cell? ⟨w.heap.size, 4, none⟩ = some (.int .i64 f.q) := HA.out.cell 4
  have a5 : w0.cell? ⟨w.heap.size, 5, none⟩ = some (.string f.s) := HA.out.cell 5
  have a6 : w0.cell? ⟨w.heap.size, 6, none⟩ = some (.int .i64 f.r) := HA.out.cell 6
  have a7 : w0.cell? ⟨w.heap.size, 7, none⟩ = some (.slice p1 l.length c1) := HA.out.cell 7
  have a8 : w0.cell? ⟨w.heap.size, 8, none⟩ = some (.string s) := HA.out.cell 8
  have a9 : w0.cell? ⟨w.heap.size, 9, none⟩ = some (.int .i64 lv) := HA.out.cell 9
  have a10 : w0.cell? ⟨w.heap.size, 10, none⟩ = some (.int .i64 nx) := HA.out.cell 10
  have a11 : w0.cell? ⟨w.heap.size, 11, none⟩ = some (.slice p2 kp.length c2) := HA.out.cell 11
  have b0 : w0.cell? ⟨(w.heap.size + 1), 0, none⟩ = some (.int .i64 k) := HB.out.cell 0
  have b1 : w0.cell? ⟨(w.heap.size + 1), 1, none⟩ = some (.int .i64 op) := HB.out.cell 1
  have b2 : w0.cell? ⟨(w.heap.size + 1), 2, none⟩ = some (.int .i64 f.k) := HB.out.cell 2
  have b3 : w0.cell? ⟨(w.heap.size + 1), 3, none⟩ = some (.int .i64 f.p) := HB.out.cell 3
  have b4 : w0.cell? ⟨(w.heap.size + 1), 4, none⟩ = some (.int .i64 f.q) := HB.out.cell 4
  have b5 : w0.cell? ⟨(w.heap.size + 1), 5, none⟩ = some (.string f.s) := HB.out.cell 5
  have b6 : w0.cell? ⟨(w.heap.size + 1), 6, none⟩ = some (.int .i64 f.r) := HB.out.cell 6
  have b7 : w0.cell? ⟨(w.heap.size + 1), 7, none⟩ = some (.slice p1' l.length c1') := HB.out.cell 7
  have b8 : w0.cell? ⟨(w.heap.size + 1), 8, none⟩ = some (.string s') := HB.out.cell 8
  have b9 : w0.cell? ⟨(w.heap.size + 1), 9, none⟩ = some (.int .i64 lv') := HB.out.cell 9
  have b10 : w0.cell? ⟨(w.heap.size + 1), 10, none⟩ = some (.int .i64 nx') := HB.out.cell 10
  have b11 : w0.cell? ⟨(w.heap.size + 1), 11, none⟩ = some (.slice p2' kp'.length c2') := HB.out.cell 11
  have la := HA.out.lt
  have lb := HB.out.lt
  go_wp2_with (first | (go_at_call 40; (with_reducible refine (QF.out _ (Ch.refl _ _)).mono ?_); rintro e wf ⟨rfl, hc⟩; have HCf := Lib.hid hc; clear hc; have fa0 : wf.cell? ⟨w.heap.size, 0, none⟩ = some (.int .i64 k) := (HA.out.ch HCf.out (not_nil _)).cell 0; have fa1 : wf.cell? ⟨w.heap.size, 1, none⟩ = some (.int .i64 op) := (HA.out.ch HCf.out (not_nil _)).cell 1; have fa2 : wf.cell? ⟨w.heap.size, 2, none⟩ = some (.int .i64 f.k) := (HA.out.ch HCf.out (not_nil _)).cell 2; have fa3 : wf.cell? ⟨w.heap.size, 3, none⟩ = some (.int .i64 f.p) := (HA.out.ch HCf.out (not_nil _)).cell 3; have fa4 : wf.cell? ⟨w.heap.size, 4, none⟩ = some (.int .i64 f.q) := (HA.out.ch HCf.out (not_nil _)).cell 4; have fa5 : wf.cell? ⟨w.heap.size, 5, none⟩ = some (.string f.s) := (HA.out.ch HCf.out (not_nil _)).cell 5; have fa6 : wf.cell? ⟨w.heap.size, 6, none⟩ = some (.int .i64 f.r) := (HA.out.ch HCf.out (not_nil _)).cell 6; have fa7 : wf.cell? ⟨w.heap.size, 7, none⟩ = some (.slice p1 l.length c1) := (HA.out.ch HCf.out (not_nil _)).cell 7; have fa8 : wf.cell? ⟨w.heap.size, 8, none⟩ = some (.string s) := (HA.out.ch HCf.out (not_nil _)).cell 8; have fa9 : wf.cell? ⟨w.heap.size, 9, none⟩ = some (.int .i64 lv) := (HA.out.ch HCf.out (not_nil _)).cell 9; have fa10 : wf.cell? ⟨w.heap.size, 10, none⟩ = some (.int .i64 nx) := (HA.out.ch HCf.out (not_nil _)).cell 10; have fa11 : wf.cell? ⟨w.heap.size, 11, none⟩ = some (.slice p2 kp.length c2) := (HA.out.ch HCf.out (not_nil _)).cell 11; have fb0 : wf.cell? ⟨w.heap.size + 1, 0, none⟩ = some (.int .i64 k) := (HB.out.ch HCf.out (not_nil _)).cell 0; have fb1 : wf.cell? ⟨w.heap.size + 1, 1, none⟩ = some (.int .i64 op) := (HB.out.ch HCf.out (not_nil _)).cell 1; have fb2 : wf.cell? ⟨w.heap.size + 1, 2, none⟩ = some (.int .i64 f.k) := (HB.out.ch HCf.out (not_nil _)).cell 2; have fb3 : wf.cell? ⟨w.heap.size + 1, 3, none⟩ = some (.int .i64 f.p) := (HB.out.ch HCf.out (not_nil _)).cell 3; have fb4 : wf.cell? ⟨w.heap.size + 1, 4, none⟩ = some (.int .i64 f.q) := (HB.out.ch HCf.out (not_nil _)).cell 4; have fb5 : wf.cell? ⟨w.heap.size + 1, 5, none⟩ = some (.string f.s) := (HB.out.ch HCf.out (not_nil _)).cell 5; have fb6 : wf.cell? ⟨w.heap.size + 1, 6, none⟩ = some (.int .i64 f.r) := (HB.out.ch HCf.out (not_nil _)).cell 6; have fb7 : wf.cell? ⟨w.heap.size + 1, 7, none⟩ = some (.slice p1' l.length c1') := (HB.out.ch HCf.out (not_nil _)).cell 7; have fb8 : wf.cell? ⟨w.heap.size + 1, 8, none⟩ = some (.string s') := (HB.out.ch HCf.out (not_nil _)).cell 8; have fb9 : wf.cell? ⟨w.heap.size + 1, 9, none⟩ = some (.int .i64 lv') := (HB.out.ch HCf.out (not_nil _)).cell 9; have fb10 : wf.cell? ⟨w.heap.size + 1, 10, none⟩ = some (.int .i64 nx') := (HB.out.ch HCf.out (not_nil _)).cell 10; have fb11 : wf.cell? ⟨w.heap.size + 1, 11, none⟩ = some (.slice p2' kp'.length c2') := (HB.out.ch HCf.out (not_nil _)).cell 11; have fla := (HA.out.ch HCf.out (not_nil _)).lt; have flb := (HB.out.ch HCf.out (not_nil _)).lt) | (go_at_call 41; (with_reducible refine (QL.out _ (HCf.out)).mono ?_); rintro e wl ⟨rfl, hc⟩; have HCl := Lib.hid hc; clear hc; have la0 : wl.cell? ⟨w.heap.size, 0, none⟩ = some (.int .i64 k) := (HA.out.ch HCl.out (not_nil _)).cell 0; have la1 : wl.cell? ⟨w.heap.size, 1, none⟩ = some (.int .i64 op) := (HA.out.ch HCl.out (not_nil _)).cell 1; have la2 : wl.cell? ⟨w.heap.size, 2, none⟩ = some (.int .i64 f.k) := (HA.out.ch HCl.out (not_nil _)).cell 2; have la3 : wl.cell? ⟨w.heap.size, 3, none⟩ = some (.int .i64 f.p) := (HA.out.ch HCl.out (not_nil _)).cell 3; have la4 : wl.cell? ⟨w.heap.size, 4, none⟩ = some (.int .i64 f.q) := (HA.out.ch HCl.out (not_nil _)).cell 4; have la5 : wl.cell? ⟨w.heap.size, 5, none⟩ = some (.string f.s) := (HA.out.ch HCl.out (not_nil _)).cell 5; have la6 : wl.cell? ⟨w.heap.size, 6, none⟩ = some (.int .i64 f.r) := (HA.out.ch HCl.out (not_nil _)).cell 6; have la7 : wl.cell? ⟨w.heap.size, 7, none⟩ = some (.slice p1 l.length c1) := (HA.out.ch HCl.out (not_nil _)).cell 7; have la8 : wl.cell? ⟨w.heap.size, 8, none⟩ = some (.string s) := (HA.out.ch HCl.out (not_nil _)).cell 8; have la9 : wl.cell? ⟨w.heap.size, 9, none⟩ = some (.int .i64 lv) := (HA.out.ch HCl.out (not_nil _)).cell 9; have la10 : wl.cell? ⟨w.heap.size, 10, none⟩ = some (.int .i64 nx) := (HA.out.ch HCl.out (not_nil _)).cell 10; have la11 : wl.cell? ⟨w.heap.size, 11, none⟩ = some (.slice p2 kp.length c2) := (HA.out.ch HCl.out (not_nil _)).cell 11; have lb0 : wl.cell? ⟨w.heap.size + 1, 0, none⟩ = some (.int .i64 k) := (HB.out.ch HCl.out (not_nil _)).cell 0; have lb1 : wl.cell? ⟨w.heap.size + 1, 1, none⟩ = some (.int .i64 op) := (HB.out.ch HCl.out (not_nil _)).cell 1; have lb2 : wl.cell? ⟨w.heap.size + 1, 2, none⟩ = some (.int .i64 f.k) := (HB.out.ch HCl.out (not_nil _)).cell 2; have lb3 : wl.cell? ⟨w.heap.size + 1, 3, none⟩ = some (.int .i64 f.p) := (HB.out.ch HCl.out (not_nil _)).cell 3; have lb4 : wl.cell? ⟨w.heap.size + 1, 4, none⟩ = some (.int .i64 f.q) := (HB.out.ch HCl.out (not_nil _)).cell 4; have lb5 : wl.cell? ⟨w.heap.size + 1, 5, none⟩ = some (.string f.s) := (HB.out.ch HCl.out (not_nil _)).cell 5; have lb6 : wl.cell? ⟨w.heap.size + 1, 6, none⟩ = some (.int .i64 f.r) := (HB.out.ch HCl.out (not_nil _)).cell 6; have lb7 : wl.cell? ⟨w.heap.size + 1, 7, none⟩ = some (.slice p1' l.length c1') := (HB.out.ch HCl.out (not_nil _)).cell 7; have lb8 : wl.cell? ⟨w.heap.size + 1, 8, none⟩ = some (.string s') := (HB.out.ch HCl.out (not_nil _)).cell 8; have lb9 : wl.cell? ⟨w.heap.size + 1, 9, none⟩ = some (.int .i64 lv') := (HB.out.ch HCl.out (not_nil _)).cell 9; have lb10 : wl.cell? ⟨w.heap.size + 1, 10, none⟩ = some (.int .i64 nx') := (HB.out.ch HCl.out (not_nil _)).cell 10; have lb11 : wl.cell? ⟨w.heap.size + 1, 11, none⟩ = some (.slice p2' kp'.length c2') := (HB.out.ch HCl.out (not_nil _)).cell 11; have lla := (HA.out.ch HCl.out (not_nil _)).lt; have llb := (HB.out.ch HCl.out (not_nil _)).lt))
  go_ret
  exact ⟨rfl, HC0.out.trans HCl.out⟩
set_option maxHeartbeats 4000000 in
theorem asame_any_5 (k : Int) (op : Int) (f : V5) (l : List V5) (s : ByteArray) (lv : Int) (nx : Int) (kp : List V5) (lv' : Int) (nx' : Int) (kp' : List V5) (p1 p2 p1' p2' : Option Addr) (c1 c2 c1' c2' : Nat) (w : World) (hd : ¬ lv = lv') (h1 : ValsA w (.slice p1 l.length c1) l) (h2 : ValsA w (.slice p2 kp.length c2) kp) (h1' : ValsA w (.slice p1' l.length c1') l) (h2' : ValsA w (.slice p2' kp'.length c2') kp')
    (n1 : l.length ≤ 1000000) (n2 : kp.length ≤ 1000000) (n1' : l.length ≤ 1000000) (n2' : kp'.length ≤ 1000000) :
    Calls Try.prog 26 #[.agg #[.int .i64 k, .int .i64 op, .int .i64 f.k, .int .i64 f.p, .int .i64 f.q, .string f.s, .int .i64 f.r, .slice p1 l.length c1, .string s, .int .i64 lv, .int .i64 nx, .slice p2 kp.length c2], .agg #[.int .i64 k, .int .i64 op, .int .i64 f.k, .int .i64 f.p, .int .i64 f.q, .string f.s, .int .i64 f.r, .slice p1' l.length c1', .string s, .int .i64 lv', .int .i64 nx', .slice p2' kp'.length c2']] w fun e w' => e = .returned (.bool false) ∧ Ch [] w w' := by
  obtain ⟨w0, hw0⟩ : ∃ w0, w0 = ((w.alloc (.cells #[.int .i64 k, .int .i64 op, .int .i64 f.k, .int .i64 f.p, .int .i64 f.q, .string f.s, .int .i64 f.r, .slice p1 l.length c1, .string s, .int .i64 lv, .int .i64 nx, .slice p2 kp.length c2] 31)).alloc (.cells #[.int .i64 k, .int .i64 op, .int .i64 f.k, .int .i64 f.p, .int .i64 f.q, .string f.s, .int .i64 f.r, .slice p1' l.length c1', .string s, .int .i64 lv', .int .i64 nx', .slice p2' kp'.length c2'] 31)) := ⟨_, rfl⟩
  have HC0 : Hid (Ch [] w w0) := Lib.hid (by rw [hw0]; exact ((Ch.refl [] w).alloc _).alloc _)
  have HB : Hid (Blk 31 (w.heap.size + 1) #[.int .i64 k, .int .i64 op, .int .i64 f.k, .int .i64 f.p, .int .i64 f.q, .string f.s, .int .i64 f.r, .slice p1' l.length c1', .string s, .int .i64 lv', .int .i64 nx', .slice p2' kp'.length c2'] w0) := Lib.hid (by rw [hw0]; exact Blk.new _ _ _ _ (by simp))
  have HA : Hid (Blk 31 w.heap.size #[.int .i64 k, .int .i64 op, .int .i64 f.k, .int .i64 f.p, .int .i64 f.q, .string f.s, .int .i64 f.r, .slice p1 l.length c1, .string s, .int .i64 lv, .int .i64 nx, .slice p2 kp.length c2] w0) := Lib.hid (by rw [hw0]; exact (Blk.new w _ _ _ rfl).ch ((Ch.refl [] _).alloc _) (not_nil _))
  have QL : Hid (∀ W, Ch [] w0 W → Calls Try.prog 41 #[.slice p1 l.length c1, .slice p1' l.length c1'] W fun e w' => e = .returned (.bool true) ∧ Ch [] w0 w') := Lib.hid fun W hW => by
    refine (equal_any _ _ l l W (h1.below (HC0.out.trans hW)) (h1'.below (HC0.out.trans hW)) n1 n1').mono ?_
    rintro e w' ⟨rfl, hc⟩
    exact ⟨by simp, hW.trans hc⟩
  have QF : Hid (∀ W, Ch [] w0 W → Calls Try.prog 40 #[.agg #[.int .i64 f.k, .int .i64 f.p, .int .i64 f.q, .string f.s, .int .i64 f.r], .agg #[.int .i64 f.k, .int .i64 f.p, .int .i64 f.q, .string f.s, .int .i64 f.r]] W fun e w' => e = .returned (.bool true) ∧ Ch [] w0 w') := Lib.hid fun W hW => by
    refine (same_any f.k f.p f.q f.s f.r f.k f.p f.q f.s f.r W).mono ?_
    rintro e w' ⟨rfl, hc⟩
    refine ⟨?_, hW.trans (Ch.of_below hc)⟩
    rw [eqV_v5]; simp
  have hd1 : (lv == lv') = false := by rw [beq_eq_false_iff_ne]; exact hd
  have HW := Lib.hid hw0
  clear hw0 h1 h2 h1' h2' n1 n2 n1' n2'
  go_enter Try.func26, Try.ntmps26
  go_upto_region 1 with fail
  rw [← HW.out]
  have a0 : w0.cell? ⟨w.heap.size, 0, none⟩ = some (.int .i64 k) := HA.out.cell 0
  have a1 : w0.cell? ⟨w.heap.size, 1, none⟩ = some (.int .i64 op) := HA.out.cell 1
  have a2 : w0.cell? ⟨w.heap.size, 2, none⟩ = some (.int .i64 f.k) := HA.out.cell 2
  have a3 : w0.cell? ⟨w.heap.size, 3, none⟩ = some (.int .i64 f.p) := HA.out.cell 3
  have a4 : w0.cell? ⟨w.heap.size, 4, none⟩ = some (.int .i64 f.q) := HA.out.cell 4
  have a5 : w0.cell? ⟨w.heap.size, 5, none⟩ = some (.string f.s) := HA.out.cell 5
  have a6 : w0.cell? ⟨w.heap.size, 6, none⟩ = some (.int .i64 f.r) := HA.out.cell 6
  have a7 : w0.cell? ⟨w.heap.size, 7, none⟩ = some (.slice p1 l.length c1) := HA.out.cell 7
  have a8 : w0.cell? ⟨w.heap.size, 8, none⟩ = some (.string s) := HA.out.cell 8
  have a9 : w0.cell? ⟨w.heap.size, 9, none⟩ = some (.int .i64 lv) := HA.out.cell 9
  have a10 : w0.cell? ⟨w.heap.size, 10, none⟩ = some (.int .i64 nx) := HA.out.cell 10
  have a11 : w0.cell? ⟨w.heap.size, 11, none⟩ = some (.slice p2 kp.length c2) := HA.out.cell 11
  have b0 : w0.cell? ⟨(w.heap.size + 1), 0, none⟩ = some (.int .i64 k) := HB.out.cell 0
  have b1 : w0.cell? ⟨(w.heap.size + 1), 1, none⟩ = some (.int .i64 op) := HB.out.cell 1
  have b2 : w0.cell? ⟨(w.heap.size + 1), 2, none⟩ = some (.int .i64 f.k) := HB.out.cell 2
  have b3 : w0.cell? ⟨(w.heap.size + 1), 3, none⟩ = some (.int .i64 f.p) := HB.out.cell 3
  have b4 : w0.cell? ⟨(w.heap.size + 1), 4, none⟩ = some (.int .i64 f.q) := HB.out.cell 4
  have b5 : w0.cell? ⟨(w.heap.size + 1), 5, none⟩ = some (.string f.s) := HB.out.cell 5
  have b6 : w0.cell? ⟨(w.heap.size + 1), 6, none⟩ = some (.int .i64 f.r) := HB.out.cell 6
  have b7 : w0.cell? ⟨(w.heap.size + 1), 7, none⟩ = some (.slice p1' l.length c1') := HB.out.cell 7
  have b8 : w0.cell? ⟨(w.heap.size + 1), 8, none⟩ = some (.string s) := HB.out.cell 8
  have b9 : w0.cell? ⟨(w.heap.size + 1), 9, none⟩ = some (.int .i64 lv') := HB.out.cell 9
  have b10 : w0.cell? ⟨(w.heap.size + 1), 10, none⟩ = some (.int .i64 nx') := HB.out.cell 10
  have b11 : w0.cell? ⟨(w.heap.size + 1), 11, none⟩ = some (.slice p2' kp'.length c2') := HB.out.cell 11
  have la := HA.out.lt
  have lb := HB.out.lt
  go_wp2_with (first | (go_at_call 40; (with_reducible refine (QF.out _ (Ch.refl _ _)).mono ?_); rintro e wf ⟨rfl, hc⟩; have HCf := Lib.hid hc; clear hc; have fa0 : wf.cell? ⟨w.heap.size, 0, none⟩ = some (.int .i64 k) := (HA.out.ch HCf.out (not_nil _)).cell 0; have fa1 : wf.cell? ⟨w.heap.size, 1, none⟩ = some (.int .i64 op) := (HA.out.ch HCf.out (not_nil _)).cell 1; have fa2 : wf.cell? ⟨w.heap.size, 2, none⟩ = some (.int .i64 f.k) := (HA.out.ch HCf.out (not_nil _)).cell 2; have fa3 : wf.cell? ⟨w.heap.size, 3, none⟩ = some (.int .i64 f.p) := (HA.out.ch HCf.out (not_nil _)).cell 3; have fa4 : wf.cell? ⟨w.heap.size, 4, none⟩ = some (.int .i64 f.q) := (HA.out.ch HCf.out (not_nil _)).cell 4; have fa5 : wf.cell? ⟨w.heap.size, 5, none⟩ = some (.string f.s) := (HA.out.ch HCf.out (not_nil _)).cell 5; have fa6 : wf.cell? ⟨w.heap.size, 6, none⟩ = some (.int .i64 f.r) := (HA.out.ch HCf.out (not_nil _)).cell 6; have fa7 : wf.cell? ⟨w.heap.size, 7, none⟩ = some (.slice p1 l.length c1) := (HA.out.ch HCf.out (not_nil _)).cell 7; have fa8 : wf.cell? ⟨w.heap.size, 8, none⟩ = some (.string s) := (HA.out.ch HCf.out (not_nil _)).cell 8; have fa9 : wf.cell? ⟨w.heap.size, 9, none⟩ = some (.int .i64 lv) := (HA.out.ch HCf.out (not_nil _)).cell 9; have fa10 : wf.cell? ⟨w.heap.size, 10, none⟩ = some (.int .i64 nx) := (HA.out.ch HCf.out (not_nil _)).cell 10; have fa11 : wf.cell? ⟨w.heap.size, 11, none⟩ = some (.slice p2 kp.length c2) := (HA.out.ch HCf.out (not_nil _)).cell 11; have fb0 : wf.cell? ⟨w.heap.size + 1, 0, none⟩ = some (.int .i64 k) := (HB.out.ch HCf.out (not_nil _)).cell 0; have fb1 : wf.cell? ⟨w.heap.size + 1, 1, none⟩ = some (.int .i64 op) := (HB.out.ch HCf.out (not_nil _)).cell 1; have fb2 : wf.cell? ⟨w.heap.size + 1, 2, none⟩ = some (.int .i64 f.k) := (HB.out.ch HCf.out (not_nil _)).cell 2; have fb3 : wf.cell? ⟨w.heap.size + 1, 3, none⟩ = some (.int .i64 f.p) := (HB.out.ch HCf.out (not_nil _)).cell 3; have fb4 : wf.cell? ⟨w.heap.size + 1, 4, none⟩ = some (.int .i64 f.q) := (HB.out.ch HCf.out (not_nil _)).cell 4; have fb5 : wf.cell? ⟨w.heap.size + 1, 5, none⟩ = some (.string f.s) := (HB.out.ch HCf.out (not_nil _)).cell 5; have fb6 : wf.cell? ⟨w.heap.size + 1, 6, none⟩ = some (.int .i64 f.r) := (HB.out.ch HCf.out (not_nil _)).cell 6; have fb7 : wf.cell? ⟨w.heap.size + 1, 7, none⟩ = some (.slice p1' l.length c1') := (HB.out.ch HCf.out (not_nil _)).cell 7; have fb8 : wf.cell? ⟨w.heap.size + 1, 8, none⟩ = some (.string s) := (HB.out.ch HCf.out (not_nil _)).cell 8; have fb9 : wf.cell? ⟨w.heap.size + 1, 9, none⟩ = some (.int .i64 lv') := (HB.out.ch HCf.out (not_nil _)).cell 9; have fb10 : wf.cell? ⟨w.heap.size + 1, 10, none⟩ = some (.int .i64 nx') := (HB.out.ch HCf.out (not_nil _)).cell 10; have fb11 : wf.cell? ⟨w.heap.size + 1, 11, none⟩ = some (.slice p2' kp'.length c2') := (HB.out.ch HCf.out (not_nil _)).cell 11; have fla := (HA.out.ch HCf.out (not_nil _)).lt; have flb := (HB.out.ch HCf.out (not_nil _)).lt) | (go_at_call 41; (with_reducible refine (QL.out _ (HCf.out)).mono ?_); rintro e wl ⟨rfl, hc⟩; have HCl := Lib.hid hc; clear hc; have la0 : wl.cell? ⟨w.heap.size, 0, none⟩ = some (.int .i64 k) := (HA.out.ch HCl.out (not_nil _)).cell 0; have la1 : wl.cell? ⟨w.heap.size, 1, none⟩ = some (.int .i64 op) := (HA.out.ch HCl.out (not_nil _)).cell 1; have la2 : wl.cell? ⟨w.heap.size, 2, none⟩ = some (.int .i64 f.k) := (HA.out.ch HCl.out (not_nil _)).cell 2; have la3 : wl.cell? ⟨w.heap.size, 3, none⟩ = some (.int .i64 f.p) := (HA.out.ch HCl.out (not_nil _)).cell 3; have la4 : wl.cell? ⟨w.heap.size, 4, none⟩ = some (.int .i64 f.q) := (HA.out.ch HCl.out (not_nil _)).cell 4; have la5 : wl.cell? ⟨w.heap.size, 5, none⟩ = some (.string f.s) := (HA.out.ch HCl.out (not_nil _)).cell 5; have la6 : wl.cell? ⟨w.heap.size, 6, none⟩ = some (.int .i64 f.r) := (HA.out.ch HCl.out (not_nil _)).cell 6; have la7 : wl.cell? ⟨w.heap.size, 7, none⟩ = some (.slice p1 l.length c1) := (HA.out.ch HCl.out (not_nil _)).cell 7; have la8 : wl.cell? ⟨w.heap.size, 8, none⟩ = some (.string s) := (HA.out.ch HCl.out (not_nil _)).cell 8; have la9 : wl.cell? ⟨w.heap.size, 9, none⟩ = some (.int .i64 lv) := (HA.out.ch HCl.out (not_nil _)).cell 9; have la10 : wl.cell? ⟨w.heap.size, 10, none⟩ = some (.int .i64 nx) := (HA.out.ch HCl.out (not_nil _)).cell 10; have la11 : wl.cell? ⟨w.heap.size, 11, none⟩ = some (.slice p2 kp.length c2) := (HA.out.ch HCl.out (not_nil _)).cell 11; have lb0 : wl.cell? ⟨w.heap.size + 1, 0, none⟩ = some (.int .i64 k) := (HB.out.ch HCl.out (not_nil _)).cell 0; have lb1 : wl.cell? ⟨w.heap.size + 1, 1, none⟩ = some (.int .i64 op) := (HB.out.ch HCl.out (not_nil _)).cell 1; have lb2 : wl.cell? ⟨w.heap.size + 1, 2, none⟩ = some (.int .i64 f.k) := (HB.out.ch HCl.out (not_nil _)).cell 2; have lb3 : wl.cell? ⟨w.heap.size + 1, 3, none⟩ = some (.int .i64 f.p) := (HB.out.ch HCl.out (not_nil _)).cell 3; have lb4 : wl.cell? ⟨w.heap.size + 1, 4, none⟩ = some (.int .i64 f.q) := (HB.out.ch HCl.out (not_nil _)).cell 4; have lb5 : wl.cell? ⟨w.heap.size + 1, 5, none⟩ = some (.string f.s) := (HB.out.ch HCl.out (not_nil _)).cell 5; have lb6 : wl.cell? ⟨w.heap.size + 1, 6, none⟩ = some (.int .i64 f.r) := (HB.out.ch HCl.out (not_nil _)).cell 6; have lb7 : wl.cell? ⟨w.heap.size + 1, 7, none⟩ = some (.slice p1' l.length c1') := (HB.out.ch HCl.out (not_nil _)).cell 7; have lb8 : wl.cell? ⟨w.heap.size + 1, 8, none⟩ = some (.string s) := (HB.out.ch HCl.out (not_nil _)).cell 8; have lb9 : wl.cell? ⟨w.heap.size + 1, 9, none⟩ = some (.int .i64 lv') := (HB.out.ch HCl.out (not_nil _)).cell 9; have lb10 : wl.cell? ⟨w.heap.size + 1, 10, none⟩ = some (.int .i64 nx') := (HB.out.ch HCl.out (not_nil _)).cell 10; have lb11 : wl.cell? ⟨w.heap.size + 1, 11, none⟩ = some (.slice p2' kp'.length c2') := (HB.out.ch HCl.out (not_nil _)).cell 11; have lla := (HA.out.ch HCl.out (not_nil _)).lt; have llb := (HB.out.ch HCl.out (not_nil _)).lt))
  go_ret
  exact ⟨rfl, HC0.out.trans HCl.out⟩
set_option maxHeartbeats 4000000 in
theorem asame_any_6 (k : Int) (op : Int) (f : V5) (l : List V5) (s : ByteArray) (lv : Int) (nx : Int) (kp : List V5) (nx' : Int) (kp' : List V5) (p1 p2 p1' p2' : Option Addr) (c1 c2 c1' c2' : Nat) (w : World) (hd : ¬ nx = nx') (h1 : ValsA w (.slice p1 l.length c1) l) (h2 : ValsA w (.slice p2 kp.length c2) kp) (h1' : ValsA w (.slice p1' l.length c1') l) (h2' : ValsA w (.slice p2' kp'.length c2') kp')
    (n1 : l.length ≤ 1000000) (n2 : kp.length ≤ 1000000) (n1' : l.length ≤ 1000000) (n2' : kp'.length ≤ 1000000) :
    Calls Try.prog 26 #[.agg #[.int .i64 k, .int .i64 op, .int .i64 f.k, .int .i64 f.p, .int .i64 f.q, .string f.s, .int .i64 f.r, .slice p1 l.length c1, .string s, .int .i64 lv, .int .i64 nx, .slice p2 kp.length c2], .agg #[.int .i64 k, .int .i64 op, .int .i64 f.k, .int .i64 f.p, .int .i64 f.q, .string f.s, .int .i64 f.r, .slice p1' l.length c1', .string s, .int .i64 lv, .int .i64 nx', .slice p2' kp'.length c2']] w fun e w' => e = .returned (.bool false) ∧ Ch [] w w' := by
  obtain ⟨w0, hw0⟩ : ∃ w0, w0 = ((w.alloc (.cells #[.int .i64 k, .int .i64 op, .int .i64 f.k, .int .i64 f.p, .int .i64 f.q, .string f.s, .int .i64 f.r, .slice p1 l.length c1, .string s, .int .i64 lv, .int .i64 nx, .slice p2 kp.length c2] 31)).alloc (.cells #[.int .i64 k, .int .i64 op, .int .i64 f.k, .int .i64 f.p, .int .i64 f.q, .string f.s, .int .i64 f.r, .slice p1' l.length c1', .string s, .int .i64 lv, .int .i64 nx', .slice p2' kp'.length c2'] 31)) := ⟨_, rfl⟩
  have HC0 : Hid (Ch [] w w0) := Lib.hid (by rw [hw0]; exact ((Ch.refl [] w).alloc _).alloc _)
  have HB : Hid (Blk 31 (w.heap.size + 1) #[.int .i64 k, .int .i64 op, .int .i64 f.k, .int .i64 f.p, .int .i64 f.q, .string f.s, .int .i64 f.r, .slice p1' l.length c1', .string s, .int .i64 lv, .int .i64 nx', .slice p2' kp'.length c2'] w0) := Lib.hid (by rw [hw0]; exact Blk.new _ _ _ _ (by simp))
  have HA : Hid (Blk 31 w.heap.size #[.int .i64 k, .int .i64 op, .int .i64 f.k, .int .i64 f.p, .int .i64 f.q, .string f.s, .int .i64 f.r, .slice p1 l.length c1, .string s, .int .i64 lv, .int .i64 nx, .slice p2 kp.length c2] w0) := Lib.hid (by rw [hw0]; exact (Blk.new w _ _ _ rfl).ch ((Ch.refl [] _).alloc _) (not_nil _))
  have QL : Hid (∀ W, Ch [] w0 W → Calls Try.prog 41 #[.slice p1 l.length c1, .slice p1' l.length c1'] W fun e w' => e = .returned (.bool true) ∧ Ch [] w0 w') := Lib.hid fun W hW => by
    refine (equal_any _ _ l l W (h1.below (HC0.out.trans hW)) (h1'.below (HC0.out.trans hW)) n1 n1').mono ?_
    rintro e w' ⟨rfl, hc⟩
    exact ⟨by simp, hW.trans hc⟩
  have QF : Hid (∀ W, Ch [] w0 W → Calls Try.prog 40 #[.agg #[.int .i64 f.k, .int .i64 f.p, .int .i64 f.q, .string f.s, .int .i64 f.r], .agg #[.int .i64 f.k, .int .i64 f.p, .int .i64 f.q, .string f.s, .int .i64 f.r]] W fun e w' => e = .returned (.bool true) ∧ Ch [] w0 w') := Lib.hid fun W hW => by
    refine (same_any f.k f.p f.q f.s f.r f.k f.p f.q f.s f.r W).mono ?_
    rintro e w' ⟨rfl, hc⟩
    refine ⟨?_, hW.trans (Ch.of_below hc)⟩
    rw [eqV_v5]; simp
  have hd1 : (nx == nx') = false := by rw [beq_eq_false_iff_ne]; exact hd
  have HW := Lib.hid hw0
  clear hw0 h1 h2 h1' h2' n1 n2 n1' n2'
  go_enter Try.func26, Try.ntmps26
  go_upto_region 1 with fail
  rw [← HW.out]
  have a0 : w0.cell? ⟨w.heap.size, 0, none⟩ = some (.int .i64 k) := HA.out.cell 0
  have a1 : w0.cell? ⟨w.heap.size, 1, none⟩ = some (.int .i64 op) := HA.out.cell 1
  have a2 : w0.cell? ⟨w.heap.size, 2, none⟩ = some (.int .i64 f.k) := HA.out.cell 2
  have a3 : w0.cell? ⟨w.heap.size, 3, none⟩ = some (.int .i64 f.p) := HA.out.cell 3
  have a4 : w0.cell? ⟨w.heap.size, 4, none⟩ = some (.int .i64 f.q) := HA.out.cell 4
  have a5 : w0.cell? ⟨w.heap.size, 5, none⟩ = some (.string f.s) := HA.out.cell 5
  have a6 : w0.cell? ⟨w.heap.size, 6, none⟩ = some (.int .i64 f.r) := HA.out.cell 6
  have a7 : w0.cell? ⟨w.heap.size, 7, none⟩ = some (.slice p1 l.length c1) := HA.out.cell 7
  have a8 : w0.cell? ⟨w.heap.size, 8, none⟩ = some (.string s) := HA.out.cell 8
  have a9 : w0.cell? ⟨w.heap.size, 9, none⟩ = some (.int .i64 lv) := HA.out.cell 9
  have a10 : w0.cell? ⟨w.heap.size, 10, none⟩ = some (.int .i64 nx) := HA.out.cell 10
  have a11 : w0.cell? ⟨w.heap.size, 11, none⟩ = some (.slice p2 kp.length c2) := HA.out.cell 11
  have b0 : w0.cell? ⟨(w.heap.size + 1), 0, none⟩ = some (.int .i64 k) := HB.out.cell 0
  have b1 : w0.cell? ⟨(w.heap.size + 1), 1, none⟩ = some (.int .i64 op) := HB.out.cell 1
  have b2 : w0.cell? ⟨(w.heap.size + 1), 2, none⟩ = some (.int .i64 f.k) := HB.out.cell 2
  have b3 : w0.cell? ⟨(w.heap.size + 1), 3, none⟩ = some (.int .i64 f.p) := HB.out.cell 3
  have b4 : w0.cell? ⟨(w.heap.size + 1), 4, none⟩ = some (.int .i64 f.q) := HB.out.cell 4
  have b5 : w0.cell? ⟨(w.heap.size + 1), 5, none⟩ = some (.string f.s) := HB.out.cell 5
  have b6 : w0.cell? ⟨(w.heap.size + 1), 6, none⟩ = some (.int .i64 f.r) := HB.out.cell 6
  have b7 : w0.cell? ⟨(w.heap.size + 1), 7, none⟩ = some (.slice p1' l.length c1') := HB.out.cell 7
  have b8 : w0.cell? ⟨(w.heap.size + 1), 8, none⟩ = some (.string s) := HB.out.cell 8
  have b9 : w0.cell? ⟨(w.heap.size + 1), 9, none⟩ = some (.int .i64 lv) := HB.out.cell 9
  have b10 : w0.cell? ⟨(w.heap.size + 1), 10, none⟩ = some (.int .i64 nx') := HB.out.cell 10
  have b11 : w0.cell? ⟨(w.heap.size + 1), 11, none⟩ = some (.slice p2' kp'.length c2') := HB.out.cell 11
  have la := HA.out.lt
  have lb := HB.out.lt
  go_wp2_with (first | (go_at_call 40; (with_reducible refine (QF.out _ (Ch.refl _ _)).mono ?_); rintro e wf ⟨rfl, hc⟩; have HCf := Lib.hid hc; clear hc; have fa0 : wf.cell? ⟨w.heap.size, 0, none⟩ = some (.int .i64 k) := (HA.out.ch HCf.out (not_nil _)).cell 0; have fa1 : wf.cell? ⟨w.heap.size, 1, none⟩ = some (.int .i64 op) := (HA.out.ch HCf.out (not_nil _)).cell 1; have fa2 : wf.cell? ⟨w.heap.size, 2, none⟩ = some (.int .i64 f.k) := (HA.out.ch HCf.out (not_nil _)).cell 2; have fa3 : wf.cell? ⟨w.heap.size, 3, none⟩ = some (.int .i64 f.p) := (HA.out.ch HCf.out (not_nil _)).cell 3; have fa4 : wf.cell? ⟨w.heap.size, 4, none⟩ = some (.int .i64 f.q) := (HA.out.ch HCf.out (not_nil _)).cell 4; have fa5 : wf.cell? ⟨w.heap.size, 5, none⟩ = some (.string f.s) := (HA.out.ch HCf.out (not_nil _)).cell 5; have fa6 : wf.cell? ⟨w.heap.size, 6, none⟩ = some (.int .i64 f.r) := (HA.out.ch HCf.out (not_nil _)).cell 6; have fa7 : wf.cell? ⟨w.heap.size, 7, none⟩ = some (.slice p1 l.length c1) := (HA.out.ch HCf.out (not_nil _)).cell 7; have fa8 : wf.cell? ⟨w.heap.size, 8, none⟩ = some (.string s) := (HA.out.ch HCf.out (not_nil _)).cell 8; have fa9 : wf.cell? ⟨w.heap.size, 9, none⟩ = some (.int .i64 lv) := (HA.out.ch HCf.out (not_nil _)).cell 9; have fa10 : wf.cell? ⟨w.heap.size, 10, none⟩ = some (.int .i64 nx) := (HA.out.ch HCf.out (not_nil _)).cell 10; have fa11 : wf.cell? ⟨w.heap.size, 11, none⟩ = some (.slice p2 kp.length c2) := (HA.out.ch HCf.out (not_nil _)).cell 11; have fb0 : wf.cell? ⟨w.heap.size + 1, 0, none⟩ = some (.int .i64 k) := (HB.out.ch HCf.out (not_nil _)).cell 0; have fb1 : wf.cell? ⟨w.heap.size + 1, 1, none⟩ = some (.int .i64 op) := (HB.out.ch HCf.out (not_nil _)).cell 1; have fb2 : wf.cell? ⟨w.heap.size + 1, 2, none⟩ = some (.int .i64 f.k) := (HB.out.ch HCf.out (not_nil _)).cell 2; have fb3 : wf.cell? ⟨w.heap.size + 1, 3, none⟩ = some (.int .i64 f.p) := (HB.out.ch HCf.out (not_nil _)).cell 3; have fb4 : wf.cell? ⟨w.heap.size + 1, 4, none⟩ = some (.int .i64 f.q) := (HB.out.ch HCf.out (not_nil _)).cell 4; have fb5 : wf.cell? ⟨w.heap.size + 1, 5, none⟩ = some (.string f.s) := (HB.out.ch HCf.out (not_nil _)).cell 5; have fb6 : wf.cell? ⟨w.heap.size + 1, 6, none⟩ = some (.int .i64 f.r) := (HB.out.ch HCf.out (not_nil _)).cell 6; have fb7 : wf.cell? ⟨w.heap.size + 1, 7, none⟩ = some (.slice p1' l.length c1') := (HB.out.ch HCf.out (not_nil _)).cell 7; have fb8 : wf.cell? ⟨w.heap.size + 1, 8, none⟩ = some (.string s) := (HB.out.ch HCf.out (not_nil _)).cell 8; have fb9 : wf.cell? ⟨w.heap.size + 1, 9, none⟩ = some (.int .i64 lv) := (HB.out.ch HCf.out (not_nil _)).cell 9; have fb10 : wf.cell? ⟨w.heap.size + 1, 10, none⟩ = some (.int .i64 nx') := (HB.out.ch HCf.out (not_nil _)).cell 10; have fb11 : wf.cell? ⟨w.heap.size + 1, 11, none⟩ = some (.slice p2' kp'.length c2') := (HB.out.ch HCf.out (not_nil _)).cell 11; have fla := (HA.out.ch HCf.out (not_nil _)).lt; have flb := (HB.out.ch HCf.out (not_nil _)).lt) | (go_at_call 41; (with_reducible refine (QL.out _ (HCf.out)).mono ?_); rintro e wl ⟨rfl, hc⟩; have HCl := Lib.hid hc; clear hc; have la0 : wl.cell? ⟨w.heap.size, 0, none⟩ = some (.int .i64 k) := (HA.out.ch HCl.out (not_nil _)).cell 0; have la1 : wl.cell? ⟨w.heap.size, 1, none⟩ = some (.int .i64 op) := (HA.out.ch HCl.out (not_nil _)).cell 1; have la2 : wl.cell? ⟨w.heap.size, 2, none⟩ = some (.int .i64 f.k) := (HA.out.ch HCl.out (not_nil _)).cell 2; have la3 : wl.cell? ⟨w.heap.size, 3, none⟩ = some (.int .i64 f.p) := (HA.out.ch HCl.out (not_nil _)).cell 3; have la4 : wl.cell? ⟨w.heap.size, 4, none⟩ = some (.int .i64 f.q) := (HA.out.ch HCl.out (not_nil _)).cell 4; have la5 : wl.cell? ⟨w.heap.size, 5, none⟩ = some (.string f.s) := (HA.out.ch HCl.out (not_nil _)).cell 5; have la6 : wl.cell? ⟨w.heap.size, 6, none⟩ = some (.int .i64 f.r) := (HA.out.ch HCl.out (not_nil _)).cell 6; have la7 : wl.cell? ⟨w.heap.size, 7, none⟩ = some (.slice p1 l.length c1) := (HA.out.ch HCl.out (not_nil _)).cell 7; have la8 : wl.cell? ⟨w.heap.size, 8, none⟩ = some (.string s) := (HA.out.ch HCl.out (not_nil _)).cell 8; have la9 : wl.cell? ⟨w.heap.size, 9, none⟩ = some (.int .i64 lv) := (HA.out.ch HCl.out (not_nil _)).cell 9; have la10 : wl.cell? ⟨w.heap.size, 10, none⟩ = some (.int .i64 nx) := (HA.out.ch HCl.out (not_nil _)).cell 10; have la11 : wl.cell? ⟨w.heap.size, 11, none⟩ = some (.slice p2 kp.length c2) := (HA.out.ch HCl.out (not_nil _)).cell 11; have lb0 : wl.cell? ⟨w.heap.size + 1, 0, none⟩ = some (.int .i64 k) := (HB.out.ch HCl.out (not_nil _)).cell 0; have lb1 : wl.cell? ⟨w.heap.size + 1, 1, none⟩ = some (.int .i64 op) := (HB.out.ch HCl.out (not_nil _)).cell 1; have lb2 : wl.cell? ⟨w.heap.size + 1, 2, none⟩ = some (.int .i64 f.k) := (HB.out.ch HCl.out (not_nil _)).cell 2; have lb3 : wl.cell? ⟨w.heap.size + 1, 3, none⟩ = some (.int .i64 f.p) := (HB.out.ch HCl.out (not_nil _)).cell 3; have lb4 : wl.cell? ⟨w.heap.size + 1, 4, none⟩ = some (.int .i64 f.q) := (HB.out.ch HCl.out (not_nil _)).cell 4; have lb5 : wl.cell? ⟨w.heap.size + 1, 5, none⟩ = some (.string f.s) := (HB.out.ch HCl.out (not_nil _)).cell 5; have lb6 : wl.cell? ⟨w.heap.size + 1, 6, none⟩ = some (.int .i64 f.r) := (HB.out.ch HCl.out (not_nil _)).cell 6; have lb7 : wl.cell? ⟨w.heap.size + 1, 7, none⟩ = some (.slice p1' l.length c1') := (HB.out.ch HCl.out (not_nil _)).cell 7; have lb8 : wl.cell? ⟨w.heap.size + 1, 8, none⟩ = some (.string s) := (HB.out.ch HCl.out (not_nil _)).cell 8; have lb9 : wl.cell? ⟨w.heap.size + 1, 9, none⟩ = some (.int .i64 lv) := (HB.out.ch HCl.out (not_nil _)).cell 9; have lb10 : wl.cell? ⟨w.heap.size + 1, 10, none⟩ = some (.int .i64 nx') := (HB.out.ch HCl.out (not_nil _)).cell 10; have lb11 : wl.cell? ⟨w.heap.size + 1, 11, none⟩ = some (.slice p2' kp'.length c2') := (HB.out.ch HCl.out (not_nil _)).cell 11; have lla := (HA.out.ch HCl.out (not_nil _)).lt; have llb := (HB.out.ch HCl.out (not_nil _)).lt))
  go_ret
  exact ⟨rfl, HC0.out.trans HCl.out⟩
set_option maxHeartbeats 4000000 in
theorem asame_any_7 (k : Int) (op : Int) (f : V5) (l : List V5) (s : ByteArray) (lv : Int) (nx : Int) (kp : List V5) (kp' : List V5) (p1 p2 p1' p2' : Option Addr) (c1 c2 c1' c2' : Nat) (w : World) (hd : ¬ kp = kp') (h1 : ValsA w (.slice p1 l.length c1) l) (h2 : ValsA w (.slice p2 kp.length c2) kp) (h1' : ValsA w (.slice p1' l.length c1') l) (h2' : ValsA w (.slice p2' kp'.length c2') kp')
    (n1 : l.length ≤ 1000000) (n2 : kp.length ≤ 1000000) (n1' : l.length ≤ 1000000) (n2' : kp'.length ≤ 1000000) :
    Calls Try.prog 26 #[.agg #[.int .i64 k, .int .i64 op, .int .i64 f.k, .int .i64 f.p, .int .i64 f.q, .string f.s, .int .i64 f.r, .slice p1 l.length c1, .string s, .int .i64 lv, .int .i64 nx, .slice p2 kp.length c2], .agg #[.int .i64 k, .int .i64 op, .int .i64 f.k, .int .i64 f.p, .int .i64 f.q, .string f.s, .int .i64 f.r, .slice p1' l.length c1', .string s, .int .i64 lv, .int .i64 nx, .slice p2' kp'.length c2']] w fun e w' => e = .returned (.bool false) ∧ Ch [] w w' := by
  obtain ⟨w0, hw0⟩ : ∃ w0, w0 = ((w.alloc (.cells #[.int .i64 k, .int .i64 op, .int .i64 f.k, .int .i64 f.p, .int .i64 f.q, .string f.s, .int .i64 f.r, .slice p1 l.length c1, .string s, .int .i64 lv, .int .i64 nx, .slice p2 kp.length c2] 31)).alloc (.cells #[.int .i64 k, .int .i64 op, .int .i64 f.k, .int .i64 f.p, .int .i64 f.q, .string f.s, .int .i64 f.r, .slice p1' l.length c1', .string s, .int .i64 lv, .int .i64 nx, .slice p2' kp'.length c2'] 31)) := ⟨_, rfl⟩
  have HC0 : Hid (Ch [] w w0) := Lib.hid (by rw [hw0]; exact ((Ch.refl [] w).alloc _).alloc _)
  have HB : Hid (Blk 31 (w.heap.size + 1) #[.int .i64 k, .int .i64 op, .int .i64 f.k, .int .i64 f.p, .int .i64 f.q, .string f.s, .int .i64 f.r, .slice p1' l.length c1', .string s, .int .i64 lv, .int .i64 nx, .slice p2' kp'.length c2'] w0) := Lib.hid (by rw [hw0]; exact Blk.new _ _ _ _ (by simp))
  have HA : Hid (Blk 31 w.heap.size #[.int .i64 k, .int .i64 op, .int .i64 f.k, .int .i64 f.p, .int .i64 f.q, .string f.s, .int .i64 f.r, .slice p1 l.length c1, .string s, .int .i64 lv, .int .i64 nx, .slice p2 kp.length c2] w0) := Lib.hid (by rw [hw0]; exact (Blk.new w _ _ _ rfl).ch ((Ch.refl [] _).alloc _) (not_nil _))
  have QL : Hid (∀ W, Ch [] w0 W → Calls Try.prog 41 #[.slice p1 l.length c1, .slice p1' l.length c1'] W fun e w' => e = .returned (.bool true) ∧ Ch [] w0 w') := Lib.hid fun W hW => by
    refine (equal_any _ _ l l W (h1.below (HC0.out.trans hW)) (h1'.below (HC0.out.trans hW)) n1 n1').mono ?_
    rintro e w' ⟨rfl, hc⟩
    exact ⟨by simp, hW.trans hc⟩
  have QK : Hid (∀ W, Ch [] w0 W → Calls Try.prog 41 #[.slice p2 kp.length c2, .slice p2' kp'.length c2'] W fun e w' => e = .returned (.bool false) ∧ Ch [] w0 w') := Lib.hid fun W hW => by
    refine (equal_any _ _ kp kp' W (h2.below (HC0.out.trans hW)) (h2'.below (HC0.out.trans hW)) n2 n2').mono ?_
    rintro e w' ⟨rfl, hc⟩
    exact ⟨by simp [hd], hW.trans hc⟩
  have QF : Hid (∀ W, Ch [] w0 W → Calls Try.prog 40 #[.agg #[.int .i64 f.k, .int .i64 f.p, .int .i64 f.q, .string f.s, .int .i64 f.r], .agg #[.int .i64 f.k, .int .i64 f.p, .int .i64 f.q, .string f.s, .int .i64 f.r]] W fun e w' => e = .returned (.bool true) ∧ Ch [] w0 w') := Lib.hid fun W hW => by
    refine (same_any f.k f.p f.q f.s f.r f.k f.p f.q f.s f.r W).mono ?_
    rintro e w' ⟨rfl, hc⟩
    refine ⟨?_, hW.trans (Ch.of_below hc)⟩
    rw [eqV_v5]; simp
  clear hd
  have HW := Lib.hid hw0
  clear hw0 h1 h2 h1' h2' n1 n2 n1' n2'
  go_enter Try.func26, Try.ntmps26
  go_upto_region 1 with fail
  rw [← HW.out]
  have a0 : w0.cell? ⟨w.heap.size, 0, none⟩ = some (.int .i64 k) := HA.out.cell 0
  have a1 : w0.cell? ⟨w.heap.size, 1, none⟩ = some (.int .i64 op) := HA.out.cell 1
  have a2 : w0.cell? ⟨w.heap.size, 2, none⟩ = some (.int .i64 f.k) := HA.out.cell 2
  have a3 : w0.cell? ⟨w.heap.size, 3, none⟩ = some (.int .i64 f.p) := HA.out.cell 3
  have a4 : w0.cell? ⟨w.heap.size, 4, none⟩ = some (.int .i64 f.q) := HA.out.cell 4
  have a5 : w0.cell? ⟨w.heap.size, 5, none⟩ = some (.string f.s) := HA.out.cell 5
  have a6 : w0.cell? ⟨w.heap.size, 6, none⟩ = some (.int .i64 f.r) := HA.out.cell 6
  have a7 : w0.cell? ⟨w.heap.size, 7, none⟩ = some (.slice p1 l.length c1) := HA.out.cell 7
  have a8 : w0.cell? ⟨w.heap.size, 8, none⟩ = some (.string s) := HA.out.cell 8
  have a9 : w0.cell? ⟨w.heap.size, 9, none⟩ = some (.int .i64 lv) := HA.out.cell 9
  have a10 : w0.cell? ⟨w.heap.size, 10, none⟩ = some (.int .i64 nx) := HA.out.cell 10
  have a11 : w0.cell? ⟨w.heap.size, 11, none⟩ = some (.slice p2 kp.length c2) := HA.out.cell 11
  have b0 : w0.cell? ⟨(w.heap.size + 1), 0, none⟩ = some (.int .i64 k) := HB.out.cell 0
  have b1 : w0.cell? ⟨(w.heap.size + 1), 1, none⟩ = some (.int .i64 op) := HB.out.cell 1
  have b2 : w0.cell? ⟨(w.heap.size + 1), 2, none⟩ = some (.int .i64 f.k) := HB.out.cell 2
  have b3 : w0.cell? ⟨(w.heap.size + 1), 3, none⟩ = some (.int .i64 f.p) := HB.out.cell 3
  have b4 : w0.cell? ⟨(w.heap.size + 1), 4, none⟩ = some (.int .i64 f.q) := HB.out.cell 4
  have b5 : w0.cell? ⟨(w.heap.size + 1), 5, none⟩ = some (.string f.s) := HB.out.cell 5
  have b6 : w0.cell? ⟨(w.heap.size + 1), 6, none⟩ = some (.int .i64 f.r) := HB.out.cell 6
  have b7 : w0.cell? ⟨(w.heap.size + 1), 7, none⟩ = some (.slice p1' l.length c1') := HB.out.cell 7
  have b8 : w0.cell? ⟨(w.heap.size + 1), 8, none⟩ = some (.string s) := HB.out.cell 8
  have b9 : w0.cell? ⟨(w.heap.size + 1), 9, none⟩ = some (.int .i64 lv) := HB.out.cell 9
  have b10 : w0.cell? ⟨(w.heap.size + 1), 10, none⟩ = some (.int .i64 nx) := HB.out.cell 10
  have b11 : w0.cell? ⟨(w.heap.size + 1), 11, none⟩ = some (.slice p2' kp'.length c2') := HB.out.cell 11
  have la := HA.out.lt
  have lb := HB.out.lt
  go_wp2_with (first | (go_at_call 40; (with_reducible refine (QF.out _ (Ch.refl _ _)).mono ?_); rintro e wf ⟨rfl, hc⟩; have HCf := Lib.hid hc; clear hc; have fa0 : wf.cell? ⟨w.heap.size, 0, none⟩ = some (.int .i64 k) := (HA.out.ch HCf.out (not_nil _)).cell 0; have fa1 : wf.cell? ⟨w.heap.size, 1, none⟩ = some (.int .i64 op) := (HA.out.ch HCf.out (not_nil _)).cell 1; have fa2 : wf.cell? ⟨w.heap.size, 2, none⟩ = some (.int .i64 f.k) := (HA.out.ch HCf.out (not_nil _)).cell 2; have fa3 : wf.cell? ⟨w.heap.size, 3, none⟩ = some (.int .i64 f.p) := (HA.out.ch HCf.out (not_nil _)).cell 3; have fa4 : wf.cell? ⟨w.heap.size, 4, none⟩ = some (.int .i64 f.q) := (HA.out.ch HCf.out (not_nil _)).cell 4; have fa5 : wf.cell? ⟨w.heap.size, 5, none⟩ = some (.string f.s) := (HA.out.ch HCf.out (not_nil _)).cell 5; have fa6 : wf.cell? ⟨w.heap.size, 6, none⟩ = some (.int .i64 f.r) := (HA.out.ch HCf.out (not_nil _)).cell 6; have fa7 : wf.cell? ⟨w.heap.size, 7, none⟩ = some (.slice p1 l.length c1) := (HA.out.ch HCf.out (not_nil _)).cell 7; have fa8 : wf.cell? ⟨w.heap.size, 8, none⟩ = some (.string s) := (HA.out.ch HCf.out (not_nil _)).cell 8; have fa9 : wf.cell? ⟨w.heap.size, 9, none⟩ = some (.int .i64 lv) := (HA.out.ch HCf.out (not_nil _)).cell 9; have fa10 : wf.cell? ⟨w.heap.size, 10, none⟩ = some (.int .i64 nx) := (HA.out.ch HCf.out (not_nil _)).cell 10; have fa11 : wf.cell? ⟨w.heap.size, 11, none⟩ = some (.slice p2 kp.length c2) := (HA.out.ch HCf.out (not_nil _)).cell 11; have fb0 : wf.cell? ⟨w.heap.size + 1, 0, none⟩ = some (.int .i64 k) := (HB.out.ch HCf.out (not_nil _)).cell 0; have fb1 : wf.cell? ⟨w.heap.size + 1, 1, none⟩ = some (.int .i64 op) := (HB.out.ch HCf.out (not_nil _)).cell 1; have fb2 : wf.cell? ⟨w.heap.size + 1, 2, none⟩ = some (.int .i64 f.k) := (HB.out.ch HCf.out (not_nil _)).cell 2; have fb3 : wf.cell? ⟨w.heap.size + 1, 3, none⟩ = some (.int .i64 f.p) := (HB.out.ch HCf.out (not_nil _)).cell 3; have fb4 : wf.cell? ⟨w.heap.size + 1, 4, none⟩ = some (.int .i64 f.q) := (HB.out.ch HCf.out (not_nil _)).cell 4; have fb5 : wf.cell? ⟨w.heap.size + 1, 5, none⟩ = some (.string f.s) := (HB.out.ch HCf.out (not_nil _)).cell 5; have fb6 : wf.cell? ⟨w.heap.size + 1, 6, none⟩ = some (.int .i64 f.r) := (HB.out.ch HCf.out (not_nil _)).cell 6; have fb7 : wf.cell? ⟨w.heap.size + 1, 7, none⟩ = some (.slice p1' l.length c1') := (HB.out.ch HCf.out (not_nil _)).cell 7; have fb8 : wf.cell? ⟨w.heap.size + 1, 8, none⟩ = some (.string s) := (HB.out.ch HCf.out (not_nil _)).cell 8; have fb9 : wf.cell? ⟨w.heap.size + 1, 9, none⟩ = some (.int .i64 lv) := (HB.out.ch HCf.out (not_nil _)).cell 9; have fb10 : wf.cell? ⟨w.heap.size + 1, 10, none⟩ = some (.int .i64 nx) := (HB.out.ch HCf.out (not_nil _)).cell 10; have fb11 : wf.cell? ⟨w.heap.size + 1, 11, none⟩ = some (.slice p2' kp'.length c2') := (HB.out.ch HCf.out (not_nil _)).cell 11; have fla := (HA.out.ch HCf.out (not_nil _)).lt; have flb := (HB.out.ch HCf.out (not_nil _)).lt) | (go_at_call 41; (with_reducible refine (QL.out _ (HCf.out)).mono ?_); rintro e wl ⟨rfl, hc⟩; have HCl := Lib.hid hc; clear hc; have la0 : wl.cell? ⟨w.heap.size, 0, none⟩ = some (.int .i64 k) := (HA.out.ch HCl.out (not_nil _)).cell 0; have la1 : wl.cell? ⟨w.heap.size, 1, none⟩ = some (.int .i64 op) := (HA.out.ch HCl.out (not_nil _)).cell 1; have la2 : wl.cell? ⟨w.heap.size, 2, none⟩ = some (.int .i64 f.k) := (HA.out.ch HCl.out (not_nil _)).cell 2; have la3 : wl.cell? ⟨w.heap.size, 3, none⟩ = some (.int .i64 f.p) := (HA.out.ch HCl.out (not_nil _)).cell 3; have la4 : wl.cell? ⟨w.heap.size, 4, none⟩ = some (.int .i64 f.q) := (HA.out.ch HCl.out (not_nil _)).cell 4; have la5 : wl.cell? ⟨w.heap.size, 5, none⟩ = some (.string f.s) := (HA.out.ch HCl.out (not_nil _)).cell 5; have la6 : wl.cell? ⟨w.heap.size, 6, none⟩ = some (.int .i64 f.r) := (HA.out.ch HCl.out (not_nil _)).cell 6; have la7 : wl.cell? ⟨w.heap.size, 7, none⟩ = some (.slice p1 l.length c1) := (HA.out.ch HCl.out (not_nil _)).cell 7; have la8 : wl.cell? ⟨w.heap.size, 8, none⟩ = some (.string s) := (HA.out.ch HCl.out (not_nil _)).cell 8; have la9 : wl.cell? ⟨w.heap.size, 9, none⟩ = some (.int .i64 lv) := (HA.out.ch HCl.out (not_nil _)).cell 9; have la10 : wl.cell? ⟨w.heap.size, 10, none⟩ = some (.int .i64 nx) := (HA.out.ch HCl.out (not_nil _)).cell 10; have la11 : wl.cell? ⟨w.heap.size, 11, none⟩ = some (.slice p2 kp.length c2) := (HA.out.ch HCl.out (not_nil _)).cell 11; have lb0 : wl.cell? ⟨w.heap.size + 1, 0, none⟩ = some (.int .i64 k) := (HB.out.ch HCl.out (not_nil _)).cell 0; have lb1 : wl.cell? ⟨w.heap.size + 1, 1, none⟩ = some (.int .i64 op) := (HB.out.ch HCl.out (not_nil _)).cell 1; have lb2 : wl.cell? ⟨w.heap.size + 1, 2, none⟩ = some (.int .i64 f.k) := (HB.out.ch HCl.out (not_nil _)).cell 2; have lb3 : wl.cell? ⟨w.heap.size + 1, 3, none⟩ = some (.int .i64 f.p) := (HB.out.ch HCl.out (not_nil _)).cell 3; have lb4 : wl.cell? ⟨w.heap.size + 1, 4, none⟩ = some (.int .i64 f.q) := (HB.out.ch HCl.out (not_nil _)).cell 4; have lb5 : wl.cell? ⟨w.heap.size + 1, 5, none⟩ = some (.string f.s) := (HB.out.ch HCl.out (not_nil _)).cell 5; have lb6 : wl.cell? ⟨w.heap.size + 1, 6, none⟩ = some (.int .i64 f.r) := (HB.out.ch HCl.out (not_nil _)).cell 6; have lb7 : wl.cell? ⟨w.heap.size + 1, 7, none⟩ = some (.slice p1' l.length c1') := (HB.out.ch HCl.out (not_nil _)).cell 7; have lb8 : wl.cell? ⟨w.heap.size + 1, 8, none⟩ = some (.string s) := (HB.out.ch HCl.out (not_nil _)).cell 8; have lb9 : wl.cell? ⟨w.heap.size + 1, 9, none⟩ = some (.int .i64 lv) := (HB.out.ch HCl.out (not_nil _)).cell 9; have lb10 : wl.cell? ⟨w.heap.size + 1, 10, none⟩ = some (.int .i64 nx) := (HB.out.ch HCl.out (not_nil _)).cell 10; have lb11 : wl.cell? ⟨w.heap.size + 1, 11, none⟩ = some (.slice p2' kp'.length c2') := (HB.out.ch HCl.out (not_nil _)).cell 11; have lla := (HA.out.ch HCl.out (not_nil _)).lt; have llb := (HB.out.ch HCl.out (not_nil _)).lt) | (go_at_call 41; (with_reducible refine (QK.out _ (HCl.out)).mono ?_); rintro e wkp ⟨rfl, hc⟩; have HCkp := Lib.hid hc; clear hc; have kpa0 : wkp.cell? ⟨w.heap.size, 0, none⟩ = some (.int .i64 k) := (HA.out.ch HCkp.out (not_nil _)).cell 0; have kpa1 : wkp.cell? ⟨w.heap.size, 1, none⟩ = some (.int .i64 op) := (HA.out.ch HCkp.out (not_nil _)).cell 1; have kpa2 : wkp.cell? ⟨w.heap.size, 2, none⟩ = some (.int .i64 f.k) := (HA.out.ch HCkp.out (not_nil _)).cell 2; have kpa3 : wkp.cell? ⟨w.heap.size, 3, none⟩ = some (.int .i64 f.p) := (HA.out.ch HCkp.out (not_nil _)).cell 3; have kpa4 : wkp.cell? ⟨w.heap.size, 4, none⟩ = some (.int .i64 f.q) := (HA.out.ch HCkp.out (not_nil _)).cell 4; have kpa5 : wkp.cell? ⟨w.heap.size, 5, none⟩ = some (.string f.s) := (HA.out.ch HCkp.out (not_nil _)).cell 5; have kpa6 : wkp.cell? ⟨w.heap.size, 6, none⟩ = some (.int .i64 f.r) := (HA.out.ch HCkp.out (not_nil _)).cell 6; have kpa7 : wkp.cell? ⟨w.heap.size, 7, none⟩ = some (.slice p1 l.length c1) := (HA.out.ch HCkp.out (not_nil _)).cell 7; have kpa8 : wkp.cell? ⟨w.heap.size, 8, none⟩ = some (.string s) := (HA.out.ch HCkp.out (not_nil _)).cell 8; have kpa9 : wkp.cell? ⟨w.heap.size, 9, none⟩ = some (.int .i64 lv) := (HA.out.ch HCkp.out (not_nil _)).cell 9; have kpa10 : wkp.cell? ⟨w.heap.size, 10, none⟩ = some (.int .i64 nx) := (HA.out.ch HCkp.out (not_nil _)).cell 10; have kpa11 : wkp.cell? ⟨w.heap.size, 11, none⟩ = some (.slice p2 kp.length c2) := (HA.out.ch HCkp.out (not_nil _)).cell 11; have kpb0 : wkp.cell? ⟨w.heap.size + 1, 0, none⟩ = some (.int .i64 k) := (HB.out.ch HCkp.out (not_nil _)).cell 0; have kpb1 : wkp.cell? ⟨w.heap.size + 1, 1, none⟩ = some (.int .i64 op) := (HB.out.ch HCkp.out (not_nil _)).cell 1; have kpb2 : wkp.cell? ⟨w.heap.size + 1, 2, none⟩ = some (.int .i64 f.k) := (HB.out.ch HCkp.out (not_nil _)).cell 2; have kpb3 : wkp.cell? ⟨w.heap.size + 1, 3, none⟩ = some (.int .i64 f.p) := (HB.out.ch HCkp.out (not_nil _)).cell 3; have kpb4 : wkp.cell? ⟨w.heap.size + 1, 4, none⟩ = some (.int .i64 f.q) := (HB.out.ch HCkp.out (not_nil _)).cell 4; have kpb5 : wkp.cell? ⟨w.heap.size + 1, 5, none⟩ = some (.string f.s) := (HB.out.ch HCkp.out (not_nil _)).cell 5; have kpb6 : wkp.cell? ⟨w.heap.size + 1, 6, none⟩ = some (.int .i64 f.r) := (HB.out.ch HCkp.out (not_nil _)).cell 6; have kpb7 : wkp.cell? ⟨w.heap.size + 1, 7, none⟩ = some (.slice p1' l.length c1') := (HB.out.ch HCkp.out (not_nil _)).cell 7; have kpb8 : wkp.cell? ⟨w.heap.size + 1, 8, none⟩ = some (.string s) := (HB.out.ch HCkp.out (not_nil _)).cell 8; have kpb9 : wkp.cell? ⟨w.heap.size + 1, 9, none⟩ = some (.int .i64 lv) := (HB.out.ch HCkp.out (not_nil _)).cell 9; have kpb10 : wkp.cell? ⟨w.heap.size + 1, 10, none⟩ = some (.int .i64 nx) := (HB.out.ch HCkp.out (not_nil _)).cell 10; have kpb11 : wkp.cell? ⟨w.heap.size + 1, 11, none⟩ = some (.slice p2' kp'.length c2') := (HB.out.ch HCkp.out (not_nil _)).cell 11; have kpla := (HA.out.ch HCkp.out (not_nil _)).lt; have kplb := (HB.out.ch HCkp.out (not_nil _)).lt))
  go_ret
  exact ⟨rfl, HC0.out.trans HCkp.out⟩
set_option maxHeartbeats 4000000 in
theorem asame_any_8 (k : Int) (op : Int) (f : V5) (l : List V5) (s : ByteArray) (lv : Int) (nx : Int) (kp : List V5)  (p1 p2 p1' p2' : Option Addr) (c1 c2 c1' c2' : Nat) (w : World) (h1 : ValsA w (.slice p1 l.length c1) l) (h2 : ValsA w (.slice p2 kp.length c2) kp) (h1' : ValsA w (.slice p1' l.length c1') l) (h2' : ValsA w (.slice p2' kp.length c2') kp)
    (n1 : l.length ≤ 1000000) (n2 : kp.length ≤ 1000000) (n1' : l.length ≤ 1000000) (n2' : kp.length ≤ 1000000) :
    Calls Try.prog 26 #[.agg #[.int .i64 k, .int .i64 op, .int .i64 f.k, .int .i64 f.p, .int .i64 f.q, .string f.s, .int .i64 f.r, .slice p1 l.length c1, .string s, .int .i64 lv, .int .i64 nx, .slice p2 kp.length c2], .agg #[.int .i64 k, .int .i64 op, .int .i64 f.k, .int .i64 f.p, .int .i64 f.q, .string f.s, .int .i64 f.r, .slice p1' l.length c1', .string s, .int .i64 lv, .int .i64 nx, .slice p2' kp.length c2']] w fun e w' => e = .returned (.bool true) ∧ Ch [] w w' := by
  obtain ⟨w0, hw0⟩ : ∃ w0, w0 = ((w.alloc (.cells #[.int .i64 k, .int .i64 op, .int .i64 f.k, .int .i64 f.p, .int .i64 f.q, .string f.s, .int .i64 f.r, .slice p1 l.length c1, .string s, .int .i64 lv, .int .i64 nx, .slice p2 kp.length c2] 31)).alloc (.cells #[.int .i64 k, .int .i64 op, .int .i64 f.k, .int .i64 f.p, .int .i64 f.q, .string f.s, .int .i64 f.r, .slice p1' l.length c1', .string s, .int .i64 lv, .int .i64 nx, .slice p2' kp.length c2'] 31)) := ⟨_, rfl⟩
  have HC0 : Hid (Ch [] w w0) := Lib.hid (by rw [hw0]; exact ((Ch.refl [] w).alloc _).alloc _)
  have HB : Hid (Blk 31 (w.heap.size + 1) #[.int .i64 k, .int .i64 op, .int .i64 f.k, .int .i64 f.p, .int .i64 f.q, .string f.s, .int .i64 f.r, .slice p1' l.length c1', .string s, .int .i64 lv, .int .i64 nx, .slice p2' kp.length c2'] w0) := Lib.hid (by rw [hw0]; exact Blk.new _ _ _ _ (by simp))
  have HA : Hid (Blk 31 w.heap.size #[.int .i64 k, .int .i64 op, .int .i64 f.k, .int .i64 f.p, .int .i64 f.q, .string f.s, .int .i64 f.r, .slice p1 l.length c1, .string s, .int .i64 lv, .int .i64 nx, .slice p2 kp.length c2] w0) := Lib.hid (by rw [hw0]; exact (Blk.new w _ _ _ rfl).ch ((Ch.refl [] _).alloc _) (not_nil _))
  have QL : Hid (∀ W, Ch [] w0 W → Calls Try.prog 41 #[.slice p1 l.length c1, .slice p1' l.length c1'] W fun e w' => e = .returned (.bool true) ∧ Ch [] w0 w') := Lib.hid fun W hW => by
    refine (equal_any _ _ l l W (h1.below (HC0.out.trans hW)) (h1'.below (HC0.out.trans hW)) n1 n1').mono ?_
    rintro e w' ⟨rfl, hc⟩
    exact ⟨by simp, hW.trans hc⟩
  have QK : Hid (∀ W, Ch [] w0 W → Calls Try.prog 41 #[.slice p2 kp.length c2, .slice p2' kp.length c2'] W fun e w' => e = .returned (.bool true) ∧ Ch [] w0 w') := Lib.hid fun W hW => by
    refine (equal_any _ _ kp kp W (h2.below (HC0.out.trans hW)) (h2'.below (HC0.out.trans hW)) n2 n2').mono ?_
    rintro e w' ⟨rfl, hc⟩
    exact ⟨by simp, hW.trans hc⟩
  have QF : Hid (∀ W, Ch [] w0 W → Calls Try.prog 40 #[.agg #[.int .i64 f.k, .int .i64 f.p, .int .i64 f.q, .string f.s, .int .i64 f.r], .agg #[.int .i64 f.k, .int .i64 f.p, .int .i64 f.q, .string f.s, .int .i64 f.r]] W fun e w' => e = .returned (.bool true) ∧ Ch [] w0 w') := Lib.hid fun W hW => by
    refine (same_any f.k f.p f.q f.s f.r f.k f.p f.q f.s f.r W).mono ?_
    rintro e w' ⟨rfl, hc⟩
    refine ⟨?_, hW.trans (Ch.of_below hc)⟩
    rw [eqV_v5]; simp
  have HW := Lib.hid hw0
  clear hw0 h1 h2 h1' h2' n1 n2 n1' n2'
  go_enter Try.func26, Try.ntmps26
  go_upto_region 1 with fail
  rw [← HW.out]
  have a0 : w0.cell? ⟨w.heap.size, 0, none⟩ = some (.int .i64 k) := HA.out.cell 0
  have a1 : w0.cell? ⟨w.heap.size, 1, none⟩ = some (.int .i64 op) := HA.out.cell 1
  have a2 : w0.cell? ⟨w.heap.size, 2, none⟩ = some (.int .i64 f.k) := HA.out.cell 2
  have a3 : w0.cell? ⟨w.heap.size, 3, none⟩ = some (.int .i64 f.p) := HA.out.cell 3
  have a4 : w0.cell? ⟨w.heap.size, 4, none⟩ = some (.int .i64 f.q) := HA.out.cell 4
  have a5 : w0.cell? ⟨w.heap.size, 5, none⟩ = some (.string f.s) := HA.out.cell 5
  have a6 : w0.cell? ⟨w.heap.size, 6, none⟩ = some (.int .i64 f.r) := HA.out.cell 6
  have a7 : w0.cell? ⟨w.heap.size, 7, none⟩ = some (.slice p1 l.length c1) := HA.out.cell 7
  have a8 : w0.cell? ⟨w.heap.size, 8, none⟩ = some (.string s) := HA.out.cell 8
  have a9 : w0.cell? ⟨w.heap.size, 9, none⟩ = some (.int .i64 lv) := HA.out.cell 9
  have a10 : w0.cell? ⟨w.heap.size, 10, none⟩ = some (.int .i64 nx) := HA.out.cell 10
  have a11 : w0.cell? ⟨w.heap.size, 11, none⟩ = some (.slice p2 kp.length c2) := HA.out.cell 11
  have b0 : w0.cell? ⟨(w.heap.size + 1), 0, none⟩ = some (.int .i64 k) := HB.out.cell 0
  have b1 : w0.cell? ⟨(w.heap.size + 1), 1, none⟩ = some (.int .i64 op) := HB.out.cell 1
  have b2 : w0.cell? ⟨(w.heap.size + 1), 2, none⟩ = some (.int .i64 f.k) := HB.out.cell 2
  have b3 : w0.cell? ⟨(w.heap.size + 1), 3, none⟩ = some (.int .i64 f.p) := HB.out.cell 3
  have b4 : w0.cell? ⟨(w.heap.size + 1), 4, none⟩ = some (.int .i64 f.q) := HB.out.cell 4
  have b5 : w0.cell? ⟨(w.heap.size + 1), 5, none⟩ = some (.string f.s) := HB.out.cell 5
  have b6 : w0.cell? ⟨(w.heap.size + 1), 6, none⟩ = some (.int .i64 f.r) := HB.out.cell 6
  have b7 : w0.cell? ⟨(w.heap.size + 1), 7, none⟩ = some (.slice p1' l.length c1') := HB.out.cell 7
  have b8 : w0.cell? ⟨(w.heap.size + 1), 8, none⟩ = some (.string s) := HB.out.cell 8
  have b9 : w0.cell? ⟨(w.heap.size + 1), 9, none⟩ = some (.int .i64 lv) := HB.out.cell 9
  have b10 : w0.cell? ⟨(w.heap.size + 1), 10, none⟩ = some (.int .i64 nx) := HB.out.cell 10
  have b11 : w0.cell? ⟨(w.heap.size + 1), 11, none⟩ = some (.slice p2' kp.length c2') := HB.out.cell 11
  have la := HA.out.lt
  have lb := HB.out.lt
  go_wp2_with (first | (go_at_call 40; (with_reducible refine (QF.out _ (Ch.refl _ _)).mono ?_); rintro e wf ⟨rfl, hc⟩; have HCf := Lib.hid hc; clear hc; have fa0 : wf.cell? ⟨w.heap.size, 0, none⟩ = some (.int .i64 k) := (HA.out.ch HCf.out (not_nil _)).cell 0; have fa1 : wf.cell? ⟨w.heap.size, 1, none⟩ = some (.int .i64 op) := (HA.out.ch HCf.out (not_nil _)).cell 1; have fa2 : wf.cell? ⟨w.heap.size, 2, none⟩ = some (.int .i64 f.k) := (HA.out.ch HCf.out (not_nil _)).cell 2; have fa3 : wf.cell? ⟨w.heap.size, 3, none⟩ = some (.int .i64 f.p) := (HA.out.ch HCf.out (not_nil _)).cell 3; have fa4 : wf.cell? ⟨w.heap.size, 4, none⟩ = some (.int .i64 f.q) := (HA.out.ch HCf.out (not_nil _)).cell 4; have fa5 : wf.cell? ⟨w.heap.size, 5, none⟩ = some (.string f.s) := (HA.out.ch HCf.out (not_nil _)).cell 5; have fa6 : wf.cell? ⟨w.heap.size, 6, none⟩ = some (.int .i64 f.r) := (HA.out.ch HCf.out (not_nil _)).cell 6; have fa7 : wf.cell? ⟨w.heap.size, 7, none⟩ = some (.slice p1 l.length c1) := (HA.out.ch HCf.out (not_nil _)).cell 7; have fa8 : wf.cell? ⟨w.heap.size, 8, none⟩ = some (.string s) := (HA.out.ch HCf.out (not_nil _)).cell 8; have fa9 : wf.cell? ⟨w.heap.size, 9, none⟩ = some (.int .i64 lv) := (HA.out.ch HCf.out (not_nil _)).cell 9; have fa10 : wf.cell? ⟨w.heap.size, 10, none⟩ = some (.int .i64 nx) := (HA.out.ch HCf.out (not_nil _)).cell 10; have fa11 : wf.cell? ⟨w.heap.size, 11, none⟩ = some (.slice p2 kp.length c2) := (HA.out.ch HCf.out (not_nil _)).cell 11; have fb0 : wf.cell? ⟨w.heap.size + 1, 0, none⟩ = some (.int .i64 k) := (HB.out.ch HCf.out (not_nil _)).cell 0; have fb1 : wf.cell? ⟨w.heap.size + 1, 1, none⟩ = some (.int .i64 op) := (HB.out.ch HCf.out (not_nil _)).cell 1; have fb2 : wf.cell? ⟨w.heap.size + 1, 2, none⟩ = some (.int .i64 f.k) := (HB.out.ch HCf.out (not_nil _)).cell 2; have fb3 : wf.cell? ⟨w.heap.size + 1, 3, none⟩ = some (.int .i64 f.p) := (HB.out.ch HCf.out (not_nil _)).cell 3; have fb4 : wf.cell? ⟨w.heap.size + 1, 4, none⟩ = some (.int .i64 f.q) := (HB.out.ch HCf.out (not_nil _)).cell 4; have fb5 : wf.cell? ⟨w.heap.size + 1, 5, none⟩ = some (.string f.s) := (HB.out.ch HCf.out (not_nil _)).cell 5; have fb6 : wf.cell? ⟨w.heap.size + 1, 6, none⟩ = some (.int .i64 f.r) := (HB.out.ch HCf.out (not_nil _)).cell 6; have fb7 : wf.cell? ⟨w.heap.size + 1, 7, none⟩ = some (.slice p1' l.length c1') := (HB.out.ch HCf.out (not_nil _)).cell 7; have fb8 : wf.cell? ⟨w.heap.size + 1, 8, none⟩ = some (.string s) := (HB.out.ch HCf.out (not_nil _)).cell 8; have fb9 : wf.cell? ⟨w.heap.size + 1, 9, none⟩ = some (.int .i64 lv) := (HB.out.ch HCf.out (not_nil _)).cell 9; have fb10 : wf.cell? ⟨w.heap.size + 1, 10, none⟩ = some (.int .i64 nx) := (HB.out.ch HCf.out (not_nil _)).cell 10; have fb11 : wf.cell? ⟨w.heap.size + 1, 11, none⟩ = some (.slice p2' kp.length c2') := (HB.out.ch HCf.out (not_nil _)).cell 11; have fla := (HA.out.ch HCf.out (not_nil _)).lt; have flb := (HB.out.ch HCf.out (not_nil _)).lt) | (go_at_call 41; (with_reducible refine (QL.out _ (HCf.out)).mono ?_); rintro e wl ⟨rfl, hc⟩; have HCl := Lib.hid hc; clear hc; have la0 : wl.cell? ⟨w.heap.size, 0, none⟩ = some (.int .i64 k) := (HA.out.ch HCl.out (not_nil _)).cell 0; have la1 : wl.cell? ⟨w.heap.size, 1, none⟩ = some (.int .i64 op) := (HA.out.ch HCl.out (not_nil _)).cell 1; have la2 : wl.cell? ⟨w.heap.size, 2, none⟩ = some (.int .i64 f.k) := (HA.out.ch HCl.out (not_nil _)).cell 2; have la3 : wl.cell? ⟨w.heap.size, 3, none⟩ = some (.int .i64 f.p) := (HA.out.ch HCl.out (not_nil _)).cell 3; have la4 : wl.cell? ⟨w.heap.size, 4, none⟩ = some (.int .i64 f.q) := (HA.out.ch HCl.out (not_nil _)).cell 4; have la5 : wl.cell? ⟨w.heap.size, 5, none⟩ = some (.string f.s) := (HA.out.ch HCl.out (not_nil _)).cell 5; have la6 : wl.cell? ⟨w.heap.size, 6, none⟩ = some (.int .i64 f.r) := (HA.out.ch HCl.out (not_nil _)).cell 6; have la7 : wl.cell? ⟨w.heap.size, 7, none⟩ = some (.slice p1 l.length c1) := (HA.out.ch HCl.out (not_nil _)).cell 7; have la8 : wl.cell? ⟨w.heap.size, 8, none⟩ = some (.string s) := (HA.out.ch HCl.out (not_nil _)).cell 8; have la9 : wl.cell? ⟨w.heap.size, 9, none⟩ = some (.int .i64 lv) := (HA.out.ch HCl.out (not_nil _)).cell 9; have la10 : wl.cell? ⟨w.heap.size, 10, none⟩ = some (.int .i64 nx) := (HA.out.ch HCl.out (not_nil _)).cell 10; have la11 : wl.cell? ⟨w.heap.size, 11, none⟩ = some (.slice p2 kp.length c2) := (HA.out.ch HCl.out (not_nil _)).cell 11; have lb0 : wl.cell? ⟨w.heap.size + 1, 0, none⟩ = some (.int .i64 k) := (HB.out.ch HCl.out (not_nil _)).cell 0; have lb1 : wl.cell? ⟨w.heap.size + 1, 1, none⟩ = some (.int .i64 op) := (HB.out.ch HCl.out (not_nil _)).cell 1; have lb2 : wl.cell? ⟨w.heap.size + 1, 2, none⟩ = some (.int .i64 f.k) := (HB.out.ch HCl.out (not_nil _)).cell 2; have lb3 : wl.cell? ⟨w.heap.size + 1, 3, none⟩ = some (.int .i64 f.p) := (HB.out.ch HCl.out (not_nil _)).cell 3; have lb4 : wl.cell? ⟨w.heap.size + 1, 4, none⟩ = some (.int .i64 f.q) := (HB.out.ch HCl.out (not_nil _)).cell 4; have lb5 : wl.cell? ⟨w.heap.size + 1, 5, none⟩ = some (.string f.s) := (HB.out.ch HCl.out (not_nil _)).cell 5; have lb6 : wl.cell? ⟨w.heap.size + 1, 6, none⟩ = some (.int .i64 f.r) := (HB.out.ch HCl.out (not_nil _)).cell 6; have lb7 : wl.cell? ⟨w.heap.size + 1, 7, none⟩ = some (.slice p1' l.length c1') := (HB.out.ch HCl.out (not_nil _)).cell 7; have lb8 : wl.cell? ⟨w.heap.size + 1, 8, none⟩ = some (.string s) := (HB.out.ch HCl.out (not_nil _)).cell 8; have lb9 : wl.cell? ⟨w.heap.size + 1, 9, none⟩ = some (.int .i64 lv) := (HB.out.ch HCl.out (not_nil _)).cell 9; have lb10 : wl.cell? ⟨w.heap.size + 1, 10, none⟩ = some (.int .i64 nx) := (HB.out.ch HCl.out (not_nil _)).cell 10; have lb11 : wl.cell? ⟨w.heap.size + 1, 11, none⟩ = some (.slice p2' kp.length c2') := (HB.out.ch HCl.out (not_nil _)).cell 11; have lla := (HA.out.ch HCl.out (not_nil _)).lt; have llb := (HB.out.ch HCl.out (not_nil _)).lt) | (go_at_call 41; (with_reducible refine (QK.out _ (HCl.out)).mono ?_); rintro e wkp ⟨rfl, hc⟩; have HCkp := Lib.hid hc; clear hc; have kpa0 : wkp.cell? ⟨w.heap.size, 0, none⟩ = some (.int .i64 k) := (HA.out.ch HCkp.out (not_nil _)).cell 0; have kpa1 : wkp.cell? ⟨w.heap.size, 1, none⟩ = some (.int .i64 op) := (HA.out.ch HCkp.out (not_nil _)).cell 1; have kpa2 : wkp.cell? ⟨w.heap.size, 2, none⟩ = some (.int .i64 f.k) := (HA.out.ch HCkp.out (not_nil _)).cell 2; have kpa3 : wkp.cell? ⟨w.heap.size, 3, none⟩ = some (.int .i64 f.p) := (HA.out.ch HCkp.out (not_nil _)).cell 3; have kpa4 : wkp.cell? ⟨w.heap.size, 4, none⟩ = some (.int .i64 f.q) := (HA.out.ch HCkp.out (not_nil _)).cell 4; have kpa5 : wkp.cell? ⟨w.heap.size, 5, none⟩ = some (.string f.s) := (HA.out.ch HCkp.out (not_nil _)).cell 5; have kpa6 : wkp.cell? ⟨w.heap.size, 6, none⟩ = some (.int .i64 f.r) := (HA.out.ch HCkp.out (not_nil _)).cell 6; have kpa7 : wkp.cell? ⟨w.heap.size, 7, none⟩ = some (.slice p1 l.length c1) := (HA.out.ch HCkp.out (not_nil _)).cell 7; have kpa8 : wkp.cell? ⟨w.heap.size, 8, none⟩ = some (.string s) := (HA.out.ch HCkp.out (not_nil _)).cell 8; have kpa9 : wkp.cell? ⟨w.heap.size, 9, none⟩ = some (.int .i64 lv) := (HA.out.ch HCkp.out (not_nil _)).cell 9; have kpa10 : wkp.cell? ⟨w.heap.size, 10, none⟩ = some (.int .i64 nx) := (HA.out.ch HCkp.out (not_nil _)).cell 10; have kpa11 : wkp.cell? ⟨w.heap.size, 11, none⟩ = some (.slice p2 kp.length c2) := (HA.out.ch HCkp.out (not_nil _)).cell 11; have kpb0 : wkp.cell? ⟨w.heap.size + 1, 0, none⟩ = some (.int .i64 k) := (HB.out.ch HCkp.out (not_nil _)).cell 0; have kpb1 : wkp.cell? ⟨w.heap.size + 1, 1, none⟩ = some (.int .i64 op) := (HB.out.ch HCkp.out (not_nil _)).cell 1; have kpb2 : wkp.cell? ⟨w.heap.size + 1, 2, none⟩ = some (.int .i64 f.k) := (HB.out.ch HCkp.out (not_nil _)).cell 2; have kpb3 : wkp.cell? ⟨w.heap.size + 1, 3, none⟩ = some (.int .i64 f.p) := (HB.out.ch HCkp.out (not_nil _)).cell 3; have kpb4 : wkp.cell? ⟨w.heap.size + 1, 4, none⟩ = some (.int .i64 f.q) := (HB.out.ch HCkp.out (not_nil _)).cell 4; have kpb5 : wkp.cell? ⟨w.heap.size + 1, 5, none⟩ = some (.string f.s) := (HB.out.ch HCkp.out (not_nil _)).cell 5; have kpb6 : wkp.cell? ⟨w.heap.size + 1, 6, none⟩ = some (.int .i64 f.r) := (HB.out.ch HCkp.out (not_nil _)).cell 6; have kpb7 : wkp.cell? ⟨w.heap.size + 1, 7, none⟩ = some (.slice p1' l.length c1') := (HB.out.ch HCkp.out (not_nil _)).cell 7; have kpb8 : wkp.cell? ⟨w.heap.size + 1, 8, none⟩ = some (.string s) := (HB.out.ch HCkp.out (not_nil _)).cell 8; have kpb9 : wkp.cell? ⟨w.heap.size + 1, 9, none⟩ = some (.int .i64 lv) := (HB.out.ch HCkp.out (not_nil _)).cell 9; have kpb10 : wkp.cell? ⟨w.heap.size + 1, 10, none⟩ = some (.int .i64 nx) := (HB.out.ch HCkp.out (not_nil _)).cell 10; have kpb11 : wkp.cell? ⟨w.heap.size + 1, 11, none⟩ = some (.slice p2' kp.length c2') := (HB.out.ch HCkp.out (not_nil _)).cell 11; have kpla := (HA.out.ch HCkp.out (not_nil _)).lt; have kplb := (HB.out.ch HCkp.out (not_nil _)).lt))
  go_ret
  exact ⟨rfl, HC0.out.trans HCkp.out⟩
theorem asame_any (va vb : Value) (a b : Act) (w : World) (h1 : AA w va a) (h2 : AA w vb b) (n1 : a.l.length ≤ 1000000) (n2 : a.kp.length ≤ 1000000) (n1' : b.l.length ≤ 1000000) (n2' : b.kp.length ≤ 1000000) :
    Calls Try.prog 26 #[va, vb] w fun e w' => e = .returned (.bool (decide (a = b))) ∧ Ch [] w w' := by
  obtain ⟨vl, vk, rfl, ⟨p1, c1, rfl, _, q1⟩, ⟨p2, c2, rfl, _, q2⟩⟩ := h1
  obtain ⟨vl', vk', rfl, ⟨p1', c1', rfl, _, q1'⟩, ⟨p2', c2', rfl, _, q2'⟩⟩ := h2
  obtain ⟨k, op, f, l, s, lv, nx, kp⟩ := a
  obtain ⟨k', op', f', l', s', lv', nx', kp'⟩ := b
  simp only at n1 n2 n1' n2' q1 q2 q1' q2'
  by_cases e0 : k = k'
  rotate_left
  · rw [decide_eq_false (by intro e; injection e; contradiction)]
    exact asame_any_0 k op f l s lv nx kp k' op' f' l' s' lv' nx' kp' p1 p2 p1' p2' c1 c2 c1' c2' w e0 q1 q2 q1' q2' n1 n2 n1' n2'
  subst e0
  by_cases e1 : op = op'
  rotate_left
  · rw [decide_eq_false (by intro e; injection e; contradiction)]
    exact asame_any_1 k op f l s lv nx kp op' f' l' s' lv' nx' kp' p1 p2 p1' p2' c1 c2 c1' c2' w e1 q1 q2 q1' q2' n1 n2 n1' n2'
  subst e1
  by_cases e2 : f = f'
  rotate_left
  · rw [decide_eq_false (by intro e; injection e; contradiction)]
    exact asame_any_2 k op f l s lv nx kp f' l' s' lv' nx' kp' p1 p2 p1' p2' c1 c2 c1' c2' w e2 q1 q2 q1' q2' n1 n2 n1' n2'
  subst e2
  by_cases e3 : l = l'
  rotate_left
  · rw [decide_eq_false (by intro e; injection e; contradiction)]
    exact asame_any_3 k op f l s lv nx kp l' s' lv' nx' kp' p1 p2 p1' p2' c1 c2 c1' c2' w e3 q1 q2 q1' q2' n1 n2 n1' n2'
  subst e3
  by_cases e4 : s = s'
  rotate_left
  · rw [decide_eq_false (by intro e; injection e; contradiction)]
    exact asame_any_4 k op f l s lv nx kp s' lv' nx' kp' p1 p2 p1' p2' c1 c2 c1' c2' w e4 q1 q2 q1' q2' n1 n2 n1' n2'
  subst e4
  by_cases e5 : lv = lv'
  rotate_left
  · rw [decide_eq_false (by intro e; injection e; contradiction)]
    exact asame_any_5 k op f l s lv nx kp lv' nx' kp' p1 p2 p1' p2' c1 c2 c1' c2' w e5 q1 q2 q1' q2' n1 n2 n1' n2'
  subst e5
  by_cases e6 : nx = nx'
  rotate_left
  · rw [decide_eq_false (by intro e; injection e; contradiction)]
    exact asame_any_6 k op f l s lv nx kp nx' kp' p1 p2 p1' p2' c1 c2 c1' c2' w e6 q1 q2 q1' q2' n1 n2 n1' n2'
  subst e6
  by_cases e7 : kp = kp'
  rotate_left
  · rw [decide_eq_false (by intro e; injection e; contradiction)]
    exact asame_any_7 k op f l s lv nx kp kp' p1 p2 p1' p2' c1 c2 c1' c2' w e7 q1 q2 q1' q2' n1 n2 n1' n2'
  subst e7
  rw [decide_eq_true rfl]
  exact asame_any_8 k op f l s lv nx kp p1 p2 p1' p2' c1 c2 c1' c2' w q1 q2 q1' q2' n1 n2 n1' n2'
end Go.Proofs.Ytdgdpckjcpgoaaa
