/- Layer 19: the reference's Same. -/
import Derived.Test.YtimblnhigoggpaaDoorFlB
import Derived.RegionTactic
namespace Go.Proofs.YtimblnhigoggpaaDoor
open Go.RowKit Go.Joins M1
set_option linter.unusedVariables false
set_option maxHeartbeats 4000000 in
theorem rfs_v (f g : Flr) (p1 p2 : Option Addr) (c1 c2 : Nat) (w : World) (h1 : PA w (.slice p1 f.t.length c1) f.t) (h2 : PA w (.slice p2 g.t.length c2) g.t) (n1 : f.t.length ≤ 1000000) (n2 : g.t.length ≤ 1000000) (hv : ¬ f.v = g.v) :
    Calls Tryd.prog 13 #[.agg #[.int .i64 f.v.k, .int .i64 f.v.p, .int .i64 f.v.q, .string f.v.s, .int .i64 f.v.r, .slice p1 f.t.length c1], .agg #[.int .i64 g.v.k, .int .i64 g.v.p, .int .i64 g.v.q, .string g.v.s, .int .i64 g.v.r, .slice p2 g.t.length c2]] w fun e w' => e = .returned (.bool false) ∧ Ch [] w w' := by
  obtain ⟨w0, hw0⟩ : ∃ w0, w0 = ((w.alloc (.cells #[.int .i64 f.v.k, .int .i64 f.v.p, .int .i64 f.v.q, .string f.v.s, .int .i64 f.v.r, .slice p1 f.t.length c1] 31)).alloc (.cells #[.int .i64 g.v.k, .int .i64 g.v.p, .int .i64 g.v.q, .string g.v.s, .int .i64 g.v.r, .slice p2 g.t.length c2] 31)) := ⟨_, rfl⟩
  have HC0 : Hid (Ch [] w w0) := Lib.hid (by rw [hw0]; exact ((Ch.refl [] w).alloc _).alloc _)
  have HB : Hid (Blk 31 (w.heap.size + 1) #[.int .i64 g.v.k, .int .i64 g.v.p, .int .i64 g.v.q, .string g.v.s, .int .i64 g.v.r, .slice p2 g.t.length c2] w0) := Lib.hid (by rw [hw0]; exact Blk.new _ _ _ _ (by simp))
  have HA : Hid (Blk 31 w.heap.size #[.int .i64 f.v.k, .int .i64 f.v.p, .int .i64 f.v.q, .string f.v.s, .int .i64 f.v.r, .slice p1 f.t.length c1] w0) := Lib.hid (by rw [hw0]; exact (Blk.new w _ _ _ rfl).ch ((Ch.refl [] _).alloc _) (not_nil _))
  have EQ : ∀ W, (binOp .neq 25 (.agg #[.int .i64 f.v.k, .int .i64 f.v.p, .int .i64 f.v.q, .string f.v.s, .int .i64 f.v.r]) (.agg #[.int .i64 g.v.k, .int .i64 g.v.p, .int .i64 g.v.q, .string g.v.s, .int .i64 g.v.r])).run Tryd.prog W = .ok (.bool true) W := fun W => by
    rw [neq_v5g]; simp [hv]
  clear hv h1 h2 n1 n2
  have HW := Lib.hid hw0
  clear hw0
  go_enter Tryd.func13, Tryd.ntmps13
  go_upto_region 1 with fail
  rw [← HW.out]
  have a0 : w0.cell? ⟨w.heap.size, 0, none⟩ = some (.int .i64 f.v.k) := HA.out.cell 0
  have a1 : w0.cell? ⟨w.heap.size, 1, none⟩ = some (.int .i64 f.v.p) := HA.out.cell 1
  have a2 : w0.cell? ⟨w.heap.size, 2, none⟩ = some (.int .i64 f.v.q) := HA.out.cell 2
  have a3 : w0.cell? ⟨w.heap.size, 3, none⟩ = some (.string f.v.s) := HA.out.cell 3
  have a4 : w0.cell? ⟨w.heap.size, 4, none⟩ = some (.int .i64 f.v.r) := HA.out.cell 4
  have a5 : w0.cell? ⟨w.heap.size, 5, none⟩ = some (.slice p1 f.t.length c1) := HA.out.cell 5
  have b0 : w0.cell? ⟨(w.heap.size + 1), 0, none⟩ = some (.int .i64 g.v.k) := HB.out.cell 0
  have b1 : w0.cell? ⟨(w.heap.size + 1), 1, none⟩ = some (.int .i64 g.v.p) := HB.out.cell 1
  have b2 : w0.cell? ⟨(w.heap.size + 1), 2, none⟩ = some (.int .i64 g.v.q) := HB.out.cell 2
  have b3 : w0.cell? ⟨(w.heap.size + 1), 3, none⟩ = some (.string g.v.s) := HB.out.cell 3
  have b4 : w0.cell? ⟨(w.heap.size + 1), 4, none⟩ = some (.int .i64 g.v.r) := HB.out.cell 4
  have b5 : w0.cell? ⟨(w.heap.size + 1), 5, none⟩ = some (.slice p2 g.t.length c2) := HB.out.cell 5
  have la := HA.out.lt
  have lb := HB.out.lt
  go_wp2
  go_ret
  exact ⟨rfl, HC0.out⟩
set_option maxHeartbeats 4000000 in
theorem rfs_n (f g : Flr) (p1 p2 : Option Addr) (c1 c2 : Nat) (w : World) (h1 : PA w (.slice p1 f.t.length c1) f.t) (h2 : PA w (.slice p2 g.t.length c2) g.t) (n1 : f.t.length ≤ 1000000) (n2 : g.t.length ≤ 1000000) (hn : ¬ f.t.length = g.t.length) :
    Calls Tryd.prog 13 #[.agg #[.int .i64 f.v.k, .int .i64 f.v.p, .int .i64 f.v.q, .string f.v.s, .int .i64 f.v.r, .slice p1 f.t.length c1], .agg #[.int .i64 f.v.k, .int .i64 f.v.p, .int .i64 f.v.q, .string f.v.s, .int .i64 f.v.r, .slice p2 g.t.length c2]] w fun e w' => e = .returned (.bool false) ∧ Ch [] w w' := by
  obtain ⟨w0, hw0⟩ : ∃ w0, w0 = ((w.alloc (.cells #[.int .i64 f.v.k, .int .i64 f.v.p, .int .i64 f.v.q, .string f.v.s, .int .i64 f.v.r, .slice p1 f.t.length c1] 31)).alloc (.cells #[.int .i64 f.v.k, .int .i64 f.v.p, .int .i64 f.v.q, .string f.v.s, .int .i64 f.v.r, .slice p2 g.t.length c2] 31)) := ⟨_, rfl⟩
  have HC0 : Hid (Ch [] w w0) := Lib.hid (by rw [hw0]; exact ((Ch.refl [] w).alloc _).alloc _)
  have HB : Hid (Blk 31 (w.heap.size + 1) #[.int .i64 f.v.k, .int .i64 f.v.p, .int .i64 f.v.q, .string f.v.s, .int .i64 f.v.r, .slice p2 g.t.length c2] w0) := Lib.hid (by rw [hw0]; exact Blk.new _ _ _ _ (by simp))
  have HA : Hid (Blk 31 w.heap.size #[.int .i64 f.v.k, .int .i64 f.v.p, .int .i64 f.v.q, .string f.v.s, .int .i64 f.v.r, .slice p1 f.t.length c1] w0) := Lib.hid (by rw [hw0]; exact (Blk.new w _ _ _ rfl).ch ((Ch.refl [] _).alloc _) (not_nil _))
  have EQ : ∀ W, (binOp .neq 25 (.agg #[.int .i64 f.v.k, .int .i64 f.v.p, .int .i64 f.v.q, .string f.v.s, .int .i64 f.v.r]) (.agg #[.int .i64 f.v.k, .int .i64 f.v.p, .int .i64 f.v.q, .string f.v.s, .int .i64 f.v.r])).run Tryd.prog W = .ok (.bool false) W := fun W => by
    rw [neq_v5g]; simp
  have hn1 : ¬ (f.t.length : Int) = (g.t.length : Int) := by omega
  have hn2 : ((f.t.length : Int) != (g.t.length : Int)) = true := by rw [bne_iff_ne]; exact hn1
  clear hn h1 h2 n1 n2
  have HW := Lib.hid hw0
  clear hw0
  go_enter Tryd.func13, Tryd.ntmps13
  go_upto_region 1 with fail
  rw [← HW.out]
  have a0 : w0.cell? ⟨w.heap.size, 0, none⟩ = some (.int .i64 f.v.k) := HA.out.cell 0
  have a1 : w0.cell? ⟨w.heap.size, 1, none⟩ = some (.int .i64 f.v.p) := HA.out.cell 1
  have a2 : w0.cell? ⟨w.heap.size, 2, none⟩ = some (.int .i64 f.v.q) := HA.out.cell 2
  have a3 : w0.cell? ⟨w.heap.size, 3, none⟩ = some (.string f.v.s) := HA.out.cell 3
  have a4 : w0.cell? ⟨w.heap.size, 4, none⟩ = some (.int .i64 f.v.r) := HA.out.cell 4
  have a5 : w0.cell? ⟨w.heap.size, 5, none⟩ = some (.slice p1 f.t.length c1) := HA.out.cell 5
  have b0 : w0.cell? ⟨(w.heap.size + 1), 0, none⟩ = some (.int .i64 f.v.k) := HB.out.cell 0
  have b1 : w0.cell? ⟨(w.heap.size + 1), 1, none⟩ = some (.int .i64 f.v.p) := HB.out.cell 1
  have b2 : w0.cell? ⟨(w.heap.size + 1), 2, none⟩ = some (.int .i64 f.v.q) := HB.out.cell 2
  have b3 : w0.cell? ⟨(w.heap.size + 1), 3, none⟩ = some (.string f.v.s) := HB.out.cell 3
  have b4 : w0.cell? ⟨(w.heap.size + 1), 4, none⟩ = some (.int .i64 f.v.r) := HB.out.cell 4
  have b5 : w0.cell? ⟨(w.heap.size + 1), 5, none⟩ = some (.slice p2 g.t.length c2) := HB.out.cell 5
  have la := HA.out.lt
  have lb := HB.out.lt
  go_wp2
  go_ret
  exact ⟨rfl, HC0.out⟩
theorem take_samP {l1 l2 : List Pl} {k : Nat} {x : Pl} (h : l1.take k = l2.take k) (h1 : l1[k]? = some x) (h2 : l2[k]? = some x) : l1.take (k + 1) = l2.take (k + 1) := by
  rw [List.take_add_one, List.take_add_one, h, h1, h2]
set_option maxHeartbeats 8000000 in
theorem rfs_l (fv : V5) (l1 l2 : List Pl) (n : Nat) (p1 p2 : Option Addr) (c1 c2 : Nat) (w : World) (h1 : PA w (.slice p1 n c1) l1) (h2 : PA w (.slice p2 n c2) l2) (e1 : l1.length = n) (e2 : l2.length = n) (n1 : n ≤ 1000000) :
    Calls Tryd.prog 13 #[.agg #[.int .i64 fv.k, .int .i64 fv.p, .int .i64 fv.q, .string fv.s, .int .i64 fv.r, .slice p1 n c1], .agg #[.int .i64 fv.k, .int .i64 fv.p, .int .i64 fv.q, .string fv.s, .int .i64 fv.r, .slice p2 n c2]] w fun e w' => e = .returned (.bool (decide (l1 = l2))) ∧ Ch [] w w' := by
  have HF1 : Hid (0 < n → ∃ g o, p1 = some ⟨g, o, none⟩ ∧ g < w.heap.size ∧ ∀ (j m : Nat) (hj : j < l1.length), m < 3 → w.cell? ⟨g, o + j * 3 + m, none⟩ = (pC l1[j])[m]?) := Lib.hid (by subst e1; exact h1.cells)
  have HF2 : Hid (0 < n → ∃ g o, p2 = some ⟨g, o, none⟩ ∧ g < w.heap.size ∧ ∀ (j m : Nat) (hj : j < l2.length), m < 3 → w.cell? ⟨g, o + j * 3 + m, none⟩ = (pC l2[j])[m]?) := Lib.hid (by subst e2; exact h2.cells)
  obtain ⟨w0, hw0⟩ : ∃ w0, w0 = ((w.alloc (.cells #[.int .i64 fv.k, .int .i64 fv.p, .int .i64 fv.q, .string fv.s, .int .i64 fv.r, .slice p1 n c1] 31)).alloc (.cells #[.int .i64 fv.k, .int .i64 fv.p, .int .i64 fv.q, .string fv.s, .int .i64 fv.r, .slice p2 n c2] 31)) := ⟨_, rfl⟩
  have HC0 : Hid (Ch [] w w0) := Lib.hid (by rw [hw0]; exact ((Ch.refl [] w).alloc _).alloc _)
  have HB : Hid (Blk 31 (w.heap.size + 1) #[.int .i64 fv.k, .int .i64 fv.p, .int .i64 fv.q, .string fv.s, .int .i64 fv.r, .slice p2 n c2] w0) := Lib.hid (by rw [hw0]; exact Blk.new _ _ _ _ (by simp))
  have HA : Hid (Blk 31 w.heap.size #[.int .i64 fv.k, .int .i64 fv.p, .int .i64 fv.q, .string fv.s, .int .i64 fv.r, .slice p1 n c1] w0) := Lib.hid (by rw [hw0]; exact (Blk.new w _ _ _ rfl).ch ((Ch.refl [] _).alloc _) (not_nil _))
  obtain ⟨res, hres⟩ : ∃ res, res = decide (l1 = l2) := ⟨_, rfl⟩
  rw [← hres]
  have HR := Lib.hid hres
  have EQV : ∀ W, (binOp .neq 25 (.agg #[.int .i64 fv.k, .int .i64 fv.p, .int .i64 fv.q, .string fv.s, .int .i64 fv.r]) (.agg #[.int .i64 fv.k, .int .i64 fv.p, .int .i64 fv.q, .string fv.s, .int .i64 fv.r])).run Tryd.prog W = .ok (.bool false) W := fun W => neq_v5 fv W
  have HE := Lib.hid (And.intro e1 e2)
  have HN1 := Lib.hid n1
  have HW := Lib.hid hw0
  clear hw0 hres h1 h2 e1 e2 n1
  go_enter Tryd.func13, Tryd.ntmps13
  go_upto_region 1 with fail
  rw [← HW.out]
  have a0 : w0.cell? ⟨w.heap.size, 0, none⟩ = some (.int .i64 fv.k) := HA.out.cell 0
  have a1 : w0.cell? ⟨w.heap.size, 1, none⟩ = some (.int .i64 fv.p) := HA.out.cell 1
  have a2 : w0.cell? ⟨w.heap.size, 2, none⟩ = some (.int .i64 fv.q) := HA.out.cell 2
  have a3 : w0.cell? ⟨w.heap.size, 3, none⟩ = some (.string fv.s) := HA.out.cell 3
  have a4 : w0.cell? ⟨w.heap.size, 4, none⟩ = some (.int .i64 fv.r) := HA.out.cell 4
  have a5 : w0.cell? ⟨w.heap.size, 5, none⟩ = some (.slice p1 n c1) := HA.out.cell 5
  have b0 : w0.cell? ⟨(w.heap.size + 1), 0, none⟩ = some (.int .i64 fv.k) := HB.out.cell 0
  have b1 : w0.cell? ⟨(w.heap.size + 1), 1, none⟩ = some (.int .i64 fv.p) := HB.out.cell 1
  have b2 : w0.cell? ⟨(w.heap.size + 1), 2, none⟩ = some (.int .i64 fv.q) := HB.out.cell 2
  have b3 : w0.cell? ⟨(w.heap.size + 1), 3, none⟩ = some (.string fv.s) := HB.out.cell 3
  have b4 : w0.cell? ⟨(w.heap.size + 1), 4, none⟩ = some (.int .i64 fv.r) := HB.out.cell 4
  have b5 : w0.cell? ⟨(w.heap.size + 1), 5, none⟩ = some (.slice p2 n c2) := HB.out.cell 5
  have la := HA.out.lt
  have lb := HB.out.lt
  go_wp2
  go_loopw [5] (fun v5_ wr => ∃ k : Nat, k ≤ n ∧ v5_ = .int .i64 (k : Int) ∧ Hid (l1.take k = l2.take k) ∧ Hid (Ch [] w0 wr)) (fun v5_ _ => n - (intOf v5_).toNat)
  case atStart => exact ⟨0, Nat.zero_le _, rfl, Lib.hid rfl, Lib.hid (Ch.refl _ _)⟩
  case round =>
    obtain ⟨k, hk, rfl, HT, HC⟩ := hrel
    rename World => wr
    have HAr := Lib.hid (HA.out.ch HC.out (not_nil _))
    have HBr := Lib.hid (HB.out.ch HC.out (not_nil _))
    have x0 : wr.cell? ⟨w.heap.size, 0, none⟩ = some (.int .i64 fv.k) := HAr.out.cell 0
    have x1 : wr.cell? ⟨w.heap.size, 1, none⟩ = some (.int .i64 fv.p) := HAr.out.cell 1
    have x2 : wr.cell? ⟨w.heap.size, 2, none⟩ = some (.int .i64 fv.q) := HAr.out.cell 2
    have x3 : wr.cell? ⟨w.heap.size, 3, none⟩ = some (.string fv.s) := HAr.out.cell 3
    have x4 : wr.cell? ⟨w.heap.size, 4, none⟩ = some (.int .i64 fv.r) := HAr.out.cell 4
    have x5 : wr.cell? ⟨w.heap.size, 5, none⟩ = some (.slice p1 n c1) := HAr.out.cell 5
    have y0 : wr.cell? ⟨w.heap.size + 1, 0, none⟩ = some (.int .i64 fv.k) := HBr.out.cell 0
    have y1 : wr.cell? ⟨w.heap.size + 1, 1, none⟩ = some (.int .i64 fv.p) := HBr.out.cell 1
    have y2 : wr.cell? ⟨w.heap.size + 1, 2, none⟩ = some (.int .i64 fv.q) := HBr.out.cell 2
    have y3 : wr.cell? ⟨w.heap.size + 1, 3, none⟩ = some (.string fv.s) := HBr.out.cell 3
    have y4 : wr.cell? ⟨w.heap.size + 1, 4, none⟩ = some (.int .i64 fv.r) := HBr.out.cell 4
    have y5 : wr.cell? ⟨w.heap.size + 1, 5, none⟩ = some (.slice p2 n c2) := HBr.out.cell 5
    have xl := HAr.out.lt
    have yl := HBr.out.lt
    by_cases hlt : k < n
    · have hlt' : (k : Int) < (n : Int) := by omega
      have hk0 : (0 : Int) ≤ (k : Int) := by omega
      have di : IntKind.i64.wrap ((k : Int) + 1) = (k : Int) + 1 := IntWalk.i64_in _ (by have := HN1.out; omega)
      have k1' : k < l1.length := by rw [HE.out.1]; exact hlt
      have k2' : k < l2.length := by rw [HE.out.2]; exact hlt
      obtain ⟨g1, o1, rfl, hg1, k1⟩ := HF1.out (by omega)
      obtain ⟨g2, o2, rfl, hg2, k2⟩ := HF2.out (by omega)
      have hgw1 : g1 < wr.heap.size := Nat.lt_of_lt_of_le hg1 (HC0.out.trans HC.out).size
      have hgw2 : g2 < wr.heap.size := Nat.lt_of_lt_of_le hg2 (HC0.out.trans HC.out).size
      obtain ⟨x, hx⟩ : ∃ x, x = l1[k] := ⟨_, rfl⟩
      obtain ⟨y, hy⟩ : ∃ y, y = l2[k] := ⟨_, rfl⟩
      have m1 : ∀ j, j < 3 → wr.cell? ⟨g1, o1 + k * 3 + j, none⟩ = (pC x)[j]? := fun j hj => ((HC0.out.trans HC.out).below.cell (p := ⟨g1, _, none⟩) hg1).trans (by rw [hx]; exact k1 k j k1' hj)
      have m2 : ∀ j, j < 3 → wr.cell? ⟨g2, o2 + k * 3 + j, none⟩ = (pC y)[j]? := fun j hj => ((HC0.out.trans HC.out).below.cell (p := ⟨g2, _, none⟩) hg2).trans (by rw [hy]; exact k2 k j k2' hj)
      have s0 : wr.cell? ⟨g1, o1 + k * 3, none⟩ = some (.string x.n) := m1 0 (by omega)
      have s1 : wr.cell? ⟨g1, o1 + k * 3 + 1, none⟩ = some (.int .i64 x.l) := m1 1 (by omega)
      have s2 : wr.cell? ⟨g1, o1 + k * 3 + 2, none⟩ = some (.bool x.t) := m1 2 (by omega)
      have q0 : wr.cell? ⟨g2, o2 + k * 3, none⟩ = some (.string y.n) := m2 0 (by omega)
      have q1 : wr.cell? ⟨g2, o2 + k * 3 + 1, none⟩ = some (.int .i64 y.l) := m2 1 (by omega)
      have q2 : wr.cell? ⟨g2, o2 + k * 3 + 2, none⟩ = some (.bool y.t) := m2 2 (by omega)
      have EQ := fun W => neq_pl x y W
      have HX : Hid (l1[k]? = some x ∧ l2[k]? = some y) := Lib.hid ⟨by rw [hx, List.getElem?_eq_getElem k1'], by rw [hy, List.getElem?_eq_getElem k2']⟩
      clear k1 k2 m1 m2 k1' k2' hx hy
      by_cases hxy : x = y
      · have hq : (!decide (x = y)) = false := by simp [hxy]
        rw [hq] at EQ
        clear hq
        have HXY := Lib.hid hxy
        clear hxy
        go_upto_region 6 with fail
        go_region
        go_wp2
        go_roundw
        case rel => exact ⟨k + 1, by omega, by go_num, Lib.hid (take_samP HT.out HX.out.1 (by rw [HX.out.2, HXY.out])), Lib.hid (by first | exact HC.out.drewN _ | exact HC.out.drew | exact HC.out)⟩
        case measure => simp [intOf]; omega
      · have hq : (!decide (x = y)) = true := by simp [hxy]
        rw [hq] at EQ
        clear hq
        have HXY := Lib.hid hxy
        clear hxy
        have HNE : Hid (decide (l1 = l2) = false) := Lib.hid (by
          rw [decide_eq_false_iff_not]; intro e
          have h1 := HX.out.1
          rw [e, HX.out.2] at h1
          injection h1 with h1
          exact HXY.out h1.symm)
        go_upto_region 6 with fail
        go_region
        go_wp2
        go_ret
        exact ⟨by rw [HR.out, HNE.out]; rfl, HC0.out.trans (by first | exact HC.out.drewN _ | exact HC.out.drew | exact HC.out)⟩
    · have hlt' : ¬ (k : Int) < (n : Int) := by omega
      have HNE : Hid (decide (l1 = l2) = true) := Lib.hid (by
        rw [decide_eq_true_eq]
        have := HT.out
        rwa [List.take_of_length_le (by rw [HE.out.1]; omega), List.take_of_length_le (by rw [HE.out.2]; omega)] at this)
      go_wp2
      go_ret
      exact ⟨by rw [HR.out, HNE.out]; rfl, HC0.out.trans HC.out⟩
theorem rfsame_any (va vb : Value) (f g : Flr) (w : World) (h1 : FA w va f) (h2 : FA w vb g) (n1 : f.t.length ≤ 1000000) (n2 : g.t.length ≤ 1000000) :
    Calls Tryd.prog 13 #[va, vb] w fun e w' => e = .returned (.bool (decide (f = g))) ∧ Ch [] w w' := by
  obtain ⟨vt1, rfl, q1⟩ := h1
  obtain ⟨vt2, rfl, q2⟩ := h2
  have H1 := q1
  have H2 := q2
  obtain ⟨p1, c1, rfl, _⟩ := q1
  obtain ⟨p2, c2, rfl, _⟩ := q2
  by_cases hv : f.v = g.v
  rotate_left
  · rw [decide_eq_false (fun e => hv (by rw [e]))]
    exact rfs_v f g p1 p2 c1 c2 w H1 H2 n1 n2 hv
  obtain ⟨fv, ft⟩ := f
  obtain ⟨gv, gt⟩ := g
  obtain rfl : fv = gv := hv
  by_cases hn : ft.length = gt.length
  rotate_left
  · rw [decide_eq_false (fun e => hn (by injection e with _ e; rw [e]))]
    exact rfs_n ⟨fv, ft⟩ ⟨fv, gt⟩ p1 p2 c1 c2 w H1 H2 n1 n2 hn
  have key : decide ((⟨fv, ft⟩ : Flr) = ⟨fv, gt⟩) = decide (ft = gt) := by rw [Bool.eq_iff_iff]; simp
  rw [key]
  have H2' : PA w (.slice p2 ft.length c2) gt := by rw [hn]; exact H2
  have := rfs_l fv ft gt ft.length p1 p2 c1 c2 w H1 H2' rfl hn.symm n1
  show Calls _ _ #[.agg #[.int .i64 fv.k, .int .i64 fv.p, .int .i64 fv.q, .string fv.s, .int .i64 fv.r, .slice p1 ft.length c1], .agg #[.int .i64 fv.k, .int .i64 fv.p, .int .i64 fv.q, .string fv.s, .int .i64 fv.r, .slice p2 gt.length c2]] w _
  rw [← hn]
  exact this
end Go.Proofs.YtimblnhigoggpaaDoor
