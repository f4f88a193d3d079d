/- Layer 20: lists compared. -/
import Derived.Test.YtdgdpckjcpgoaaaPrB
namespace Go.Proofs.Ytdgdpckjcpgoaaa
open Go.RowKit Go.Joins M1
set_option linter.unusedVariables false
theorem take_same {l1 l2 : List V5} {k : Nat} {x : V5} (h : l1.take k = l2.take k) (h1 : l1[k]? = some x) (h2 : l2[k]? = some x) : l1.take (k + 1) = l2.take (k + 1) := by
  rw [List.take_add_one, List.take_add_one, h, h1, h2]
set_option maxHeartbeats 2000000 in
theorem equal_any (a b : Value) (l1 l2 : List V5) (w : World) (h1 : ValsA w a l1) (h2 : ValsA w b l2) (hL : l1.length ≤ 1000000) (hL2 : l2.length ≤ 1000000) :
    Calls Try.prog 41 #[a, b] w fun e w' => e = .returned (.bool (decide (l1 = l2))) ∧ Ch [] w w' := by
  obtain ⟨p1, c1, rfl, f1⟩ := h1.form
  obtain ⟨p2, c2, rfl, f2⟩ := h2.form
  clear h1 h2
  obtain ⟨res, hres⟩ : ∃ res, res = decide (l1 = l2) := ⟨_, rfl⟩
  rw [← hres]
  have HR := Lib.hid hres
  clear hres
  by_cases hn : l1.length = l2.length
  · have HF1 := Lib.hid f1
    have HF2 := Lib.hid f2
    clear f1 f2
    have HN := Lib.hid hn
    have HL := Lib.hid hL
    rw [← hn]
    clear hn hL hL2
    obtain ⟨n, hn⟩ : ∃ n, n = l1.length := ⟨_, rfl⟩
    have HNN := Lib.hid hn
    rw [← hn]
    clear hn
    go_enter Try.func41, Try.ntmps41
    go_wp2
    go_loopw [5, 13] (fun _ v13 wr => ∃ k : Nat, k ≤ n ∧ v13 = .int .i64 (k : Int) ∧ Hid (l1.take k = l2.take k) ∧ Hid (Ch [] w wr)) (fun _ v13 _ => n - (intOf v13).toNat)
    case atStart => exact ⟨0, Nat.zero_le _, rfl, Lib.hid rfl, Lib.hid (Ch.refl _ _)⟩
    case round =>
      obtain ⟨k, hk, rfl, HT, HC⟩ := hrel
      rename World => wr
      by_cases hlt : k < n
      · have hlt' : (k : Int) < (n : Int) := by omega
        have hk0 : (0 : Int) ≤ (k : Int) := by omega
        have di : IntKind.i64.wrap ((k : Int) + 1) = (k : Int) + 1 := IntWalk.i64_in _ (by have := HL.out; have := HNN.out; omega)
        have k1' : k < l1.length := by have := HNN.out; omega
        have k2' : k < l2.length := by have := HNN.out; have := HN.out; omega
        obtain ⟨g1, o1, rfl, hg1, k1⟩ := HF1.out (by omega)
        obtain ⟨g2, o2, rfl, hg2, k2⟩ := HF2.out (by omega)
        have hgw1 : g1 < wr.heap.size := Nat.lt_of_lt_of_le hg1 HC.out.size
        have hgw2 : g2 < wr.heap.size := Nat.lt_of_lt_of_le hg2 HC.out.size
        obtain ⟨x, hx⟩ : ∃ x, x = l1[k] := ⟨_, rfl⟩
        obtain ⟨y, hy⟩ : ∃ y, y = l2[k] := ⟨_, rfl⟩
        have m1 : ∀ j, j < 5 → wr.cell? ⟨g1, o1 + k * 5 + j, none⟩ = (vC x)[j]? := fun j hj => (HC.out.below.cell (p := ⟨g1, _, none⟩) hg1).trans (by rw [hx]; exact k1 k j k1' hj)
        have m2 : ∀ j, j < 5 → wr.cell? ⟨g2, o2 + k * 5 + j, none⟩ = (vC y)[j]? := fun j hj => (HC.out.below.cell (p := ⟨g2, _, none⟩) hg2).trans (by rw [hy]; exact k2 k j k2' hj)
        have s0 : wr.cell? ⟨g1, o1 + k * 5, none⟩ = some (.int .i64 x.k) := m1 0 (by omega)
        have s1 : wr.cell? ⟨g1, o1 + k * 5 + 1, none⟩ = some (.int .i64 x.p) := m1 1 (by omega)
        have s2 : wr.cell? ⟨g1, o1 + k * 5 + 2, none⟩ = some (.int .i64 x.q) := m1 2 (by omega)
        have s3 : wr.cell? ⟨g1, o1 + k * 5 + 3, none⟩ = some (.string x.s) := m1 3 (by omega)
        have s4 : wr.cell? ⟨g1, o1 + k * 5 + 4, none⟩ = some (.int .i64 x.r) := m1 4 (by omega)
        have q0 : wr.cell? ⟨g2, o2 + k * 5, none⟩ = some (.int .i64 y.k) := m2 0 (by omega)
        have q1 : wr.cell? ⟨g2, o2 + k * 5 + 1, none⟩ = some (.int .i64 y.p) := m2 1 (by omega)
        have q2 : wr.cell? ⟨g2, o2 + k * 5 + 2, none⟩ = some (.int .i64 y.q) := m2 2 (by omega)
        have q3 : wr.cell? ⟨g2, o2 + k * 5 + 3, none⟩ = some (.string y.s) := m2 3 (by omega)
        have q4 : wr.cell? ⟨g2, o2 + k * 5 + 4, none⟩ = some (.int .i64 y.r) := m2 4 (by omega)
        have EQ := fun W => neq_v5g x y W
        have HX : Hid (l1[k]? = some x ∧ l2[k]? = some y) := Lib.hid ⟨by rw [hx, List.getElem?_eq_getElem k1'], by rw [hy, List.getElem?_eq_getElem k2']⟩
        clear k1 k2 m1 m2 k1' k2' hx hy
        by_cases hxy : x = y
        · have hq : (!decide (x = y)) = false := by simp [hxy]
          rw [hq] at EQ
          clear hq
          have HXY := Lib.hid hxy
          clear hxy
          go_upto_region 6 with fail
          go_region
          go_wp2
          go_roundw
          case rel => exact ⟨k + 1, by omega, by go_num, Lib.hid (take_same HT.out HX.out.1 (by rw [HX.out.2, HXY.out])), Lib.hid (by first | exact HC.out.drewN _ | exact HC.out.drew | exact HC.out)⟩
          case measure => simp [intOf]; omega
        · have hq : (!decide (x = y)) = true := by simp [hxy]
          rw [hq] at EQ
          clear hq
          have HXY := Lib.hid hxy
          clear hxy
          have hne : decide (l1 = l2) = false := by
            rw [decide_eq_false_iff_not]; intro e; subst e
            have h1 := HX.out.1
            rw [HX.out.2] at h1
            injection h1 with h1
            exact HXY.out h1.symm
          have HNE := Lib.hid hne
          clear hne
          go_upto_region 6 with fail
          go_region
          go_wp2
          go_ret
          exact ⟨by rw [HR.out, HNE.out]; rfl, by first | exact HC.out.drewN _ | exact HC.out.drew | exact HC.out⟩
      · have hlt' : ¬ (k : Int) < (n : Int) := by omega
        have hne : decide (l1 = l2) = true := by
          rw [decide_eq_true_eq]
          have := HT.out
          rwa [List.take_of_length_le (by have := HNN.out; omega), List.take_of_length_le (by have := HNN.out; have := HN.out; omega)] at this
        have HNE := Lib.hid hne
        clear hne
        go_wp2
        go_ret
        exact ⟨by rw [HR.out, HNE.out]; rfl, HC.out⟩
  · have hne : decide (l1 = l2) = false := by
      rw [decide_eq_false_iff_not]; intro e; subst e; exact hn rfl
    have HNE := Lib.hid hne
    clear hne
    have hn1 : ¬ (l1.length : Int) = (l2.length : Int) := by omega
    have hn2 : ((l1.length : Int) != (l2.length : Int)) = true := by rw [bne_iff_ne]; exact hn1
    clear f1 f2 hn
    go_enter Try.func41, Try.ntmps41
    go_wp2
    go_ret
    exact ⟨by rw [HR.out, HNE.out]; rfl, Ch.refl _ _⟩
set_option maxHeartbeats 2000000 in
theorem list_any (a b : Value) (l1 l2 : List V5) (w : World) (h1 : ValsA w a l1) (h2 : ValsA w b l2) (hL : l1.length ≤ 1000000) (hL2 : l2.length ≤ 1000000) :
    Calls Try.prog 32 #[a, b] w fun e w' => e = .returned (.bool (decide (l1 = l2))) ∧ Ch [] w w' := by
  obtain ⟨p1, c1, rfl, f1⟩ := h1.form
  obtain ⟨p2, c2, rfl, f2⟩ := h2.form
  clear h1 h2
  obtain ⟨res, hres⟩ : ∃ res, res = decide (l1 = l2) := ⟨_, rfl⟩
  rw [← hres]
  have HR := Lib.hid hres
  clear hres
  by_cases hn : l1.length = l2.length
  · have HF1 := Lib.hid f1
    have HF2 := Lib.hid f2
    clear f1 f2
    have HN := Lib.hid hn
    have HL := Lib.hid hL
    rw [← hn]
    clear hn hL hL2
    obtain ⟨n, hn⟩ : ∃ n, n = l1.length := ⟨_, rfl⟩
    have HNN := Lib.hid hn
    rw [← hn]
    clear hn
    go_enter Try.func32, Try.ntmps32
    go_wp2
    go_loopw [5] (fun v13 wr => ∃ k : Nat, k ≤ n ∧ v13 = .int .i64 (k : Int) ∧ Hid (l1.take k = l2.take k) ∧ Hid (Ch [] w wr)) (fun v13 _ => n - (intOf v13).toNat)
    case atStart => exact ⟨0, Nat.zero_le _, rfl, Lib.hid rfl, Lib.hid (Ch.refl _ _)⟩
    case round =>
      obtain ⟨k, hk, rfl, HT, HC⟩ := hrel
      rename World => wr
      by_cases hlt : k < n
      · have hlt' : (k : Int) < (n : Int) := by omega
        have hk0 : (0 : Int) ≤ (k : Int) := by omega
        have di : IntKind.i64.wrap ((k : Int) + 1) = (k : Int) + 1 := IntWalk.i64_in _ (by have := HL.out; have := HNN.out; omega)
        have k1' : k < l1.length := by have := HNN.out; omega
        have k2' : k < l2.length := by have := HNN.out; have := HN.out; omega
        obtain ⟨g1, o1, rfl, hg1, k1⟩ := HF1.out (by omega)
        obtain ⟨g2, o2, rfl, hg2, k2⟩ := HF2.out (by omega)
        have hgw1 : g1 < wr.heap.size := Nat.lt_of_lt_of_le hg1 HC.out.size
        have hgw2 : g2 < wr.heap.size := Nat.lt_of_lt_of_le hg2 HC.out.size
        obtain ⟨x, hx⟩ : ∃ x, x = l1[k] := ⟨_, rfl⟩
        obtain ⟨y, hy⟩ : ∃ y, y = l2[k] := ⟨_, rfl⟩
        have m1 : ∀ j, j < 5 → wr.cell? ⟨g1, o1 + k * 5 + j, none⟩ = (vC x)[j]? := fun j hj => (HC.out.below.cell (p := ⟨g1, _, none⟩) hg1).trans (by rw [hx]; exact k1 k j k1' hj)
        have m2 : ∀ j, j < 5 → wr.cell? ⟨g2, o2 + k * 5 + j, none⟩ = (vC y)[j]? := fun j hj => (HC.out.below.cell (p := ⟨g2, _, none⟩) hg2).trans (by rw [hy]; exact k2 k j k2' hj)
        have s0 : wr.cell? ⟨g1, o1 + k * 5, none⟩ = some (.int .i64 x.k) := m1 0 (by omega)
        have s1 : wr.cell? ⟨g1, o1 + k * 5 + 1, none⟩ = some (.int .i64 x.p) := m1 1 (by omega)
        have s2 : wr.cell? ⟨g1, o1 + k * 5 + 2, none⟩ = some (.int .i64 x.q) := m1 2 (by omega)
        have s3 : wr.cell? ⟨g1, o1 + k * 5 + 3, none⟩ = some (.string x.s) := m1 3 (by omega)
        have s4 : wr.cell? ⟨g1, o1 + k * 5 + 4, none⟩ = some (.int .i64 x.r) := m1 4 (by omega)
        have q0 : wr.cell? ⟨g2, o2 + k * 5, none⟩ = some (.int .i64 y.k) := m2 0 (by omega)
        have q1 : wr.cell? ⟨g2, o2 + k * 5 + 1, none⟩ = some (.int .i64 y.p) := m2 1 (by omega)
        have q2 : wr.cell? ⟨g2, o2 + k * 5 + 2, none⟩ = some (.int .i64 y.q) := m2 2 (by omega)
        have q3 : wr.cell? ⟨g2, o2 + k * 5 + 3, none⟩ = some (.string y.s) := m2 3 (by omega)
        have q4 : wr.cell? ⟨g2, o2 + k * 5 + 4, none⟩ = some (.int .i64 y.r) := m2 4 (by omega)
        have EQ := fun W => neq_v5g x y W
        have HX : Hid (l1[k]? = some x ∧ l2[k]? = some y) := Lib.hid ⟨by rw [hx, List.getElem?_eq_getElem k1'], by rw [hy, List.getElem?_eq_getElem k2']⟩
        clear k1 k2 m1 m2 k1' k2' hx hy
        by_cases hxy : x = y
        · have hq : (!decide (x = y)) = false := by simp [hxy]
          rw [hq] at EQ
          clear hq
          have HXY := Lib.hid hxy
          clear hxy
          go_upto_region 6 with fail
          go_region
          go_wp2
          go_roundw
          case rel => exact ⟨k + 1, by omega, by go_num, Lib.hid (take_same HT.out HX.out.1 (by rw [HX.out.2, HXY.out])), Lib.hid (by first | exact HC.out.drewN _ | exact HC.out.drew | exact HC.out)⟩
          case measure => simp [intOf]; omega
        · have hq : (!decide (x = y)) = true := by simp [hxy]
          rw [hq] at EQ
          clear hq
          have HXY := Lib.hid hxy
          clear hxy
          have hne : decide (l1 = l2) = false := by
            rw [decide_eq_false_iff_not]; intro e; subst e
            have h1 := HX.out.1
            rw [HX.out.2] at h1
            injection h1 with h1
            exact HXY.out h1.symm
          have HNE := Lib.hid hne
          clear hne
          go_upto_region 6 with fail
          go_region
          go_wp2
          go_ret
          exact ⟨by rw [HR.out, HNE.out]; rfl, by first | exact HC.out.drewN _ | exact HC.out.drew | exact HC.out⟩
      · have hlt' : ¬ (k : Int) < (n : Int) := by omega
        have hne : decide (l1 = l2) = true := by
          rw [decide_eq_true_eq]
          have := HT.out
          rwa [List.take_of_length_le (by have := HNN.out; omega), List.take_of_length_le (by have := HNN.out; have := HN.out; omega)] at this
        have HNE := Lib.hid hne
        clear hne
        go_wp2
        go_ret
        exact ⟨by rw [HR.out, HNE.out]; rfl, HC.out⟩
  · have hne : decide (l1 = l2) = false := by
      rw [decide_eq_false_iff_not]; intro e; subst e; exact hn rfl
    have HNE := Lib.hid hne
    clear hne
    have hn1 : ¬ (l1.length : Int) = (l2.length : Int) := by omega
    have hn2 : ((l1.length : Int) != (l2.length : Int)) = true := by rw [bne_iff_ne]; exact hn1
    clear f1 f2 hn
    go_enter Try.func32, Try.ntmps32
    go_wp2
    go_ret
    exact ⟨by rw [HR.out, HNE.out]; rfl, Ch.refl _ _⟩
end Go.Proofs.Ytdgdpckjcpgoaaa
