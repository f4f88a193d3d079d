/- Layer 20: the walk of ProtocolValid, where a list is not taken. -/
import Derived.Test.YtdgdpckjcpgoaaaPrQ
import Derived.Test.YtdgdpckjcpgoaaaPrP
namespace Go.Proofs.Ytdgdpckjcpgoaaa
open Go.RowKit Go.Joins M1
set_option linter.unusedVariables false
set_option maxHeartbeats 8000000 in
theorem pv_a (x : V5) (v : Value) (l : List V5) (nx lv : Int) (w : World) (h : VA w v l) (hnx : (Lit.int .u8 nx).wf = true) (hlv : (Lit.int .u8 lv).wf = true) (hl : l.length = 0) :
    Calls Try.prog 8 #[.agg #[.int .i64 x.k, .int .i64 x.p, .int .i64 x.q, .string x.s, .int .i64 x.r], v, .int .u8 nx, .int .u8 lv] w fun e w' => e = .returned (.bool true) ∧ Below w.heap.size w w' := by
  have H := Lib.hid h
  obtain ⟨p1, c1, rfl, hpc, _⟩ := h
  have HPC := Lib.hid hpc
  obtain ⟨W0, hW⟩ : ∃ W0, W0 = (w.alloc (.cells #[.int .i64 x.k, .int .i64 x.p, .int .i64 x.q, .string x.s, .int .i64 x.r] 26)) := ⟨_, rfl⟩
  have HC : Hid (Ch [] w W0) := Lib.hid (by rw [hW]; exact (Ch.refl [] w).alloc _)
  have HX : Hid (Blk 26 w.heap.size #[.int .i64 x.k, .int .i64 x.p, .int .i64 x.q, .string x.s, .int .i64 x.r] W0) := Lib.hid (by rw [hW]; exact Blk.new w _ _ _ rfl)
  have HW := Lib.hid hW
  have HL0 : Hid (VA W0 (.slice p1 l.length c1) l) := Lib.hid (H.out.below HC.out)
  have QA := Lib.hid fun W => awake_any W
  clear hW hpc
  have u0 : W0.cell? ⟨w.heap.size, 0, none⟩ = some (.int .i64 x.k) := HX.out.cell 0
  have u1 : W0.cell? ⟨w.heap.size, 1, none⟩ = some (.int .i64 x.p) := HX.out.cell 1
  have u2 : W0.cell? ⟨w.heap.size, 2, none⟩ = some (.int .i64 x.q) := HX.out.cell 2
  have u3 : W0.cell? ⟨w.heap.size, 3, none⟩ = some (.string x.s) := HX.out.cell 3
  have u4 : W0.cell? ⟨w.heap.size, 4, none⟩ = some (.int .i64 x.r) := HX.out.cell 4
  have ul := HX.out.lt
  have hz : ((l.length : Int) == 0) = true := by simp [hl]
  clear hl hnx hlv
  go_enter Try.func8, Try.ntmps8
  go_upto_region 1 with fail
  rw [← HW.out]
  go_wp2_with (first | (go_at_call 10; (with_reducible refine (QA.out _).mono ?_); rintro e w9 ⟨rfl, hc9⟩; have HZ := Lib.hid (HC.out.trans hc9); clear hc9))
  go_ret
  exact ⟨rfl, HZ.out.below⟩
set_option maxHeartbeats 8000000 in
theorem pv_b (x : V5) (v : Value) (l : List V5) (nx lv : Int) (w : World) (h : VA w v l) (hnx : (Lit.int .u8 nx).wf = true) (hlv : (Lit.int .u8 lv).wf = true) (hl0 : l.length ≠ 0) (hl : 32 < l.length) :
    Calls Try.prog 8 #[.agg #[.int .i64 x.k, .int .i64 x.p, .int .i64 x.q, .string x.s, .int .i64 x.r], v, .int .u8 nx, .int .u8 lv] w fun e w' => e = .returned (.bool true) ∧ Below w.heap.size w w' := by
  have H := Lib.hid h
  obtain ⟨p1, c1, rfl, hpc, _⟩ := h
  have HPC := Lib.hid hpc
  obtain ⟨W0, hW⟩ : ∃ W0, W0 = (w.alloc (.cells #[.int .i64 x.k, .int .i64 x.p, .int .i64 x.q, .string x.s, .int .i64 x.r] 26)) := ⟨_, rfl⟩
  have HC : Hid (Ch [] w W0) := Lib.hid (by rw [hW]; exact (Ch.refl [] w).alloc _)
  have HX : Hid (Blk 26 w.heap.size #[.int .i64 x.k, .int .i64 x.p, .int .i64 x.q, .string x.s, .int .i64 x.r] W0) := Lib.hid (by rw [hW]; exact Blk.new w _ _ _ rfl)
  have HW := Lib.hid hW
  have HL0 : Hid (VA W0 (.slice p1 l.length c1) l) := Lib.hid (H.out.below HC.out)
  have QA := Lib.hid fun W => awake_any W
  clear hW hpc
  have u0 : W0.cell? ⟨w.heap.size, 0, none⟩ = some (.int .i64 x.k) := HX.out.cell 0
  have u1 : W0.cell? ⟨w.heap.size, 1, none⟩ = some (.int .i64 x.p) := HX.out.cell 1
  have u2 : W0.cell? ⟨w.heap.size, 2, none⟩ = some (.int .i64 x.q) := HX.out.cell 2
  have u3 : W0.cell? ⟨w.heap.size, 3, none⟩ = some (.string x.s) := HX.out.cell 3
  have u4 : W0.cell? ⟨w.heap.size, 4, none⟩ = some (.int .i64 x.r) := HX.out.cell 4
  have ul := HX.out.lt
  have hz : ((l.length : Int) == 0) = false := by simpa using hl0
  have hg : decide (32 < (l.length : Int)) = true := decide_eq_true (by omega)
  have hg' : 32 < (l.length : Int) := by omega
  clear hl hl0 hnx hlv
  go_enter Try.func8, Try.ntmps8
  go_upto_region 1 with fail
  rw [← HW.out]
  go_wp2_with (first | (go_at_call 10; (with_reducible refine (QA.out _).mono ?_); rintro e w9 ⟨rfl, hc9⟩; have HZ := Lib.hid (HC.out.trans hc9); clear hc9))
  go_ret
  exact ⟨rfl, HZ.out.below⟩
set_option maxHeartbeats 8000000 in
theorem pv_c (x : V5) (v : Value) (l : List V5) (nx lv : Int) (w : World) (h : VA w v l) (hnx : (Lit.int .u8 nx).wf = true) (hlv : (Lit.int .u8 lv).wf = true) (hl0 : l.length ≠ 0) (hl : ¬ 32 < l.length) (hc : checkE (retA l) ≠ 0) :
    Calls Try.prog 8 #[.agg #[.int .i64 x.k, .int .i64 x.p, .int .i64 x.q, .string x.s, .int .i64 x.r], v, .int .u8 nx, .int .u8 lv] w fun e w' => e = .returned (.bool true) ∧ Below w.heap.size w w' := by
  have H := Lib.hid h
  obtain ⟨p1, c1, rfl, hpc, _⟩ := h
  have HPC := Lib.hid hpc
  obtain ⟨W0, hW⟩ : ∃ W0, W0 = (w.alloc (.cells #[.int .i64 x.k, .int .i64 x.p, .int .i64 x.q, .string x.s, .int .i64 x.r] 26)) := ⟨_, rfl⟩
  have HC : Hid (Ch [] w W0) := Lib.hid (by rw [hW]; exact (Ch.refl [] w).alloc _)
  have HX : Hid (Blk 26 w.heap.size #[.int .i64 x.k, .int .i64 x.p, .int .i64 x.q, .string x.s, .int .i64 x.r] W0) := Lib.hid (by rw [hW]; exact Blk.new w _ _ _ rfl)
  have HW := Lib.hid hW
  have HL0 : Hid (VA W0 (.slice p1 l.length c1) l) := Lib.hid (H.out.below HC.out)
  have QA := Lib.hid fun W => awake_any W
  clear hW hpc
  have u0 : W0.cell? ⟨w.heap.size, 0, none⟩ = some (.int .i64 x.k) := HX.out.cell 0
  have u1 : W0.cell? ⟨w.heap.size, 1, none⟩ = some (.int .i64 x.p) := HX.out.cell 1
  have u2 : W0.cell? ⟨w.heap.size, 2, none⟩ = some (.int .i64 x.q) := HX.out.cell 2
  have u3 : W0.cell? ⟨w.heap.size, 3, none⟩ = some (.string x.s) := HX.out.cell 3
  have u4 : W0.cell? ⟨w.heap.size, 4, none⟩ = some (.int .i64 x.r) := HX.out.cell 4
  have ul := HX.out.lt
  have hz : ((l.length : Int) == 0) = false := by simpa using hl0
  have hg : decide (32 < (l.length : Int)) = false := decide_eq_false (by omega)
  have hg' : ¬ 32 < (l.length : Int) := by omega
  have hm : l.length ≤ 1000000 := by omega
  obtain ⟨E, hE⟩ : ∃ E, E = checkE (retA l) := ⟨_, rfl⟩
  have he : E ≠ 0 := by rw [hE]; exact hc
  have he' : (E == 0) = false := by simpa using he
  have he2 : (E != 0) = true := by simpa using he
  have QR1 : Hid (∀ W v, VA W v l → Calls Try.prog 13 #[v] W fun e w' => ∃ vl1, e = .returned (.agg #[.int .i64 1, .int .i64 0, .int .i64 0, .int .i64 0, .int .i64 0, .string ⟨#[]⟩, .int .i64 0, vl1, .string ⟨#[]⟩, .int .i64 0, .int .i64 0, .slice none 0 0]) ∧ VA w' vl1 l ∧ Ch [] W w') := Lib.hid fun W v hv => (rreturn_any v l W hv hm).mono (by
    rintro e w' ⟨vl, rfl, hr, hc⟩
    exact ⟨vl, rfl, hr.va, hc⟩)
  have QC1 : Hid (∀ W vl1, VA W vl1 l → Calls Try.prog 25 #[.agg #[.int .i64 1, .int .i64 0, .int .i64 0, .int .i64 0, .int .i64 0, .string ⟨#[]⟩, .int .i64 0, vl1, .string ⟨#[]⟩, .int .i64 0, .int .i64 0, .slice none 0 0]] W fun e w' => e = .returned (.int .i64 E) ∧ Ch [] W w') := Lib.hid fun W vl hv => by
    have := rcheck_any _ (retA l) W ⟨vl, .slice none 0 0, rfl, hv, VA.nil W⟩ hm (by simp [retA])
    rw [← hE] at this
    exact this
  clear hl hl0 hnx hlv hm hc hE
  go_enter Try.func8, Try.ntmps8
  go_upto_region 1 with fail
  rw [← HW.out]
  go_wp2_with (first | (go_at_call 13; (with_reducible refine (QR1.out _ _ HL0.out).mono ?_); rintro e w1 ⟨vl1, rfl, hv1, hc1⟩; have HV1 := Lib.hid hv1; have HC1 := Lib.hid (HC.out.trans hc1); have HC1b := Lib.hid hc1; clear hv1 hc1) | (go_at_call 25; (with_reducible refine (QC1.out _ _ HV1.out).mono ?_); rintro e w2 ⟨rfl, hc2⟩; have HC2 := Lib.hid (HC1.out.trans hc2); have HC2b := Lib.hid (HC1b.out.trans hc2); have HX2 := Lib.hid (HX.out.below HC2b.out.below); have t0 : w2.cell? ⟨w.heap.size, 0, none⟩ = some (.int .i64 x.k) := HX2.out.cell 0; have t1 : w2.cell? ⟨w.heap.size, 1, none⟩ = some (.int .i64 x.p) := HX2.out.cell 1; have t2 : w2.cell? ⟨w.heap.size, 2, none⟩ = some (.int .i64 x.q) := HX2.out.cell 2; have t3 : w2.cell? ⟨w.heap.size, 3, none⟩ = some (.string x.s) := HX2.out.cell 3; have t4 : w2.cell? ⟨w.heap.size, 4, none⟩ = some (.int .i64 x.r) := HX2.out.cell 4; have tl := HX2.out.lt; clear hc2) | (go_at_call 10; (with_reducible refine (QA.out _).mono ?_); rintro e w9 ⟨rfl, hc9⟩; have HZ := Lib.hid (HC2.out.trans hc9); clear hc9))
  go_ret
  exact ⟨rfl, HZ.out.below⟩
set_option maxHeartbeats 8000000 in
theorem pv_d (x : V5) (v : Value) (l : List V5) (nx lv : Int) (w : World) (h : VA w v l) (hnx : (Lit.int .u8 nx).wf = true) (hlv : (Lit.int .u8 lv).wf = true) (hl0 : l.length ≠ 0) (hl : ¬ 32 < l.length) (hc : checkE (retA l) = 0) (hd : checkE (retA [x]) ≠ 0) :
    Calls Try.prog 8 #[.agg #[.int .i64 x.k, .int .i64 x.p, .int .i64 x.q, .string x.s, .int .i64 x.r], v, .int .u8 nx, .int .u8 lv] w fun e w' => e = .returned (.bool true) ∧ Below w.heap.size w w' := by
  have H := Lib.hid h
  obtain ⟨p1, c1, rfl, hpc, _⟩ := h
  have HPC := Lib.hid hpc
  obtain ⟨W0, hW⟩ : ∃ W0, W0 = (w.alloc (.cells #[.int .i64 x.k, .int .i64 x.p, .int .i64 x.q, .string x.s, .int .i64 x.r] 26)) := ⟨_, rfl⟩
  have HC : Hid (Ch [] w W0) := Lib.hid (by rw [hW]; exact (Ch.refl [] w).alloc _)
  have HX : Hid (Blk 26 w.heap.size #[.int .i64 x.k, .int .i64 x.p, .int .i64 x.q, .string x.s, .int .i64 x.r] W0) := Lib.hid (by rw [hW]; exact Blk.new w _ _ _ rfl)
  have HW := Lib.hid hW
  have HL0 : Hid (VA W0 (.slice p1 l.length c1) l) := Lib.hid (H.out.below HC.out)
  have QA := Lib.hid fun W => awake_any W
  clear hW hpc
  have u0 : W0.cell? ⟨w.heap.size, 0, none⟩ = some (.int .i64 x.k) := HX.out.cell 0
  have u1 : W0.cell? ⟨w.heap.size, 1, none⟩ = some (.int .i64 x.p) := HX.out.cell 1
  have u2 : W0.cell? ⟨w.heap.size, 2, none⟩ = some (.int .i64 x.q) := HX.out.cell 2
  have u3 : W0.cell? ⟨w.heap.size, 3, none⟩ = some (.string x.s) := HX.out.cell 3
  have u4 : W0.cell? ⟨w.heap.size, 4, none⟩ = some (.int .i64 x.r) := HX.out.cell 4
  have ul := HX.out.lt
  have hz : ((l.length : Int) == 0) = false := by simpa using hl0
  have hg : decide (32 < (l.length : Int)) = false := decide_eq_false (by omega)
  have hg' : ¬ 32 < (l.length : Int) := by omega
  have hm : l.length ≤ 1000000 := by omega
  obtain ⟨E, hE⟩ : ∃ E, E = checkE (retA l) := ⟨_, rfl⟩
  have he : E = 0 := by rw [hE]; exact hc
  rw [he] at hE
  obtain ⟨D, hD⟩ : ∃ D, D = checkE (retA [x]) := ⟨_, rfl⟩
  have he' : D ≠ 0 := by rw [hD]; exact hd
  have he2 : (D == 0) = false := by simpa using he'
  have he3 : (D != 0) = true := by simpa using he'
  have QR1 : Hid (∀ W v, VA W v l → Calls Try.prog 13 #[v] W fun e w' => ∃ vl1, e = .returned (.agg #[.int .i64 1, .int .i64 0, .int .i64 0, .int .i64 0, .int .i64 0, .string ⟨#[]⟩, .int .i64 0, vl1, .string ⟨#[]⟩, .int .i64 0, .int .i64 0, .slice none 0 0]) ∧ VA w' vl1 l ∧ Ch [] W w') := Lib.hid fun W v hv => (rreturn_any v l W hv hm).mono (by
    rintro e w' ⟨vl, rfl, hr, hc⟩
    exact ⟨vl, rfl, hr.va, hc⟩)
  have QC1 : Hid (∀ W vl1, VA W vl1 l → Calls Try.prog 25 #[.agg #[.int .i64 1, .int .i64 0, .int .i64 0, .int .i64 0, .int .i64 0, .string ⟨#[]⟩, .int .i64 0, vl1, .string ⟨#[]⟩, .int .i64 0, .int .i64 0, .slice none 0 0]] W fun e w' => e = .returned (.int .i64 0) ∧ Ch [] W w') := Lib.hid fun W vl hv => by
    have := rcheck_any _ (retA l) W ⟨vl, .slice none 0 0, rfl, hv, VA.nil W⟩ hm (by simp [retA])
    rw [← hE] at this
    exact this
  have QR2 : Hid (∀ W v, VA W v [x] → Calls Try.prog 13 #[v] W fun e w' => ∃ vl2, e = .returned (.agg #[.int .i64 1, .int .i64 0, .int .i64 0, .int .i64 0, .int .i64 0, .string ⟨#[]⟩, .int .i64 0, vl2, .string ⟨#[]⟩, .int .i64 0, .int .i64 0, .slice none 0 0]) ∧ VA w' vl2 [x] ∧ Ch [] W w') := Lib.hid fun W v hv => (rreturn_any v [x] W hv (by simp)).mono (by
    rintro e w' ⟨vl, rfl, hr, hc⟩
    exact ⟨vl, rfl, hr.va, hc⟩)
  have QC2 : Hid (∀ W vl2, VA W vl2 [x] → Calls Try.prog 25 #[.agg #[.int .i64 1, .int .i64 0, .int .i64 0, .int .i64 0, .int .i64 0, .string ⟨#[]⟩, .int .i64 0, vl2, .string ⟨#[]⟩, .int .i64 0, .int .i64 0, .slice none 0 0]] W fun e w' => e = .returned (.int .i64 D) ∧ Ch [] W w') := Lib.hid fun W vl hv => by
    have := rcheck_any _ (retA [x]) W ⟨vl, .slice none 0 0, rfl, hv, VA.nil W⟩ (by simp [retA]) (by simp [retA])
    rw [← hD] at this
    exact this
  clear hl hl0 hnx hlv hm hc hE hd hD he
  go_enter Try.func8, Try.ntmps8
  go_upto_region 1 with fail
  rw [← HW.out]
  go_wp2_with (first | (go_at_call 13; (with_reducible refine (QR1.out _ _ HL0.out).mono ?_); rintro e w1 ⟨vl1, rfl, hv1, hc1⟩; have HV1 := Lib.hid hv1; have HC1 := Lib.hid (HC.out.trans hc1); have HC1b := Lib.hid hc1; clear hv1 hc1) | (go_at_call 25; (with_reducible refine (QC1.out _ _ HV1.out).mono ?_); rintro e w2 ⟨rfl, hc2⟩; have HC2 := Lib.hid (HC1.out.trans hc2); have HC2b := Lib.hid (HC1b.out.trans hc2); have HX2 := Lib.hid (HX.out.below HC2b.out.below); have t0 : w2.cell? ⟨w.heap.size, 0, none⟩ = some (.int .i64 x.k) := HX2.out.cell 0; have t1 : w2.cell? ⟨w.heap.size, 1, none⟩ = some (.int .i64 x.p) := HX2.out.cell 1; have t2 : w2.cell? ⟨w.heap.size, 2, none⟩ = some (.int .i64 x.q) := HX2.out.cell 2; have t3 : w2.cell? ⟨w.heap.size, 3, none⟩ = some (.string x.s) := HX2.out.cell 3; have t4 : w2.cell? ⟨w.heap.size, 4, none⟩ = some (.int .i64 x.r) := HX2.out.cell 4; have tl := HX2.out.lt; clear hc2) | (go_at_call 13; (with_reducible refine (QR2.out _ _ (VA.one x w2)).mono ?_); rintro e w3 ⟨vl2, rfl, hv3, hc3⟩; have HV2 := Lib.hid hv3; have HC3 := Lib.hid (HC2.out.trans (((Ch.refl [] w2).alloc _).trans hc3)); clear hv3 hc3) | (go_at_call 25; (with_reducible refine (QC2.out _ _ HV2.out).mono ?_); rintro e w4 ⟨rfl, hc4⟩; have HC4 := Lib.hid (HC3.out.trans hc4); clear hc4) | (go_at_call 10; (with_reducible refine (QA.out _).mono ?_); rintro e w9 ⟨rfl, hc9⟩; have HZ := Lib.hid (HC4.out.trans hc9); clear hc9))
  go_ret
  exact ⟨rfl, HZ.out.below⟩
end Go.Proofs.Ytdgdpckjcpgoaaa
