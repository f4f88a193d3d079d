/- Contracts of layer 4: Check, At, Find. -/
import Derived.Test.YtkbcaklleiapdaaDoorPatAd
namespace Go.Proofs.YtkbcaklleiapdaaDoor
open Go.RowKit M4
set_option linter.unusedVariables false
def ecode (r : Except Nat Pg) : Nat := match r with
  | .ok _ => 0
  | .error c => c
set_option maxHeartbeats 4000000 in
theorem check_any (p : ByteArray) (w : World) (hp : p.size ≤ 1000000) :
    Calls Tryd.prog 11 #[.string p] w fun e w' => e = .returned (.int .i64 (ecode (readF p.data.toList) : Int)) ∧ Below w.heap.size w w' := by
  have R0 := read_any p w hp
  unfold ReadSaid at R0
  cases hr : readF p.data.toList with
  | ok g =>
    rw [hr] at R0
    have HR := Lib.hid R0
    clear R0 hr
    show Calls _ _ _ _ fun e w' => e = .returned (.int .i64 0) ∧ _
    go_enter Tryd.func11, Tryd.ntmps11
    go_wp2_with (go_at_call 23; (with_reducible refine HR.out.mono ?_); rintro e w2 ⟨⟨iv, vs, rfl, hi⟩, hb⟩; have HB := Lib.hid hb; obtain ⟨p1, c1, hiv⟩ := own_form hi.own; subst hiv; clear hi hb)
    go_ret
    exact ⟨rfl, HB.out.alloc HB.out.size _⟩
  | error c =>
    rw [hr] at R0
    have HR := Lib.hid R0
    clear R0 hr
    show Calls _ _ _ _ fun e w' => e = .returned (.int .i64 (c : Int)) ∧ _
    go_enter Tryd.func11, Tryd.ntmps11
    go_wp2_with (go_at_call 23; (with_reducible refine HR.out.mono ?_); rintro e w2 ⟨rfl, hb⟩; have HB := Lib.hid hb; clear hb)
    go_ret
    exact ⟨rfl, HB.out.alloc HB.out.size _⟩
set_option maxHeartbeats 4000000 in
theorem atf_err (s p : ByteArray) (x : Int) (w : World) (hp : p.size ≤ 1000000) (c : Nat) (hc : 0 < c) (hr : readF p.data.toList = .error c) :
    Calls Tryd.prog 17 #[.string s, .string p, .int .i64 x] w fun e w' => e = .returned (.tuple #[.agg mt0, .bool false, .int .i64 (c : Int)]) ∧ Below w.heap.size w w' := by
  have BGG := fun w0 => begin_err s p w0 hp c hc hr
  have y1 : ((c : Int) != 0) = true := by rw [bne_iff_ne]; omega
  have y2 : (c : Int) ≠ 0 := by omega
  clear hr
  have hR1 : Mtb w.heap.size mt0 (w.alloc (.cells #[.int .i64 0, .int .i64 0, .slice none 0 0] 29)) := mtb_new w mt0 _ rfl
  have hc1 : Ch [] w (w.alloc (.cells #[.int .i64 0, .int .i64 0, .slice none 0 0] 29)) := (Ch.refl _ w).alloc _
  have hz1 : (w.alloc (.cells #[.int .i64 0, .int .i64 0, .slice none 0 0] 29)).heap.size = w.heap.size + 1 := by simp
  have BG := fun (w0 : World) => BGG w0
  obtain ⟨w1, hw1⟩ : ∃ w1, (w.alloc (.cells #[.int .i64 0, .int .i64 0, .slice none 0 0] 29)) = w1 := ⟨_, rfl⟩
  rw [hw1] at hR1 hc1 hz1
  obtain ⟨R, hRe⟩ : ∃ R, w.heap.size = R := ⟨_, rfl⟩
  rw [hRe] at hR1 hz1
  have HR1 := Lib.hid hR1
  have HC1 := Lib.hid hc1
  have HBG := Lib.hid (BG w1)
  clear BG BGG
  go_enter Tryd.func17, Tryd.ntmps17
  go_upto_region 1 with fail
  (try simp only [hw1, hRe])
  have HRE := Lib.hid hRe
  clear hw1 hRe hR1 hc1
  go_wp2_with (go_at_call 39; (with_reducible refine HBG.out.mono ?_); rintro e w2 ⟨rfl, hb⟩; have hR2 := HR1.out.ch (Ch.of_below (S := []) hb) (by simp); have HB := Lib.hid hb; clear hb; have r0 := hR2.cell 0; have r1 := hR2.cell 1; have r2 := hR2.cell 2; simp [mt0] at r0 r1 r2; have f0 := hR2.fz 0; have f1 := hR2.fz 1; have f2 := hR2.fz 2; have HR2 := Lib.hid hR2; clear hR2)
  show bodyPost _ _ _ Exit.ret _ (st3 w2 R (.int .i64 0) (.int .i64 0) (.slice none 0 0))
  have hI : Mtb R #[.int .i64 0, .int .i64 0, .slice none 0 0] (st3 w2 R (.int .i64 0) (.int .i64 0) (.slice none 0 0)) := st3_mt HR2.out
  have hS : Ch [R] w2 (st3 w2 R (.int .i64 0) (.int .i64 0) (.slice none 0 0)) := st3_ch
  have hc9 : Ch [] w (st3 w2 R (.int .i64 0) (.int .i64 0) (.slice none 0 0)) := Ch.new (HC1.out.trans (Ch.of_below HB.out)) (Nat.le_of_eq HRE.out) (hS.mono (by simp))
  have d0 := hI.cell 0
  have d1 := hI.cell 1
  have d2 := hI.cell 2
  simp at d0 d1 d2
  generalize (st3 w2 R (.int .i64 0) (.int .i64 0) (.slice none 0 0)) = W9 at *
  refine bodyPost_ret (v := .tuple #[.agg #[.int .i64 0, .int .i64 0, .slice none 0 0], .bool false, .int .i64 (c : Int)]) ?_ rfl ⟨rfl, hc9.below⟩
  · simp [results, Tryd.results17, go_sem, d0, d1, d2]

set_option maxHeartbeats 4000000 in
theorem atf_range (s p : ByteArray) (x : Int) (w : World) (hp : p.size ≤ 1000000) (hs : s.size ≤ 1000000) (g : Pg) (hr : readF p.data.toList = .ok g) (hx : x < 0 ∨ (s.size : Int) < x) :
    Calls Tryd.prog 17 #[.string s, .string p, .int .i64 x] w fun e w' => e = .returned (.tuple #[.agg mt0, .bool false, .int .i64 6]) ∧ Below w.heap.size w w' := by
  have BGG := fun w0 => begin_ok s p w0 hp g hr
  clear hr
  by_cases h0 : x < 0
  · clear hx
    have hR1 : Mtb w.heap.size mt0 (w.alloc (.cells #[.int .i64 0, .int .i64 0, .slice none 0 0] 29)) := mtb_new w mt0 _ rfl
    have hc1 : Ch [] w (w.alloc (.cells #[.int .i64 0, .int .i64 0, .slice none 0 0] 29)) := (Ch.refl _ w).alloc _
    have hz1 : (w.alloc (.cells #[.int .i64 0, .int .i64 0, .slice none 0 0] 29)).heap.size = w.heap.size + 1 := by simp
    have BG := fun (w0 : World) => BGG w0
    obtain ⟨w1, hw1⟩ : ∃ w1, (w.alloc (.cells #[.int .i64 0, .int .i64 0, .slice none 0 0] 29)) = w1 := ⟨_, rfl⟩
    rw [hw1] at hR1 hc1 hz1
    obtain ⟨R, hRe⟩ : ∃ R, w.heap.size = R := ⟨_, rfl⟩
    rw [hRe] at hR1 hz1
    have HR1 := Lib.hid hR1
    have HC1 := Lib.hid hc1
    have HBG := Lib.hid (BG w1)
    clear BG BGG
    go_enter Tryd.func17, Tryd.ntmps17
    go_upto_region 1 with fail
    (try simp only [hw1, hRe])
    have HRE := Lib.hid hRe
    clear hw1 hRe hR1 hc1
    go_wp2_with (go_at_call 39; (with_reducible refine HBG.out.mono ?_); rintro e w2 ⟨⟨E, hes, heg, rfl, hM, hb1, hb2⟩, hb⟩; subst hes; subst heg; have HM2 := Lib.hid hM; have hR2 := HR1.out.ch (Ch.of_below (S := []) hb) (by simp); have HB := Lib.hid hb; clear hb hM; have r0 := hR2.cell 0; have r1 := hR2.cell 1; have r2 := hR2.cell 2; simp [mt0] at r0 r1 r2; have f0 := hR2.fz 0; have f1 := hR2.fz 1; have f2 := hR2.fz 2; have HR2 := Lib.hid hR2; clear hR2)
    show bodyPost _ _ _ Exit.ret _ (st3 w2 R (.int .i64 0) (.int .i64 0) (.slice none 0 0))
    have hI : Mtb R #[.int .i64 0, .int .i64 0, .slice none 0 0] (st3 w2 R (.int .i64 0) (.int .i64 0) (.slice none 0 0)) := st3_mt HR2.out
    have hS : Ch [R] w2 (st3 w2 R (.int .i64 0) (.int .i64 0) (.slice none 0 0)) := st3_ch
    have hc9 : Ch [] w (st3 w2 R (.int .i64 0) (.int .i64 0) (.slice none 0 0)) := Ch.new (HC1.out.trans (Ch.of_below HB.out)) (Nat.le_of_eq HRE.out) (hS.mono (by simp))
    have d0 := hI.cell 0
    have d1 := hI.cell 1
    have d2 := hI.cell 2
    simp at d0 d1 d2
    generalize (st3 w2 R (.int .i64 0) (.int .i64 0) (.slice none 0 0)) = W9 at *
    refine bodyPost_ret (v := .tuple #[.agg #[.int .i64 0, .int .i64 0, .slice none 0 0], .bool false, .int .i64 6]) ?_ rfl ⟨rfl, hc9.below⟩
    · simp [results, Tryd.results17, go_sem, d0, d1, d2]
  · have h1 : (s.size : Int) < x := by omega
    clear hx
    have hR1 : Mtb w.heap.size mt0 (w.alloc (.cells #[.int .i64 0, .int .i64 0, .slice none 0 0] 29)) := mtb_new w mt0 _ rfl
    have hc1 : Ch [] w (w.alloc (.cells #[.int .i64 0, .int .i64 0, .slice none 0 0] 29)) := (Ch.refl _ w).alloc _
    have hz1 : (w.alloc (.cells #[.int .i64 0, .int .i64 0, .slice none 0 0] 29)).heap.size = w.heap.size + 1 := by simp
    have BG := fun (w0 : World) => BGG w0
    obtain ⟨w1, hw1⟩ : ∃ w1, (w.alloc (.cells #[.int .i64 0, .int .i64 0, .slice none 0 0] 29)) = w1 := ⟨_, rfl⟩
    rw [hw1] at hR1 hc1 hz1
    obtain ⟨R, hRe⟩ : ∃ R, w.heap.size = R := ⟨_, rfl⟩
    rw [hRe] at hR1 hz1
    have HR1 := Lib.hid hR1
    have HC1 := Lib.hid hc1
    have HBG := Lib.hid (BG w1)
    clear BG BGG
    go_enter Tryd.func17, Tryd.ntmps17
    go_upto_region 1 with fail
    (try simp only [hw1, hRe])
    have HRE := Lib.hid hRe
    clear hw1 hRe hR1 hc1
    go_wp2_with (go_at_call 39; (with_reducible refine HBG.out.mono ?_); rintro e w2 ⟨⟨E, hes, heg, rfl, hM, hb1, hb2⟩, hb⟩; subst hes; subst heg; have HM2 := Lib.hid hM; have hR2 := HR1.out.ch (Ch.of_below (S := []) hb) (by simp); have HB := Lib.hid hb; clear hb hM; have r0 := hR2.cell 0; have r1 := hR2.cell 1; have r2 := hR2.cell 2; simp [mt0] at r0 r1 r2; have f0 := hR2.fz 0; have f1 := hR2.fz 1; have f2 := hR2.fz 2; have HR2 := Lib.hid hR2; clear hR2)
    show bodyPost _ _ _ Exit.ret _ (st3 w2 R (.int .i64 0) (.int .i64 0) (.slice none 0 0))
    have hI : Mtb R #[.int .i64 0, .int .i64 0, .slice none 0 0] (st3 w2 R (.int .i64 0) (.int .i64 0) (.slice none 0 0)) := st3_mt HR2.out
    have hS : Ch [R] w2 (st3 w2 R (.int .i64 0) (.int .i64 0) (.slice none 0 0)) := st3_ch
    have hc9 : Ch [] w (st3 w2 R (.int .i64 0) (.int .i64 0) (.slice none 0 0)) := Ch.new (HC1.out.trans (Ch.of_below HB.out)) (Nat.le_of_eq HRE.out) (hS.mono (by simp))
    have d0 := hI.cell 0
    have d1 := hI.cell 1
    have d2 := hI.cell 2
    simp at d0 d1 d2
    generalize (st3 w2 R (.int .i64 0) (.int .i64 0) (.slice none 0 0)) = W9 at *
    refine bodyPost_ret (v := .tuple #[.agg #[.int .i64 0, .int .i64 0, .slice none 0 0], .bool false, .int .i64 6]) ?_ rfl ⟨rfl, hc9.below⟩
    · simp [results, Tryd.results17, go_sem, d0, d1, d2]
set_option maxHeartbeats 4000000 in
theorem find_err (s p : ByteArray) (x : Int) (w : World) (hp : p.size ≤ 1000000) (c : Nat) (hc : 0 < c) (hr : readF p.data.toList = .error c) :
    Calls Tryd.prog 20 #[.string s, .string p, .int .i64 x] w fun e w' => e = .returned (.tuple #[.agg mt0, .bool false, .int .i64 (c : Int)]) ∧ Below w.heap.size w w' := by
  have BGG := fun w0 => begin_err s p w0 hp c hc hr
  have y1 : ((c : Int) != 0) = true := by rw [bne_iff_ne]; omega
  have y2 : (c : Int) ≠ 0 := by omega
  clear hr
  have hR1 : Mtb w.heap.size mt0 (w.alloc (.cells #[.int .i64 0, .int .i64 0, .slice none 0 0] 29)) := mtb_new w mt0 _ rfl
  have hc1 : Ch [] w (w.alloc (.cells #[.int .i64 0, .int .i64 0, .slice none 0 0] 29)) := (Ch.refl _ w).alloc _
  have hz1 : (w.alloc (.cells #[.int .i64 0, .int .i64 0, .slice none 0 0] 29)).heap.size = w.heap.size + 1 := by simp
  have BG := fun (w0 : World) => BGG w0
  obtain ⟨w1, hw1⟩ : ∃ w1, (w.alloc (.cells #[.int .i64 0, .int .i64 0, .slice none 0 0] 29)) = w1 := ⟨_, rfl⟩
  rw [hw1] at hR1 hc1 hz1
  obtain ⟨R, hRe⟩ : ∃ R, w.heap.size = R := ⟨_, rfl⟩
  rw [hRe] at hR1 hz1
  have HR1 := Lib.hid hR1
  have HC1 := Lib.hid hc1
  have HBG := Lib.hid (BG w1)
  clear BG BGG
  go_enter Tryd.func20, Tryd.ntmps20
  go_upto_region 1 with fail
  (try simp only [hw1, hRe])
  have HRE := Lib.hid hRe
  clear hw1 hRe hR1 hc1
  go_wp2_with (go_at_call 39; (with_reducible refine HBG.out.mono ?_); rintro e w2 ⟨rfl, hb⟩; have hR2 := HR1.out.ch (Ch.of_below (S := []) hb) (by simp); have HB := Lib.hid hb; clear hb; have r0 := hR2.cell 0; have r1 := hR2.cell 1; have r2 := hR2.cell 2; simp [mt0] at r0 r1 r2; have f0 := hR2.fz 0; have f1 := hR2.fz 1; have f2 := hR2.fz 2; have HR2 := Lib.hid hR2; clear hR2)
  show bodyPost _ _ _ Exit.ret _ (st3 w2 R (.int .i64 0) (.int .i64 0) (.slice none 0 0))
  have hI : Mtb R #[.int .i64 0, .int .i64 0, .slice none 0 0] (st3 w2 R (.int .i64 0) (.int .i64 0) (.slice none 0 0)) := st3_mt HR2.out
  have hS : Ch [R] w2 (st3 w2 R (.int .i64 0) (.int .i64 0) (.slice none 0 0)) := st3_ch
  have hc9 : Ch [] w (st3 w2 R (.int .i64 0) (.int .i64 0) (.slice none 0 0)) := Ch.new (HC1.out.trans (Ch.of_below HB.out)) (Nat.le_of_eq HRE.out) (hS.mono (by simp))
  have d0 := hI.cell 0
  have d1 := hI.cell 1
  have d2 := hI.cell 2
  simp at d0 d1 d2
  generalize (st3 w2 R (.int .i64 0) (.int .i64 0) (.slice none 0 0)) = W9 at *
  refine bodyPost_ret (v := .tuple #[.agg #[.int .i64 0, .int .i64 0, .slice none 0 0], .bool false, .int .i64 (c : Int)]) ?_ rfl ⟨rfl, hc9.below⟩
  · simp [results, Tryd.results20, go_sem, d0, d1, d2]

set_option maxHeartbeats 4000000 in
theorem find_range (s p : ByteArray) (x : Int) (w : World) (hp : p.size ≤ 1000000) (hs : s.size ≤ 1000000) (g : Pg) (hr : readF p.data.toList = .ok g) (hx : x < 0 ∨ (s.size : Int) < x) :
    Calls Tryd.prog 20 #[.string s, .string p, .int .i64 x] w fun e w' => e = .returned (.tuple #[.agg mt0, .bool false, .int .i64 6]) ∧ Below w.heap.size w w' := by
  have BGG := fun w0 => begin_ok s p w0 hp g hr
  clear hr
  by_cases h0 : x < 0
  · clear hx
    have hR1 : Mtb w.heap.size mt0 (w.alloc (.cells #[.int .i64 0, .int .i64 0, .slice none 0 0] 29)) := mtb_new w mt0 _ rfl
    have hc1 : Ch [] w (w.alloc (.cells #[.int .i64 0, .int .i64 0, .slice none 0 0] 29)) := (Ch.refl _ w).alloc _
    have hz1 : (w.alloc (.cells #[.int .i64 0, .int .i64 0, .slice none 0 0] 29)).heap.size = w.heap.size + 1 := by simp
    have BG := fun (w0 : World) => BGG w0
    obtain ⟨w1, hw1⟩ : ∃ w1, (w.alloc (.cells #[.int .i64 0, .int .i64 0, .slice none 0 0] 29)) = w1 := ⟨_, rfl⟩
    rw [hw1] at hR1 hc1 hz1
    obtain ⟨R, hRe⟩ : ∃ R, w.heap.size = R := ⟨_, rfl⟩
    rw [hRe] at hR1 hz1
    have HR1 := Lib.hid hR1
    have HC1 := Lib.hid hc1
    have HBG := Lib.hid (BG w1)
    clear BG BGG
    go_enter Tryd.func20, Tryd.ntmps20
    go_upto_region 1 with fail
    (try simp only [hw1, hRe])
    have HRE := Lib.hid hRe
    clear hw1 hRe hR1 hc1
    go_wp2_with (go_at_call 39; (with_reducible refine HBG.out.mono ?_); rintro e w2 ⟨⟨E, hes, heg, rfl, hM, hb1, hb2⟩, hb⟩; subst hes; subst heg; have HM2 := Lib.hid hM; have hR2 := HR1.out.ch (Ch.of_below (S := []) hb) (by simp); have HB := Lib.hid hb; clear hb hM; have r0 := hR2.cell 0; have r1 := hR2.cell 1; have r2 := hR2.cell 2; simp [mt0] at r0 r1 r2; have f0 := hR2.fz 0; have f1 := hR2.fz 1; have f2 := hR2.fz 2; have HR2 := Lib.hid hR2; clear hR2)
    show bodyPost _ _ _ Exit.ret _ (st3 w2 R (.int .i64 0) (.int .i64 0) (.slice none 0 0))
    have hI : Mtb R #[.int .i64 0, .int .i64 0, .slice none 0 0] (st3 w2 R (.int .i64 0) (.int .i64 0) (.slice none 0 0)) := st3_mt HR2.out
    have hS : Ch [R] w2 (st3 w2 R (.int .i64 0) (.int .i64 0) (.slice none 0 0)) := st3_ch
    have hc9 : Ch [] w (st3 w2 R (.int .i64 0) (.int .i64 0) (.slice none 0 0)) := Ch.new (HC1.out.trans (Ch.of_below HB.out)) (Nat.le_of_eq HRE.out) (hS.mono (by simp))
    have d0 := hI.cell 0
    have d1 := hI.cell 1
    have d2 := hI.cell 2
    simp at d0 d1 d2
    generalize (st3 w2 R (.int .i64 0) (.int .i64 0) (.slice none 0 0)) = W9 at *
    refine bodyPost_ret (v := .tuple #[.agg #[.int .i64 0, .int .i64 0, .slice none 0 0], .bool false, .int .i64 6]) ?_ rfl ⟨rfl, hc9.below⟩
    · simp [results, Tryd.results20, go_sem, d0, d1, d2]
  · have h1 : (s.size : Int) < x := by omega
    clear hx
    have hR1 : Mtb w.heap.size mt0 (w.alloc (.cells #[.int .i64 0, .int .i64 0, .slice none 0 0] 29)) := mtb_new w mt0 _ rfl
    have hc1 : Ch [] w (w.alloc (.cells #[.int .i64 0, .int .i64 0, .slice none 0 0] 29)) := (Ch.refl _ w).alloc _
    have hz1 : (w.alloc (.cells #[.int .i64 0, .int .i64 0, .slice none 0 0] 29)).heap.size = w.heap.size + 1 := by simp
    have BG := fun (w0 : World) => BGG w0
    obtain ⟨w1, hw1⟩ : ∃ w1, (w.alloc (.cells #[.int .i64 0, .int .i64 0, .slice none 0 0] 29)) = w1 := ⟨_, rfl⟩
    rw [hw1] at hR1 hc1 hz1
    obtain ⟨R, hRe⟩ : ∃ R, w.heap.size = R := ⟨_, rfl⟩
    rw [hRe] at hR1 hz1
    have HR1 := Lib.hid hR1
    have HC1 := Lib.hid hc1
    have HBG := Lib.hid (BG w1)
    clear BG BGG
    go_enter Tryd.func20, Tryd.ntmps20
    go_upto_region 1 with fail
    (try simp only [hw1, hRe])
    have HRE := Lib.hid hRe
    clear hw1 hRe hR1 hc1
    go_wp2_with (go_at_call 39; (with_reducible refine HBG.out.mono ?_); rintro e w2 ⟨⟨E, hes, heg, rfl, hM, hb1, hb2⟩, hb⟩; subst hes; subst heg; have HM2 := Lib.hid hM; have hR2 := HR1.out.ch (Ch.of_below (S := []) hb) (by simp); have HB := Lib.hid hb; clear hb hM; have r0 := hR2.cell 0; have r1 := hR2.cell 1; have r2 := hR2.cell 2; simp [mt0] at r0 r1 r2; have f0 := hR2.fz 0; have f1 := hR2.fz 1; have f2 := hR2.fz 2; have HR2 := Lib.hid hR2; clear hR2)
    show bodyPost _ _ _ Exit.ret _ (st3 w2 R (.int .i64 0) (.int .i64 0) (.slice none 0 0))
    have hI : Mtb R #[.int .i64 0, .int .i64 0, .slice none 0 0] (st3 w2 R (.int .i64 0) (.int .i64 0) (.slice none 0 0)) := st3_mt HR2.out
    have hS : Ch [R] w2 (st3 w2 R (.int .i64 0) (.int .i64 0) (.slice none 0 0)) := st3_ch
    have hc9 : Ch [] w (st3 w2 R (.int .i64 0) (.int .i64 0) (.slice none 0 0)) := Ch.new (HC1.out.trans (Ch.of_below HB.out)) (Nat.le_of_eq HRE.out) (hS.mono (by simp))
    have d0 := hI.cell 0
    have d1 := hI.cell 1
    have d2 := hI.cell 2
    simp at d0 d1 d2
    generalize (st3 w2 R (.int .i64 0) (.int .i64 0) (.slice none 0 0)) = W9 at *
    refine bodyPost_ret (v := .tuple #[.agg #[.int .i64 0, .int .i64 0, .slice none 0 0], .bool false, .int .i64 6]) ?_ rfl ⟨rfl, hc9.below⟩
    · simp [results, Tryd.results20, go_sem, d0, d1, d2]
set_option maxHeartbeats 8000000 in
theorem atf_ok (s p : ByteArray) (i n : Nat) (w : World) (hp : p.size ≤ 1000000) (hs : s.size ≤ 1000000) (g : Pg) (hr : readF p.data.toList = .ok g) (hG : ∀ E : Env, E.s = s → E.g = g → Good E) (hi : i ≤ s.size) (hn : n = 1) :
    Calls Tryd.prog 17 #[.string s, .string p, .int .i64 (i : Int)] w fun e w' => FirstSaid (firstM s.data.toList g n i 100000) g.caps w.heap.size e w' ∧ Below w.heap.size w w' := by
  have BGG := fun w0 => begin_ok s p w0 hp g hr
  clear hr
  have y1 : ¬ ((i : Int) < 0) := by omega
  have y2 : ¬ ((s.size : Int) < (i : Int)) := by omega
  obtain ⟨r, hfr⟩ : ∃ r, firstM s.data.toList g n i 100000 = r := ⟨_, rfl⟩
  rw [hfr]
  rcases r with _ | _ | u
  · have F0 := Lib.hid (fun (E : Env) (hes : E.s = s) (heg : E.g = g) (W : World) (hM : Mat E (zc E.g.caps) 100000 W) => (by
        have := first_any E (hG E hes heg) i n (zc E.g.caps) 100000 (i : Int) W (by omega) (by rw [hes]; omega) (by omega) (by omega) hM
        rw [hes, heg, hfr] at this
        exact this
      : Calls Tryd.prog 40 #[.pointer (some ⟨E.b, 0, none⟩), .int .i64 (i : Int), .int .i64 (i : Int)] W fun e w' => e = .returned (.tuple #[.agg #[.int .i64 0, .int .i64 0, .slice none 0 0], .bool false, .int .i64 3]) ∧ Ch [E.b, E.cb] W w'))
    clear hn hfr hG
    have hR1 : Mtb w.heap.size mt0 (w.alloc (.cells #[.int .i64 0, .int .i64 0, .slice none 0 0] 29)) := mtb_new w mt0 _ rfl
    have hc1 : Ch [] w (w.alloc (.cells #[.int .i64 0, .int .i64 0, .slice none 0 0] 29)) := (Ch.refl _ w).alloc _
    have hz1 : (w.alloc (.cells #[.int .i64 0, .int .i64 0, .slice none 0 0] 29)).heap.size = w.heap.size + 1 := by simp
    have BG := fun (w0 : World) => BGG w0
    obtain ⟨w1, hw1⟩ : ∃ w1, (w.alloc (.cells #[.int .i64 0, .int .i64 0, .slice none 0 0] 29)) = w1 := ⟨_, rfl⟩
    rw [hw1] at hR1 hc1 hz1
    obtain ⟨R, hRe⟩ : ∃ R, w.heap.size = R := ⟨_, rfl⟩
    rw [hRe] at hR1 hz1
    have HR1 := Lib.hid hR1
    have HC1 := Lib.hid hc1
    have HBG := Lib.hid (BG w1)
    clear BG BGG
    go_enter Tryd.func17, Tryd.ntmps17
    go_upto_region 1 with fail
    (try simp only [hw1, hRe])
    have HRE := Lib.hid hRe
    clear hw1 hRe hR1 hc1
    go_wp2_with (first | (go_at_call 39; (with_reducible refine HBG.out.mono ?_); rintro e w2 ⟨⟨E, hes, heg, rfl, hM, hb1, hb2⟩, hb⟩; subst hes; subst heg; have HM2 := Lib.hid hM; have hR2 := HR1.out.ch (Ch.of_below (S := []) hb) (by simp); have HB := Lib.hid hb; clear hb hM; have HF := Lib.hid (F0.out E rfl rfl w2 HM2.out); have HRa := Lib.hid hR2; clear hR2) | (go_at_call 40; (with_reducible refine HF.out.mono ?_); rintro e w3 ⟨rfl, hc2⟩; have hR2 := HRa.out.ch hc2 (by have := HC1.out.size; have := HB.out.size; simp; omega); have HC2 := Lib.hid hc2; clear hc2; have r0 := hR2.cell 0; have r1 := hR2.cell 1; have r2 := hR2.cell 2; simp [mt0] at r0 r1 r2; have f0 := hR2.fz 0; have f1 := hR2.fz 1; have f2 := hR2.fz 2; have HR2 := Lib.hid hR2; clear hR2))
    show bodyPost _ _ _ Exit.ret _ (st3 w3 R (.int .i64 0) (.int .i64 0) (.slice none 0 0))
    have hI : Mtb R #[.int .i64 0, .int .i64 0, .slice none 0 0] (st3 w3 R (.int .i64 0) (.int .i64 0) (.slice none 0 0)) := st3_mt HR2.out
    have hS : Ch [R] w3 (st3 w3 R (.int .i64 0) (.int .i64 0) (.slice none 0 0)) := st3_ch
    have hza := HC1.out.size
    have hzb := HB.out.size
    have hre := HRE.out
    have hcA : Ch [E.cb] w w2 := (HC1.out.mono (by simp)).trans (Ch.of_below HB.out)
    have hcB : Ch [E.cb] w w3 := Ch.new hcA (by omega) HC2.out
    have hcC : Ch [] w w3 := Ch.new (Ch.refl [] w) (by omega) hcB
    have hc9 : Ch [] w (st3 w3 R (.int .i64 0) (.int .i64 0) (.slice none 0 0)) := Ch.new hcC (Nat.le_of_eq HRE.out) (hS.mono (by simp))
    have d0 := hI.cell 0
    have d1 := hI.cell 1
    have d2 := hI.cell 2
    simp at d0 d1 d2
    generalize (st3 w3 R (.int .i64 0) (.int .i64 0) (.slice none 0 0)) = W9 at *
    refine bodyPost_ret (v := .tuple #[.agg #[.int .i64 0, .int .i64 0, .slice none 0 0], .bool false, .int .i64 3]) ?_ rfl ⟨rfl, hc9.below⟩
    · simp [results, Tryd.results17, go_sem, d0, d1, d2]
  · have F0 := Lib.hid (fun (E : Env) (hes : E.s = s) (heg : E.g = g) (W : World) (hM : Mat E (zc E.g.caps) 100000 W) => (by
        have := first_any E (hG E hes heg) i n (zc E.g.caps) 100000 (i : Int) W (by omega) (by rw [hes]; omega) (by omega) (by omega) hM
        rw [hes, heg, hfr] at this
        exact this
      : Calls Tryd.prog 40 #[.pointer (some ⟨E.b, 0, none⟩), .int .i64 (i : Int), .int .i64 (i : Int)] W fun e w' => e = .returned (.tuple #[.agg #[.int .i64 0, .int .i64 0, .slice none 0 0], .bool false, .int .i64 0]) ∧ Ch [E.b, E.cb] W w'))
    clear hn hfr hG
    have hR1 : Mtb w.heap.size mt0 (w.alloc (.cells #[.int .i64 0, .int .i64 0, .slice none 0 0] 29)) := mtb_new w mt0 _ rfl
    have hc1 : Ch [] w (w.alloc (.cells #[.int .i64 0, .int .i64 0, .slice none 0 0] 29)) := (Ch.refl _ w).alloc _
    have hz1 : (w.alloc (.cells #[.int .i64 0, .int .i64 0, .slice none 0 0] 29)).heap.size = w.heap.size + 1 := by simp
    have BG := fun (w0 : World) => BGG w0
    obtain ⟨w1, hw1⟩ : ∃ w1, (w.alloc (.cells #[.int .i64 0, .int .i64 0, .slice none 0 0] 29)) = w1 := ⟨_, rfl⟩
    rw [hw1] at hR1 hc1 hz1
    obtain ⟨R, hRe⟩ : ∃ R, w.heap.size = R := ⟨_, rfl⟩
    rw [hRe] at hR1 hz1
    have HR1 := Lib.hid hR1
    have HC1 := Lib.hid hc1
    have HBG := Lib.hid (BG w1)
    clear BG BGG
    go_enter Tryd.func17, Tryd.ntmps17
    go_upto_region 1 with fail
    (try simp only [hw1, hRe])
    have HRE := Lib.hid hRe
    clear hw1 hRe hR1 hc1
    go_wp2_with (first | (go_at_call 39; (with_reducible refine HBG.out.mono ?_); rintro e w2 ⟨⟨E, hes, heg, rfl, hM, hb1, hb2⟩, hb⟩; subst hes; subst heg; have HM2 := Lib.hid hM; have hR2 := HR1.out.ch (Ch.of_below (S := []) hb) (by simp); have HB := Lib.hid hb; clear hb hM; have HF := Lib.hid (F0.out E rfl rfl w2 HM2.out); have HRa := Lib.hid hR2; clear hR2) | (go_at_call 40; (with_reducible refine HF.out.mono ?_); rintro e w3 ⟨rfl, hc2⟩; have hR2 := HRa.out.ch hc2 (by have := HC1.out.size; have := HB.out.size; simp; omega); have HC2 := Lib.hid hc2; clear hc2; have r0 := hR2.cell 0; have r1 := hR2.cell 1; have r2 := hR2.cell 2; simp [mt0] at r0 r1 r2; have f0 := hR2.fz 0; have f1 := hR2.fz 1; have f2 := hR2.fz 2; have HR2 := Lib.hid hR2; clear hR2))
    show bodyPost _ _ _ Exit.ret _ (st3 w3 R (.int .i64 0) (.int .i64 0) (.slice none 0 0))
    have hI : Mtb R #[.int .i64 0, .int .i64 0, .slice none 0 0] (st3 w3 R (.int .i64 0) (.int .i64 0) (.slice none 0 0)) := st3_mt HR2.out
    have hS : Ch [R] w3 (st3 w3 R (.int .i64 0) (.int .i64 0) (.slice none 0 0)) := st3_ch
    have hza := HC1.out.size
    have hzb := HB.out.size
    have hre := HRE.out
    have hcA : Ch [E.cb] w w2 := (HC1.out.mono (by simp)).trans (Ch.of_below HB.out)
    have hcB : Ch [E.cb] w w3 := Ch.new hcA (by omega) HC2.out
    have hcC : Ch [] w w3 := Ch.new (Ch.refl [] w) (by omega) hcB
    have hc9 : Ch [] w (st3 w3 R (.int .i64 0) (.int .i64 0) (.slice none 0 0)) := Ch.new hcC (Nat.le_of_eq HRE.out) (hS.mono (by simp))
    have d0 := hI.cell 0
    have d1 := hI.cell 1
    have d2 := hI.cell 2
    simp at d0 d1 d2
    generalize (st3 w3 R (.int .i64 0) (.int .i64 0) (.slice none 0 0)) = W9 at *
    refine bodyPost_ret (v := .tuple #[.agg #[.int .i64 0, .int .i64 0, .slice none 0 0], .bool false, .int .i64 0]) ?_ rfl ⟨rfl, hc9.below⟩
    · simp [results, Tryd.results17, go_sem, d0, d1, d2]
  · have F0 := Lib.hid (fun (E : Env) (hes : E.s = s) (heg : E.g = g) (W : World) (hM : Mat E (zc E.g.caps) 100000 W) => (by
        have := first_any E (hG E hes heg) i n (zc E.g.caps) 100000 (i : Int) W (by omega) (by rw [hes]; omega) (by omega) (by omega) hM
        rw [hes, heg, hfr] at this
        exact this
      : Calls Tryd.prog 40 #[.pointer (some ⟨E.b, 0, none⟩), .int .i64 (i : Int), .int .i64 (i : Int)] W fun e w' => FirstSaid (some (some u)) g.caps W.heap.size e w' ∧ Ch [E.b, E.cb] W w'))
    clear hn hfr hG
    have hR1 : Mtb w.heap.size mt0 (w.alloc (.cells #[.int .i64 0, .int .i64 0, .slice none 0 0] 29)) := mtb_new w mt0 _ rfl
    have hc1 : Ch [] w (w.alloc (.cells #[.int .i64 0, .int .i64 0, .slice none 0 0] 29)) := (Ch.refl _ w).alloc _
    have hz1 : (w.alloc (.cells #[.int .i64 0, .int .i64 0, .slice none 0 0] 29)).heap.size = w.heap.size + 1 := by simp
    have BG := fun (w0 : World) => BGG w0
    obtain ⟨w1, hw1⟩ : ∃ w1, (w.alloc (.cells #[.int .i64 0, .int .i64 0, .slice none 0 0] 29)) = w1 := ⟨_, rfl⟩
    rw [hw1] at hR1 hc1 hz1
    obtain ⟨R, hRe⟩ : ∃ R, w.heap.size = R := ⟨_, rfl⟩
    rw [hRe] at hR1 hz1
    have HR1 := Lib.hid hR1
    have HC1 := Lib.hid hc1
    have HBG := Lib.hid (BG w1)
    clear BG BGG
    go_enter Tryd.func17, Tryd.ntmps17
    go_upto_region 1 with fail
    (try simp only [hw1, hRe])
    have HRE := Lib.hid hRe
    clear hw1 hRe hR1 hc1
    go_wp2_with (first | (go_at_call 39; (with_reducible refine HBG.out.mono ?_); rintro e w2 ⟨⟨E, hes, heg, rfl, hM, hb1, hb2⟩, hb⟩; subst hes; subst heg; have HM2 := Lib.hid hM; have hR2 := HR1.out.ch (Ch.of_below (S := []) hb) (by simp); have HB := Lib.hid hb; clear hb hM; have HF := Lib.hid (F0.out E rfl rfl w2 HM2.out); have HRa := Lib.hid hR2; clear hR2) | (go_at_call 40; (with_reducible refine HF.out.mono ?_); rintro e w3 ⟨⟨p1, c1, rfl, ho, hn⟩, hc2⟩; have HO := Lib.hid ho; have HN := Lib.hid hn; clear ho hn; have hR2 := HRa.out.ch hc2 (by have := HC1.out.size; have := HB.out.size; simp; omega); have HC2 := Lib.hid hc2; clear hc2; have r0 := hR2.cell 0; have r1 := hR2.cell 1; have r2 := hR2.cell 2; simp [mt0] at r0 r1 r2; have f0 := hR2.fz 0; have f1 := hR2.fz 1; have f2 := hR2.fz 2; have HR2 := Lib.hid hR2; clear hR2))
    show bodyPost _ _ _ Exit.ret _ (st3 w3 R (.int .i64 (u.fr : Int)) (.int .i64 (u.to : Int)) (.slice p1 E.g.caps c1))
    have hI : Mtb R #[.int .i64 (u.fr : Int), .int .i64 (u.to : Int), .slice p1 E.g.caps c1] (st3 w3 R (.int .i64 (u.fr : Int)) (.int .i64 (u.to : Int)) (.slice p1 E.g.caps c1)) := st3_mt HR2.out
    have hS : Ch [R] w3 (st3 w3 R (.int .i64 (u.fr : Int)) (.int .i64 (u.to : Int)) (.slice p1 E.g.caps c1)) := st3_ch
    have hza := HC1.out.size
    have hzb := HB.out.size
    have hre := HRE.out
    have hcA : Ch [E.cb] w w2 := (HC1.out.mono (by simp)).trans (Ch.of_below HB.out)
    have hcB : Ch [E.cb] w w3 := Ch.new hcA (by omega) HC2.out
    have hcC : Ch [] w w3 := Ch.new (Ch.refl [] w) (by omega) hcB
    have hc9 : Ch [] w (st3 w3 R (.int .i64 (u.fr : Int)) (.int .i64 (u.to : Int)) (.slice p1 E.g.caps c1)) := Ch.new hcC (Nat.le_of_eq HRE.out) (hS.mono (by simp))
    have ho9 := hS.own HO.out (fun g hg => by have := HN.out g hg; simp; omega)
    have hn9 : ∀ g ∈ ob (Value.slice p1 E.g.caps c1), w.heap.size ≤ g := fun g hg => by have := HN.out g hg; omega
    have d0 := hI.cell 0
    have d1 := hI.cell 1
    have d2 := hI.cell 2
    simp at d0 d1 d2
    generalize (st3 w3 R (.int .i64 (u.fr : Int)) (.int .i64 (u.to : Int)) (.slice p1 E.g.caps c1)) = W9 at *
    refine bodyPost_ret (v := .tuple #[.agg #[.int .i64 (u.fr : Int), .int .i64 (u.to : Int), .slice p1 E.g.caps c1], .bool true, .int .i64 0]) ?_ rfl ⟨⟨p1, c1, rfl, ho9, hn9⟩, hc9.below⟩
    · simp [results, Tryd.results17, go_sem, d0, d1, d2]
set_option maxHeartbeats 8000000 in
theorem find_ok (s p : ByteArray) (i n : Nat) (w : World) (hp : p.size ≤ 1000000) (hs : s.size ≤ 1000000) (g : Pg) (hr : readF p.data.toList = .ok g) (hG : ∀ E : Env, E.s = s → E.g = g → Good E) (hi : i ≤ s.size) (hn : n = if g.start = true then 1 else s.size + 1 - i) :
    Calls Tryd.prog 20 #[.string s, .string p, .int .i64 (i : Int)] w fun e w' => FirstSaid (firstM s.data.toList g n i 100000) g.caps w.heap.size e w' ∧ Below w.heap.size w w' := by
  have BGG := fun w0 => begin_ok s p w0 hp g hr
  clear hr
  have y1 : ¬ ((i : Int) < 0) := by omega
  have y2 : ¬ ((s.size : Int) < (i : Int)) := by omega
  obtain ⟨r, hfr⟩ : ∃ r, firstM s.data.toList g n i 100000 = r := ⟨_, rfl⟩
  rw [hfr]
  by_cases hst : g.start = true
  · rw [if_pos hst] at hn
    rcases r with _ | _ | u
    · have F0 := Lib.hid (fun (E : Env) (hes : E.s = s) (heg : E.g = g) (W : World) (hM : Mat E (zc E.g.caps) 100000 W) => (by
          have := first_any E (hG E hes heg) i n (zc E.g.caps) 100000 (i : Int) W (by omega) (by rw [hes]; omega) (by omega) (by omega) hM
          rw [hes, heg, hfr] at this
          exact this
        : Calls Tryd.prog 40 #[.pointer (some ⟨E.b, 0, none⟩), .int .i64 (i : Int), .int .i64 (i : Int)] W fun e w' => e = .returned (.tuple #[.agg #[.int .i64 0, .int .i64 0, .slice none 0 0], .bool false, .int .i64 3]) ∧ Ch [E.b, E.cb] W w'))
      clear hn hfr hG
      have hR1 : Mtb w.heap.size mt0 (w.alloc (.cells #[.int .i64 0, .int .i64 0, .slice none 0 0] 29)) := mtb_new w mt0 _ rfl
      have hc1 : Ch [] w (w.alloc (.cells #[.int .i64 0, .int .i64 0, .slice none 0 0] 29)) := (Ch.refl _ w).alloc _
      have hz1 : (w.alloc (.cells #[.int .i64 0, .int .i64 0, .slice none 0 0] 29)).heap.size = w.heap.size + 1 := by simp
      have BG := fun (w0 : World) => BGG w0
      obtain ⟨w1, hw1⟩ : ∃ w1, (w.alloc (.cells #[.int .i64 0, .int .i64 0, .slice none 0 0] 29)) = w1 := ⟨_, rfl⟩
      rw [hw1] at hR1 hc1 hz1
      obtain ⟨R, hRe⟩ : ∃ R, w.heap.size = R := ⟨_, rfl⟩
      rw [hRe] at hR1 hz1
      have HR1 := Lib.hid hR1
      have HC1 := Lib.hid hc1
      have HBG := Lib.hid (BG w1)
      clear BG BGG
      go_enter Tryd.func20, Tryd.ntmps20
      go_upto_region 1 with fail
      (try simp only [hw1, hRe])
      have HRE := Lib.hid hRe
      clear hw1 hRe hR1 hc1
      go_wp2_with (first | (go_at_call 39; (with_reducible refine HBG.out.mono ?_); rintro e w2 ⟨⟨E, hes, heg, rfl, hM, hb1, hb2⟩, hb⟩; subst hes; subst heg; have HM2 := Lib.hid hM; have hR2 := HR1.out.ch (Ch.of_below (S := []) hb) (by simp); have HB := Lib.hid hb; clear hb hM; have q1 := HM2.out.c 1; simp at q1; simp only [hst] at q1; have HF := Lib.hid (F0.out E rfl rfl w2 HM2.out); have HRa := Lib.hid hR2; clear hR2) | (go_at_call 40; (with_reducible refine HF.out.mono ?_); rintro e w3 ⟨rfl, hc2⟩; have hR2 := HRa.out.ch hc2 (by have := HC1.out.size; have := HB.out.size; simp; omega); have HC2 := Lib.hid hc2; clear hc2; have r0 := hR2.cell 0; have r1 := hR2.cell 1; have r2 := hR2.cell 2; simp [mt0] at r0 r1 r2; have f0 := hR2.fz 0; have f1 := hR2.fz 1; have f2 := hR2.fz 2; have HR2 := Lib.hid hR2; clear hR2))
      show bodyPost _ _ _ Exit.ret _ (st3 w3 R (.int .i64 0) (.int .i64 0) (.slice none 0 0))
      have hI : Mtb R #[.int .i64 0, .int .i64 0, .slice none 0 0] (st3 w3 R (.int .i64 0) (.int .i64 0) (.slice none 0 0)) := st3_mt HR2.out
      have hS : Ch [R] w3 (st3 w3 R (.int .i64 0) (.int .i64 0) (.slice none 0 0)) := st3_ch
      have hza := HC1.out.size
      have hzb := HB.out.size
      have hre := HRE.out
      have hcA : Ch [E.cb] w w2 := (HC1.out.mono (by simp)).trans (Ch.of_below HB.out)
      have hcB : Ch [E.cb] w w3 := Ch.new hcA (by omega) HC2.out
      have hcC : Ch [] w w3 := Ch.new (Ch.refl [] w) (by omega) hcB
      have hc9 : Ch [] w (st3 w3 R (.int .i64 0) (.int .i64 0) (.slice none 0 0)) := Ch.new hcC (Nat.le_of_eq HRE.out) (hS.mono (by simp))
      have d0 := hI.cell 0
      have d1 := hI.cell 1
      have d2 := hI.cell 2
      simp at d0 d1 d2
      generalize (st3 w3 R (.int .i64 0) (.int .i64 0) (.slice none 0 0)) = W9 at *
      refine bodyPost_ret (v := .tuple #[.agg #[.int .i64 0, .int .i64 0, .slice none 0 0], .bool false, .int .i64 3]) ?_ rfl ⟨rfl, hc9.below⟩
      · simp [results, Tryd.results20, go_sem, d0, d1, d2]
    · have F0 := Lib.hid (fun (E : Env) (hes : E.s = s) (heg : E.g = g) (W : World) (hM : Mat E (zc E.g.caps) 100000 W) => (by
          have := first_any E (hG E hes heg) i n (zc E.g.caps) 100000 (i : Int) W (by omega) (by rw [hes]; omega) (by omega) (by omega) hM
          rw [hes, heg, hfr] at this
          exact this
        : Calls Tryd.prog 40 #[.pointer (some ⟨E.b, 0, none⟩), .int .i64 (i : Int), .int .i64 (i : Int)] W fun e w' => e = .returned (.tuple #[.agg #[.int .i64 0, .int .i64 0, .slice none 0 0], .bool false, .int .i64 0]) ∧ Ch [E.b, E.cb] W w'))
      clear hn hfr hG
      have hR1 : Mtb w.heap.size mt0 (w.alloc (.cells #[.int .i64 0, .int .i64 0, .slice none 0 0] 29)) := mtb_new w mt0 _ rfl
      have hc1 : Ch [] w (w.alloc (.cells #[.int .i64 0, .int .i64 0, .slice none 0 0] 29)) := (Ch.refl _ w).alloc _
      have hz1 : (w.alloc (.cells #[.int .i64 0, .int .i64 0, .slice none 0 0] 29)).heap.size = w.heap.size + 1 := by simp
      have BG := fun (w0 : World) => BGG w0
      obtain ⟨w1, hw1⟩ : ∃ w1, (w.alloc (.cells #[.int .i64 0, .int .i64 0, .slice none 0 0] 29)) = w1 := ⟨_, rfl⟩
      rw [hw1] at hR1 hc1 hz1
      obtain ⟨R, hRe⟩ : ∃ R, w.heap.size = R := ⟨_, rfl⟩
      rw [hRe] at hR1 hz1
      have HR1 := Lib.hid hR1
      have HC1 := Lib.hid hc1
      have HBG := Lib.hid (BG w1)
      clear BG BGG
      go_enter Tryd.func20, Tryd.ntmps20
      go_upto_region 1 with fail
      (try simp only [hw1, hRe])
      have HRE := Lib.hid hRe
      clear hw1 hRe hR1 hc1
      go_wp2_with (first | (go_at_call 39; (with_reducible refine HBG.out.mono ?_); rintro e w2 ⟨⟨E, hes, heg, rfl, hM, hb1, hb2⟩, hb⟩; subst hes; subst heg; have HM2 := Lib.hid hM; have hR2 := HR1.out.ch (Ch.of_below (S := []) hb) (by simp); have HB := Lib.hid hb; clear hb hM; have q1 := HM2.out.c 1; simp at q1; simp only [hst] at q1; have HF := Lib.hid (F0.out E rfl rfl w2 HM2.out); have HRa := Lib.hid hR2; clear hR2) | (go_at_call 40; (with_reducible refine HF.out.mono ?_); rintro e w3 ⟨rfl, hc2⟩; have hR2 := HRa.out.ch hc2 (by have := HC1.out.size; have := HB.out.size; simp; omega); have HC2 := Lib.hid hc2; clear hc2; have r0 := hR2.cell 0; have r1 := hR2.cell 1; have r2 := hR2.cell 2; simp [mt0] at r0 r1 r2; have f0 := hR2.fz 0; have f1 := hR2.fz 1; have f2 := hR2.fz 2; have HR2 := Lib.hid hR2; clear hR2))
      show bodyPost _ _ _ Exit.ret _ (st3 w3 R (.int .i64 0) (.int .i64 0) (.slice none 0 0))
      have hI : Mtb R #[.int .i64 0, .int .i64 0, .slice none 0 0] (st3 w3 R (.int .i64 0) (.int .i64 0) (.slice none 0 0)) := st3_mt HR2.out
      have hS : Ch [R] w3 (st3 w3 R (.int .i64 0) (.int .i64 0) (.slice none 0 0)) := st3_ch
      have hza := HC1.out.size
      have hzb := HB.out.size
      have hre := HRE.out
      have hcA : Ch [E.cb] w w2 := (HC1.out.mono (by simp)).trans (Ch.of_below HB.out)
      have hcB : Ch [E.cb] w w3 := Ch.new hcA (by omega) HC2.out
      have hcC : Ch [] w w3 := Ch.new (Ch.refl [] w) (by omega) hcB
      have hc9 : Ch [] w (st3 w3 R (.int .i64 0) (.int .i64 0) (.slice none 0 0)) := Ch.new hcC (Nat.le_of_eq HRE.out) (hS.mono (by simp))
      have d0 := hI.cell 0
      have d1 := hI.cell 1
      have d2 := hI.cell 2
      simp at d0 d1 d2
      generalize (st3 w3 R (.int .i64 0) (.int .i64 0) (.slice none 0 0)) = W9 at *
      refine bodyPost_ret (v := .tuple #[.agg #[.int .i64 0, .int .i64 0, .slice none 0 0], .bool false, .int .i64 0]) ?_ rfl ⟨rfl, hc9.below⟩
      · simp [results, Tryd.results20, go_sem, d0, d1, d2]
    · have F0 := Lib.hid (fun (E : Env) (hes : E.s = s) (heg : E.g = g) (W : World) (hM : Mat E (zc E.g.caps) 100000 W) => (by
          have := first_any E (hG E hes heg) i n (zc E.g.caps) 100000 (i : Int) W (by omega) (by rw [hes]; omega) (by omega) (by omega) hM
          rw [hes, heg, hfr] at this
          exact this
        : Calls Tryd.prog 40 #[.pointer (some ⟨E.b, 0, none⟩), .int .i64 (i : Int), .int .i64 (i : Int)] W fun e w' => FirstSaid (some (some u)) g.caps W.heap.size e w' ∧ Ch [E.b, E.cb] W w'))
      clear hn hfr hG
      have hR1 : Mtb w.heap.size mt0 (w.alloc (.cells #[.int .i64 0, .int .i64 0, .slice none 0 0] 29)) := mtb_new w mt0 _ rfl
      have hc1 : Ch [] w (w.alloc (.cells #[.int .i64 0, .int .i64 0, .slice none 0 0] 29)) := (Ch.refl _ w).alloc _
      have hz1 : (w.alloc (.cells #[.int .i64 0, .int .i64 0, .slice none 0 0] 29)).heap.size = w.heap.size + 1 := by simp
      have BG := fun (w0 : World) => BGG w0
      obtain ⟨w1, hw1⟩ : ∃ w1, (w.alloc (.cells #[.int .i64 0, .int .i64 0, .slice none 0 0] 29)) = w1 := ⟨_, rfl⟩
      rw [hw1] at hR1 hc1 hz1
      obtain ⟨R, hRe⟩ : ∃ R, w.heap.size = R := ⟨_, rfl⟩
      rw [hRe] at hR1 hz1
      have HR1 := Lib.hid hR1
      have HC1 := Lib.hid hc1
      have HBG := Lib.hid (BG w1)
      clear BG BGG
      go_enter Tryd.func20, Tryd.ntmps20
      go_upto_region 1 with fail
      (try simp only [hw1, hRe])
      have HRE := Lib.hid hRe
      clear hw1 hRe hR1 hc1
      go_wp2_with (first | (go_at_call 39; (with_reducible refine HBG.out.mono ?_); rintro e w2 ⟨⟨E, hes, heg, rfl, hM, hb1, hb2⟩, hb⟩; subst hes; subst heg; have HM2 := Lib.hid hM; have hR2 := HR1.out.ch (Ch.of_below (S := []) hb) (by simp); have HB := Lib.hid hb; clear hb hM; have q1 := HM2.out.c 1; simp at q1; simp only [hst] at q1; have HF := Lib.hid (F0.out E rfl rfl w2 HM2.out); have HRa := Lib.hid hR2; clear hR2) | (go_at_call 40; (with_reducible refine HF.out.mono ?_); rintro e w3 ⟨⟨p1, c1, rfl, ho, hn⟩, hc2⟩; have HO := Lib.hid ho; have HN := Lib.hid hn; clear ho hn; have hR2 := HRa.out.ch hc2 (by have := HC1.out.size; have := HB.out.size; simp; omega); have HC2 := Lib.hid hc2; clear hc2; have r0 := hR2.cell 0; have r1 := hR2.cell 1; have r2 := hR2.cell 2; simp [mt0] at r0 r1 r2; have f0 := hR2.fz 0; have f1 := hR2.fz 1; have f2 := hR2.fz 2; have HR2 := Lib.hid hR2; clear hR2))
      show bodyPost _ _ _ Exit.ret _ (st3 w3 R (.int .i64 (u.fr : Int)) (.int .i64 (u.to : Int)) (.slice p1 E.g.caps c1))
      have hI : Mtb R #[.int .i64 (u.fr : Int), .int .i64 (u.to : Int), .slice p1 E.g.caps c1] (st3 w3 R (.int .i64 (u.fr : Int)) (.int .i64 (u.to : Int)) (.slice p1 E.g.caps c1)) := st3_mt HR2.out
      have hS : Ch [R] w3 (st3 w3 R (.int .i64 (u.fr : Int)) (.int .i64 (u.to : Int)) (.slice p1 E.g.caps c1)) := st3_ch
      have hza := HC1.out.size
      have hzb := HB.out.size
      have hre := HRE.out
      have hcA : Ch [E.cb] w w2 := (HC1.out.mono (by simp)).trans (Ch.of_below HB.out)
      have hcB : Ch [E.cb] w w3 := Ch.new hcA (by omega) HC2.out
      have hcC : Ch [] w w3 := Ch.new (Ch.refl [] w) (by omega) hcB
      have hc9 : Ch [] w (st3 w3 R (.int .i64 (u.fr : Int)) (.int .i64 (u.to : Int)) (.slice p1 E.g.caps c1)) := Ch.new hcC (Nat.le_of_eq HRE.out) (hS.mono (by simp))
      have ho9 := hS.own HO.out (fun g hg => by have := HN.out g hg; simp; omega)
      have hn9 : ∀ g ∈ ob (Value.slice p1 E.g.caps c1), w.heap.size ≤ g := fun g hg => by have := HN.out g hg; omega
      have d0 := hI.cell 0
      have d1 := hI.cell 1
      have d2 := hI.cell 2
      simp at d0 d1 d2
      generalize (st3 w3 R (.int .i64 (u.fr : Int)) (.int .i64 (u.to : Int)) (.slice p1 E.g.caps c1)) = W9 at *
      refine bodyPost_ret (v := .tuple #[.agg #[.int .i64 (u.fr : Int), .int .i64 (u.to : Int), .slice p1 E.g.caps c1], .bool true, .int .i64 0]) ?_ rfl ⟨⟨p1, c1, rfl, ho9, hn9⟩, hc9.below⟩
      · simp [results, Tryd.results20, go_sem, d0, d1, d2]
  · rw [if_neg hst] at hn
    have hst : g.start = false := by simpa using hst
    rcases r with _ | _ | u
    · have F0 := Lib.hid (fun (E : Env) (hes : E.s = s) (heg : E.g = g) (W : World) (hM : Mat E (zc E.g.caps) 100000 W) => (by
          have := first_any E (hG E hes heg) i n (zc E.g.caps) 100000 (E.s.size : Int) W (by omega) (by rw [hes]; omega) (by rw [hes]; omega) (by omega) hM
          rw [hes, heg, hfr] at this
          exact this
        : Calls Tryd.prog 40 #[.pointer (some ⟨E.b, 0, none⟩), .int .i64 (i : Int), .int .i64 (s.size : Int)] W fun e w' => e = .returned (.tuple #[.agg #[.int .i64 0, .int .i64 0, .slice none 0 0], .bool false, .int .i64 3]) ∧ Ch [E.b, E.cb] W w'))
      clear hn hfr hG
      have hR1 : Mtb w.heap.size mt0 (w.alloc (.cells #[.int .i64 0, .int .i64 0, .slice none 0 0] 29)) := mtb_new w mt0 _ rfl
      have hc1 : Ch [] w (w.alloc (.cells #[.int .i64 0, .int .i64 0, .slice none 0 0] 29)) := (Ch.refl _ w).alloc _
      have hz1 : (w.alloc (.cells #[.int .i64 0, .int .i64 0, .slice none 0 0] 29)).heap.size = w.heap.size + 1 := by simp
      have BG := fun (w0 : World) => BGG w0
      obtain ⟨w1, hw1⟩ : ∃ w1, (w.alloc (.cells #[.int .i64 0, .int .i64 0, .slice none 0 0] 29)) = w1 := ⟨_, rfl⟩
      rw [hw1] at hR1 hc1 hz1
      obtain ⟨R, hRe⟩ : ∃ R, w.heap.size = R := ⟨_, rfl⟩
      rw [hRe] at hR1 hz1
      have HR1 := Lib.hid hR1
      have HC1 := Lib.hid hc1
      have HBG := Lib.hid (BG w1)
      clear BG BGG
      go_enter Tryd.func20, Tryd.ntmps20
      go_upto_region 1 with fail
      (try simp only [hw1, hRe])
      have HRE := Lib.hid hRe
      clear hw1 hRe hR1 hc1
      go_wp2_with (first | (go_at_call 39; (with_reducible refine HBG.out.mono ?_); rintro e w2 ⟨⟨E, hes, heg, rfl, hM, hb1, hb2⟩, hb⟩; subst hes; subst heg; have HM2 := Lib.hid hM; have hR2 := HR1.out.ch (Ch.of_below (S := []) hb) (by simp); have HB := Lib.hid hb; clear hb hM; have q1 := HM2.out.c 1; simp at q1; simp only [hst] at q1; have HF := Lib.hid (F0.out E rfl rfl w2 HM2.out); have HRa := Lib.hid hR2; clear hR2) | (go_at_call 40; (with_reducible refine HF.out.mono ?_); rintro e w3 ⟨rfl, hc2⟩; have hR2 := HRa.out.ch hc2 (by have := HC1.out.size; have := HB.out.size; simp; omega); have HC2 := Lib.hid hc2; clear hc2; have r0 := hR2.cell 0; have r1 := hR2.cell 1; have r2 := hR2.cell 2; simp [mt0] at r0 r1 r2; have f0 := hR2.fz 0; have f1 := hR2.fz 1; have f2 := hR2.fz 2; have HR2 := Lib.hid hR2; clear hR2))
      show bodyPost _ _ _ Exit.ret _ (st3 w3 R (.int .i64 0) (.int .i64 0) (.slice none 0 0))
      have hI : Mtb R #[.int .i64 0, .int .i64 0, .slice none 0 0] (st3 w3 R (.int .i64 0) (.int .i64 0) (.slice none 0 0)) := st3_mt HR2.out
      have hS : Ch [R] w3 (st3 w3 R (.int .i64 0) (.int .i64 0) (.slice none 0 0)) := st3_ch
      have hza := HC1.out.size
      have hzb := HB.out.size
      have hre := HRE.out
      have hcA : Ch [E.cb] w w2 := (HC1.out.mono (by simp)).trans (Ch.of_below HB.out)
      have hcB : Ch [E.cb] w w3 := Ch.new hcA (by omega) HC2.out
      have hcC : Ch [] w w3 := Ch.new (Ch.refl [] w) (by omega) hcB
      have hc9 : Ch [] w (st3 w3 R (.int .i64 0) (.int .i64 0) (.slice none 0 0)) := Ch.new hcC (Nat.le_of_eq HRE.out) (hS.mono (by simp))
      have d0 := hI.cell 0
      have d1 := hI.cell 1
      have d2 := hI.cell 2
      simp at d0 d1 d2
      generalize (st3 w3 R (.int .i64 0) (.int .i64 0) (.slice none 0 0)) = W9 at *
      refine bodyPost_ret (v := .tuple #[.agg #[.int .i64 0, .int .i64 0, .slice none 0 0], .bool false, .int .i64 3]) ?_ rfl ⟨rfl, hc9.below⟩
      · simp [results, Tryd.results20, go_sem, d0, d1, d2]
    · have F0 := Lib.hid (fun (E : Env) (hes : E.s = s) (heg : E.g = g) (W : World) (hM : Mat E (zc E.g.caps) 100000 W) => (by
          have := first_any E (hG E hes heg) i n (zc E.g.caps) 100000 (E.s.size : Int) W (by omega) (by rw [hes]; omega) (by rw [hes]; omega) (by omega) hM
          rw [hes, heg, hfr] at this
          exact this
        : Calls Tryd.prog 40 #[.pointer (some ⟨E.b, 0, none⟩), .int .i64 (i : Int), .int .i64 (s.size : Int)] W fun e w' => e = .returned (.tuple #[.agg #[.int .i64 0, .int .i64 0, .slice none 0 0], .bool false, .int .i64 0]) ∧ Ch [E.b, E.cb] W w'))
      clear hn hfr hG
      have hR1 : Mtb w.heap.size mt0 (w.alloc (.cells #[.int .i64 0, .int .i64 0, .slice none 0 0] 29)) := mtb_new w mt0 _ rfl
      have hc1 : Ch [] w (w.alloc (.cells #[.int .i64 0, .int .i64 0, .slice none 0 0] 29)) := (Ch.refl _ w).alloc _
      have hz1 : (w.alloc (.cells #[.int .i64 0, .int .i64 0, .slice none 0 0] 29)).heap.size = w.heap.size + 1 := by simp
      have BG := fun (w0 : World) => BGG w0
      obtain ⟨w1, hw1⟩ : ∃ w1, (w.alloc (.cells #[.int .i64 0, .int .i64 0, .slice none 0 0] 29)) = w1 := ⟨_, rfl⟩
      rw [hw1] at hR1 hc1 hz1
      obtain ⟨R, hRe⟩ : ∃ R, w.heap.size = R := ⟨_, rfl⟩
      rw [hRe] at hR1 hz1
      have HR1 := Lib.hid hR1
      have HC1 := Lib.hid hc1
      have HBG := Lib.hid (BG w1)
      clear BG BGG
      go_enter Tryd.func20, Tryd.ntmps20
      go_upto_region 1 with fail
      (try simp only [hw1, hRe])
      have HRE := Lib.hid hRe
      clear hw1 hRe hR1 hc1
      go_wp2_with (first | (go_at_call 39; (with_reducible refine HBG.out.mono ?_); rintro e w2 ⟨⟨E, hes, heg, rfl, hM, hb1, hb2⟩, hb⟩; subst hes; subst heg; have HM2 := Lib.hid hM; have hR2 := HR1.out.ch (Ch.of_below (S := []) hb) (by simp); have HB := Lib.hid hb; clear hb hM; have q1 := HM2.out.c 1; simp at q1; simp only [hst] at q1; have HF := Lib.hid (F0.out E rfl rfl w2 HM2.out); have HRa := Lib.hid hR2; clear hR2) | (go_at_call 40; (with_reducible refine HF.out.mono ?_); rintro e w3 ⟨rfl, hc2⟩; have hR2 := HRa.out.ch hc2 (by have := HC1.out.size; have := HB.out.size; simp; omega); have HC2 := Lib.hid hc2; clear hc2; have r0 := hR2.cell 0; have r1 := hR2.cell 1; have r2 := hR2.cell 2; simp [mt0] at r0 r1 r2; have f0 := hR2.fz 0; have f1 := hR2.fz 1; have f2 := hR2.fz 2; have HR2 := Lib.hid hR2; clear hR2))
      show bodyPost _ _ _ Exit.ret _ (st3 w3 R (.int .i64 0) (.int .i64 0) (.slice none 0 0))
      have hI : Mtb R #[.int .i64 0, .int .i64 0, .slice none 0 0] (st3 w3 R (.int .i64 0) (.int .i64 0) (.slice none 0 0)) := st3_mt HR2.out
      have hS : Ch [R] w3 (st3 w3 R (.int .i64 0) (.int .i64 0) (.slice none 0 0)) := st3_ch
      have hza := HC1.out.size
      have hzb := HB.out.size
      have hre := HRE.out
      have hcA : Ch [E.cb] w w2 := (HC1.out.mono (by simp)).trans (Ch.of_below HB.out)
      have hcB : Ch [E.cb] w w3 := Ch.new hcA (by omega) HC2.out
      have hcC : Ch [] w w3 := Ch.new (Ch.refl [] w) (by omega) hcB
      have hc9 : Ch [] w (st3 w3 R (.int .i64 0) (.int .i64 0) (.slice none 0 0)) := Ch.new hcC (Nat.le_of_eq HRE.out) (hS.mono (by simp))
      have d0 := hI.cell 0
      have d1 := hI.cell 1
      have d2 := hI.cell 2
      simp at d0 d1 d2
      generalize (st3 w3 R (.int .i64 0) (.int .i64 0) (.slice none 0 0)) = W9 at *
      refine bodyPost_ret (v := .tuple #[.agg #[.int .i64 0, .int .i64 0, .slice none 0 0], .bool false, .int .i64 0]) ?_ rfl ⟨rfl, hc9.below⟩
      · simp [results, Tryd.results20, go_sem, d0, d1, d2]
    · have F0 := Lib.hid (fun (E : Env) (hes : E.s = s) (heg : E.g = g) (W : World) (hM : Mat E (zc E.g.caps) 100000 W) => (by
          have := first_any E (hG E hes heg) i n (zc E.g.caps) 100000 (E.s.size : Int) W (by omega) (by rw [hes]; omega) (by rw [hes]; omega) (by omega) hM
          rw [hes, heg, hfr] at this
          exact this
        : Calls Tryd.prog 40 #[.pointer (some ⟨E.b, 0, none⟩), .int .i64 (i : Int), .int .i64 (s.size : Int)] W fun e w' => FirstSaid (some (some u)) g.caps W.heap.size e w' ∧ Ch [E.b, E.cb] W w'))
      clear hn hfr hG
      have hR1 : Mtb w.heap.size mt0 (w.alloc (.cells #[.int .i64 0, .int .i64 0, .slice none 0 0] 29)) := mtb_new w mt0 _ rfl
      have hc1 : Ch [] w (w.alloc (.cells #[.int .i64 0, .int .i64 0, .slice none 0 0] 29)) := (Ch.refl _ w).alloc _
      have hz1 : (w.alloc (.cells #[.int .i64 0, .int .i64 0, .slice none 0 0] 29)).heap.size = w.heap.size + 1 := by simp
      have BG := fun (w0 : World) => BGG w0
      obtain ⟨w1, hw1⟩ : ∃ w1, (w.alloc (.cells #[.int .i64 0, .int .i64 0, .slice none 0 0] 29)) = w1 := ⟨_, rfl⟩
      rw [hw1] at hR1 hc1 hz1
      obtain ⟨R, hRe⟩ : ∃ R, w.heap.size = R := ⟨_, rfl⟩
      rw [hRe] at hR1 hz1
      have HR1 := Lib.hid hR1
      have HC1 := Lib.hid hc1
      have HBG := Lib.hid (BG w1)
      clear BG BGG
      go_enter Tryd.func20, Tryd.ntmps20
      go_upto_region 1 with fail
      (try simp only [hw1, hRe])
      have HRE := Lib.hid hRe
      clear hw1 hRe hR1 hc1
      go_wp2_with (first | (go_at_call 39; (with_reducible refine HBG.out.mono ?_); rintro e w2 ⟨⟨E, hes, heg, rfl, hM, hb1, hb2⟩, hb⟩; subst hes; subst heg; have HM2 := Lib.hid hM; have hR2 := HR1.out.ch (Ch.of_below (S := []) hb) (by simp); have HB := Lib.hid hb; clear hb hM; have q1 := HM2.out.c 1; simp at q1; simp only [hst] at q1; have HF := Lib.hid (F0.out E rfl rfl w2 HM2.out); have HRa := Lib.hid hR2; clear hR2) | (go_at_call 40; (with_reducible refine HF.out.mono ?_); rintro e w3 ⟨⟨p1, c1, rfl, ho, hn⟩, hc2⟩; have HO := Lib.hid ho; have HN := Lib.hid hn; clear ho hn; have hR2 := HRa.out.ch hc2 (by have := HC1.out.size; have := HB.out.size; simp; omega); have HC2 := Lib.hid hc2; clear hc2; have r0 := hR2.cell 0; have r1 := hR2.cell 1; have r2 := hR2.cell 2; simp [mt0] at r0 r1 r2; have f0 := hR2.fz 0; have f1 := hR2.fz 1; have f2 := hR2.fz 2; have HR2 := Lib.hid hR2; clear hR2))
      show bodyPost _ _ _ Exit.ret _ (st3 w3 R (.int .i64 (u.fr : Int)) (.int .i64 (u.to : Int)) (.slice p1 E.g.caps c1))
      have hI : Mtb R #[.int .i64 (u.fr : Int), .int .i64 (u.to : Int), .slice p1 E.g.caps c1] (st3 w3 R (.int .i64 (u.fr : Int)) (.int .i64 (u.to : Int)) (.slice p1 E.g.caps c1)) := st3_mt HR2.out
      have hS : Ch [R] w3 (st3 w3 R (.int .i64 (u.fr : Int)) (.int .i64 (u.to : Int)) (.slice p1 E.g.caps c1)) := st3_ch
      have hza := HC1.out.size
      have hzb := HB.out.size
      have hre := HRE.out
      have hcA : Ch [E.cb] w w2 := (HC1.out.mono (by simp)).trans (Ch.of_below HB.out)
      have hcB : Ch [E.cb] w w3 := Ch.new hcA (by omega) HC2.out
      have hcC : Ch [] w w3 := Ch.new (Ch.refl [] w) (by omega) hcB
      have hc9 : Ch [] w (st3 w3 R (.int .i64 (u.fr : Int)) (.int .i64 (u.to : Int)) (.slice p1 E.g.caps c1)) := Ch.new hcC (Nat.le_of_eq HRE.out) (hS.mono (by simp))
      have ho9 := hS.own HO.out (fun g hg => by have := HN.out g hg; simp; omega)
      have hn9 : ∀ g ∈ ob (Value.slice p1 E.g.caps c1), w.heap.size ≤ g := fun g hg => by have := HN.out g hg; omega
      have d0 := hI.cell 0
      have d1 := hI.cell 1
      have d2 := hI.cell 2
      simp at d0 d1 d2
      generalize (st3 w3 R (.int .i64 (u.fr : Int)) (.int .i64 (u.to : Int)) (.slice p1 E.g.caps c1)) = W9 at *
      refine bodyPost_ret (v := .tuple #[.agg #[.int .i64 (u.fr : Int), .int .i64 (u.to : Int), .slice p1 E.g.caps c1], .bool true, .int .i64 0]) ?_ rfl ⟨⟨p1, c1, rfl, ho9, hn9⟩, hc9.below⟩
      · simp [results, Tryd.results20, go_sem, d0, d1, d2]
end Go.Proofs.YtkbcaklleiapdaaDoor
