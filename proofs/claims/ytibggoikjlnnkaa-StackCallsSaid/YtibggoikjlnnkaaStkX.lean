/- Layer 17: the law's document: a call by its kind. -/
import Derived.Test.YtibggoikjlnnkaaStkW
import Derived.Test.YtibggoikjlnnkaaStkJ
namespace Go.Proofs.Ytibggoikjlnnkaa
open Go.RowKit Go.Joins M1
set_option linter.unusedVariables false
set_option maxHeartbeats 4000000 in
theorem rprog_0 (B t : Nat) (va : Value) (l : List V5) (lim : Nat) (w : World) (h : Sk 65 B t va l lim w) (hB : B ≤ w.heap.size) (n m : Int) (v : V5)  :
    Calls Try.prog 14 #[.pointer (some ⟨t, 0, none⟩), .agg #[.int .i64 0, .int .i64 n, .int .i64 m, .int .i64 v.k, .int .i64 v.p, .int .i64 v.q, .string v.s, .int .i64 v.r]] w fun e w' => e = .returned (.tuple #[.int .i64 (0), .agg #[.int .i64 0, .int .i64 0, .int .i64 0, .string ⟨#[]⟩, .int .i64 0], .int .i64 (pushE l lim v)]) ∧ SkSaid 65 B t va (pushL l lim v) lim w w' := by
  have HC0 : Hid (Ch [] w ((w.alloc (.cells #[.int .i64 0, .int .i64 n, .int .i64 m, .int .i64 v.k, .int .i64 v.p, .int .i64 v.q, .string v.s, .int .i64 v.r] 39)).alloc (.cells #[.int .i64 0, .int .i64 0, .int .i64 0, .string ⟨#[]⟩, .int .i64 0] 35))) := Lib.hid (((Ch.refl [] w).alloc _).alloc _)
  have HR0 : Hid (Blk 35 (w.heap.size + 1) #[.int .i64 0, .int .i64 0, .int .i64 0, .string ⟨#[]⟩, .int .i64 0] ((w.alloc (.cells #[.int .i64 0, .int .i64 n, .int .i64 m, .int .i64 v.k, .int .i64 v.p, .int .i64 v.q, .string v.s, .int .i64 v.r] 39)).alloc (.cells #[.int .i64 0, .int .i64 0, .int .i64 0, .string ⟨#[]⟩, .int .i64 0] 35))) := Lib.hid (Blk.new _ _ _ _ (by simp))
  have HA0 : Hid (Blk 39 w.heap.size #[.int .i64 0, .int .i64 n, .int .i64 m, .int .i64 v.k, .int .i64 v.p, .int .i64 v.q, .string v.s, .int .i64 v.r] ((w.alloc (.cells #[.int .i64 0, .int .i64 n, .int .i64 m, .int .i64 v.k, .int .i64 v.p, .int .i64 v.q, .string v.s, .int .i64 v.r] 39)).alloc (.cells #[.int .i64 0, .int .i64 0, .int .i64 0, .string ⟨#[]⟩, .int .i64 0] 35))) := Lib.hid ((Blk.new w 39 #[.int .i64 0, .int .i64 n, .int .i64 m, .int .i64 v.k, .int .i64 v.p, .int .i64 v.q, .string v.s, .int .i64 v.r] _ rfl).ch ((Ch.refl [] _).alloc _) (not_nil _))
  have HLT : Hid (∀ g ∈ skS t va, g < w.heap.size) := Lib.hid fun g hg => (h.lt g hg).2
  obtain ⟨cE, hcE⟩ : ∃ cE, cE = pushE l lim v := ⟨_, rfl⟩
  obtain ⟨cL, hcL⟩ : ∃ cL, cL = pushL l lim v := ⟨_, rfl⟩
  have Q : Hid (Calls Try.prog 34 #[.pointer (some ⟨t, 0, none⟩), .agg #[.int .i64 v.k, .int .i64 v.p, .int .i64 v.q, .string v.s, .int .i64 v.r]] ((w.alloc (.cells #[.int .i64 0, .int .i64 n, .int .i64 m, .int .i64 v.k, .int .i64 v.p, .int .i64 v.q, .string v.s, .int .i64 v.r] 39)).alloc (.cells #[.int .i64 0, .int .i64 0, .int .i64 0, .string ⟨#[]⟩, .int .i64 0] 35)) fun e w' => e = .returned (.int .i64 cE) ∧ SkSaid 65 B t va cL lim ((w.alloc (.cells #[.int .i64 0, .int .i64 n, .int .i64 m, .int .i64 v.k, .int .i64 v.p, .int .i64 v.q, .string v.s, .int .i64 v.r] 39)).alloc (.cells #[.int .i64 0, .int .i64 0, .int .i64 0, .string ⟨#[]⟩, .int .i64 0] 35)) w') := Lib.hid (by
    have h := h.ch0 HC0.out
    have hB := Nat.le_trans hB HC0.out.size
    generalize ((w.alloc (.cells #[.int .i64 0, .int .i64 n, .int .i64 m, .int .i64 v.k, .int .i64 v.p, .int .i64 v.q, .string v.s, .int .i64 v.r] 39)).alloc (.cells #[.int .i64 0, .int .i64 0, .int .i64 0, .string ⟨#[]⟩, .int .i64 0] 35)) = W at *
    rw [hcE, hcL]
    exact (rpush_all B t va l lim W h v hB).mono fun e w' hh => hh)
  rw [← hcE, ← hcL]
  clear hcE hcL h hB
  go_enter Try.func14, Try.ntmps14
  go_upto_region 1 with fail
  generalize ((w.alloc (.cells #[.int .i64 0, .int .i64 n, .int .i64 m, .int .i64 v.k, .int .i64 v.p, .int .i64 v.q, .string v.s, .int .i64 v.r] 39)).alloc (.cells #[.int .i64 0, .int .i64 0, .int .i64 0, .string ⟨#[]⟩, .int .i64 0] 35)) = w0 at *
  have a0 : w0.cell? ⟨w.heap.size, 0, none⟩ = some (.int .i64 0) := HA0.out.cell 0
  have a1 : w0.cell? ⟨w.heap.size, 1, none⟩ = some (.int .i64 n) := HA0.out.cell 1
  have a2 : w0.cell? ⟨w.heap.size, 2, none⟩ = some (.int .i64 m) := HA0.out.cell 2
  have a3 : w0.cell? ⟨w.heap.size, 3, none⟩ = some (.int .i64 v.k) := HA0.out.cell 3
  have a4 : w0.cell? ⟨w.heap.size, 4, none⟩ = some (.int .i64 v.p) := HA0.out.cell 4
  have a5 : w0.cell? ⟨w.heap.size, 5, none⟩ = some (.int .i64 v.q) := HA0.out.cell 5
  have a6 : w0.cell? ⟨w.heap.size, 6, none⟩ = some (.string v.s) := HA0.out.cell 6
  have a7 : w0.cell? ⟨w.heap.size, 7, none⟩ = some (.int .i64 v.r) := HA0.out.cell 7
  have la := HA0.out.lt
  go_wp2_with (go_at_call 34; (with_reducible refine (Q.out).mono ?_); rintro e w1 ⟨rfl, hs⟩; have HS := Lib.hid hs; have HR1 : Hid (Blk 35 (w.heap.size + 1) #[.int .i64 0, .int .i64 0, .int .i64 0, .string ⟨#[]⟩, .int .i64 0] w1) := Lib.hid (HR0.out.ch hs.2 (fun hg => by have := HLT.out _ hg; omega)); have b0 : w1.cell? ⟨w.heap.size + 1, 0, none⟩ = some (.int .i64 0) := HR1.out.cell 0; have b1 : w1.cell? ⟨w.heap.size + 1, 1, none⟩ = some (.int .i64 0) := HR1.out.cell 1; have b2 : w1.cell? ⟨w.heap.size + 1, 2, none⟩ = some (.int .i64 0) := HR1.out.cell 2; have b3 : w1.cell? ⟨w.heap.size + 1, 3, none⟩ = some (.string ⟨#[]⟩) := HR1.out.cell 3; have b4 : w1.cell? ⟨w.heap.size + 1, 4, none⟩ = some (.int .i64 0) := HR1.out.cell 4; have fz0 := HR1.out.fz 0; have fz1 := HR1.out.fz 1; have fz2 := HR1.out.fz 2; have fz3 := HR1.out.fz 3; have fz4 := HR1.out.fz 4; have lb := HR1.out.lt; clear hs)
  show bodyPost _ _ _ Exit.ret _ (st5 w1 (w.heap.size + 1) (.int .i64 0) (.int .i64 0) (.int .i64 0) (.string ⟨#[]⟩) (.int .i64 0))
  have I1 : Blk 35 (w.heap.size + 1) #[.int .i64 0, .int .i64 0, .int .i64 0, .string ⟨#[]⟩, .int .i64 0] (st5 w1 (w.heap.size + 1) (.int .i64 0) (.int .i64 0) (.int .i64 0) (.string ⟨#[]⟩) (.int .i64 0)) := st5_blk HR1.out
  have hC : Ch [w.heap.size + 1] w1 (st5 w1 (w.heap.size + 1) (.int .i64 0) (.int .i64 0) (.int .i64 0) (.string ⟨#[]⟩) (.int .i64 0)) := st5_ch (Ch.refl _ _) (.inl (by simp))
  have y0 : (st5 w1 (w.heap.size + 1) (.int .i64 0) (.int .i64 0) (.int .i64 0) (.string ⟨#[]⟩) (.int .i64 0)).cell? ⟨(w.heap.size + 1), 0, none⟩ = some (.int .i64 0) := I1.cell 0
  have y1 : (st5 w1 (w.heap.size + 1) (.int .i64 0) (.int .i64 0) (.int .i64 0) (.string ⟨#[]⟩) (.int .i64 0)).cell? ⟨(w.heap.size + 1), 1, none⟩ = some (.int .i64 0) := I1.cell 1
  have y2 : (st5 w1 (w.heap.size + 1) (.int .i64 0) (.int .i64 0) (.int .i64 0) (.string ⟨#[]⟩) (.int .i64 0)).cell? ⟨(w.heap.size + 1), 2, none⟩ = some (.int .i64 0) := I1.cell 2
  have y3 : (st5 w1 (w.heap.size + 1) (.int .i64 0) (.int .i64 0) (.int .i64 0) (.string ⟨#[]⟩) (.int .i64 0)).cell? ⟨(w.heap.size + 1), 3, none⟩ = some (.string ⟨#[]⟩) := I1.cell 3
  have y4 : (st5 w1 (w.heap.size + 1) (.int .i64 0) (.int .i64 0) (.int .i64 0) (.string ⟨#[]⟩) (.int .i64 0)).cell? ⟨(w.heap.size + 1), 4, none⟩ = some (.int .i64 0) := I1.cell 4
  have HF := Lib.hid (sk_off HC0.out HS.out hC (fun g hg => by
    simp at hg; subst hg
    exact ⟨fun hm => by have := HLT.out _ hm; omega, HR0.out.lt, by omega⟩))
  generalize (st5 w1 (w.heap.size + 1) (.int .i64 0) (.int .i64 0) (.int .i64 0) (.string ⟨#[]⟩) (.int .i64 0)) = W9 at *
  refine bodyPost_ret (v := .tuple #[.int .i64 0, .agg #[.int .i64 0, .int .i64 0, .int .i64 0, .string ⟨#[]⟩, .int .i64 0], .int .i64 cE]) (by simp [results, Try.results14, go_sem, y0, y1, y2, y3, y4]) rfl ⟨rfl, HF.out⟩
set_option maxHeartbeats 4000000 in
theorem rprog_1 (B t : Nat) (va : Value) (l : List V5) (lim : Nat) (w : World) (h : Sk 65 B t va l lim w) (hB : B ≤ w.heap.size) (n m : Int) (v : V5)  :
    Calls Try.prog 14 #[.pointer (some ⟨t, 0, none⟩), .agg #[.int .i64 1, .int .i64 n, .int .i64 m, .int .i64 v.k, .int .i64 v.p, .int .i64 v.q, .string v.s, .int .i64 v.r]] w fun e w' => e = .returned (.tuple #[.int .i64 (0), .agg #[.int .i64 0, .int .i64 0, .int .i64 0, .string ⟨#[]⟩, .int .i64 0], .int .i64 (popE l n)]) ∧ SkSaid 65 B t va (popL l n) lim w w' := by
  have HC0 : Hid (Ch [] w ((w.alloc (.cells #[.int .i64 1, .int .i64 n, .int .i64 m, .int .i64 v.k, .int .i64 v.p, .int .i64 v.q, .string v.s, .int .i64 v.r] 39)).alloc (.cells #[.int .i64 0, .int .i64 0, .int .i64 0, .string ⟨#[]⟩, .int .i64 0] 35))) := Lib.hid (((Ch.refl [] w).alloc _).alloc _)
  have HR0 : Hid (Blk 35 (w.heap.size + 1) #[.int .i64 0, .int .i64 0, .int .i64 0, .string ⟨#[]⟩, .int .i64 0] ((w.alloc (.cells #[.int .i64 1, .int .i64 n, .int .i64 m, .int .i64 v.k, .int .i64 v.p, .int .i64 v.q, .string v.s, .int .i64 v.r] 39)).alloc (.cells #[.int .i64 0, .int .i64 0, .int .i64 0, .string ⟨#[]⟩, .int .i64 0] 35))) := Lib.hid (Blk.new _ _ _ _ (by simp))
  have HA0 : Hid (Blk 39 w.heap.size #[.int .i64 1, .int .i64 n, .int .i64 m, .int .i64 v.k, .int .i64 v.p, .int .i64 v.q, .string v.s, .int .i64 v.r] ((w.alloc (.cells #[.int .i64 1, .int .i64 n, .int .i64 m, .int .i64 v.k, .int .i64 v.p, .int .i64 v.q, .string v.s, .int .i64 v.r] 39)).alloc (.cells #[.int .i64 0, .int .i64 0, .int .i64 0, .string ⟨#[]⟩, .int .i64 0] 35))) := Lib.hid ((Blk.new w 39 #[.int .i64 1, .int .i64 n, .int .i64 m, .int .i64 v.k, .int .i64 v.p, .int .i64 v.q, .string v.s, .int .i64 v.r] _ rfl).ch ((Ch.refl [] _).alloc _) (not_nil _))
  have HLT : Hid (∀ g ∈ skS t va, g < w.heap.size) := Lib.hid fun g hg => (h.lt g hg).2
  obtain ⟨cE, hcE⟩ : ∃ cE, cE = popE l n := ⟨_, rfl⟩
  obtain ⟨cL, hcL⟩ : ∃ cL, cL = popL l n := ⟨_, rfl⟩
  have Q : Hid (Calls Try.prog 35 #[.pointer (some ⟨t, 0, none⟩), .int .i64 n] ((w.alloc (.cells #[.int .i64 1, .int .i64 n, .int .i64 m, .int .i64 v.k, .int .i64 v.p, .int .i64 v.q, .string v.s, .int .i64 v.r] 39)).alloc (.cells #[.int .i64 0, .int .i64 0, .int .i64 0, .string ⟨#[]⟩, .int .i64 0] 35)) fun e w' => e = .returned (.int .i64 cE) ∧ SkSaid 65 B t va cL lim ((w.alloc (.cells #[.int .i64 1, .int .i64 n, .int .i64 m, .int .i64 v.k, .int .i64 v.p, .int .i64 v.q, .string v.s, .int .i64 v.r] 39)).alloc (.cells #[.int .i64 0, .int .i64 0, .int .i64 0, .string ⟨#[]⟩, .int .i64 0] 35)) w') := Lib.hid (by
    have h := h.ch0 HC0.out
    have hB := Nat.le_trans hB HC0.out.size
    generalize ((w.alloc (.cells #[.int .i64 1, .int .i64 n, .int .i64 m, .int .i64 v.k, .int .i64 v.p, .int .i64 v.q, .string v.s, .int .i64 v.r] 39)).alloc (.cells #[.int .i64 0, .int .i64 0, .int .i64 0, .string ⟨#[]⟩, .int .i64 0] 35)) = W at *
    rw [hcE, hcL]
    exact (rpop_all B t va l lim W h n).mono fun e w' hh => hh)
  rw [← hcE, ← hcL]
  clear hcE hcL h hB
  go_enter Try.func14, Try.ntmps14
  go_upto_region 1 with fail
  generalize ((w.alloc (.cells #[.int .i64 1, .int .i64 n, .int .i64 m, .int .i64 v.k, .int .i64 v.p, .int .i64 v.q, .string v.s, .int .i64 v.r] 39)).alloc (.cells #[.int .i64 0, .int .i64 0, .int .i64 0, .string ⟨#[]⟩, .int .i64 0] 35)) = w0 at *
  have a0 : w0.cell? ⟨w.heap.size, 0, none⟩ = some (.int .i64 1) := HA0.out.cell 0
  have a1 : w0.cell? ⟨w.heap.size, 1, none⟩ = some (.int .i64 n) := HA0.out.cell 1
  have a2 : w0.cell? ⟨w.heap.size, 2, none⟩ = some (.int .i64 m) := HA0.out.cell 2
  have a3 : w0.cell? ⟨w.heap.size, 3, none⟩ = some (.int .i64 v.k) := HA0.out.cell 3
  have a4 : w0.cell? ⟨w.heap.size, 4, none⟩ = some (.int .i64 v.p) := HA0.out.cell 4
  have a5 : w0.cell? ⟨w.heap.size, 5, none⟩ = some (.int .i64 v.q) := HA0.out.cell 5
  have a6 : w0.cell? ⟨w.heap.size, 6, none⟩ = some (.string v.s) := HA0.out.cell 6
  have a7 : w0.cell? ⟨w.heap.size, 7, none⟩ = some (.int .i64 v.r) := HA0.out.cell 7
  have la := HA0.out.lt
  go_wp2_with (go_at_call 35; (with_reducible refine (Q.out).mono ?_); rintro e w1 ⟨rfl, hs⟩; have HS := Lib.hid hs; have HR1 : Hid (Blk 35 (w.heap.size + 1) #[.int .i64 0, .int .i64 0, .int .i64 0, .string ⟨#[]⟩, .int .i64 0] w1) := Lib.hid (HR0.out.ch hs.2 (fun hg => by have := HLT.out _ hg; omega)); have b0 : w1.cell? ⟨w.heap.size + 1, 0, none⟩ = some (.int .i64 0) := HR1.out.cell 0; have b1 : w1.cell? ⟨w.heap.size + 1, 1, none⟩ = some (.int .i64 0) := HR1.out.cell 1; have b2 : w1.cell? ⟨w.heap.size + 1, 2, none⟩ = some (.int .i64 0) := HR1.out.cell 2; have b3 : w1.cell? ⟨w.heap.size + 1, 3, none⟩ = some (.string ⟨#[]⟩) := HR1.out.cell 3; have b4 : w1.cell? ⟨w.heap.size + 1, 4, none⟩ = some (.int .i64 0) := HR1.out.cell 4; have fz0 := HR1.out.fz 0; have fz1 := HR1.out.fz 1; have fz2 := HR1.out.fz 2; have fz3 := HR1.out.fz 3; have fz4 := HR1.out.fz 4; have lb := HR1.out.lt; clear hs)
  show bodyPost _ _ _ Exit.ret _ (st5 w1 (w.heap.size + 1) (.int .i64 0) (.int .i64 0) (.int .i64 0) (.string ⟨#[]⟩) (.int .i64 0))
  have I1 : Blk 35 (w.heap.size + 1) #[.int .i64 0, .int .i64 0, .int .i64 0, .string ⟨#[]⟩, .int .i64 0] (st5 w1 (w.heap.size + 1) (.int .i64 0) (.int .i64 0) (.int .i64 0) (.string ⟨#[]⟩) (.int .i64 0)) := st5_blk HR1.out
  have hC : Ch [w.heap.size + 1] w1 (st5 w1 (w.heap.size + 1) (.int .i64 0) (.int .i64 0) (.int .i64 0) (.string ⟨#[]⟩) (.int .i64 0)) := st5_ch (Ch.refl _ _) (.inl (by simp))
  have y0 : (st5 w1 (w.heap.size + 1) (.int .i64 0) (.int .i64 0) (.int .i64 0) (.string ⟨#[]⟩) (.int .i64 0)).cell? ⟨(w.heap.size + 1), 0, none⟩ = some (.int .i64 0) := I1.cell 0
  have y1 : (st5 w1 (w.heap.size + 1) (.int .i64 0) (.int .i64 0) (.int .i64 0) (.string ⟨#[]⟩) (.int .i64 0)).cell? ⟨(w.heap.size + 1), 1, none⟩ = some (.int .i64 0) := I1.cell 1
  have y2 : (st5 w1 (w.heap.size + 1) (.int .i64 0) (.int .i64 0) (.int .i64 0) (.string ⟨#[]⟩) (.int .i64 0)).cell? ⟨(w.heap.size + 1), 2, none⟩ = some (.int .i64 0) := I1.cell 2
  have y3 : (st5 w1 (w.heap.size + 1) (.int .i64 0) (.int .i64 0) (.int .i64 0) (.string ⟨#[]⟩) (.int .i64 0)).cell? ⟨(w.heap.size + 1), 3, none⟩ = some (.string ⟨#[]⟩) := I1.cell 3
  have y4 : (st5 w1 (w.heap.size + 1) (.int .i64 0) (.int .i64 0) (.int .i64 0) (.string ⟨#[]⟩) (.int .i64 0)).cell? ⟨(w.heap.size + 1), 4, none⟩ = some (.int .i64 0) := I1.cell 4
  have HF := Lib.hid (sk_off HC0.out HS.out hC (fun g hg => by
    simp at hg; subst hg
    exact ⟨fun hm => by have := HLT.out _ hm; omega, HR0.out.lt, by omega⟩))
  generalize (st5 w1 (w.heap.size + 1) (.int .i64 0) (.int .i64 0) (.int .i64 0) (.string ⟨#[]⟩) (.int .i64 0)) = W9 at *
  refine bodyPost_ret (v := .tuple #[.int .i64 0, .agg #[.int .i64 0, .int .i64 0, .int .i64 0, .string ⟨#[]⟩, .int .i64 0], .int .i64 cE]) (by simp [results, Try.results14, go_sem, y0, y1, y2, y3, y4]) rfl ⟨rfl, HF.out⟩
set_option maxHeartbeats 4000000 in
theorem rprog_2 (B t : Nat) (va : Value) (l : List V5) (lim : Nat) (w : World) (h : Sk 65 B t va l lim w) (hB : B ≤ w.heap.size) (n m : Int) (v : V5)  :
    Calls Try.prog 14 #[.pointer (some ⟨t, 0, none⟩), .agg #[.int .i64 2, .int .i64 n, .int .i64 m, .int .i64 v.k, .int .i64 v.p, .int .i64 v.q, .string v.s, .int .i64 v.r]] w fun e w' => e = .returned (.tuple #[.int .i64 (0), .agg #[.int .i64 0, .int .i64 0, .int .i64 0, .string ⟨#[]⟩, .int .i64 0], .int .i64 (topE lim n)]) ∧ SkSaid 65 B t va (topL l lim n) lim w w' := by
  have HC0 : Hid (Ch [] w ((w.alloc (.cells #[.int .i64 2, .int .i64 n, .int .i64 m, .int .i64 v.k, .int .i64 v.p, .int .i64 v.q, .string v.s, .int .i64 v.r] 39)).alloc (.cells #[.int .i64 0, .int .i64 0, .int .i64 0, .string ⟨#[]⟩, .int .i64 0] 35))) := Lib.hid (((Ch.refl [] w).alloc _).alloc _)
  have HR0 : Hid (Blk 35 (w.heap.size + 1) #[.int .i64 0, .int .i64 0, .int .i64 0, .string ⟨#[]⟩, .int .i64 0] ((w.alloc (.cells #[.int .i64 2, .int .i64 n, .int .i64 m, .int .i64 v.k, .int .i64 v.p, .int .i64 v.q, .string v.s, .int .i64 v.r] 39)).alloc (.cells #[.int .i64 0, .int .i64 0, .int .i64 0, .string ⟨#[]⟩, .int .i64 0] 35))) := Lib.hid (Blk.new _ _ _ _ (by simp))
  have HA0 : Hid (Blk 39 w.heap.size #[.int .i64 2, .int .i64 n, .int .i64 m, .int .i64 v.k, .int .i64 v.p, .int .i64 v.q, .string v.s, .int .i64 v.r] ((w.alloc (.cells #[.int .i64 2, .int .i64 n, .int .i64 m, .int .i64 v.k, .int .i64 v.p, .int .i64 v.q, .string v.s, .int .i64 v.r] 39)).alloc (.cells #[.int .i64 0, .int .i64 0, .int .i64 0, .string ⟨#[]⟩, .int .i64 0] 35))) := Lib.hid ((Blk.new w 39 #[.int .i64 2, .int .i64 n, .int .i64 m, .int .i64 v.k, .int .i64 v.p, .int .i64 v.q, .string v.s, .int .i64 v.r] _ rfl).ch ((Ch.refl [] _).alloc _) (not_nil _))
  have HLT : Hid (∀ g ∈ skS t va, g < w.heap.size) := Lib.hid fun g hg => (h.lt g hg).2
  obtain ⟨cE, hcE⟩ : ∃ cE, cE = topE lim n := ⟨_, rfl⟩
  obtain ⟨cL, hcL⟩ : ∃ cL, cL = topL l lim n := ⟨_, rfl⟩
  have Q : Hid (Calls Try.prog 36 #[.pointer (some ⟨t, 0, none⟩), .int .i64 n] ((w.alloc (.cells #[.int .i64 2, .int .i64 n, .int .i64 m, .int .i64 v.k, .int .i64 v.p, .int .i64 v.q, .string v.s, .int .i64 v.r] 39)).alloc (.cells #[.int .i64 0, .int .i64 0, .int .i64 0, .string ⟨#[]⟩, .int .i64 0] 35)) fun e w' => e = .returned (.int .i64 cE) ∧ SkSaid 65 B t va cL lim ((w.alloc (.cells #[.int .i64 2, .int .i64 n, .int .i64 m, .int .i64 v.k, .int .i64 v.p, .int .i64 v.q, .string v.s, .int .i64 v.r] 39)).alloc (.cells #[.int .i64 0, .int .i64 0, .int .i64 0, .string ⟨#[]⟩, .int .i64 0] 35)) w') := Lib.hid (by
    have h := h.ch0 HC0.out
    have hB := Nat.le_trans hB HC0.out.size
    generalize ((w.alloc (.cells #[.int .i64 2, .int .i64 n, .int .i64 m, .int .i64 v.k, .int .i64 v.p, .int .i64 v.q, .string v.s, .int .i64 v.r] 39)).alloc (.cells #[.int .i64 0, .int .i64 0, .int .i64 0, .string ⟨#[]⟩, .int .i64 0] 35)) = W at *
    rw [hcE, hcL]
    exact (rsettop_all B t va l lim W h n hB).mono fun e w' hh => hh)
  rw [← hcE, ← hcL]
  clear hcE hcL h hB
  go_enter Try.func14, Try.ntmps14
  go_upto_region 1 with fail
  generalize ((w.alloc (.cells #[.int .i64 2, .int .i64 n, .int .i64 m, .int .i64 v.k, .int .i64 v.p, .int .i64 v.q, .string v.s, .int .i64 v.r] 39)).alloc (.cells #[.int .i64 0, .int .i64 0, .int .i64 0, .string ⟨#[]⟩, .int .i64 0] 35)) = w0 at *
  have a0 : w0.cell? ⟨w.heap.size, 0, none⟩ = some (.int .i64 2) := HA0.out.cell 0
  have a1 : w0.cell? ⟨w.heap.size, 1, none⟩ = some (.int .i64 n) := HA0.out.cell 1
  have a2 : w0.cell? ⟨w.heap.size, 2, none⟩ = some (.int .i64 m) := HA0.out.cell 2
  have a3 : w0.cell? ⟨w.heap.size, 3, none⟩ = some (.int .i64 v.k) := HA0.out.cell 3
  have a4 : w0.cell? ⟨w.heap.size, 4, none⟩ = some (.int .i64 v.p) := HA0.out.cell 4
  have a5 : w0.cell? ⟨w.heap.size, 5, none⟩ = some (.int .i64 v.q) := HA0.out.cell 5
  have a6 : w0.cell? ⟨w.heap.size, 6, none⟩ = some (.string v.s) := HA0.out.cell 6
  have a7 : w0.cell? ⟨w.heap.size, 7, none⟩ = some (.int .i64 v.r) := HA0.out.cell 7
  have la := HA0.out.lt
  go_wp2_with (go_at_call 36; (with_reducible refine (Q.out).mono ?_); rintro e w1 ⟨rfl, hs⟩; have HS := Lib.hid hs; have HR1 : Hid (Blk 35 (w.heap.size + 1) #[.int .i64 0, .int .i64 0, .int .i64 0, .string ⟨#[]⟩, .int .i64 0] w1) := Lib.hid (HR0.out.ch hs.2 (fun hg => by have := HLT.out _ hg; omega)); have b0 : w1.cell? ⟨w.heap.size + 1, 0, none⟩ = some (.int .i64 0) := HR1.out.cell 0; have b1 : w1.cell? ⟨w.heap.size + 1, 1, none⟩ = some (.int .i64 0) := HR1.out.cell 1; have b2 : w1.cell? ⟨w.heap.size + 1, 2, none⟩ = some (.int .i64 0) := HR1.out.cell 2; have b3 : w1.cell? ⟨w.heap.size + 1, 3, none⟩ = some (.string ⟨#[]⟩) := HR1.out.cell 3; have b4 : w1.cell? ⟨w.heap.size + 1, 4, none⟩ = some (.int .i64 0) := HR1.out.cell 4; have fz0 := HR1.out.fz 0; have fz1 := HR1.out.fz 1; have fz2 := HR1.out.fz 2; have fz3 := HR1.out.fz 3; have fz4 := HR1.out.fz 4; have lb := HR1.out.lt; clear hs)
  show bodyPost _ _ _ Exit.ret _ (st5 w1 (w.heap.size + 1) (.int .i64 0) (.int .i64 0) (.int .i64 0) (.string ⟨#[]⟩) (.int .i64 0))
  have I1 : Blk 35 (w.heap.size + 1) #[.int .i64 0, .int .i64 0, .int .i64 0, .string ⟨#[]⟩, .int .i64 0] (st5 w1 (w.heap.size + 1) (.int .i64 0) (.int .i64 0) (.int .i64 0) (.string ⟨#[]⟩) (.int .i64 0)) := st5_blk HR1.out
  have hC : Ch [w.heap.size + 1] w1 (st5 w1 (w.heap.size + 1) (.int .i64 0) (.int .i64 0) (.int .i64 0) (.string ⟨#[]⟩) (.int .i64 0)) := st5_ch (Ch.refl _ _) (.inl (by simp))
  have y0 : (st5 w1 (w.heap.size + 1) (.int .i64 0) (.int .i64 0) (.int .i64 0) (.string ⟨#[]⟩) (.int .i64 0)).cell? ⟨(w.heap.size + 1), 0, none⟩ = some (.int .i64 0) := I1.cell 0
  have y1 : (st5 w1 (w.heap.size + 1) (.int .i64 0) (.int .i64 0) (.int .i64 0) (.string ⟨#[]⟩) (.int .i64 0)).cell? ⟨(w.heap.size + 1), 1, none⟩ = some (.int .i64 0) := I1.cell 1
  have y2 : (st5 w1 (w.heap.size + 1) (.int .i64 0) (.int .i64 0) (.int .i64 0) (.string ⟨#[]⟩) (.int .i64 0)).cell? ⟨(w.heap.size + 1), 2, none⟩ = some (.int .i64 0) := I1.cell 2
  have y3 : (st5 w1 (w.heap.size + 1) (.int .i64 0) (.int .i64 0) (.int .i64 0) (.string ⟨#[]⟩) (.int .i64 0)).cell? ⟨(w.heap.size + 1), 3, none⟩ = some (.string ⟨#[]⟩) := I1.cell 3
  have y4 : (st5 w1 (w.heap.size + 1) (.int .i64 0) (.int .i64 0) (.int .i64 0) (.string ⟨#[]⟩) (.int .i64 0)).cell? ⟨(w.heap.size + 1), 4, none⟩ = some (.int .i64 0) := I1.cell 4
  have HF := Lib.hid (sk_off HC0.out HS.out hC (fun g hg => by
    simp at hg; subst hg
    exact ⟨fun hm => by have := HLT.out _ hm; omega, HR0.out.lt, by omega⟩))
  generalize (st5 w1 (w.heap.size + 1) (.int .i64 0) (.int .i64 0) (.int .i64 0) (.string ⟨#[]⟩) (.int .i64 0)) = W9 at *
  refine bodyPost_ret (v := .tuple #[.int .i64 0, .agg #[.int .i64 0, .int .i64 0, .int .i64 0, .string ⟨#[]⟩, .int .i64 0], .int .i64 cE]) (by simp [results, Try.results14, go_sem, y0, y1, y2, y3, y4]) rfl ⟨rfl, HF.out⟩
set_option maxHeartbeats 4000000 in
theorem rprog_3 (B t : Nat) (va : Value) (l : List V5) (lim : Nat) (w : World) (h : Sk 65 B t va l lim w) (hB : B ≤ w.heap.size) (n m : Int) (v : V5)  :
    Calls Try.prog 14 #[.pointer (some ⟨t, 0, none⟩), .agg #[.int .i64 3, .int .i64 n, .int .i64 m, .int .i64 v.k, .int .i64 v.p, .int .i64 v.q, .string v.s, .int .i64 v.r]] w fun e w' => e = .returned (.tuple #[.int .i64 (absV l n), .agg #[.int .i64 0, .int .i64 0, .int .i64 0, .string ⟨#[]⟩, .int .i64 0], .int .i64 (atE l n)]) ∧ SkSaid 65 B t va (l) lim w w' := by
  have HC0 : Hid (Ch [] w ((w.alloc (.cells #[.int .i64 3, .int .i64 n, .int .i64 m, .int .i64 v.k, .int .i64 v.p, .int .i64 v.q, .string v.s, .int .i64 v.r] 39)).alloc (.cells #[.int .i64 0, .int .i64 0, .int .i64 0, .string ⟨#[]⟩, .int .i64 0] 35))) := Lib.hid (((Ch.refl [] w).alloc _).alloc _)
  have HR0 : Hid (Blk 35 (w.heap.size + 1) #[.int .i64 0, .int .i64 0, .int .i64 0, .string ⟨#[]⟩, .int .i64 0] ((w.alloc (.cells #[.int .i64 3, .int .i64 n, .int .i64 m, .int .i64 v.k, .int .i64 v.p, .int .i64 v.q, .string v.s, .int .i64 v.r] 39)).alloc (.cells #[.int .i64 0, .int .i64 0, .int .i64 0, .string ⟨#[]⟩, .int .i64 0] 35))) := Lib.hid (Blk.new _ _ _ _ (by simp))
  have HA0 : Hid (Blk 39 w.heap.size #[.int .i64 3, .int .i64 n, .int .i64 m, .int .i64 v.k, .int .i64 v.p, .int .i64 v.q, .string v.s, .int .i64 v.r] ((w.alloc (.cells #[.int .i64 3, .int .i64 n, .int .i64 m, .int .i64 v.k, .int .i64 v.p, .int .i64 v.q, .string v.s, .int .i64 v.r] 39)).alloc (.cells #[.int .i64 0, .int .i64 0, .int .i64 0, .string ⟨#[]⟩, .int .i64 0] 35))) := Lib.hid ((Blk.new w 39 #[.int .i64 3, .int .i64 n, .int .i64 m, .int .i64 v.k, .int .i64 v.p, .int .i64 v.q, .string v.s, .int .i64 v.r] _ rfl).ch ((Ch.refl [] _).alloc _) (not_nil _))
  have HLT : Hid (∀ g ∈ skS t va, g < w.heap.size) := Lib.hid fun g hg => (h.lt g hg).2
  obtain ⟨cE, hcE⟩ : ∃ cE, cE = atE l n := ⟨_, rfl⟩
  obtain ⟨cL, hcL⟩ : ∃ cL, cL = l := ⟨_, rfl⟩
  obtain ⟨cN, hcN⟩ : ∃ cN, cN = absV l n := ⟨_, rfl⟩
  have Q : Hid (Calls Try.prog 37 #[.pointer (some ⟨t, 0, none⟩), .int .i64 n] ((w.alloc (.cells #[.int .i64 3, .int .i64 n, .int .i64 m, .int .i64 v.k, .int .i64 v.p, .int .i64 v.q, .string v.s, .int .i64 v.r] 39)).alloc (.cells #[.int .i64 0, .int .i64 0, .int .i64 0, .string ⟨#[]⟩, .int .i64 0] 35)) fun e w' => e = .returned (.tuple #[.int .i64 cN, .int .i64 cE]) ∧ SkSaid 65 B t va l lim ((w.alloc (.cells #[.int .i64 3, .int .i64 n, .int .i64 m, .int .i64 v.k, .int .i64 v.p, .int .i64 v.q, .string v.s, .int .i64 v.r] 39)).alloc (.cells #[.int .i64 0, .int .i64 0, .int .i64 0, .string ⟨#[]⟩, .int .i64 0] 35)) w') := Lib.hid (by
    have h := h.ch0 HC0.out
    have hB := Nat.le_trans hB HC0.out.size
    generalize ((w.alloc (.cells #[.int .i64 3, .int .i64 n, .int .i64 m, .int .i64 v.k, .int .i64 v.p, .int .i64 v.q, .string v.s, .int .i64 v.r] 39)).alloc (.cells #[.int .i64 0, .int .i64 0, .int .i64 0, .string ⟨#[]⟩, .int .i64 0] 35)) = W at *
    rw [hcE, hcN]
    exact (rabs_all B t va l lim W h n).mono fun e w' hh => ⟨hh.1, sk_0 h (by rw [hh.2]; exact Ch.refl _ _)⟩)
  rw [← hcE, ← hcN]
  clear hcE hcL hcN h hB
  go_enter Try.func14, Try.ntmps14
  go_upto_region 1 with fail
  generalize ((w.alloc (.cells #[.int .i64 3, .int .i64 n, .int .i64 m, .int .i64 v.k, .int .i64 v.p, .int .i64 v.q, .string v.s, .int .i64 v.r] 39)).alloc (.cells #[.int .i64 0, .int .i64 0, .int .i64 0, .string ⟨#[]⟩, .int .i64 0] 35)) = w0 at *
  have a0 : w0.cell? ⟨w.heap.size, 0, none⟩ = some (.int .i64 3) := HA0.out.cell 0
  have a1 : w0.cell? ⟨w.heap.size, 1, none⟩ = some (.int .i64 n) := HA0.out.cell 1
  have a2 : w0.cell? ⟨w.heap.size, 2, none⟩ = some (.int .i64 m) := HA0.out.cell 2
  have a3 : w0.cell? ⟨w.heap.size, 3, none⟩ = some (.int .i64 v.k) := HA0.out.cell 3
  have a4 : w0.cell? ⟨w.heap.size, 4, none⟩ = some (.int .i64 v.p) := HA0.out.cell 4
  have a5 : w0.cell? ⟨w.heap.size, 5, none⟩ = some (.int .i64 v.q) := HA0.out.cell 5
  have a6 : w0.cell? ⟨w.heap.size, 6, none⟩ = some (.string v.s) := HA0.out.cell 6
  have a7 : w0.cell? ⟨w.heap.size, 7, none⟩ = some (.int .i64 v.r) := HA0.out.cell 7
  have la := HA0.out.lt
  go_wp2_with (go_at_call 37; (with_reducible refine (Q.out).mono ?_); rintro e w1 ⟨rfl, hs⟩; have HS := Lib.hid hs; have HR1 : Hid (Blk 35 (w.heap.size + 1) #[.int .i64 0, .int .i64 0, .int .i64 0, .string ⟨#[]⟩, .int .i64 0] w1) := Lib.hid (HR0.out.ch hs.2 (fun hg => by have := HLT.out _ hg; omega)); have b0 : w1.cell? ⟨w.heap.size + 1, 0, none⟩ = some (.int .i64 0) := HR1.out.cell 0; have b1 : w1.cell? ⟨w.heap.size + 1, 1, none⟩ = some (.int .i64 0) := HR1.out.cell 1; have b2 : w1.cell? ⟨w.heap.size + 1, 2, none⟩ = some (.int .i64 0) := HR1.out.cell 2; have b3 : w1.cell? ⟨w.heap.size + 1, 3, none⟩ = some (.string ⟨#[]⟩) := HR1.out.cell 3; have b4 : w1.cell? ⟨w.heap.size + 1, 4, none⟩ = some (.int .i64 0) := HR1.out.cell 4; have fz0 := HR1.out.fz 0; have fz1 := HR1.out.fz 1; have fz2 := HR1.out.fz 2; have fz3 := HR1.out.fz 3; have fz4 := HR1.out.fz 4; have lb := HR1.out.lt; clear hs)
  show bodyPost _ _ _ Exit.ret _ (st5 w1 (w.heap.size + 1) (.int .i64 0) (.int .i64 0) (.int .i64 0) (.string ⟨#[]⟩) (.int .i64 0))
  have I1 : Blk 35 (w.heap.size + 1) #[.int .i64 0, .int .i64 0, .int .i64 0, .string ⟨#[]⟩, .int .i64 0] (st5 w1 (w.heap.size + 1) (.int .i64 0) (.int .i64 0) (.int .i64 0) (.string ⟨#[]⟩) (.int .i64 0)) := st5_blk HR1.out
  have hC : Ch [w.heap.size + 1] w1 (st5 w1 (w.heap.size + 1) (.int .i64 0) (.int .i64 0) (.int .i64 0) (.string ⟨#[]⟩) (.int .i64 0)) := st5_ch (Ch.refl _ _) (.inl (by simp))
  have y0 : (st5 w1 (w.heap.size + 1) (.int .i64 0) (.int .i64 0) (.int .i64 0) (.string ⟨#[]⟩) (.int .i64 0)).cell? ⟨(w.heap.size + 1), 0, none⟩ = some (.int .i64 0) := I1.cell 0
  have y1 : (st5 w1 (w.heap.size + 1) (.int .i64 0) (.int .i64 0) (.int .i64 0) (.string ⟨#[]⟩) (.int .i64 0)).cell? ⟨(w.heap.size + 1), 1, none⟩ = some (.int .i64 0) := I1.cell 1
  have y2 : (st5 w1 (w.heap.size + 1) (.int .i64 0) (.int .i64 0) (.int .i64 0) (.string ⟨#[]⟩) (.int .i64 0)).cell? ⟨(w.heap.size + 1), 2, none⟩ = some (.int .i64 0) := I1.cell 2
  have y3 : (st5 w1 (w.heap.size + 1) (.int .i64 0) (.int .i64 0) (.int .i64 0) (.string ⟨#[]⟩) (.int .i64 0)).cell? ⟨(w.heap.size + 1), 3, none⟩ = some (.string ⟨#[]⟩) := I1.cell 3
  have y4 : (st5 w1 (w.heap.size + 1) (.int .i64 0) (.int .i64 0) (.int .i64 0) (.string ⟨#[]⟩) (.int .i64 0)).cell? ⟨(w.heap.size + 1), 4, none⟩ = some (.int .i64 0) := I1.cell 4
  have HF := Lib.hid (sk_off HC0.out HS.out hC (fun g hg => by
    simp at hg; subst hg
    exact ⟨fun hm => by have := HLT.out _ hm; omega, HR0.out.lt, by omega⟩))
  generalize (st5 w1 (w.heap.size + 1) (.int .i64 0) (.int .i64 0) (.int .i64 0) (.string ⟨#[]⟩) (.int .i64 0)) = W9 at *
  refine bodyPost_ret (v := .tuple #[.int .i64 cN, .agg #[.int .i64 0, .int .i64 0, .int .i64 0, .string ⟨#[]⟩, .int .i64 0], .int .i64 cE]) (by simp [results, Try.results14, go_sem, y0, y1, y2, y3, y4]) rfl ⟨rfl, HF.out⟩
set_option maxHeartbeats 4000000 in
theorem rprog_4 (B t : Nat) (va : Value) (l : List V5) (lim : Nat) (w : World) (h : Sk 65 B t va l lim w) (hB : B ≤ w.heap.size) (n m : Int) (v : V5)  :
    Calls Try.prog 14 #[.pointer (some ⟨t, 0, none⟩), .agg #[.int .i64 4, .int .i64 n, .int .i64 m, .int .i64 v.k, .int .i64 v.p, .int .i64 v.q, .string v.s, .int .i64 v.r]] w fun e w' => e = .returned (.tuple #[.int .i64 (0), .agg #[.int .i64 (atV l n).k, .int .i64 (atV l n).p, .int .i64 (atV l n).q, .string (atV l n).s, .int .i64 (atV l n).r], .int .i64 (atE l n)]) ∧ SkSaid 65 B t va (l) lim w w' := by
  have HC0 : Hid (Ch [] w ((w.alloc (.cells #[.int .i64 4, .int .i64 n, .int .i64 m, .int .i64 v.k, .int .i64 v.p, .int .i64 v.q, .string v.s, .int .i64 v.r] 39)).alloc (.cells #[.int .i64 0, .int .i64 0, .int .i64 0, .string ⟨#[]⟩, .int .i64 0] 35))) := Lib.hid (((Ch.refl [] w).alloc _).alloc _)
  have HR0 : Hid (Blk 35 (w.heap.size + 1) #[.int .i64 0, .int .i64 0, .int .i64 0, .string ⟨#[]⟩, .int .i64 0] ((w.alloc (.cells #[.int .i64 4, .int .i64 n, .int .i64 m, .int .i64 v.k, .int .i64 v.p, .int .i64 v.q, .string v.s, .int .i64 v.r] 39)).alloc (.cells #[.int .i64 0, .int .i64 0, .int .i64 0, .string ⟨#[]⟩, .int .i64 0] 35))) := Lib.hid (Blk.new _ _ _ _ (by simp))
  have HA0 : Hid (Blk 39 w.heap.size #[.int .i64 4, .int .i64 n, .int .i64 m, .int .i64 v.k, .int .i64 v.p, .int .i64 v.q, .string v.s, .int .i64 v.r] ((w.alloc (.cells #[.int .i64 4, .int .i64 n, .int .i64 m, .int .i64 v.k, .int .i64 v.p, .int .i64 v.q, .string v.s, .int .i64 v.r] 39)).alloc (.cells #[.int .i64 0, .int .i64 0, .int .i64 0, .string ⟨#[]⟩, .int .i64 0] 35))) := Lib.hid ((Blk.new w 39 #[.int .i64 4, .int .i64 n, .int .i64 m, .int .i64 v.k, .int .i64 v.p, .int .i64 v.q, .string v.s, .int .i64 v.r] _ rfl).ch ((Ch.refl [] _).alloc _) (not_nil _))
  have HLT : Hid (∀ g ∈ skS t va, g < w.heap.size) := Lib.hid fun g hg => (h.lt g hg).2
  obtain ⟨cE, hcE⟩ : ∃ cE, cE = atE l n := ⟨_, rfl⟩
  obtain ⟨cL, hcL⟩ : ∃ cL, cL = l := ⟨_, rfl⟩
  obtain ⟨x, hx⟩ : ∃ x, x = atV l n := ⟨_, rfl⟩
  have Q : Hid (Calls Try.prog 38 #[.pointer (some ⟨t, 0, none⟩), .int .i64 n] ((w.alloc (.cells #[.int .i64 4, .int .i64 n, .int .i64 m, .int .i64 v.k, .int .i64 v.p, .int .i64 v.q, .string v.s, .int .i64 v.r] 39)).alloc (.cells #[.int .i64 0, .int .i64 0, .int .i64 0, .string ⟨#[]⟩, .int .i64 0] 35)) fun e w' => e = .returned (.tuple #[.agg #[.int .i64 x.k, .int .i64 x.p, .int .i64 x.q, .string x.s, .int .i64 x.r], .int .i64 cE]) ∧ SkSaid 65 B t va l lim ((w.alloc (.cells #[.int .i64 4, .int .i64 n, .int .i64 m, .int .i64 v.k, .int .i64 v.p, .int .i64 v.q, .string v.s, .int .i64 v.r] 39)).alloc (.cells #[.int .i64 0, .int .i64 0, .int .i64 0, .string ⟨#[]⟩, .int .i64 0] 35)) w') := Lib.hid (by
    have h := h.ch0 HC0.out
    have hB := Nat.le_trans hB HC0.out.size
    generalize ((w.alloc (.cells #[.int .i64 4, .int .i64 n, .int .i64 m, .int .i64 v.k, .int .i64 v.p, .int .i64 v.q, .string v.s, .int .i64 v.r] 39)).alloc (.cells #[.int .i64 0, .int .i64 0, .int .i64 0, .string ⟨#[]⟩, .int .i64 0] 35)) = W at *
    rw [hcE, hx]
    exact (rat_all B t va l lim W h n).mono fun e w' hh => ⟨hh.1, sk_0 h (Ch.of_below hh.2)⟩)
  rw [← hcE, ← hx]
  clear hcE hcL hx h hB
  go_enter Try.func14, Try.ntmps14
  go_upto_region 1 with fail
  generalize ((w.alloc (.cells #[.int .i64 4, .int .i64 n, .int .i64 m, .int .i64 v.k, .int .i64 v.p, .int .i64 v.q, .string v.s, .int .i64 v.r] 39)).alloc (.cells #[.int .i64 0, .int .i64 0, .int .i64 0, .string ⟨#[]⟩, .int .i64 0] 35)) = w0 at *
  have a0 : w0.cell? ⟨w.heap.size, 0, none⟩ = some (.int .i64 4) := HA0.out.cell 0
  have a1 : w0.cell? ⟨w.heap.size, 1, none⟩ = some (.int .i64 n) := HA0.out.cell 1
  have a2 : w0.cell? ⟨w.heap.size, 2, none⟩ = some (.int .i64 m) := HA0.out.cell 2
  have a3 : w0.cell? ⟨w.heap.size, 3, none⟩ = some (.int .i64 v.k) := HA0.out.cell 3
  have a4 : w0.cell? ⟨w.heap.size, 4, none⟩ = some (.int .i64 v.p) := HA0.out.cell 4
  have a5 : w0.cell? ⟨w.heap.size, 5, none⟩ = some (.int .i64 v.q) := HA0.out.cell 5
  have a6 : w0.cell? ⟨w.heap.size, 6, none⟩ = some (.string v.s) := HA0.out.cell 6
  have a7 : w0.cell? ⟨w.heap.size, 7, none⟩ = some (.int .i64 v.r) := HA0.out.cell 7
  have la := HA0.out.lt
  go_upto_region 13 with (go_at_call 38; (with_reducible refine (Q.out).mono ?_); rintro e w1 ⟨rfl, hs⟩; have HS := Lib.hid hs; have HR1 : Hid (Blk 35 (w.heap.size + 1) #[.int .i64 0, .int .i64 0, .int .i64 0, .string ⟨#[]⟩, .int .i64 0] w1) := Lib.hid (HR0.out.ch hs.2 (fun hg => by have := HLT.out _ hg; omega)); have b0 : w1.cell? ⟨w.heap.size + 1, 0, none⟩ = some (.int .i64 0) := HR1.out.cell 0; have b1 : w1.cell? ⟨w.heap.size + 1, 1, none⟩ = some (.int .i64 0) := HR1.out.cell 1; have b2 : w1.cell? ⟨w.heap.size + 1, 2, none⟩ = some (.int .i64 0) := HR1.out.cell 2; have b3 : w1.cell? ⟨w.heap.size + 1, 3, none⟩ = some (.string ⟨#[]⟩) := HR1.out.cell 3; have b4 : w1.cell? ⟨w.heap.size + 1, 4, none⟩ = some (.int .i64 0) := HR1.out.cell 4; have fz0 := HR1.out.fz 0; have fz1 := HR1.out.fz 1; have fz2 := HR1.out.fz 2; have fz3 := HR1.out.fz 3; have fz4 := HR1.out.fz 4; have lb := HR1.out.lt; clear hs)
  have HR2 : Hid (Blk 35 (w.heap.size + 1) #[.int .i64 0, .int .i64 0, .int .i64 0, .string ⟨#[]⟩, .int .i64 0] (w1.alloc (.cells #[.int .i64 x.k, .int .i64 x.p, .int .i64 x.q, .string x.s, .int .i64 x.r] 35))) := Lib.hid (HR1.out.ch ((Ch.refl [] _).alloc _) (not_nil _))
  have HN2 : Hid (Blk 35 w1.heap.size #[.int .i64 x.k, .int .i64 x.p, .int .i64 x.q, .string x.s, .int .i64 x.r] (w1.alloc (.cells #[.int .i64 x.k, .int .i64 x.p, .int .i64 x.q, .string x.s, .int .i64 x.r] 35))) := Lib.hid (Blk.new _ _ _ _ rfl)
  have HS2 := Lib.hid (HS.out.after ((Ch.refl [] w1).alloc (.cells #[.int .i64 x.k, .int .i64 x.p, .int .i64 x.q, .string x.s, .int .i64 x.r] 35)))
  have hne : ¬ w.heap.size + 1 = w1.heap.size := by have := HR1.out.lt; omega
  have hne2 : ¬ w1.heap.size = w.heap.size + 1 := by omega
  clear b0 b1 b2 b3 b4 fz0 fz1 fz2 fz3 fz4 lb
  obtain ⟨n1, hn1⟩ : ∃ n1, n1 = w1.heap.size := ⟨_, rfl⟩
  rw [← hn1] at hne hne2 HN2 ⊢
  generalize (w1.alloc (.cells #[.int .i64 x.k, .int .i64 x.p, .int .i64 x.q, .string x.s, .int .i64 x.r] 35)) = w2 at *
  have HN1 := Lib.hid hn1
  clear hn1
  have b0 : w2.cell? ⟨w.heap.size + 1, 0, none⟩ = some (.int .i64 0) := HR2.out.cell 0
  have b1 : w2.cell? ⟨w.heap.size + 1, 1, none⟩ = some (.int .i64 0) := HR2.out.cell 1
  have b2 : w2.cell? ⟨w.heap.size + 1, 2, none⟩ = some (.int .i64 0) := HR2.out.cell 2
  have b3 : w2.cell? ⟨w.heap.size + 1, 3, none⟩ = some (.string ⟨#[]⟩) := HR2.out.cell 3
  have b4 : w2.cell? ⟨w.heap.size + 1, 4, none⟩ = some (.int .i64 0) := HR2.out.cell 4
  have fz0 := HR2.out.fz 0
  have fz1 := HR2.out.fz 1
  have fz2 := HR2.out.fz 2
  have fz3 := HR2.out.fz 3
  have fz4 := HR2.out.fz 4
  have lb := HR2.out.lt
  have d0 : w2.cell? ⟨n1, 0, none⟩ = some (.int .i64 x.k) := HN2.out.cell 0
  have d1 : w2.cell? ⟨n1, 1, none⟩ = some (.int .i64 x.p) := HN2.out.cell 1
  have d2 : w2.cell? ⟨n1, 2, none⟩ = some (.int .i64 x.q) := HN2.out.cell 2
  have d3 : w2.cell? ⟨n1, 3, none⟩ = some (.string x.s) := HN2.out.cell 3
  have d4 : w2.cell? ⟨n1, 4, none⟩ = some (.int .i64 x.r) := HN2.out.cell 4
  have ld := HN2.out.lt
  go_region
  go_wp2
  show bodyPost _ _ _ Exit.ret _ ((st5 w2 (w.heap.size + 1) (.int .i64 x.k) (.int .i64 x.p) (.int .i64 x.q) (.string x.s) (.int .i64 x.r)).drew)
  have I1 : Blk 35 (w.heap.size + 1) #[.int .i64 x.k, .int .i64 x.p, .int .i64 x.q, .string x.s, .int .i64 x.r] ((st5 w2 (w.heap.size + 1) (.int .i64 x.k) (.int .i64 x.p) (.int .i64 x.q) (.string x.s) (.int .i64 x.r)).drew) := (st5_blk HR2.out).ch ((Ch.refl [] _).drew) (not_nil _)
  have hC : Ch [w.heap.size + 1] w2 ((st5 w2 (w.heap.size + 1) (.int .i64 x.k) (.int .i64 x.p) (.int .i64 x.q) (.string x.s) (.int .i64 x.r)).drew) := (st5_ch (Ch.refl _ _) (.inl (by simp))).drew
  have y0 : ((st5 w2 (w.heap.size + 1) (.int .i64 x.k) (.int .i64 x.p) (.int .i64 x.q) (.string x.s) (.int .i64 x.r)).drew).cell? ⟨(w.heap.size + 1), 0, none⟩ = some (.int .i64 x.k) := I1.cell 0
  have y1 : ((st5 w2 (w.heap.size + 1) (.int .i64 x.k) (.int .i64 x.p) (.int .i64 x.q) (.string x.s) (.int .i64 x.r)).drew).cell? ⟨(w.heap.size + 1), 1, none⟩ = some (.int .i64 x.p) := I1.cell 1
  have y2 : ((st5 w2 (w.heap.size + 1) (.int .i64 x.k) (.int .i64 x.p) (.int .i64 x.q) (.string x.s) (.int .i64 x.r)).drew).cell? ⟨(w.heap.size + 1), 2, none⟩ = some (.int .i64 x.q) := I1.cell 2
  have y3 : ((st5 w2 (w.heap.size + 1) (.int .i64 x.k) (.int .i64 x.p) (.int .i64 x.q) (.string x.s) (.int .i64 x.r)).drew).cell? ⟨(w.heap.size + 1), 3, none⟩ = some (.string x.s) := I1.cell 3
  have y4 : ((st5 w2 (w.heap.size + 1) (.int .i64 x.k) (.int .i64 x.p) (.int .i64 x.q) (.string x.s) (.int .i64 x.r)).drew).cell? ⟨(w.heap.size + 1), 4, none⟩ = some (.int .i64 x.r) := I1.cell 4
  have HF := Lib.hid (sk_off HC0.out HS2.out hC (fun g hg => by
    simp at hg; subst hg
    exact ⟨fun hm => by have := HLT.out _ hm; omega, HR0.out.lt, by omega⟩))
  generalize ((st5 w2 (w.heap.size + 1) (.int .i64 x.k) (.int .i64 x.p) (.int .i64 x.q) (.string x.s) (.int .i64 x.r)).drew) = W9 at *
  refine bodyPost_ret (v := .tuple #[.int .i64 0, .agg #[.int .i64 x.k, .int .i64 x.p, .int .i64 x.q, .string x.s, .int .i64 x.r], .int .i64 cE]) (by simp [results, Try.results14, go_sem, y0, y1, y2, y3, y4]) rfl ⟨rfl, HF.out⟩
set_option maxHeartbeats 4000000 in
theorem rprog_5 (B t : Nat) (va : Value) (l : List V5) (lim : Nat) (w : World) (h : Sk 65 B t va l lim w) (hB : B ≤ w.heap.size) (n m : Int) (v : V5)  :
    Calls Try.prog 14 #[.pointer (some ⟨t, 0, none⟩), .agg #[.int .i64 5, .int .i64 n, .int .i64 m, .int .i64 v.k, .int .i64 v.p, .int .i64 v.q, .string v.s, .int .i64 v.r]] w fun e w' => e = .returned (.tuple #[.int .i64 (0), .agg #[.int .i64 0, .int .i64 0, .int .i64 0, .string ⟨#[]⟩, .int .i64 0], .int .i64 (putE l n v)]) ∧ SkSaid 65 B t va (putL l n v) lim w w' := by
  have HC0 : Hid (Ch [] w ((w.alloc (.cells #[.int .i64 5, .int .i64 n, .int .i64 m, .int .i64 v.k, .int .i64 v.p, .int .i64 v.q, .string v.s, .int .i64 v.r] 39)).alloc (.cells #[.int .i64 0, .int .i64 0, .int .i64 0, .string ⟨#[]⟩, .int .i64 0] 35))) := Lib.hid (((Ch.refl [] w).alloc _).alloc _)
  have HR0 : Hid (Blk 35 (w.heap.size + 1) #[.int .i64 0, .int .i64 0, .int .i64 0, .string ⟨#[]⟩, .int .i64 0] ((w.alloc (.cells #[.int .i64 5, .int .i64 n, .int .i64 m, .int .i64 v.k, .int .i64 v.p, .int .i64 v.q, .string v.s, .int .i64 v.r] 39)).alloc (.cells #[.int .i64 0, .int .i64 0, .int .i64 0, .string ⟨#[]⟩, .int .i64 0] 35))) := Lib.hid (Blk.new _ _ _ _ (by simp))
  have HA0 : Hid (Blk 39 w.heap.size #[.int .i64 5, .int .i64 n, .int .i64 m, .int .i64 v.k, .int .i64 v.p, .int .i64 v.q, .string v.s, .int .i64 v.r] ((w.alloc (.cells #[.int .i64 5, .int .i64 n, .int .i64 m, .int .i64 v.k, .int .i64 v.p, .int .i64 v.q, .string v.s, .int .i64 v.r] 39)).alloc (.cells #[.int .i64 0, .int .i64 0, .int .i64 0, .string ⟨#[]⟩, .int .i64 0] 35))) := Lib.hid ((Blk.new w 39 #[.int .i64 5, .int .i64 n, .int .i64 m, .int .i64 v.k, .int .i64 v.p, .int .i64 v.q, .string v.s, .int .i64 v.r] _ rfl).ch ((Ch.refl [] _).alloc _) (not_nil _))
  have HLT : Hid (∀ g ∈ skS t va, g < w.heap.size) := Lib.hid fun g hg => (h.lt g hg).2
  obtain ⟨cE, hcE⟩ : ∃ cE, cE = putE l n v := ⟨_, rfl⟩
  obtain ⟨cL, hcL⟩ : ∃ cL, cL = putL l n v := ⟨_, rfl⟩
  have Q : Hid (Calls Try.prog 39 #[.pointer (some ⟨t, 0, none⟩), .int .i64 n, .agg #[.int .i64 v.k, .int .i64 v.p, .int .i64 v.q, .string v.s, .int .i64 v.r]] ((w.alloc (.cells #[.int .i64 5, .int .i64 n, .int .i64 m, .int .i64 v.k, .int .i64 v.p, .int .i64 v.q, .string v.s, .int .i64 v.r] 39)).alloc (.cells #[.int .i64 0, .int .i64 0, .int .i64 0, .string ⟨#[]⟩, .int .i64 0] 35)) fun e w' => e = .returned (.int .i64 cE) ∧ SkSaid 65 B t va cL lim ((w.alloc (.cells #[.int .i64 5, .int .i64 n, .int .i64 m, .int .i64 v.k, .int .i64 v.p, .int .i64 v.q, .string v.s, .int .i64 v.r] 39)).alloc (.cells #[.int .i64 0, .int .i64 0, .int .i64 0, .string ⟨#[]⟩, .int .i64 0] 35)) w') := Lib.hid (by
    have h := h.ch0 HC0.out
    have hB := Nat.le_trans hB HC0.out.size
    generalize ((w.alloc (.cells #[.int .i64 5, .int .i64 n, .int .i64 m, .int .i64 v.k, .int .i64 v.p, .int .i64 v.q, .string v.s, .int .i64 v.r] 39)).alloc (.cells #[.int .i64 0, .int .i64 0, .int .i64 0, .string ⟨#[]⟩, .int .i64 0] 35)) = W at *
    rw [hcE, hcL]
    exact (rput_all B t va l lim W h n v).mono fun e w' hh => hh)
  rw [← hcE, ← hcL]
  clear hcE hcL h hB
  go_enter Try.func14, Try.ntmps14
  go_upto_region 1 with fail
  generalize ((w.alloc (.cells #[.int .i64 5, .int .i64 n, .int .i64 m, .int .i64 v.k, .int .i64 v.p, .int .i64 v.q, .string v.s, .int .i64 v.r] 39)).alloc (.cells #[.int .i64 0, .int .i64 0, .int .i64 0, .string ⟨#[]⟩, .int .i64 0] 35)) = w0 at *
  have a0 : w0.cell? ⟨w.heap.size, 0, none⟩ = some (.int .i64 5) := HA0.out.cell 0
  have a1 : w0.cell? ⟨w.heap.size, 1, none⟩ = some (.int .i64 n) := HA0.out.cell 1
  have a2 : w0.cell? ⟨w.heap.size, 2, none⟩ = some (.int .i64 m) := HA0.out.cell 2
  have a3 : w0.cell? ⟨w.heap.size, 3, none⟩ = some (.int .i64 v.k) := HA0.out.cell 3
  have a4 : w0.cell? ⟨w.heap.size, 4, none⟩ = some (.int .i64 v.p) := HA0.out.cell 4
  have a5 : w0.cell? ⟨w.heap.size, 5, none⟩ = some (.int .i64 v.q) := HA0.out.cell 5
  have a6 : w0.cell? ⟨w.heap.size, 6, none⟩ = some (.string v.s) := HA0.out.cell 6
  have a7 : w0.cell? ⟨w.heap.size, 7, none⟩ = some (.int .i64 v.r) := HA0.out.cell 7
  have la := HA0.out.lt
  go_wp2_with (go_at_call 39; (with_reducible refine (Q.out).mono ?_); rintro e w1 ⟨rfl, hs⟩; have HS := Lib.hid hs; have HR1 : Hid (Blk 35 (w.heap.size + 1) #[.int .i64 0, .int .i64 0, .int .i64 0, .string ⟨#[]⟩, .int .i64 0] w1) := Lib.hid (HR0.out.ch hs.2 (fun hg => by have := HLT.out _ hg; omega)); have b0 : w1.cell? ⟨w.heap.size + 1, 0, none⟩ = some (.int .i64 0) := HR1.out.cell 0; have b1 : w1.cell? ⟨w.heap.size + 1, 1, none⟩ = some (.int .i64 0) := HR1.out.cell 1; have b2 : w1.cell? ⟨w.heap.size + 1, 2, none⟩ = some (.int .i64 0) := HR1.out.cell 2; have b3 : w1.cell? ⟨w.heap.size + 1, 3, none⟩ = some (.string ⟨#[]⟩) := HR1.out.cell 3; have b4 : w1.cell? ⟨w.heap.size + 1, 4, none⟩ = some (.int .i64 0) := HR1.out.cell 4; have fz0 := HR1.out.fz 0; have fz1 := HR1.out.fz 1; have fz2 := HR1.out.fz 2; have fz3 := HR1.out.fz 3; have fz4 := HR1.out.fz 4; have lb := HR1.out.lt; clear hs)
  show bodyPost _ _ _ Exit.ret _ (st5 w1 (w.heap.size + 1) (.int .i64 0) (.int .i64 0) (.int .i64 0) (.string ⟨#[]⟩) (.int .i64 0))
  have I1 : Blk 35 (w.heap.size + 1) #[.int .i64 0, .int .i64 0, .int .i64 0, .string ⟨#[]⟩, .int .i64 0] (st5 w1 (w.heap.size + 1) (.int .i64 0) (.int .i64 0) (.int .i64 0) (.string ⟨#[]⟩) (.int .i64 0)) := st5_blk HR1.out
  have hC : Ch [w.heap.size + 1] w1 (st5 w1 (w.heap.size + 1) (.int .i64 0) (.int .i64 0) (.int .i64 0) (.string ⟨#[]⟩) (.int .i64 0)) := st5_ch (Ch.refl _ _) (.inl (by simp))
  have y0 : (st5 w1 (w.heap.size + 1) (.int .i64 0) (.int .i64 0) (.int .i64 0) (.string ⟨#[]⟩) (.int .i64 0)).cell? ⟨(w.heap.size + 1), 0, none⟩ = some (.int .i64 0) := I1.cell 0
  have y1 : (st5 w1 (w.heap.size + 1) (.int .i64 0) (.int .i64 0) (.int .i64 0) (.string ⟨#[]⟩) (.int .i64 0)).cell? ⟨(w.heap.size + 1), 1, none⟩ = some (.int .i64 0) := I1.cell 1
  have y2 : (st5 w1 (w.heap.size + 1) (.int .i64 0) (.int .i64 0) (.int .i64 0) (.string ⟨#[]⟩) (.int .i64 0)).cell? ⟨(w.heap.size + 1), 2, none⟩ = some (.int .i64 0) := I1.cell 2
  have y3 : (st5 w1 (w.heap.size + 1) (.int .i64 0) (.int .i64 0) (.int .i64 0) (.string ⟨#[]⟩) (.int .i64 0)).cell? ⟨(w.heap.size + 1), 3, none⟩ = some (.string ⟨#[]⟩) := I1.cell 3
  have y4 : (st5 w1 (w.heap.size + 1) (.int .i64 0) (.int .i64 0) (.int .i64 0) (.string ⟨#[]⟩) (.int .i64 0)).cell? ⟨(w.heap.size + 1), 4, none⟩ = some (.int .i64 0) := I1.cell 4
  have HF := Lib.hid (sk_off HC0.out HS.out hC (fun g hg => by
    simp at hg; subst hg
    exact ⟨fun hm => by have := HLT.out _ hm; omega, HR0.out.lt, by omega⟩))
  generalize (st5 w1 (w.heap.size + 1) (.int .i64 0) (.int .i64 0) (.int .i64 0) (.string ⟨#[]⟩) (.int .i64 0)) = W9 at *
  refine bodyPost_ret (v := .tuple #[.int .i64 0, .agg #[.int .i64 0, .int .i64 0, .int .i64 0, .string ⟨#[]⟩, .int .i64 0], .int .i64 cE]) (by simp [results, Try.results14, go_sem, y0, y1, y2, y3, y4]) rfl ⟨rfl, HF.out⟩
set_option maxHeartbeats 4000000 in
theorem rprog_6 (B t : Nat) (va : Value) (l : List V5) (lim : Nat) (w : World) (h : Sk 65 B t va l lim w) (hB : B ≤ w.heap.size) (n m : Int) (v : V5)  :
    Calls Try.prog 14 #[.pointer (some ⟨t, 0, none⟩), .agg #[.int .i64 6, .int .i64 n, .int .i64 m, .int .i64 v.k, .int .i64 v.p, .int .i64 v.q, .string v.s, .int .i64 v.r]] w fun e w' => e = .returned (.tuple #[.int .i64 (0), .agg #[.int .i64 0, .int .i64 0, .int .i64 0, .string ⟨#[]⟩, .int .i64 0], .int .i64 (atE l n)]) ∧ SkSaid 65 B t va (rotateL l n 1) lim w w' := by
  have HC0 : Hid (Ch [] w ((w.alloc (.cells #[.int .i64 6, .int .i64 n, .int .i64 m, .int .i64 v.k, .int .i64 v.p, .int .i64 v.q, .string v.s, .int .i64 v.r] 39)).alloc (.cells #[.int .i64 0, .int .i64 0, .int .i64 0, .string ⟨#[]⟩, .int .i64 0] 35))) := Lib.hid (((Ch.refl [] w).alloc _).alloc _)
  have HR0 : Hid (Blk 35 (w.heap.size + 1) #[.int .i64 0, .int .i64 0, .int .i64 0, .string ⟨#[]⟩, .int .i64 0] ((w.alloc (.cells #[.int .i64 6, .int .i64 n, .int .i64 m, .int .i64 v.k, .int .i64 v.p, .int .i64 v.q, .string v.s, .int .i64 v.r] 39)).alloc (.cells #[.int .i64 0, .int .i64 0, .int .i64 0, .string ⟨#[]⟩, .int .i64 0] 35))) := Lib.hid (Blk.new _ _ _ _ (by simp))
  have HA0 : Hid (Blk 39 w.heap.size #[.int .i64 6, .int .i64 n, .int .i64 m, .int .i64 v.k, .int .i64 v.p, .int .i64 v.q, .string v.s, .int .i64 v.r] ((w.alloc (.cells #[.int .i64 6, .int .i64 n, .int .i64 m, .int .i64 v.k, .int .i64 v.p, .int .i64 v.q, .string v.s, .int .i64 v.r] 39)).alloc (.cells #[.int .i64 0, .int .i64 0, .int .i64 0, .string ⟨#[]⟩, .int .i64 0] 35))) := Lib.hid ((Blk.new w 39 #[.int .i64 6, .int .i64 n, .int .i64 m, .int .i64 v.k, .int .i64 v.p, .int .i64 v.q, .string v.s, .int .i64 v.r] _ rfl).ch ((Ch.refl [] _).alloc _) (not_nil _))
  have HLT : Hid (∀ g ∈ skS t va, g < w.heap.size) := Lib.hid fun g hg => (h.lt g hg).2
  obtain ⟨cE, hcE⟩ : ∃ cE, cE = atE l n := ⟨_, rfl⟩
  obtain ⟨cL, hcL⟩ : ∃ cL, cL = rotateL l n 1 := ⟨_, rfl⟩
  have Q : Hid (Calls Try.prog 40 #[.pointer (some ⟨t, 0, none⟩), .int .i64 n] ((w.alloc (.cells #[.int .i64 6, .int .i64 n, .int .i64 m, .int .i64 v.k, .int .i64 v.p, .int .i64 v.q, .string v.s, .int .i64 v.r] 39)).alloc (.cells #[.int .i64 0, .int .i64 0, .int .i64 0, .string ⟨#[]⟩, .int .i64 0] 35)) fun e w' => e = .returned (.int .i64 cE) ∧ SkSaid 65 B t va cL lim ((w.alloc (.cells #[.int .i64 6, .int .i64 n, .int .i64 m, .int .i64 v.k, .int .i64 v.p, .int .i64 v.q, .string v.s, .int .i64 v.r] 39)).alloc (.cells #[.int .i64 0, .int .i64 0, .int .i64 0, .string ⟨#[]⟩, .int .i64 0] 35)) w') := Lib.hid (by
    have h := h.ch0 HC0.out
    have hB := Nat.le_trans hB HC0.out.size
    generalize ((w.alloc (.cells #[.int .i64 6, .int .i64 n, .int .i64 m, .int .i64 v.k, .int .i64 v.p, .int .i64 v.q, .string v.s, .int .i64 v.r] 39)).alloc (.cells #[.int .i64 0, .int .i64 0, .int .i64 0, .string ⟨#[]⟩, .int .i64 0] 35)) = W at *
    rw [hcE, hcL]
    exact (rinsert_all B t va l lim W h n hB).mono fun e w' hh => hh)
  rw [← hcE, ← hcL]
  clear hcE hcL h hB
  go_enter Try.func14, Try.ntmps14
  go_upto_region 1 with fail
  generalize ((w.alloc (.cells #[.int .i64 6, .int .i64 n, .int .i64 m, .int .i64 v.k, .int .i64 v.p, .int .i64 v.q, .string v.s, .int .i64 v.r] 39)).alloc (.cells #[.int .i64 0, .int .i64 0, .int .i64 0, .string ⟨#[]⟩, .int .i64 0] 35)) = w0 at *
  have a0 : w0.cell? ⟨w.heap.size, 0, none⟩ = some (.int .i64 6) := HA0.out.cell 0
  have a1 : w0.cell? ⟨w.heap.size, 1, none⟩ = some (.int .i64 n) := HA0.out.cell 1
  have a2 : w0.cell? ⟨w.heap.size, 2, none⟩ = some (.int .i64 m) := HA0.out.cell 2
  have a3 : w0.cell? ⟨w.heap.size, 3, none⟩ = some (.int .i64 v.k) := HA0.out.cell 3
  have a4 : w0.cell? ⟨w.heap.size, 4, none⟩ = some (.int .i64 v.p) := HA0.out.cell 4
  have a5 : w0.cell? ⟨w.heap.size, 5, none⟩ = some (.int .i64 v.q) := HA0.out.cell 5
  have a6 : w0.cell? ⟨w.heap.size, 6, none⟩ = some (.string v.s) := HA0.out.cell 6
  have a7 : w0.cell? ⟨w.heap.size, 7, none⟩ = some (.int .i64 v.r) := HA0.out.cell 7
  have la := HA0.out.lt
  go_wp2_with (go_at_call 40; (with_reducible refine (Q.out).mono ?_); rintro e w1 ⟨rfl, hs⟩; have HS := Lib.hid hs; have HR1 : Hid (Blk 35 (w.heap.size + 1) #[.int .i64 0, .int .i64 0, .int .i64 0, .string ⟨#[]⟩, .int .i64 0] w1) := Lib.hid (HR0.out.ch hs.2 (fun hg => by have := HLT.out _ hg; omega)); have b0 : w1.cell? ⟨w.heap.size + 1, 0, none⟩ = some (.int .i64 0) := HR1.out.cell 0; have b1 : w1.cell? ⟨w.heap.size + 1, 1, none⟩ = some (.int .i64 0) := HR1.out.cell 1; have b2 : w1.cell? ⟨w.heap.size + 1, 2, none⟩ = some (.int .i64 0) := HR1.out.cell 2; have b3 : w1.cell? ⟨w.heap.size + 1, 3, none⟩ = some (.string ⟨#[]⟩) := HR1.out.cell 3; have b4 : w1.cell? ⟨w.heap.size + 1, 4, none⟩ = some (.int .i64 0) := HR1.out.cell 4; have fz0 := HR1.out.fz 0; have fz1 := HR1.out.fz 1; have fz2 := HR1.out.fz 2; have fz3 := HR1.out.fz 3; have fz4 := HR1.out.fz 4; have lb := HR1.out.lt; clear hs)
  show bodyPost _ _ _ Exit.ret _ (st5 w1 (w.heap.size + 1) (.int .i64 0) (.int .i64 0) (.int .i64 0) (.string ⟨#[]⟩) (.int .i64 0))
  have I1 : Blk 35 (w.heap.size + 1) #[.int .i64 0, .int .i64 0, .int .i64 0, .string ⟨#[]⟩, .int .i64 0] (st5 w1 (w.heap.size + 1) (.int .i64 0) (.int .i64 0) (.int .i64 0) (.string ⟨#[]⟩) (.int .i64 0)) := st5_blk HR1.out
  have hC : Ch [w.heap.size + 1] w1 (st5 w1 (w.heap.size + 1) (.int .i64 0) (.int .i64 0) (.int .i64 0) (.string ⟨#[]⟩) (.int .i64 0)) := st5_ch (Ch.refl _ _) (.inl (by simp))
  have y0 : (st5 w1 (w.heap.size + 1) (.int .i64 0) (.int .i64 0) (.int .i64 0) (.string ⟨#[]⟩) (.int .i64 0)).cell? ⟨(w.heap.size + 1), 0, none⟩ = some (.int .i64 0) := I1.cell 0
  have y1 : (st5 w1 (w.heap.size + 1) (.int .i64 0) (.int .i64 0) (.int .i64 0) (.string ⟨#[]⟩) (.int .i64 0)).cell? ⟨(w.heap.size + 1), 1, none⟩ = some (.int .i64 0) := I1.cell 1
  have y2 : (st5 w1 (w.heap.size + 1) (.int .i64 0) (.int .i64 0) (.int .i64 0) (.string ⟨#[]⟩) (.int .i64 0)).cell? ⟨(w.heap.size + 1), 2, none⟩ = some (.int .i64 0) := I1.cell 2
  have y3 : (st5 w1 (w.heap.size + 1) (.int .i64 0) (.int .i64 0) (.int .i64 0) (.string ⟨#[]⟩) (.int .i64 0)).cell? ⟨(w.heap.size + 1), 3, none⟩ = some (.string ⟨#[]⟩) := I1.cell 3
  have y4 : (st5 w1 (w.heap.size + 1) (.int .i64 0) (.int .i64 0) (.int .i64 0) (.string ⟨#[]⟩) (.int .i64 0)).cell? ⟨(w.heap.size + 1), 4, none⟩ = some (.int .i64 0) := I1.cell 4
  have HF := Lib.hid (sk_off HC0.out HS.out hC (fun g hg => by
    simp at hg; subst hg
    exact ⟨fun hm => by have := HLT.out _ hm; omega, HR0.out.lt, by omega⟩))
  generalize (st5 w1 (w.heap.size + 1) (.int .i64 0) (.int .i64 0) (.int .i64 0) (.string ⟨#[]⟩) (.int .i64 0)) = W9 at *
  refine bodyPost_ret (v := .tuple #[.int .i64 0, .agg #[.int .i64 0, .int .i64 0, .int .i64 0, .string ⟨#[]⟩, .int .i64 0], .int .i64 cE]) (by simp [results, Try.results14, go_sem, y0, y1, y2, y3, y4]) rfl ⟨rfl, HF.out⟩
set_option maxHeartbeats 4000000 in
theorem rprog_7 (B t : Nat) (va : Value) (l : List V5) (lim : Nat) (w : World) (h : Sk 65 B t va l lim w) (hB : B ≤ w.heap.size) (n m : Int) (v : V5)  :
    Calls Try.prog 14 #[.pointer (some ⟨t, 0, none⟩), .agg #[.int .i64 7, .int .i64 n, .int .i64 m, .int .i64 v.k, .int .i64 v.p, .int .i64 v.q, .string v.s, .int .i64 v.r]] w fun e w' => e = .returned (.tuple #[.int .i64 (0), .agg #[.int .i64 0, .int .i64 0, .int .i64 0, .string ⟨#[]⟩, .int .i64 0], .int .i64 (atE l n)]) ∧ SkSaid 65 B t va (remL l n) lim w w' := by
  have HC0 : Hid (Ch [] w ((w.alloc (.cells #[.int .i64 7, .int .i64 n, .int .i64 m, .int .i64 v.k, .int .i64 v.p, .int .i64 v.q, .string v.s, .int .i64 v.r] 39)).alloc (.cells #[.int .i64 0, .int .i64 0, .int .i64 0, .string ⟨#[]⟩, .int .i64 0] 35))) := Lib.hid (((Ch.refl [] w).alloc _).alloc _)
  have HR0 : Hid (Blk 35 (w.heap.size + 1) #[.int .i64 0, .int .i64 0, .int .i64 0, .string ⟨#[]⟩, .int .i64 0] ((w.alloc (.cells #[.int .i64 7, .int .i64 n, .int .i64 m, .int .i64 v.k, .int .i64 v.p, .int .i64 v.q, .string v.s, .int .i64 v.r] 39)).alloc (.cells #[.int .i64 0, .int .i64 0, .int .i64 0, .string ⟨#[]⟩, .int .i64 0] 35))) := Lib.hid (Blk.new _ _ _ _ (by simp))
  have HA0 : Hid (Blk 39 w.heap.size #[.int .i64 7, .int .i64 n, .int .i64 m, .int .i64 v.k, .int .i64 v.p, .int .i64 v.q, .string v.s, .int .i64 v.r] ((w.alloc (.cells #[.int .i64 7, .int .i64 n, .int .i64 m, .int .i64 v.k, .int .i64 v.p, .int .i64 v.q, .string v.s, .int .i64 v.r] 39)).alloc (.cells #[.int .i64 0, .int .i64 0, .int .i64 0, .string ⟨#[]⟩, .int .i64 0] 35))) := Lib.hid ((Blk.new w 39 #[.int .i64 7, .int .i64 n, .int .i64 m, .int .i64 v.k, .int .i64 v.p, .int .i64 v.q, .string v.s, .int .i64 v.r] _ rfl).ch ((Ch.refl [] _).alloc _) (not_nil _))
  have HLT : Hid (∀ g ∈ skS t va, g < w.heap.size) := Lib.hid fun g hg => (h.lt g hg).2
  obtain ⟨cE, hcE⟩ : ∃ cE, cE = atE l n := ⟨_, rfl⟩
  obtain ⟨cL, hcL⟩ : ∃ cL, cL = remL l n := ⟨_, rfl⟩
  have Q : Hid (Calls Try.prog 41 #[.pointer (some ⟨t, 0, none⟩), .int .i64 n] ((w.alloc (.cells #[.int .i64 7, .int .i64 n, .int .i64 m, .int .i64 v.k, .int .i64 v.p, .int .i64 v.q, .string v.s, .int .i64 v.r] 39)).alloc (.cells #[.int .i64 0, .int .i64 0, .int .i64 0, .string ⟨#[]⟩, .int .i64 0] 35)) fun e w' => e = .returned (.int .i64 cE) ∧ SkSaid 65 B t va cL lim ((w.alloc (.cells #[.int .i64 7, .int .i64 n, .int .i64 m, .int .i64 v.k, .int .i64 v.p, .int .i64 v.q, .string v.s, .int .i64 v.r] 39)).alloc (.cells #[.int .i64 0, .int .i64 0, .int .i64 0, .string ⟨#[]⟩, .int .i64 0] 35)) w') := Lib.hid (by
    have h := h.ch0 HC0.out
    have hB := Nat.le_trans hB HC0.out.size
    generalize ((w.alloc (.cells #[.int .i64 7, .int .i64 n, .int .i64 m, .int .i64 v.k, .int .i64 v.p, .int .i64 v.q, .string v.s, .int .i64 v.r] 39)).alloc (.cells #[.int .i64 0, .int .i64 0, .int .i64 0, .string ⟨#[]⟩, .int .i64 0] 35)) = W at *
    rw [hcE, hcL]
    exact (rremove_all B t va l lim W h n hB).mono fun e w' hh => hh)
  rw [← hcE, ← hcL]
  clear hcE hcL h hB
  go_enter Try.func14, Try.ntmps14
  go_upto_region 1 with fail
  generalize ((w.alloc (.cells #[.int .i64 7, .int .i64 n, .int .i64 m, .int .i64 v.k, .int .i64 v.p, .int .i64 v.q, .string v.s, .int .i64 v.r] 39)).alloc (.cells #[.int .i64 0, .int .i64 0, .int .i64 0, .string ⟨#[]⟩, .int .i64 0] 35)) = w0 at *
  have a0 : w0.cell? ⟨w.heap.size, 0, none⟩ = some (.int .i64 7) := HA0.out.cell 0
  have a1 : w0.cell? ⟨w.heap.size, 1, none⟩ = some (.int .i64 n) := HA0.out.cell 1
  have a2 : w0.cell? ⟨w.heap.size, 2, none⟩ = some (.int .i64 m) := HA0.out.cell 2
  have a3 : w0.cell? ⟨w.heap.size, 3, none⟩ = some (.int .i64 v.k) := HA0.out.cell 3
  have a4 : w0.cell? ⟨w.heap.size, 4, none⟩ = some (.int .i64 v.p) := HA0.out.cell 4
  have a5 : w0.cell? ⟨w.heap.size, 5, none⟩ = some (.int .i64 v.q) := HA0.out.cell 5
  have a6 : w0.cell? ⟨w.heap.size, 6, none⟩ = some (.string v.s) := HA0.out.cell 6
  have a7 : w0.cell? ⟨w.heap.size, 7, none⟩ = some (.int .i64 v.r) := HA0.out.cell 7
  have la := HA0.out.lt
  go_wp2_with (go_at_call 41; (with_reducible refine (Q.out).mono ?_); rintro e w1 ⟨rfl, hs⟩; have HS := Lib.hid hs; have HR1 : Hid (Blk 35 (w.heap.size + 1) #[.int .i64 0, .int .i64 0, .int .i64 0, .string ⟨#[]⟩, .int .i64 0] w1) := Lib.hid (HR0.out.ch hs.2 (fun hg => by have := HLT.out _ hg; omega)); have b0 : w1.cell? ⟨w.heap.size + 1, 0, none⟩ = some (.int .i64 0) := HR1.out.cell 0; have b1 : w1.cell? ⟨w.heap.size + 1, 1, none⟩ = some (.int .i64 0) := HR1.out.cell 1; have b2 : w1.cell? ⟨w.heap.size + 1, 2, none⟩ = some (.int .i64 0) := HR1.out.cell 2; have b3 : w1.cell? ⟨w.heap.size + 1, 3, none⟩ = some (.string ⟨#[]⟩) := HR1.out.cell 3; have b4 : w1.cell? ⟨w.heap.size + 1, 4, none⟩ = some (.int .i64 0) := HR1.out.cell 4; have fz0 := HR1.out.fz 0; have fz1 := HR1.out.fz 1; have fz2 := HR1.out.fz 2; have fz3 := HR1.out.fz 3; have fz4 := HR1.out.fz 4; have lb := HR1.out.lt; clear hs)
  show bodyPost _ _ _ Exit.ret _ (st5 w1 (w.heap.size + 1) (.int .i64 0) (.int .i64 0) (.int .i64 0) (.string ⟨#[]⟩) (.int .i64 0))
  have I1 : Blk 35 (w.heap.size + 1) #[.int .i64 0, .int .i64 0, .int .i64 0, .string ⟨#[]⟩, .int .i64 0] (st5 w1 (w.heap.size + 1) (.int .i64 0) (.int .i64 0) (.int .i64 0) (.string ⟨#[]⟩) (.int .i64 0)) := st5_blk HR1.out
  have hC : Ch [w.heap.size + 1] w1 (st5 w1 (w.heap.size + 1) (.int .i64 0) (.int .i64 0) (.int .i64 0) (.string ⟨#[]⟩) (.int .i64 0)) := st5_ch (Ch.refl _ _) (.inl (by simp))
  have y0 : (st5 w1 (w.heap.size + 1) (.int .i64 0) (.int .i64 0) (.int .i64 0) (.string ⟨#[]⟩) (.int .i64 0)).cell? ⟨(w.heap.size + 1), 0, none⟩ = some (.int .i64 0) := I1.cell 0
  have y1 : (st5 w1 (w.heap.size + 1) (.int .i64 0) (.int .i64 0) (.int .i64 0) (.string ⟨#[]⟩) (.int .i64 0)).cell? ⟨(w.heap.size + 1), 1, none⟩ = some (.int .i64 0) := I1.cell 1
  have y2 : (st5 w1 (w.heap.size + 1) (.int .i64 0) (.int .i64 0) (.int .i64 0) (.string ⟨#[]⟩) (.int .i64 0)).cell? ⟨(w.heap.size + 1), 2, none⟩ = some (.int .i64 0) := I1.cell 2
  have y3 : (st5 w1 (w.heap.size + 1) (.int .i64 0) (.int .i64 0) (.int .i64 0) (.string ⟨#[]⟩) (.int .i64 0)).cell? ⟨(w.heap.size + 1), 3, none⟩ = some (.string ⟨#[]⟩) := I1.cell 3
  have y4 : (st5 w1 (w.heap.size + 1) (.int .i64 0) (.int .i64 0) (.int .i64 0) (.string ⟨#[]⟩) (.int .i64 0)).cell? ⟨(w.heap.size + 1), 4, none⟩ = some (.int .i64 0) := I1.cell 4
  have HF := Lib.hid (sk_off HC0.out HS.out hC (fun g hg => by
    simp at hg; subst hg
    exact ⟨fun hm => by have := HLT.out _ hm; omega, HR0.out.lt, by omega⟩))
  generalize (st5 w1 (w.heap.size + 1) (.int .i64 0) (.int .i64 0) (.int .i64 0) (.string ⟨#[]⟩) (.int .i64 0)) = W9 at *
  refine bodyPost_ret (v := .tuple #[.int .i64 0, .agg #[.int .i64 0, .int .i64 0, .int .i64 0, .string ⟨#[]⟩, .int .i64 0], .int .i64 cE]) (by simp [results, Try.results14, go_sem, y0, y1, y2, y3, y4]) rfl ⟨rfl, HF.out⟩
set_option maxHeartbeats 4000000 in
theorem rprog_8 (B t : Nat) (va : Value) (l : List V5) (lim : Nat) (w : World) (h : Sk 65 B t va l lim w) (hB : B ≤ w.heap.size) (n m : Int) (v : V5)  :
    Calls Try.prog 14 #[.pointer (some ⟨t, 0, none⟩), .agg #[.int .i64 8, .int .i64 n, .int .i64 m, .int .i64 v.k, .int .i64 v.p, .int .i64 v.q, .string v.s, .int .i64 v.r]] w fun e w' => e = .returned (.tuple #[.int .i64 (0), .agg #[.int .i64 0, .int .i64 0, .int .i64 0, .string ⟨#[]⟩, .int .i64 0], .int .i64 (atE l n)]) ∧ SkSaid 65 B t va (rotateL l n m) lim w w' := by
  have HC0 : Hid (Ch [] w ((w.alloc (.cells #[.int .i64 8, .int .i64 n, .int .i64 m, .int .i64 v.k, .int .i64 v.p, .int .i64 v.q, .string v.s, .int .i64 v.r] 39)).alloc (.cells #[.int .i64 0, .int .i64 0, .int .i64 0, .string ⟨#[]⟩, .int .i64 0] 35))) := Lib.hid (((Ch.refl [] w).alloc _).alloc _)
  have HR0 : Hid (Blk 35 (w.heap.size + 1) #[.int .i64 0, .int .i64 0, .int .i64 0, .string ⟨#[]⟩, .int .i64 0] ((w.alloc (.cells #[.int .i64 8, .int .i64 n, .int .i64 m, .int .i64 v.k, .int .i64 v.p, .int .i64 v.q, .string v.s, .int .i64 v.r] 39)).alloc (.cells #[.int .i64 0, .int .i64 0, .int .i64 0, .string ⟨#[]⟩, .int .i64 0] 35))) := Lib.hid (Blk.new _ _ _ _ (by simp))
  have HA0 : Hid (Blk 39 w.heap.size #[.int .i64 8, .int .i64 n, .int .i64 m, .int .i64 v.k, .int .i64 v.p, .int .i64 v.q, .string v.s, .int .i64 v.r] ((w.alloc (.cells #[.int .i64 8, .int .i64 n, .int .i64 m, .int .i64 v.k, .int .i64 v.p, .int .i64 v.q, .string v.s, .int .i64 v.r] 39)).alloc (.cells #[.int .i64 0, .int .i64 0, .int .i64 0, .string ⟨#[]⟩, .int .i64 0] 35))) := Lib.hid ((Blk.new w 39 #[.int .i64 8, .int .i64 n, .int .i64 m, .int .i64 v.k, .int .i64 v.p, .int .i64 v.q, .string v.s, .int .i64 v.r] _ rfl).ch ((Ch.refl [] _).alloc _) (not_nil _))
  have HLT : Hid (∀ g ∈ skS t va, g < w.heap.size) := Lib.hid fun g hg => (h.lt g hg).2
  obtain ⟨cE, hcE⟩ : ∃ cE, cE = atE l n := ⟨_, rfl⟩
  obtain ⟨cL, hcL⟩ : ∃ cL, cL = rotateL l n m := ⟨_, rfl⟩
  have Q : Hid (Calls Try.prog 42 #[.pointer (some ⟨t, 0, none⟩), .int .i64 n, .int .i64 m] ((w.alloc (.cells #[.int .i64 8, .int .i64 n, .int .i64 m, .int .i64 v.k, .int .i64 v.p, .int .i64 v.q, .string v.s, .int .i64 v.r] 39)).alloc (.cells #[.int .i64 0, .int .i64 0, .int .i64 0, .string ⟨#[]⟩, .int .i64 0] 35)) fun e w' => e = .returned (.int .i64 cE) ∧ SkSaid 65 B t va cL lim ((w.alloc (.cells #[.int .i64 8, .int .i64 n, .int .i64 m, .int .i64 v.k, .int .i64 v.p, .int .i64 v.q, .string v.s, .int .i64 v.r] 39)).alloc (.cells #[.int .i64 0, .int .i64 0, .int .i64 0, .string ⟨#[]⟩, .int .i64 0] 35)) w') := Lib.hid (by
    have h := h.ch0 HC0.out
    have hB := Nat.le_trans hB HC0.out.size
    generalize ((w.alloc (.cells #[.int .i64 8, .int .i64 n, .int .i64 m, .int .i64 v.k, .int .i64 v.p, .int .i64 v.q, .string v.s, .int .i64 v.r] 39)).alloc (.cells #[.int .i64 0, .int .i64 0, .int .i64 0, .string ⟨#[]⟩, .int .i64 0] 35)) = W at *
    rw [hcE, hcL]
    exact (rrotate_all B t va l lim W h n m hB).mono fun e w' hh => hh)
  rw [← hcE, ← hcL]
  clear hcE hcL h hB
  go_enter Try.func14, Try.ntmps14
  go_upto_region 1 with fail
  generalize ((w.alloc (.cells #[.int .i64 8, .int .i64 n, .int .i64 m, .int .i64 v.k, .int .i64 v.p, .int .i64 v.q, .string v.s, .int .i64 v.r] 39)).alloc (.cells #[.int .i64 0, .int .i64 0, .int .i64 0, .string ⟨#[]⟩, .int .i64 0] 35)) = w0 at *
  have a0 : w0.cell? ⟨w.heap.size, 0, none⟩ = some (.int .i64 8) := HA0.out.cell 0
  have a1 : w0.cell? ⟨w.heap.size, 1, none⟩ = some (.int .i64 n) := HA0.out.cell 1
  have a2 : w0.cell? ⟨w.heap.size, 2, none⟩ = some (.int .i64 m) := HA0.out.cell 2
  have a3 : w0.cell? ⟨w.heap.size, 3, none⟩ = some (.int .i64 v.k) := HA0.out.cell 3
  have a4 : w0.cell? ⟨w.heap.size, 4, none⟩ = some (.int .i64 v.p) := HA0.out.cell 4
  have a5 : w0.cell? ⟨w.heap.size, 5, none⟩ = some (.int .i64 v.q) := HA0.out.cell 5
  have a6 : w0.cell? ⟨w.heap.size, 6, none⟩ = some (.string v.s) := HA0.out.cell 6
  have a7 : w0.cell? ⟨w.heap.size, 7, none⟩ = some (.int .i64 v.r) := HA0.out.cell 7
  have la := HA0.out.lt
  go_wp2_with (go_at_call 42; (with_reducible refine (Q.out).mono ?_); rintro e w1 ⟨rfl, hs⟩; have HS := Lib.hid hs; have HR1 : Hid (Blk 35 (w.heap.size + 1) #[.int .i64 0, .int .i64 0, .int .i64 0, .string ⟨#[]⟩, .int .i64 0] w1) := Lib.hid (HR0.out.ch hs.2 (fun hg => by have := HLT.out _ hg; omega)); have b0 : w1.cell? ⟨w.heap.size + 1, 0, none⟩ = some (.int .i64 0) := HR1.out.cell 0; have b1 : w1.cell? ⟨w.heap.size + 1, 1, none⟩ = some (.int .i64 0) := HR1.out.cell 1; have b2 : w1.cell? ⟨w.heap.size + 1, 2, none⟩ = some (.int .i64 0) := HR1.out.cell 2; have b3 : w1.cell? ⟨w.heap.size + 1, 3, none⟩ = some (.string ⟨#[]⟩) := HR1.out.cell 3; have b4 : w1.cell? ⟨w.heap.size + 1, 4, none⟩ = some (.int .i64 0) := HR1.out.cell 4; have fz0 := HR1.out.fz 0; have fz1 := HR1.out.fz 1; have fz2 := HR1.out.fz 2; have fz3 := HR1.out.fz 3; have fz4 := HR1.out.fz 4; have lb := HR1.out.lt; clear hs)
  show bodyPost _ _ _ Exit.ret _ (st5 w1 (w.heap.size + 1) (.int .i64 0) (.int .i64 0) (.int .i64 0) (.string ⟨#[]⟩) (.int .i64 0))
  have I1 : Blk 35 (w.heap.size + 1) #[.int .i64 0, .int .i64 0, .int .i64 0, .string ⟨#[]⟩, .int .i64 0] (st5 w1 (w.heap.size + 1) (.int .i64 0) (.int .i64 0) (.int .i64 0) (.string ⟨#[]⟩) (.int .i64 0)) := st5_blk HR1.out
  have hC : Ch [w.heap.size + 1] w1 (st5 w1 (w.heap.size + 1) (.int .i64 0) (.int .i64 0) (.int .i64 0) (.string ⟨#[]⟩) (.int .i64 0)) := st5_ch (Ch.refl _ _) (.inl (by simp))
  have y0 : (st5 w1 (w.heap.size + 1) (.int .i64 0) (.int .i64 0) (.int .i64 0) (.string ⟨#[]⟩) (.int .i64 0)).cell? ⟨(w.heap.size + 1), 0, none⟩ = some (.int .i64 0) := I1.cell 0
  have y1 : (st5 w1 (w.heap.size + 1) (.int .i64 0) (.int .i64 0) (.int .i64 0) (.string ⟨#[]⟩) (.int .i64 0)).cell? ⟨(w.heap.size + 1), 1, none⟩ = some (.int .i64 0) := I1.cell 1
  have y2 : (st5 w1 (w.heap.size + 1) (.int .i64 0) (.int .i64 0) (.int .i64 0) (.string ⟨#[]⟩) (.int .i64 0)).cell? ⟨(w.heap.size + 1), 2, none⟩ = some (.int .i64 0) := I1.cell 2
  have y3 : (st5 w1 (w.heap.size + 1) (.int .i64 0) (.int .i64 0) (.int .i64 0) (.string ⟨#[]⟩) (.int .i64 0)).cell? ⟨(w.heap.size + 1), 3, none⟩ = some (.string ⟨#[]⟩) := I1.cell 3
  have y4 : (st5 w1 (w.heap.size + 1) (.int .i64 0) (.int .i64 0) (.int .i64 0) (.string ⟨#[]⟩) (.int .i64 0)).cell? ⟨(w.heap.size + 1), 4, none⟩ = some (.int .i64 0) := I1.cell 4
  have HF := Lib.hid (sk_off HC0.out HS.out hC (fun g hg => by
    simp at hg; subst hg
    exact ⟨fun hm => by have := HLT.out _ hm; omega, HR0.out.lt, by omega⟩))
  generalize (st5 w1 (w.heap.size + 1) (.int .i64 0) (.int .i64 0) (.int .i64 0) (.string ⟨#[]⟩) (.int .i64 0)) = W9 at *
  refine bodyPost_ret (v := .tuple #[.int .i64 0, .agg #[.int .i64 0, .int .i64 0, .int .i64 0, .string ⟨#[]⟩, .int .i64 0], .int .i64 cE]) (by simp [results, Try.results14, go_sem, y0, y1, y2, y3, y4]) rfl ⟨rfl, HF.out⟩
set_option maxHeartbeats 4000000 in
theorem rprog_9 (B t : Nat) (va : Value) (l : List V5) (lim : Nat) (w : World) (h : Sk 65 B t va l lim w) (hB : B ≤ w.heap.size) (n m : Int) (v : V5)  :
    Calls Try.prog 14 #[.pointer (some ⟨t, 0, none⟩), .agg #[.int .i64 9, .int .i64 n, .int .i64 m, .int .i64 v.k, .int .i64 v.p, .int .i64 v.q, .string v.s, .int .i64 v.r]] w fun e w' => e = .returned (.tuple #[.int .i64 (0), .agg #[.int .i64 0, .int .i64 0, .int .i64 0, .string ⟨#[]⟩, .int .i64 0], .int .i64 (copyE l n m)]) ∧ SkSaid 65 B t va (copyL l n m) lim w w' := by
  have HC0 : Hid (Ch [] w ((w.alloc (.cells #[.int .i64 9, .int .i64 n, .int .i64 m, .int .i64 v.k, .int .i64 v.p, .int .i64 v.q, .string v.s, .int .i64 v.r] 39)).alloc (.cells #[.int .i64 0, .int .i64 0, .int .i64 0, .string ⟨#[]⟩, .int .i64 0] 35))) := Lib.hid (((Ch.refl [] w).alloc _).alloc _)
  have HR0 : Hid (Blk 35 (w.heap.size + 1) #[.int .i64 0, .int .i64 0, .int .i64 0, .string ⟨#[]⟩, .int .i64 0] ((w.alloc (.cells #[.int .i64 9, .int .i64 n, .int .i64 m, .int .i64 v.k, .int .i64 v.p, .int .i64 v.q, .string v.s, .int .i64 v.r] 39)).alloc (.cells #[.int .i64 0, .int .i64 0, .int .i64 0, .string ⟨#[]⟩, .int .i64 0] 35))) := Lib.hid (Blk.new _ _ _ _ (by simp))
  have HA0 : Hid (Blk 39 w.heap.size #[.int .i64 9, .int .i64 n, .int .i64 m, .int .i64 v.k, .int .i64 v.p, .int .i64 v.q, .string v.s, .int .i64 v.r] ((w.alloc (.cells #[.int .i64 9, .int .i64 n, .int .i64 m, .int .i64 v.k, .int .i64 v.p, .int .i64 v.q, .string v.s, .int .i64 v.r] 39)).alloc (.cells #[.int .i64 0, .int .i64 0, .int .i64 0, .string ⟨#[]⟩, .int .i64 0] 35))) := Lib.hid ((Blk.new w 39 #[.int .i64 9, .int .i64 n, .int .i64 m, .int .i64 v.k, .int .i64 v.p, .int .i64 v.q, .string v.s, .int .i64 v.r] _ rfl).ch ((Ch.refl [] _).alloc _) (not_nil _))
  have HLT : Hid (∀ g ∈ skS t va, g < w.heap.size) := Lib.hid fun g hg => (h.lt g hg).2
  obtain ⟨cE, hcE⟩ : ∃ cE, cE = copyE l n m := ⟨_, rfl⟩
  obtain ⟨cL, hcL⟩ : ∃ cL, cL = copyL l n m := ⟨_, rfl⟩
  have Q : Hid (Calls Try.prog 43 #[.pointer (some ⟨t, 0, none⟩), .int .i64 n, .int .i64 m] ((w.alloc (.cells #[.int .i64 9, .int .i64 n, .int .i64 m, .int .i64 v.k, .int .i64 v.p, .int .i64 v.q, .string v.s, .int .i64 v.r] 39)).alloc (.cells #[.int .i64 0, .int .i64 0, .int .i64 0, .string ⟨#[]⟩, .int .i64 0] 35)) fun e w' => e = .returned (.int .i64 cE) ∧ SkSaid 65 B t va cL lim ((w.alloc (.cells #[.int .i64 9, .int .i64 n, .int .i64 m, .int .i64 v.k, .int .i64 v.p, .int .i64 v.q, .string v.s, .int .i64 v.r] 39)).alloc (.cells #[.int .i64 0, .int .i64 0, .int .i64 0, .string ⟨#[]⟩, .int .i64 0] 35)) w') := Lib.hid (by
    have h := h.ch0 HC0.out
    have hB := Nat.le_trans hB HC0.out.size
    generalize ((w.alloc (.cells #[.int .i64 9, .int .i64 n, .int .i64 m, .int .i64 v.k, .int .i64 v.p, .int .i64 v.q, .string v.s, .int .i64 v.r] 39)).alloc (.cells #[.int .i64 0, .int .i64 0, .int .i64 0, .string ⟨#[]⟩, .int .i64 0] 35)) = W at *
    rw [hcE, hcL]
    exact (rcopy_all B t va l lim W h n m).mono fun e w' hh => hh)
  rw [← hcE, ← hcL]
  clear hcE hcL h hB
  go_enter Try.func14, Try.ntmps14
  go_upto_region 1 with fail
  generalize ((w.alloc (.cells #[.int .i64 9, .int .i64 n, .int .i64 m, .int .i64 v.k, .int .i64 v.p, .int .i64 v.q, .string v.s, .int .i64 v.r] 39)).alloc (.cells #[.int .i64 0, .int .i64 0, .int .i64 0, .string ⟨#[]⟩, .int .i64 0] 35)) = w0 at *
  have a0 : w0.cell? ⟨w.heap.size, 0, none⟩ = some (.int .i64 9) := HA0.out.cell 0
  have a1 : w0.cell? ⟨w.heap.size, 1, none⟩ = some (.int .i64 n) := HA0.out.cell 1
  have a2 : w0.cell? ⟨w.heap.size, 2, none⟩ = some (.int .i64 m) := HA0.out.cell 2
  have a3 : w0.cell? ⟨w.heap.size, 3, none⟩ = some (.int .i64 v.k) := HA0.out.cell 3
  have a4 : w0.cell? ⟨w.heap.size, 4, none⟩ = some (.int .i64 v.p) := HA0.out.cell 4
  have a5 : w0.cell? ⟨w.heap.size, 5, none⟩ = some (.int .i64 v.q) := HA0.out.cell 5
  have a6 : w0.cell? ⟨w.heap.size, 6, none⟩ = some (.string v.s) := HA0.out.cell 6
  have a7 : w0.cell? ⟨w.heap.size, 7, none⟩ = some (.int .i64 v.r) := HA0.out.cell 7
  have la := HA0.out.lt
  go_wp2_with (go_at_call 43; (with_reducible refine (Q.out).mono ?_); rintro e w1 ⟨rfl, hs⟩; have HS := Lib.hid hs; have HR1 : Hid (Blk 35 (w.heap.size + 1) #[.int .i64 0, .int .i64 0, .int .i64 0, .string ⟨#[]⟩, .int .i64 0] w1) := Lib.hid (HR0.out.ch hs.2 (fun hg => by have := HLT.out _ hg; omega)); have b0 : w1.cell? ⟨w.heap.size + 1, 0, none⟩ = some (.int .i64 0) := HR1.out.cell 0; have b1 : w1.cell? ⟨w.heap.size + 1, 1, none⟩ = some (.int .i64 0) := HR1.out.cell 1; have b2 : w1.cell? ⟨w.heap.size + 1, 2, none⟩ = some (.int .i64 0) := HR1.out.cell 2; have b3 : w1.cell? ⟨w.heap.size + 1, 3, none⟩ = some (.string ⟨#[]⟩) := HR1.out.cell 3; have b4 : w1.cell? ⟨w.heap.size + 1, 4, none⟩ = some (.int .i64 0) := HR1.out.cell 4; have fz0 := HR1.out.fz 0; have fz1 := HR1.out.fz 1; have fz2 := HR1.out.fz 2; have fz3 := HR1.out.fz 3; have fz4 := HR1.out.fz 4; have lb := HR1.out.lt; clear hs)
  show bodyPost _ _ _ Exit.ret _ (st5 w1 (w.heap.size + 1) (.int .i64 0) (.int .i64 0) (.int .i64 0) (.string ⟨#[]⟩) (.int .i64 0))
  have I1 : Blk 35 (w.heap.size + 1) #[.int .i64 0, .int .i64 0, .int .i64 0, .string ⟨#[]⟩, .int .i64 0] (st5 w1 (w.heap.size + 1) (.int .i64 0) (.int .i64 0) (.int .i64 0) (.string ⟨#[]⟩) (.int .i64 0)) := st5_blk HR1.out
  have hC : Ch [w.heap.size + 1] w1 (st5 w1 (w.heap.size + 1) (.int .i64 0) (.int .i64 0) (.int .i64 0) (.string ⟨#[]⟩) (.int .i64 0)) := st5_ch (Ch.refl _ _) (.inl (by simp))
  have y0 : (st5 w1 (w.heap.size + 1) (.int .i64 0) (.int .i64 0) (.int .i64 0) (.string ⟨#[]⟩) (.int .i64 0)).cell? ⟨(w.heap.size + 1), 0, none⟩ = some (.int .i64 0) := I1.cell 0
  have y1 : (st5 w1 (w.heap.size + 1) (.int .i64 0) (.int .i64 0) (.int .i64 0) (.string ⟨#[]⟩) (.int .i64 0)).cell? ⟨(w.heap.size + 1), 1, none⟩ = some (.int .i64 0) := I1.cell 1
  have y2 : (st5 w1 (w.heap.size + 1) (.int .i64 0) (.int .i64 0) (.int .i64 0) (.string ⟨#[]⟩) (.int .i64 0)).cell? ⟨(w.heap.size + 1), 2, none⟩ = some (.int .i64 0) := I1.cell 2
  have y3 : (st5 w1 (w.heap.size + 1) (.int .i64 0) (.int .i64 0) (.int .i64 0) (.string ⟨#[]⟩) (.int .i64 0)).cell? ⟨(w.heap.size + 1), 3, none⟩ = some (.string ⟨#[]⟩) := I1.cell 3
  have y4 : (st5 w1 (w.heap.size + 1) (.int .i64 0) (.int .i64 0) (.int .i64 0) (.string ⟨#[]⟩) (.int .i64 0)).cell? ⟨(w.heap.size + 1), 4, none⟩ = some (.int .i64 0) := I1.cell 4
  have HF := Lib.hid (sk_off HC0.out HS.out hC (fun g hg => by
    simp at hg; subst hg
    exact ⟨fun hm => by have := HLT.out _ hm; omega, HR0.out.lt, by omega⟩))
  generalize (st5 w1 (w.heap.size + 1) (.int .i64 0) (.int .i64 0) (.int .i64 0) (.string ⟨#[]⟩) (.int .i64 0)) = W9 at *
  refine bodyPost_ret (v := .tuple #[.int .i64 0, .agg #[.int .i64 0, .int .i64 0, .int .i64 0, .string ⟨#[]⟩, .int .i64 0], .int .i64 cE]) (by simp [results, Try.results14, go_sem, y0, y1, y2, y3, y4]) rfl ⟨rfl, HF.out⟩
set_option maxHeartbeats 4000000 in
theorem rprog_10 (B t : Nat) (va : Value) (l : List V5) (lim : Nat) (w : World) (h : Sk 65 B t va l lim w) (hB : B ≤ w.heap.size) (n m : Int) (v : V5) (k : Int) (hk : ¬ k = 0 ∧ ¬ k = 1 ∧ ¬ k = 2 ∧ ¬ k = 3 ∧ ¬ k = 4 ∧ ¬ k = 5 ∧ ¬ k = 6 ∧ ¬ k = 7 ∧ ¬ k = 8 ∧ ¬ k = 9) :
    Calls Try.prog 14 #[.pointer (some ⟨t, 0, none⟩), .agg #[.int .i64 k, .int .i64 n, .int .i64 m, .int .i64 v.k, .int .i64 v.p, .int .i64 v.q, .string v.s, .int .i64 v.r]] w fun e w' => e = .returned (.tuple #[.int .i64 (0), .agg #[.int .i64 0, .int .i64 0, .int .i64 0, .string ⟨#[]⟩, .int .i64 0], .int .i64 (roomE l lim n)]) ∧ SkSaid 65 B t va (l) lim w w' := by
  have HC0 : Hid (Ch [] w ((w.alloc (.cells #[.int .i64 k, .int .i64 n, .int .i64 m, .int .i64 v.k, .int .i64 v.p, .int .i64 v.q, .string v.s, .int .i64 v.r] 39)).alloc (.cells #[.int .i64 0, .int .i64 0, .int .i64 0, .string ⟨#[]⟩, .int .i64 0] 35))) := Lib.hid (((Ch.refl [] w).alloc _).alloc _)
  have HR0 : Hid (Blk 35 (w.heap.size + 1) #[.int .i64 0, .int .i64 0, .int .i64 0, .string ⟨#[]⟩, .int .i64 0] ((w.alloc (.cells #[.int .i64 k, .int .i64 n, .int .i64 m, .int .i64 v.k, .int .i64 v.p, .int .i64 v.q, .string v.s, .int .i64 v.r] 39)).alloc (.cells #[.int .i64 0, .int .i64 0, .int .i64 0, .string ⟨#[]⟩, .int .i64 0] 35))) := Lib.hid (Blk.new _ _ _ _ (by simp))
  have HA0 : Hid (Blk 39 w.heap.size #[.int .i64 k, .int .i64 n, .int .i64 m, .int .i64 v.k, .int .i64 v.p, .int .i64 v.q, .string v.s, .int .i64 v.r] ((w.alloc (.cells #[.int .i64 k, .int .i64 n, .int .i64 m, .int .i64 v.k, .int .i64 v.p, .int .i64 v.q, .string v.s, .int .i64 v.r] 39)).alloc (.cells #[.int .i64 0, .int .i64 0, .int .i64 0, .string ⟨#[]⟩, .int .i64 0] 35))) := Lib.hid ((Blk.new w 39 #[.int .i64 k, .int .i64 n, .int .i64 m, .int .i64 v.k, .int .i64 v.p, .int .i64 v.q, .string v.s, .int .i64 v.r] _ rfl).ch ((Ch.refl [] _).alloc _) (not_nil _))
  have HLT : Hid (∀ g ∈ skS t va, g < w.heap.size) := Lib.hid fun g hg => (h.lt g hg).2
  obtain ⟨cE, hcE⟩ : ∃ cE, cE = roomE l lim n := ⟨_, rfl⟩
  obtain ⟨cL, hcL⟩ : ∃ cL, cL = l := ⟨_, rfl⟩
  have Q : Hid (Calls Try.prog 44 #[.pointer (some ⟨t, 0, none⟩), .int .i64 n] ((w.alloc (.cells #[.int .i64 k, .int .i64 n, .int .i64 m, .int .i64 v.k, .int .i64 v.p, .int .i64 v.q, .string v.s, .int .i64 v.r] 39)).alloc (.cells #[.int .i64 0, .int .i64 0, .int .i64 0, .string ⟨#[]⟩, .int .i64 0] 35)) fun e w' => e = .returned (.int .i64 cE) ∧ SkSaid 65 B t va l lim ((w.alloc (.cells #[.int .i64 k, .int .i64 n, .int .i64 m, .int .i64 v.k, .int .i64 v.p, .int .i64 v.q, .string v.s, .int .i64 v.r] 39)).alloc (.cells #[.int .i64 0, .int .i64 0, .int .i64 0, .string ⟨#[]⟩, .int .i64 0] 35)) w') := Lib.hid (by
    have h := h.ch0 HC0.out
    have hB := Nat.le_trans hB HC0.out.size
    generalize ((w.alloc (.cells #[.int .i64 k, .int .i64 n, .int .i64 m, .int .i64 v.k, .int .i64 v.p, .int .i64 v.q, .string v.s, .int .i64 v.r] 39)).alloc (.cells #[.int .i64 0, .int .i64 0, .int .i64 0, .string ⟨#[]⟩, .int .i64 0] 35)) = W at *
    rw [hcE]
    exact (rroom_any B t va l lim W h n).mono fun e w' hh => ⟨hh.1, sk_0 h hh.2⟩)
  rw [← hcE]
  clear hcE hcL h hB
  obtain ⟨h0, h1, h2, h3, h4, h5, h6, h7, h8, h9⟩ := hk
  go_enter Try.func14, Try.ntmps14
  go_upto_region 1 with fail
  generalize ((w.alloc (.cells #[.int .i64 k, .int .i64 n, .int .i64 m, .int .i64 v.k, .int .i64 v.p, .int .i64 v.q, .string v.s, .int .i64 v.r] 39)).alloc (.cells #[.int .i64 0, .int .i64 0, .int .i64 0, .string ⟨#[]⟩, .int .i64 0] 35)) = w0 at *
  have a0 : w0.cell? ⟨w.heap.size, 0, none⟩ = some (.int .i64 k) := HA0.out.cell 0
  have a1 : w0.cell? ⟨w.heap.size, 1, none⟩ = some (.int .i64 n) := HA0.out.cell 1
  have a2 : w0.cell? ⟨w.heap.size, 2, none⟩ = some (.int .i64 m) := HA0.out.cell 2
  have a3 : w0.cell? ⟨w.heap.size, 3, none⟩ = some (.int .i64 v.k) := HA0.out.cell 3
  have a4 : w0.cell? ⟨w.heap.size, 4, none⟩ = some (.int .i64 v.p) := HA0.out.cell 4
  have a5 : w0.cell? ⟨w.heap.size, 5, none⟩ = some (.int .i64 v.q) := HA0.out.cell 5
  have a6 : w0.cell? ⟨w.heap.size, 6, none⟩ = some (.string v.s) := HA0.out.cell 6
  have a7 : w0.cell? ⟨w.heap.size, 7, none⟩ = some (.int .i64 v.r) := HA0.out.cell 7
  have la := HA0.out.lt
  go_wp2_with (go_at_call 44; (with_reducible refine (Q.out).mono ?_); rintro e w1 ⟨rfl, hs⟩; have HS := Lib.hid hs; have HR1 : Hid (Blk 35 (w.heap.size + 1) #[.int .i64 0, .int .i64 0, .int .i64 0, .string ⟨#[]⟩, .int .i64 0] w1) := Lib.hid (HR0.out.ch hs.2 (fun hg => by have := HLT.out _ hg; omega)); have b0 : w1.cell? ⟨w.heap.size + 1, 0, none⟩ = some (.int .i64 0) := HR1.out.cell 0; have b1 : w1.cell? ⟨w.heap.size + 1, 1, none⟩ = some (.int .i64 0) := HR1.out.cell 1; have b2 : w1.cell? ⟨w.heap.size + 1, 2, none⟩ = some (.int .i64 0) := HR1.out.cell 2; have b3 : w1.cell? ⟨w.heap.size + 1, 3, none⟩ = some (.string ⟨#[]⟩) := HR1.out.cell 3; have b4 : w1.cell? ⟨w.heap.size + 1, 4, none⟩ = some (.int .i64 0) := HR1.out.cell 4; have fz0 := HR1.out.fz 0; have fz1 := HR1.out.fz 1; have fz2 := HR1.out.fz 2; have fz3 := HR1.out.fz 3; have fz4 := HR1.out.fz 4; have lb := HR1.out.lt; clear hs)
  show bodyPost _ _ _ Exit.ret _ (st5 w1 (w.heap.size + 1) (.int .i64 0) (.int .i64 0) (.int .i64 0) (.string ⟨#[]⟩) (.int .i64 0))
  have I1 : Blk 35 (w.heap.size + 1) #[.int .i64 0, .int .i64 0, .int .i64 0, .string ⟨#[]⟩, .int .i64 0] (st5 w1 (w.heap.size + 1) (.int .i64 0) (.int .i64 0) (.int .i64 0) (.string ⟨#[]⟩) (.int .i64 0)) := st5_blk HR1.out
  have hC : Ch [w.heap.size + 1] w1 (st5 w1 (w.heap.size + 1) (.int .i64 0) (.int .i64 0) (.int .i64 0) (.string ⟨#[]⟩) (.int .i64 0)) := st5_ch (Ch.refl _ _) (.inl (by simp))
  have y0 : (st5 w1 (w.heap.size + 1) (.int .i64 0) (.int .i64 0) (.int .i64 0) (.string ⟨#[]⟩) (.int .i64 0)).cell? ⟨(w.heap.size + 1), 0, none⟩ = some (.int .i64 0) := I1.cell 0
  have y1 : (st5 w1 (w.heap.size + 1) (.int .i64 0) (.int .i64 0) (.int .i64 0) (.string ⟨#[]⟩) (.int .i64 0)).cell? ⟨(w.heap.size + 1), 1, none⟩ = some (.int .i64 0) := I1.cell 1
  have y2 : (st5 w1 (w.heap.size + 1) (.int .i64 0) (.int .i64 0) (.int .i64 0) (.string ⟨#[]⟩) (.int .i64 0)).cell? ⟨(w.heap.size + 1), 2, none⟩ = some (.int .i64 0) := I1.cell 2
  have y3 : (st5 w1 (w.heap.size + 1) (.int .i64 0) (.int .i64 0) (.int .i64 0) (.string ⟨#[]⟩) (.int .i64 0)).cell? ⟨(w.heap.size + 1), 3, none⟩ = some (.string ⟨#[]⟩) := I1.cell 3
  have y4 : (st5 w1 (w.heap.size + 1) (.int .i64 0) (.int .i64 0) (.int .i64 0) (.string ⟨#[]⟩) (.int .i64 0)).cell? ⟨(w.heap.size + 1), 4, none⟩ = some (.int .i64 0) := I1.cell 4
  have HF := Lib.hid (sk_off HC0.out HS.out hC (fun g hg => by
    simp at hg; subst hg
    exact ⟨fun hm => by have := HLT.out _ hm; omega, HR0.out.lt, by omega⟩))
  generalize (st5 w1 (w.heap.size + 1) (.int .i64 0) (.int .i64 0) (.int .i64 0) (.string ⟨#[]⟩) (.int .i64 0)) = W9 at *
  refine bodyPost_ret (v := .tuple #[.int .i64 0, .agg #[.int .i64 0, .int .i64 0, .int .i64 0, .string ⟨#[]⟩, .int .i64 0], .int .i64 cE]) (by simp [results, Try.results14, go_sem, y0, y1, y2, y3, y4]) rfl ⟨rfl, HF.out⟩
theorem rprog_all (B t : Nat) (va : Value) (l : List V5) (lim : Nat) (w : World) (h : Sk 65 B t va l lim w) (hB : B ≤ w.heap.size) (c : Cl) :
    Calls Try.prog 14 #[.pointer (some ⟨t, 0, none⟩), .agg #[.int .i64 c.k, .int .i64 c.n, .int .i64 c.m, .int .i64 c.v.k, .int .i64 c.v.p, .int .i64 c.v.q, .string c.v.s, .int .i64 c.v.r]] w fun e w' => e = .returned (.tuple #[.int .i64 (progN l c), .agg #[.int .i64 (progV l c).k, .int .i64 (progV l c).p, .int .i64 (progV l c).q, .string (progV l c).s, .int .i64 (progV l c).r], .int .i64 (progE lim l c)]) ∧ SkSaid 65 B t va (progL lim l c) lim w w' := by
  obtain ⟨k, n, m, v⟩ := c
  unfold progN progV progE progL
  by_cases h0 : k = 0
  · subst h0; exact rprog_0 B t va l lim w h hB n m v
  by_cases h1 : k = 1
  · subst h1; exact rprog_1 B t va l lim w h hB n m v
  by_cases h2 : k = 2
  · subst h2; exact rprog_2 B t va l lim w h hB n m v
  by_cases h3 : k = 3
  · subst h3; exact rprog_3 B t va l lim w h hB n m v
  by_cases h4 : k = 4
  · subst h4; exact rprog_4 B t va l lim w h hB n m v
  by_cases h5 : k = 5
  · subst h5; exact rprog_5 B t va l lim w h hB n m v
  by_cases h6 : k = 6
  · subst h6; exact rprog_6 B t va l lim w h hB n m v
  by_cases h7 : k = 7
  · subst h7; exact rprog_7 B t va l lim w h hB n m v
  by_cases h8 : k = 8
  · subst h8; exact rprog_8 B t va l lim w h hB n m v
  by_cases h9 : k = 9
  · subst h9; exact rprog_9 B t va l lim w h hB n m v
  simp only [h0, h1, h2, h3, h4, h5, h6, h7, h8, h9, if_false]
  exact rprog_10 B t va l lim w h hB n m v k ⟨h0, h1, h2, h3, h4, h5, h6, h7, h8, h9⟩
set_option maxHeartbeats 4000000 in
theorem rprog_nil0 (w : World) (n m : Int) (v : V5)  :
    Calls Try.prog 14 #[.pointer none, .agg #[.int .i64 0, .int .i64 n, .int .i64 m, .int .i64 v.k, .int .i64 v.p, .int .i64 v.q, .string v.s, .int .i64 v.r]] w fun e w' => e = .returned (.tuple #[.int .i64 0, .agg #[.int .i64 0, .int .i64 0, .int .i64 0, .string ⟨#[]⟩, .int .i64 0], .int .i64 1]) ∧ Ch [] w w' := by
  have HC0 : Hid (Ch [] w ((w.alloc (.cells #[.int .i64 0, .int .i64 n, .int .i64 m, .int .i64 v.k, .int .i64 v.p, .int .i64 v.q, .string v.s, .int .i64 v.r] 39)).alloc (.cells #[.int .i64 0, .int .i64 0, .int .i64 0, .string ⟨#[]⟩, .int .i64 0] 35))) := Lib.hid (((Ch.refl [] w).alloc _).alloc _)
  have HR0 : Hid (Blk 35 (w.heap.size + 1) #[.int .i64 0, .int .i64 0, .int .i64 0, .string ⟨#[]⟩, .int .i64 0] ((w.alloc (.cells #[.int .i64 0, .int .i64 n, .int .i64 m, .int .i64 v.k, .int .i64 v.p, .int .i64 v.q, .string v.s, .int .i64 v.r] 39)).alloc (.cells #[.int .i64 0, .int .i64 0, .int .i64 0, .string ⟨#[]⟩, .int .i64 0] 35))) := Lib.hid (Blk.new _ _ _ _ (by simp))
  have HA0 : Hid (Blk 39 w.heap.size #[.int .i64 0, .int .i64 n, .int .i64 m, .int .i64 v.k, .int .i64 v.p, .int .i64 v.q, .string v.s, .int .i64 v.r] ((w.alloc (.cells #[.int .i64 0, .int .i64 n, .int .i64 m, .int .i64 v.k, .int .i64 v.p, .int .i64 v.q, .string v.s, .int .i64 v.r] 39)).alloc (.cells #[.int .i64 0, .int .i64 0, .int .i64 0, .string ⟨#[]⟩, .int .i64 0] 35))) := Lib.hid ((Blk.new w 39 #[.int .i64 0, .int .i64 n, .int .i64 m, .int .i64 v.k, .int .i64 v.p, .int .i64 v.q, .string v.s, .int .i64 v.r] _ rfl).ch ((Ch.refl [] _).alloc _) (not_nil _))
  have Q : Hid (Calls Try.prog 34 #[.pointer none, .agg #[.int .i64 v.k, .int .i64 v.p, .int .i64 v.q, .string v.s, .int .i64 v.r]] ((w.alloc (.cells #[.int .i64 0, .int .i64 n, .int .i64 m, .int .i64 v.k, .int .i64 v.p, .int .i64 v.q, .string v.s, .int .i64 v.r] 39)).alloc (.cells #[.int .i64 0, .int .i64 0, .int .i64 0, .string ⟨#[]⟩, .int .i64 0] 35)) fun e w' => e = .returned (.int .i64 1) ∧ Ch [] ((w.alloc (.cells #[.int .i64 0, .int .i64 n, .int .i64 m, .int .i64 v.k, .int .i64 v.p, .int .i64 v.q, .string v.s, .int .i64 v.r] 39)).alloc (.cells #[.int .i64 0, .int .i64 0, .int .i64 0, .string ⟨#[]⟩, .int .i64 0] 35)) w') := Lib.hid (by
    generalize ((w.alloc (.cells #[.int .i64 0, .int .i64 n, .int .i64 m, .int .i64 v.k, .int .i64 v.p, .int .i64 v.q, .string v.s, .int .i64 v.r] 39)).alloc (.cells #[.int .i64 0, .int .i64 0, .int .i64 0, .string ⟨#[]⟩, .int .i64 0] 35)) = W at *
    exact (rpush_nil v W).mono fun e w' hh => hh)
  go_enter Try.func14, Try.ntmps14
  go_upto_region 1 with fail
  generalize ((w.alloc (.cells #[.int .i64 0, .int .i64 n, .int .i64 m, .int .i64 v.k, .int .i64 v.p, .int .i64 v.q, .string v.s, .int .i64 v.r] 39)).alloc (.cells #[.int .i64 0, .int .i64 0, .int .i64 0, .string ⟨#[]⟩, .int .i64 0] 35)) = w0 at *
  have a0 : w0.cell? ⟨w.heap.size, 0, none⟩ = some (.int .i64 0) := HA0.out.cell 0
  have a1 : w0.cell? ⟨w.heap.size, 1, none⟩ = some (.int .i64 n) := HA0.out.cell 1
  have a2 : w0.cell? ⟨w.heap.size, 2, none⟩ = some (.int .i64 m) := HA0.out.cell 2
  have a3 : w0.cell? ⟨w.heap.size, 3, none⟩ = some (.int .i64 v.k) := HA0.out.cell 3
  have a4 : w0.cell? ⟨w.heap.size, 4, none⟩ = some (.int .i64 v.p) := HA0.out.cell 4
  have a5 : w0.cell? ⟨w.heap.size, 5, none⟩ = some (.int .i64 v.q) := HA0.out.cell 5
  have a6 : w0.cell? ⟨w.heap.size, 6, none⟩ = some (.string v.s) := HA0.out.cell 6
  have a7 : w0.cell? ⟨w.heap.size, 7, none⟩ = some (.int .i64 v.r) := HA0.out.cell 7
  have la := HA0.out.lt
  go_wp2_with (go_at_call 34; (with_reducible refine (Q.out).mono ?_); rintro e w1 ⟨rfl, hs⟩; have HS := Lib.hid hs; have HR1 : Hid (Blk 35 (w.heap.size + 1) #[.int .i64 0, .int .i64 0, .int .i64 0, .string ⟨#[]⟩, .int .i64 0] w1) := Lib.hid (HR0.out.ch hs (not_nil _)); have b0 : w1.cell? ⟨w.heap.size + 1, 0, none⟩ = some (.int .i64 0) := HR1.out.cell 0; have b1 : w1.cell? ⟨w.heap.size + 1, 1, none⟩ = some (.int .i64 0) := HR1.out.cell 1; have b2 : w1.cell? ⟨w.heap.size + 1, 2, none⟩ = some (.int .i64 0) := HR1.out.cell 2; have b3 : w1.cell? ⟨w.heap.size + 1, 3, none⟩ = some (.string ⟨#[]⟩) := HR1.out.cell 3; have b4 : w1.cell? ⟨w.heap.size + 1, 4, none⟩ = some (.int .i64 0) := HR1.out.cell 4; have fz0 := HR1.out.fz 0; have fz1 := HR1.out.fz 1; have fz2 := HR1.out.fz 2; have fz3 := HR1.out.fz 3; have fz4 := HR1.out.fz 4; have lb := HR1.out.lt; clear hs)
  show bodyPost _ _ _ Exit.ret _ (st5 w1 (w.heap.size + 1) (.int .i64 0) (.int .i64 0) (.int .i64 0) (.string ⟨#[]⟩) (.int .i64 0))
  have I1 : Blk 35 (w.heap.size + 1) #[.int .i64 0, .int .i64 0, .int .i64 0, .string ⟨#[]⟩, .int .i64 0] (st5 w1 (w.heap.size + 1) (.int .i64 0) (.int .i64 0) (.int .i64 0) (.string ⟨#[]⟩) (.int .i64 0)) := st5_blk HR1.out
  have hC : Ch [w.heap.size + 1] w1 (st5 w1 (w.heap.size + 1) (.int .i64 0) (.int .i64 0) (.int .i64 0) (.string ⟨#[]⟩) (.int .i64 0)) := st5_ch (Ch.refl _ _) (.inl (by simp))
  have y0 : (st5 w1 (w.heap.size + 1) (.int .i64 0) (.int .i64 0) (.int .i64 0) (.string ⟨#[]⟩) (.int .i64 0)).cell? ⟨(w.heap.size + 1), 0, none⟩ = some (.int .i64 0) := I1.cell 0
  have y1 : (st5 w1 (w.heap.size + 1) (.int .i64 0) (.int .i64 0) (.int .i64 0) (.string ⟨#[]⟩) (.int .i64 0)).cell? ⟨(w.heap.size + 1), 1, none⟩ = some (.int .i64 0) := I1.cell 1
  have y2 : (st5 w1 (w.heap.size + 1) (.int .i64 0) (.int .i64 0) (.int .i64 0) (.string ⟨#[]⟩) (.int .i64 0)).cell? ⟨(w.heap.size + 1), 2, none⟩ = some (.int .i64 0) := I1.cell 2
  have y3 : (st5 w1 (w.heap.size + 1) (.int .i64 0) (.int .i64 0) (.int .i64 0) (.string ⟨#[]⟩) (.int .i64 0)).cell? ⟨(w.heap.size + 1), 3, none⟩ = some (.string ⟨#[]⟩) := I1.cell 3
  have y4 : (st5 w1 (w.heap.size + 1) (.int .i64 0) (.int .i64 0) (.int .i64 0) (.string ⟨#[]⟩) (.int .i64 0)).cell? ⟨(w.heap.size + 1), 4, none⟩ = some (.int .i64 0) := I1.cell 4
  have HF : Hid (Ch [] w (st5 w1 (w.heap.size + 1) (.int .i64 0) (.int .i64 0) (.int .i64 0) (.string ⟨#[]⟩) (.int .i64 0))) := Lib.hid ((HC0.out.trans HS.out).fresh (fun g hg => by simp at hg; omega) hC)
  generalize (st5 w1 (w.heap.size + 1) (.int .i64 0) (.int .i64 0) (.int .i64 0) (.string ⟨#[]⟩) (.int .i64 0)) = W9 at *
  refine bodyPost_ret (v := .tuple #[.int .i64 0, .agg #[.int .i64 0, .int .i64 0, .int .i64 0, .string ⟨#[]⟩, .int .i64 0], .int .i64 1]) (by simp [results, Try.results14, go_sem, y0, y1, y2, y3, y4]) rfl ⟨rfl, HF.out⟩
set_option maxHeartbeats 4000000 in
theorem rprog_nil1 (w : World) (n m : Int) (v : V5)  :
    Calls Try.prog 14 #[.pointer none, .agg #[.int .i64 1, .int .i64 n, .int .i64 m, .int .i64 v.k, .int .i64 v.p, .int .i64 v.q, .string v.s, .int .i64 v.r]] w fun e w' => e = .returned (.tuple #[.int .i64 0, .agg #[.int .i64 0, .int .i64 0, .int .i64 0, .string ⟨#[]⟩, .int .i64 0], .int .i64 1]) ∧ Ch [] w w' := by
  have HC0 : Hid (Ch [] w ((w.alloc (.cells #[.int .i64 1, .int .i64 n, .int .i64 m, .int .i64 v.k, .int .i64 v.p, .int .i64 v.q, .string v.s, .int .i64 v.r] 39)).alloc (.cells #[.int .i64 0, .int .i64 0, .int .i64 0, .string ⟨#[]⟩, .int .i64 0] 35))) := Lib.hid (((Ch.refl [] w).alloc _).alloc _)
  have HR0 : Hid (Blk 35 (w.heap.size + 1) #[.int .i64 0, .int .i64 0, .int .i64 0, .string ⟨#[]⟩, .int .i64 0] ((w.alloc (.cells #[.int .i64 1, .int .i64 n, .int .i64 m, .int .i64 v.k, .int .i64 v.p, .int .i64 v.q, .string v.s, .int .i64 v.r] 39)).alloc (.cells #[.int .i64 0, .int .i64 0, .int .i64 0, .string ⟨#[]⟩, .int .i64 0] 35))) := Lib.hid (Blk.new _ _ _ _ (by simp))
  have HA0 : Hid (Blk 39 w.heap.size #[.int .i64 1, .int .i64 n, .int .i64 m, .int .i64 v.k, .int .i64 v.p, .int .i64 v.q, .string v.s, .int .i64 v.r] ((w.alloc (.cells #[.int .i64 1, .int .i64 n, .int .i64 m, .int .i64 v.k, .int .i64 v.p, .int .i64 v.q, .string v.s, .int .i64 v.r] 39)).alloc (.cells #[.int .i64 0, .int .i64 0, .int .i64 0, .string ⟨#[]⟩, .int .i64 0] 35))) := Lib.hid ((Blk.new w 39 #[.int .i64 1, .int .i64 n, .int .i64 m, .int .i64 v.k, .int .i64 v.p, .int .i64 v.q, .string v.s, .int .i64 v.r] _ rfl).ch ((Ch.refl [] _).alloc _) (not_nil _))
  have Q : Hid (Calls Try.prog 35 #[.pointer none, .int .i64 n] ((w.alloc (.cells #[.int .i64 1, .int .i64 n, .int .i64 m, .int .i64 v.k, .int .i64 v.p, .int .i64 v.q, .string v.s, .int .i64 v.r] 39)).alloc (.cells #[.int .i64 0, .int .i64 0, .int .i64 0, .string ⟨#[]⟩, .int .i64 0] 35)) fun e w' => e = .returned (.int .i64 1) ∧ Ch [] ((w.alloc (.cells #[.int .i64 1, .int .i64 n, .int .i64 m, .int .i64 v.k, .int .i64 v.p, .int .i64 v.q, .string v.s, .int .i64 v.r] 39)).alloc (.cells #[.int .i64 0, .int .i64 0, .int .i64 0, .string ⟨#[]⟩, .int .i64 0] 35)) w') := Lib.hid (by
    generalize ((w.alloc (.cells #[.int .i64 1, .int .i64 n, .int .i64 m, .int .i64 v.k, .int .i64 v.p, .int .i64 v.q, .string v.s, .int .i64 v.r] 39)).alloc (.cells #[.int .i64 0, .int .i64 0, .int .i64 0, .string ⟨#[]⟩, .int .i64 0] 35)) = W at *
    exact (rpop_nil n W).mono fun e w' hh => ⟨hh.1, by rw [hh.2]; exact Ch.refl _ _⟩)
  go_enter Try.func14, Try.ntmps14
  go_upto_region 1 with fail
  generalize ((w.alloc (.cells #[.int .i64 1, .int .i64 n, .int .i64 m, .int .i64 v.k, .int .i64 v.p, .int .i64 v.q, .string v.s, .int .i64 v.r] 39)).alloc (.cells #[.int .i64 0, .int .i64 0, .int .i64 0, .string ⟨#[]⟩, .int .i64 0] 35)) = w0 at *
  have a0 : w0.cell? ⟨w.heap.size, 0, none⟩ = some (.int .i64 1) := HA0.out.cell 0
  have a1 : w0.cell? ⟨w.heap.size, 1, none⟩ = some (.int .i64 n) := HA0.out.cell 1
  have a2 : w0.cell? ⟨w.heap.size, 2, none⟩ = some (.int .i64 m) := HA0.out.cell 2
  have a3 : w0.cell? ⟨w.heap.size, 3, none⟩ = some (.int .i64 v.k) := HA0.out.cell 3
  have a4 : w0.cell? ⟨w.heap.size, 4, none⟩ = some (.int .i64 v.p) := HA0.out.cell 4
  have a5 : w0.cell? ⟨w.heap.size, 5, none⟩ = some (.int .i64 v.q) := HA0.out.cell 5
  have a6 : w0.cell? ⟨w.heap.size, 6, none⟩ = some (.string v.s) := HA0.out.cell 6
  have a7 : w0.cell? ⟨w.heap.size, 7, none⟩ = some (.int .i64 v.r) := HA0.out.cell 7
  have la := HA0.out.lt
  go_wp2_with (go_at_call 35; (with_reducible refine (Q.out).mono ?_); rintro e w1 ⟨rfl, hs⟩; have HS := Lib.hid hs; have HR1 : Hid (Blk 35 (w.heap.size + 1) #[.int .i64 0, .int .i64 0, .int .i64 0, .string ⟨#[]⟩, .int .i64 0] w1) := Lib.hid (HR0.out.ch hs (not_nil _)); have b0 : w1.cell? ⟨w.heap.size + 1, 0, none⟩ = some (.int .i64 0) := HR1.out.cell 0; have b1 : w1.cell? ⟨w.heap.size + 1, 1, none⟩ = some (.int .i64 0) := HR1.out.cell 1; have b2 : w1.cell? ⟨w.heap.size + 1, 2, none⟩ = some (.int .i64 0) := HR1.out.cell 2; have b3 : w1.cell? ⟨w.heap.size + 1, 3, none⟩ = some (.string ⟨#[]⟩) := HR1.out.cell 3; have b4 : w1.cell? ⟨w.heap.size + 1, 4, none⟩ = some (.int .i64 0) := HR1.out.cell 4; have fz0 := HR1.out.fz 0; have fz1 := HR1.out.fz 1; have fz2 := HR1.out.fz 2; have fz3 := HR1.out.fz 3; have fz4 := HR1.out.fz 4; have lb := HR1.out.lt; clear hs)
  show bodyPost _ _ _ Exit.ret _ (st5 w1 (w.heap.size + 1) (.int .i64 0) (.int .i64 0) (.int .i64 0) (.string ⟨#[]⟩) (.int .i64 0))
  have I1 : Blk 35 (w.heap.size + 1) #[.int .i64 0, .int .i64 0, .int .i64 0, .string ⟨#[]⟩, .int .i64 0] (st5 w1 (w.heap.size + 1) (.int .i64 0) (.int .i64 0) (.int .i64 0) (.string ⟨#[]⟩) (.int .i64 0)) := st5_blk HR1.out
  have hC : Ch [w.heap.size + 1] w1 (st5 w1 (w.heap.size + 1) (.int .i64 0) (.int .i64 0) (.int .i64 0) (.string ⟨#[]⟩) (.int .i64 0)) := st5_ch (Ch.refl _ _) (.inl (by simp))
  have y0 : (st5 w1 (w.heap.size + 1) (.int .i64 0) (.int .i64 0) (.int .i64 0) (.string ⟨#[]⟩) (.int .i64 0)).cell? ⟨(w.heap.size + 1), 0, none⟩ = some (.int .i64 0) := I1.cell 0
  have y1 : (st5 w1 (w.heap.size + 1) (.int .i64 0) (.int .i64 0) (.int .i64 0) (.string ⟨#[]⟩) (.int .i64 0)).cell? ⟨(w.heap.size + 1), 1, none⟩ = some (.int .i64 0) := I1.cell 1
  have y2 : (st5 w1 (w.heap.size + 1) (.int .i64 0) (.int .i64 0) (.int .i64 0) (.string ⟨#[]⟩) (.int .i64 0)).cell? ⟨(w.heap.size + 1), 2, none⟩ = some (.int .i64 0) := I1.cell 2
  have y3 : (st5 w1 (w.heap.size + 1) (.int .i64 0) (.int .i64 0) (.int .i64 0) (.string ⟨#[]⟩) (.int .i64 0)).cell? ⟨(w.heap.size + 1), 3, none⟩ = some (.string ⟨#[]⟩) := I1.cell 3
  have y4 : (st5 w1 (w.heap.size + 1) (.int .i64 0) (.int .i64 0) (.int .i64 0) (.string ⟨#[]⟩) (.int .i64 0)).cell? ⟨(w.heap.size + 1), 4, none⟩ = some (.int .i64 0) := I1.cell 4
  have HF : Hid (Ch [] w (st5 w1 (w.heap.size + 1) (.int .i64 0) (.int .i64 0) (.int .i64 0) (.string ⟨#[]⟩) (.int .i64 0))) := Lib.hid ((HC0.out.trans HS.out).fresh (fun g hg => by simp at hg; omega) hC)
  generalize (st5 w1 (w.heap.size + 1) (.int .i64 0) (.int .i64 0) (.int .i64 0) (.string ⟨#[]⟩) (.int .i64 0)) = W9 at *
  refine bodyPost_ret (v := .tuple #[.int .i64 0, .agg #[.int .i64 0, .int .i64 0, .int .i64 0, .string ⟨#[]⟩, .int .i64 0], .int .i64 1]) (by simp [results, Try.results14, go_sem, y0, y1, y2, y3, y4]) rfl ⟨rfl, HF.out⟩
set_option maxHeartbeats 4000000 in
theorem rprog_nil2 (w : World) (n m : Int) (v : V5)  :
    Calls Try.prog 14 #[.pointer none, .agg #[.int .i64 2, .int .i64 n, .int .i64 m, .int .i64 v.k, .int .i64 v.p, .int .i64 v.q, .string v.s, .int .i64 v.r]] w fun e w' => e = .returned (.tuple #[.int .i64 0, .agg #[.int .i64 0, .int .i64 0, .int .i64 0, .string ⟨#[]⟩, .int .i64 0], .int .i64 1]) ∧ Ch [] w w' := by
  have HC0 : Hid (Ch [] w ((w.alloc (.cells #[.int .i64 2, .int .i64 n, .int .i64 m, .int .i64 v.k, .int .i64 v.p, .int .i64 v.q, .string v.s, .int .i64 v.r] 39)).alloc (.cells #[.int .i64 0, .int .i64 0, .int .i64 0, .string ⟨#[]⟩, .int .i64 0] 35))) := Lib.hid (((Ch.refl [] w).alloc _).alloc _)
  have HR0 : Hid (Blk 35 (w.heap.size + 1) #[.int .i64 0, .int .i64 0, .int .i64 0, .string ⟨#[]⟩, .int .i64 0] ((w.alloc (.cells #[.int .i64 2, .int .i64 n, .int .i64 m, .int .i64 v.k, .int .i64 v.p, .int .i64 v.q, .string v.s, .int .i64 v.r] 39)).alloc (.cells #[.int .i64 0, .int .i64 0, .int .i64 0, .string ⟨#[]⟩, .int .i64 0] 35))) := Lib.hid (Blk.new _ _ _ _ (by simp))
  have HA0 : Hid (Blk 39 w.heap.size #[.int .i64 2, .int .i64 n, .int .i64 m, .int .i64 v.k, .int .i64 v.p, .int .i64 v.q, .string v.s, .int .i64 v.r] ((w.alloc (.cells #[.int .i64 2, .int .i64 n, .int .i64 m, .int .i64 v.k, .int .i64 v.p, .int .i64 v.q, .string v.s, .int .i64 v.r] 39)).alloc (.cells #[.int .i64 0, .int .i64 0, .int .i64 0, .string ⟨#[]⟩, .int .i64 0] 35))) := Lib.hid ((Blk.new w 39 #[.int .i64 2, .int .i64 n, .int .i64 m, .int .i64 v.k, .int .i64 v.p, .int .i64 v.q, .string v.s, .int .i64 v.r] _ rfl).ch ((Ch.refl [] _).alloc _) (not_nil _))
  have Q : Hid (Calls Try.prog 36 #[.pointer none, .int .i64 n] ((w.alloc (.cells #[.int .i64 2, .int .i64 n, .int .i64 m, .int .i64 v.k, .int .i64 v.p, .int .i64 v.q, .string v.s, .int .i64 v.r] 39)).alloc (.cells #[.int .i64 0, .int .i64 0, .int .i64 0, .string ⟨#[]⟩, .int .i64 0] 35)) fun e w' => e = .returned (.int .i64 1) ∧ Ch [] ((w.alloc (.cells #[.int .i64 2, .int .i64 n, .int .i64 m, .int .i64 v.k, .int .i64 v.p, .int .i64 v.q, .string v.s, .int .i64 v.r] 39)).alloc (.cells #[.int .i64 0, .int .i64 0, .int .i64 0, .string ⟨#[]⟩, .int .i64 0] 35)) w') := Lib.hid (by
    generalize ((w.alloc (.cells #[.int .i64 2, .int .i64 n, .int .i64 m, .int .i64 v.k, .int .i64 v.p, .int .i64 v.q, .string v.s, .int .i64 v.r] 39)).alloc (.cells #[.int .i64 0, .int .i64 0, .int .i64 0, .string ⟨#[]⟩, .int .i64 0] 35)) = W at *
    exact (rsettop_nil n W).mono fun e w' hh => ⟨hh.1, by rw [hh.2]; exact Ch.refl _ _⟩)
  go_enter Try.func14, Try.ntmps14
  go_upto_region 1 with fail
  generalize ((w.alloc (.cells #[.int .i64 2, .int .i64 n, .int .i64 m, .int .i64 v.k, .int .i64 v.p, .int .i64 v.q, .string v.s, .int .i64 v.r] 39)).alloc (.cells #[.int .i64 0, .int .i64 0, .int .i64 0, .string ⟨#[]⟩, .int .i64 0] 35)) = w0 at *
  have a0 : w0.cell? ⟨w.heap.size, 0, none⟩ = some (.int .i64 2) := HA0.out.cell 0
  have a1 : w0.cell? ⟨w.heap.size, 1, none⟩ = some (.int .i64 n) := HA0.out.cell 1
  have a2 : w0.cell? ⟨w.heap.size, 2, none⟩ = some (.int .i64 m) := HA0.out.cell 2
  have a3 : w0.cell? ⟨w.heap.size, 3, none⟩ = some (.int .i64 v.k) := HA0.out.cell 3
  have a4 : w0.cell? ⟨w.heap.size, 4, none⟩ = some (.int .i64 v.p) := HA0.out.cell 4
  have a5 : w0.cell? ⟨w.heap.size, 5, none⟩ = some (.int .i64 v.q) := HA0.out.cell 5
  have a6 : w0.cell? ⟨w.heap.size, 6, none⟩ = some (.string v.s) := HA0.out.cell 6
  have a7 : w0.cell? ⟨w.heap.size, 7, none⟩ = some (.int .i64 v.r) := HA0.out.cell 7
  have la := HA0.out.lt
  go_wp2_with (go_at_call 36; (with_reducible refine (Q.out).mono ?_); rintro e w1 ⟨rfl, hs⟩; have HS := Lib.hid hs; have HR1 : Hid (Blk 35 (w.heap.size + 1) #[.int .i64 0, .int .i64 0, .int .i64 0, .string ⟨#[]⟩, .int .i64 0] w1) := Lib.hid (HR0.out.ch hs (not_nil _)); have b0 : w1.cell? ⟨w.heap.size + 1, 0, none⟩ = some (.int .i64 0) := HR1.out.cell 0; have b1 : w1.cell? ⟨w.heap.size + 1, 1, none⟩ = some (.int .i64 0) := HR1.out.cell 1; have b2 : w1.cell? ⟨w.heap.size + 1, 2, none⟩ = some (.int .i64 0) := HR1.out.cell 2; have b3 : w1.cell? ⟨w.heap.size + 1, 3, none⟩ = some (.string ⟨#[]⟩) := HR1.out.cell 3; have b4 : w1.cell? ⟨w.heap.size + 1, 4, none⟩ = some (.int .i64 0) := HR1.out.cell 4; have fz0 := HR1.out.fz 0; have fz1 := HR1.out.fz 1; have fz2 := HR1.out.fz 2; have fz3 := HR1.out.fz 3; have fz4 := HR1.out.fz 4; have lb := HR1.out.lt; clear hs)
  show bodyPost _ _ _ Exit.ret _ (st5 w1 (w.heap.size + 1) (.int .i64 0) (.int .i64 0) (.int .i64 0) (.string ⟨#[]⟩) (.int .i64 0))
  have I1 : Blk 35 (w.heap.size + 1) #[.int .i64 0, .int .i64 0, .int .i64 0, .string ⟨#[]⟩, .int .i64 0] (st5 w1 (w.heap.size + 1) (.int .i64 0) (.int .i64 0) (.int .i64 0) (.string ⟨#[]⟩) (.int .i64 0)) := st5_blk HR1.out
  have hC : Ch [w.heap.size + 1] w1 (st5 w1 (w.heap.size + 1) (.int .i64 0) (.int .i64 0) (.int .i64 0) (.string ⟨#[]⟩) (.int .i64 0)) := st5_ch (Ch.refl _ _) (.inl (by simp))
  have y0 : (st5 w1 (w.heap.size + 1) (.int .i64 0) (.int .i64 0) (.int .i64 0) (.string ⟨#[]⟩) (.int .i64 0)).cell? ⟨(w.heap.size + 1), 0, none⟩ = some (.int .i64 0) := I1.cell 0
  have y1 : (st5 w1 (w.heap.size + 1) (.int .i64 0) (.int .i64 0) (.int .i64 0) (.string ⟨#[]⟩) (.int .i64 0)).cell? ⟨(w.heap.size + 1), 1, none⟩ = some (.int .i64 0) := I1.cell 1
  have y2 : (st5 w1 (w.heap.size + 1) (.int .i64 0) (.int .i64 0) (.int .i64 0) (.string ⟨#[]⟩) (.int .i64 0)).cell? ⟨(w.heap.size + 1), 2, none⟩ = some (.int .i64 0) := I1.cell 2
  have y3 : (st5 w1 (w.heap.size + 1) (.int .i64 0) (.int .i64 0) (.int .i64 0) (.string ⟨#[]⟩) (.int .i64 0)).cell? ⟨(w.heap.size + 1), 3, none⟩ = some (.string ⟨#[]⟩) := I1.cell 3
  have y4 : (st5 w1 (w.heap.size + 1) (.int .i64 0) (.int .i64 0) (.int .i64 0) (.string ⟨#[]⟩) (.int .i64 0)).cell? ⟨(w.heap.size + 1), 4, none⟩ = some (.int .i64 0) := I1.cell 4
  have HF : Hid (Ch [] w (st5 w1 (w.heap.size + 1) (.int .i64 0) (.int .i64 0) (.int .i64 0) (.string ⟨#[]⟩) (.int .i64 0))) := Lib.hid ((HC0.out.trans HS.out).fresh (fun g hg => by simp at hg; omega) hC)
  generalize (st5 w1 (w.heap.size + 1) (.int .i64 0) (.int .i64 0) (.int .i64 0) (.string ⟨#[]⟩) (.int .i64 0)) = W9 at *
  refine bodyPost_ret (v := .tuple #[.int .i64 0, .agg #[.int .i64 0, .int .i64 0, .int .i64 0, .string ⟨#[]⟩, .int .i64 0], .int .i64 1]) (by simp [results, Try.results14, go_sem, y0, y1, y2, y3, y4]) rfl ⟨rfl, HF.out⟩
set_option maxHeartbeats 4000000 in
theorem rprog_nil3 (w : World) (n m : Int) (v : V5)  :
    Calls Try.prog 14 #[.pointer none, .agg #[.int .i64 3, .int .i64 n, .int .i64 m, .int .i64 v.k, .int .i64 v.p, .int .i64 v.q, .string v.s, .int .i64 v.r]] w fun e w' => e = .returned (.tuple #[.int .i64 0, .agg #[.int .i64 0, .int .i64 0, .int .i64 0, .string ⟨#[]⟩, .int .i64 0], .int .i64 1]) ∧ Ch [] w w' := by
  have HC0 : Hid (Ch [] w ((w.alloc (.cells #[.int .i64 3, .int .i64 n, .int .i64 m, .int .i64 v.k, .int .i64 v.p, .int .i64 v.q, .string v.s, .int .i64 v.r] 39)).alloc (.cells #[.int .i64 0, .int .i64 0, .int .i64 0, .string ⟨#[]⟩, .int .i64 0] 35))) := Lib.hid (((Ch.refl [] w).alloc _).alloc _)
  have HR0 : Hid (Blk 35 (w.heap.size + 1) #[.int .i64 0, .int .i64 0, .int .i64 0, .string ⟨#[]⟩, .int .i64 0] ((w.alloc (.cells #[.int .i64 3, .int .i64 n, .int .i64 m, .int .i64 v.k, .int .i64 v.p, .int .i64 v.q, .string v.s, .int .i64 v.r] 39)).alloc (.cells #[.int .i64 0, .int .i64 0, .int .i64 0, .string ⟨#[]⟩, .int .i64 0] 35))) := Lib.hid (Blk.new _ _ _ _ (by simp))
  have HA0 : Hid (Blk 39 w.heap.size #[.int .i64 3, .int .i64 n, .int .i64 m, .int .i64 v.k, .int .i64 v.p, .int .i64 v.q, .string v.s, .int .i64 v.r] ((w.alloc (.cells #[.int .i64 3, .int .i64 n, .int .i64 m, .int .i64 v.k, .int .i64 v.p, .int .i64 v.q, .string v.s, .int .i64 v.r] 39)).alloc (.cells #[.int .i64 0, .int .i64 0, .int .i64 0, .string ⟨#[]⟩, .int .i64 0] 35))) := Lib.hid ((Blk.new w 39 #[.int .i64 3, .int .i64 n, .int .i64 m, .int .i64 v.k, .int .i64 v.p, .int .i64 v.q, .string v.s, .int .i64 v.r] _ rfl).ch ((Ch.refl [] _).alloc _) (not_nil _))
  have Q : Hid (Calls Try.prog 37 #[.pointer none, .int .i64 n] ((w.alloc (.cells #[.int .i64 3, .int .i64 n, .int .i64 m, .int .i64 v.k, .int .i64 v.p, .int .i64 v.q, .string v.s, .int .i64 v.r] 39)).alloc (.cells #[.int .i64 0, .int .i64 0, .int .i64 0, .string ⟨#[]⟩, .int .i64 0] 35)) fun e w' => e = .returned (.tuple #[.int .i64 0, .int .i64 1]) ∧ Ch [] ((w.alloc (.cells #[.int .i64 3, .int .i64 n, .int .i64 m, .int .i64 v.k, .int .i64 v.p, .int .i64 v.q, .string v.s, .int .i64 v.r] 39)).alloc (.cells #[.int .i64 0, .int .i64 0, .int .i64 0, .string ⟨#[]⟩, .int .i64 0] 35)) w') := Lib.hid (by
    generalize ((w.alloc (.cells #[.int .i64 3, .int .i64 n, .int .i64 m, .int .i64 v.k, .int .i64 v.p, .int .i64 v.q, .string v.s, .int .i64 v.r] 39)).alloc (.cells #[.int .i64 0, .int .i64 0, .int .i64 0, .string ⟨#[]⟩, .int .i64 0] 35)) = W at *
    exact (rabs_nil n W).mono fun e w' hh => ⟨hh.1, by rw [hh.2]; exact Ch.refl _ _⟩)
  go_enter Try.func14, Try.ntmps14
  go_upto_region 1 with fail
  generalize ((w.alloc (.cells #[.int .i64 3, .int .i64 n, .int .i64 m, .int .i64 v.k, .int .i64 v.p, .int .i64 v.q, .string v.s, .int .i64 v.r] 39)).alloc (.cells #[.int .i64 0, .int .i64 0, .int .i64 0, .string ⟨#[]⟩, .int .i64 0] 35)) = w0 at *
  have a0 : w0.cell? ⟨w.heap.size, 0, none⟩ = some (.int .i64 3) := HA0.out.cell 0
  have a1 : w0.cell? ⟨w.heap.size, 1, none⟩ = some (.int .i64 n) := HA0.out.cell 1
  have a2 : w0.cell? ⟨w.heap.size, 2, none⟩ = some (.int .i64 m) := HA0.out.cell 2
  have a3 : w0.cell? ⟨w.heap.size, 3, none⟩ = some (.int .i64 v.k) := HA0.out.cell 3
  have a4 : w0.cell? ⟨w.heap.size, 4, none⟩ = some (.int .i64 v.p) := HA0.out.cell 4
  have a5 : w0.cell? ⟨w.heap.size, 5, none⟩ = some (.int .i64 v.q) := HA0.out.cell 5
  have a6 : w0.cell? ⟨w.heap.size, 6, none⟩ = some (.string v.s) := HA0.out.cell 6
  have a7 : w0.cell? ⟨w.heap.size, 7, none⟩ = some (.int .i64 v.r) := HA0.out.cell 7
  have la := HA0.out.lt
  go_wp2_with (go_at_call 37; (with_reducible refine (Q.out).mono ?_); rintro e w1 ⟨rfl, hs⟩; have HS := Lib.hid hs; have HR1 : Hid (Blk 35 (w.heap.size + 1) #[.int .i64 0, .int .i64 0, .int .i64 0, .string ⟨#[]⟩, .int .i64 0] w1) := Lib.hid (HR0.out.ch hs (not_nil _)); have b0 : w1.cell? ⟨w.heap.size + 1, 0, none⟩ = some (.int .i64 0) := HR1.out.cell 0; have b1 : w1.cell? ⟨w.heap.size + 1, 1, none⟩ = some (.int .i64 0) := HR1.out.cell 1; have b2 : w1.cell? ⟨w.heap.size + 1, 2, none⟩ = some (.int .i64 0) := HR1.out.cell 2; have b3 : w1.cell? ⟨w.heap.size + 1, 3, none⟩ = some (.string ⟨#[]⟩) := HR1.out.cell 3; have b4 : w1.cell? ⟨w.heap.size + 1, 4, none⟩ = some (.int .i64 0) := HR1.out.cell 4; have fz0 := HR1.out.fz 0; have fz1 := HR1.out.fz 1; have fz2 := HR1.out.fz 2; have fz3 := HR1.out.fz 3; have fz4 := HR1.out.fz 4; have lb := HR1.out.lt; clear hs)
  show bodyPost _ _ _ Exit.ret _ (st5 w1 (w.heap.size + 1) (.int .i64 0) (.int .i64 0) (.int .i64 0) (.string ⟨#[]⟩) (.int .i64 0))
  have I1 : Blk 35 (w.heap.size + 1) #[.int .i64 0, .int .i64 0, .int .i64 0, .string ⟨#[]⟩, .int .i64 0] (st5 w1 (w.heap.size + 1) (.int .i64 0) (.int .i64 0) (.int .i64 0) (.string ⟨#[]⟩) (.int .i64 0)) := st5_blk HR1.out
  have hC : Ch [w.heap.size + 1] w1 (st5 w1 (w.heap.size + 1) (.int .i64 0) (.int .i64 0) (.int .i64 0) (.string ⟨#[]⟩) (.int .i64 0)) := st5_ch (Ch.refl _ _) (.inl (by simp))
  have y0 : (st5 w1 (w.heap.size + 1) (.int .i64 0) (.int .i64 0) (.int .i64 0) (.string ⟨#[]⟩) (.int .i64 0)).cell? ⟨(w.heap.size + 1), 0, none⟩ = some (.int .i64 0) := I1.cell 0
  have y1 : (st5 w1 (w.heap.size + 1) (.int .i64 0) (.int .i64 0) (.int .i64 0) (.string ⟨#[]⟩) (.int .i64 0)).cell? ⟨(w.heap.size + 1), 1, none⟩ = some (.int .i64 0) := I1.cell 1
  have y2 : (st5 w1 (w.heap.size + 1) (.int .i64 0) (.int .i64 0) (.int .i64 0) (.string ⟨#[]⟩) (.int .i64 0)).cell? ⟨(w.heap.size + 1), 2, none⟩ = some (.int .i64 0) := I1.cell 2
  have y3 : (st5 w1 (w.heap.size + 1) (.int .i64 0) (.int .i64 0) (.int .i64 0) (.string ⟨#[]⟩) (.int .i64 0)).cell? ⟨(w.heap.size + 1), 3, none⟩ = some (.string ⟨#[]⟩) := I1.cell 3
  have y4 : (st5 w1 (w.heap.size + 1) (.int .i64 0) (.int .i64 0) (.int .i64 0) (.string ⟨#[]⟩) (.int .i64 0)).cell? ⟨(w.heap.size + 1), 4, none⟩ = some (.int .i64 0) := I1.cell 4
  have HF : Hid (Ch [] w (st5 w1 (w.heap.size + 1) (.int .i64 0) (.int .i64 0) (.int .i64 0) (.string ⟨#[]⟩) (.int .i64 0))) := Lib.hid ((HC0.out.trans HS.out).fresh (fun g hg => by simp at hg; omega) hC)
  generalize (st5 w1 (w.heap.size + 1) (.int .i64 0) (.int .i64 0) (.int .i64 0) (.string ⟨#[]⟩) (.int .i64 0)) = W9 at *
  refine bodyPost_ret (v := .tuple #[.int .i64 0, .agg #[.int .i64 0, .int .i64 0, .int .i64 0, .string ⟨#[]⟩, .int .i64 0], .int .i64 1]) (by simp [results, Try.results14, go_sem, y0, y1, y2, y3, y4]) rfl ⟨rfl, HF.out⟩
set_option maxHeartbeats 4000000 in
theorem rprog_nil4 (w : World) (n m : Int) (v : V5)  :
    Calls Try.prog 14 #[.pointer none, .agg #[.int .i64 4, .int .i64 n, .int .i64 m, .int .i64 v.k, .int .i64 v.p, .int .i64 v.q, .string v.s, .int .i64 v.r]] w fun e w' => e = .returned (.tuple #[.int .i64 0, .agg #[.int .i64 0, .int .i64 0, .int .i64 0, .string ⟨#[]⟩, .int .i64 0], .int .i64 1]) ∧ Ch [] w w' := by
  have HC0 : Hid (Ch [] w ((w.alloc (.cells #[.int .i64 4, .int .i64 n, .int .i64 m, .int .i64 v.k, .int .i64 v.p, .int .i64 v.q, .string v.s, .int .i64 v.r] 39)).alloc (.cells #[.int .i64 0, .int .i64 0, .int .i64 0, .string ⟨#[]⟩, .int .i64 0] 35))) := Lib.hid (((Ch.refl [] w).alloc _).alloc _)
  have HR0 : Hid (Blk 35 (w.heap.size + 1) #[.int .i64 0, .int .i64 0, .int .i64 0, .string ⟨#[]⟩, .int .i64 0] ((w.alloc (.cells #[.int .i64 4, .int .i64 n, .int .i64 m, .int .i64 v.k, .int .i64 v.p, .int .i64 v.q, .string v.s, .int .i64 v.r] 39)).alloc (.cells #[.int .i64 0, .int .i64 0, .int .i64 0, .string ⟨#[]⟩, .int .i64 0] 35))) := Lib.hid (Blk.new _ _ _ _ (by simp))
  have HA0 : Hid (Blk 39 w.heap.size #[.int .i64 4, .int .i64 n, .int .i64 m, .int .i64 v.k, .int .i64 v.p, .int .i64 v.q, .string v.s, .int .i64 v.r] ((w.alloc (.cells #[.int .i64 4, .int .i64 n, .int .i64 m, .int .i64 v.k, .int .i64 v.p, .int .i64 v.q, .string v.s, .int .i64 v.r] 39)).alloc (.cells #[.int .i64 0, .int .i64 0, .int .i64 0, .string ⟨#[]⟩, .int .i64 0] 35))) := Lib.hid ((Blk.new w 39 #[.int .i64 4, .int .i64 n, .int .i64 m, .int .i64 v.k, .int .i64 v.p, .int .i64 v.q, .string v.s, .int .i64 v.r] _ rfl).ch ((Ch.refl [] _).alloc _) (not_nil _))
  have Q : Hid (Calls Try.prog 38 #[.pointer none, .int .i64 n] ((w.alloc (.cells #[.int .i64 4, .int .i64 n, .int .i64 m, .int .i64 v.k, .int .i64 v.p, .int .i64 v.q, .string v.s, .int .i64 v.r] 39)).alloc (.cells #[.int .i64 0, .int .i64 0, .int .i64 0, .string ⟨#[]⟩, .int .i64 0] 35)) fun e w' => e = .returned (.tuple #[.agg #[.int .i64 0, .int .i64 0, .int .i64 0, .string ⟨#[]⟩, .int .i64 0], .int .i64 1]) ∧ Ch [] ((w.alloc (.cells #[.int .i64 4, .int .i64 n, .int .i64 m, .int .i64 v.k, .int .i64 v.p, .int .i64 v.q, .string v.s, .int .i64 v.r] 39)).alloc (.cells #[.int .i64 0, .int .i64 0, .int .i64 0, .string ⟨#[]⟩, .int .i64 0] 35)) w') := Lib.hid (by
    generalize ((w.alloc (.cells #[.int .i64 4, .int .i64 n, .int .i64 m, .int .i64 v.k, .int .i64 v.p, .int .i64 v.q, .string v.s, .int .i64 v.r] 39)).alloc (.cells #[.int .i64 0, .int .i64 0, .int .i64 0, .string ⟨#[]⟩, .int .i64 0] 35)) = W at *
    exact (rat_nil W n).mono fun e w' hh => ⟨hh.1, Ch.of_below hh.2⟩)
  go_enter Try.func14, Try.ntmps14
  go_upto_region 1 with fail
  generalize ((w.alloc (.cells #[.int .i64 4, .int .i64 n, .int .i64 m, .int .i64 v.k, .int .i64 v.p, .int .i64 v.q, .string v.s, .int .i64 v.r] 39)).alloc (.cells #[.int .i64 0, .int .i64 0, .int .i64 0, .string ⟨#[]⟩, .int .i64 0] 35)) = w0 at *
  have a0 : w0.cell? ⟨w.heap.size, 0, none⟩ = some (.int .i64 4) := HA0.out.cell 0
  have a1 : w0.cell? ⟨w.heap.size, 1, none⟩ = some (.int .i64 n) := HA0.out.cell 1
  have a2 : w0.cell? ⟨w.heap.size, 2, none⟩ = some (.int .i64 m) := HA0.out.cell 2
  have a3 : w0.cell? ⟨w.heap.size, 3, none⟩ = some (.int .i64 v.k) := HA0.out.cell 3
  have a4 : w0.cell? ⟨w.heap.size, 4, none⟩ = some (.int .i64 v.p) := HA0.out.cell 4
  have a5 : w0.cell? ⟨w.heap.size, 5, none⟩ = some (.int .i64 v.q) := HA0.out.cell 5
  have a6 : w0.cell? ⟨w.heap.size, 6, none⟩ = some (.string v.s) := HA0.out.cell 6
  have a7 : w0.cell? ⟨w.heap.size, 7, none⟩ = some (.int .i64 v.r) := HA0.out.cell 7
  have la := HA0.out.lt
  go_upto_region 13 with (go_at_call 38; (with_reducible refine (Q.out).mono ?_); rintro e w1 ⟨rfl, hs⟩; have HS := Lib.hid hs; have HR1 : Hid (Blk 35 (w.heap.size + 1) #[.int .i64 0, .int .i64 0, .int .i64 0, .string ⟨#[]⟩, .int .i64 0] w1) := Lib.hid (HR0.out.ch hs (not_nil _)); have b0 : w1.cell? ⟨w.heap.size + 1, 0, none⟩ = some (.int .i64 0) := HR1.out.cell 0; have b1 : w1.cell? ⟨w.heap.size + 1, 1, none⟩ = some (.int .i64 0) := HR1.out.cell 1; have b2 : w1.cell? ⟨w.heap.size + 1, 2, none⟩ = some (.int .i64 0) := HR1.out.cell 2; have b3 : w1.cell? ⟨w.heap.size + 1, 3, none⟩ = some (.string ⟨#[]⟩) := HR1.out.cell 3; have b4 : w1.cell? ⟨w.heap.size + 1, 4, none⟩ = some (.int .i64 0) := HR1.out.cell 4; have fz0 := HR1.out.fz 0; have fz1 := HR1.out.fz 1; have fz2 := HR1.out.fz 2; have fz3 := HR1.out.fz 3; have fz4 := HR1.out.fz 4; have lb := HR1.out.lt; clear hs)
  have HR2 : Hid (Blk 35 (w.heap.size + 1) #[.int .i64 0, .int .i64 0, .int .i64 0, .string ⟨#[]⟩, .int .i64 0] (w1.alloc (.cells #[.int .i64 0, .int .i64 0, .int .i64 0, .string ⟨#[]⟩, .int .i64 0] 35))) := Lib.hid (HR1.out.ch ((Ch.refl [] _).alloc _) (not_nil _))
  have HN2 : Hid (Blk 35 w1.heap.size #[.int .i64 0, .int .i64 0, .int .i64 0, .string ⟨#[]⟩, .int .i64 0] (w1.alloc (.cells #[.int .i64 0, .int .i64 0, .int .i64 0, .string ⟨#[]⟩, .int .i64 0] 35))) := Lib.hid (Blk.new _ _ _ _ rfl)
  have HS2 : Hid (Ch [] w0 (w1.alloc (.cells #[.int .i64 0, .int .i64 0, .int .i64 0, .string ⟨#[]⟩, .int .i64 0] 35))) := Lib.hid (HS.out.alloc (.cells #[.int .i64 0, .int .i64 0, .int .i64 0, .string ⟨#[]⟩, .int .i64 0] 35))
  have hne : ¬ w.heap.size + 1 = w1.heap.size := by have := HR1.out.lt; omega
  have hne2 : ¬ w1.heap.size = w.heap.size + 1 := by omega
  clear b0 b1 b2 b3 b4 fz0 fz1 fz2 fz3 fz4 lb
  obtain ⟨n1, hn1⟩ : ∃ n1, n1 = w1.heap.size := ⟨_, rfl⟩
  rw [← hn1] at hne hne2 HN2 ⊢
  generalize (w1.alloc (.cells #[.int .i64 0, .int .i64 0, .int .i64 0, .string ⟨#[]⟩, .int .i64 0] 35)) = w2 at *
  have HN1 := Lib.hid hn1
  clear hn1
  have b0 : w2.cell? ⟨w.heap.size + 1, 0, none⟩ = some (.int .i64 0) := HR2.out.cell 0
  have b1 : w2.cell? ⟨w.heap.size + 1, 1, none⟩ = some (.int .i64 0) := HR2.out.cell 1
  have b2 : w2.cell? ⟨w.heap.size + 1, 2, none⟩ = some (.int .i64 0) := HR2.out.cell 2
  have b3 : w2.cell? ⟨w.heap.size + 1, 3, none⟩ = some (.string ⟨#[]⟩) := HR2.out.cell 3
  have b4 : w2.cell? ⟨w.heap.size + 1, 4, none⟩ = some (.int .i64 0) := HR2.out.cell 4
  have fz0 := HR2.out.fz 0
  have fz1 := HR2.out.fz 1
  have fz2 := HR2.out.fz 2
  have fz3 := HR2.out.fz 3
  have fz4 := HR2.out.fz 4
  have lb := HR2.out.lt
  have d0 : w2.cell? ⟨n1, 0, none⟩ = some (.int .i64 0) := HN2.out.cell 0
  have d1 : w2.cell? ⟨n1, 1, none⟩ = some (.int .i64 0) := HN2.out.cell 1
  have d2 : w2.cell? ⟨n1, 2, none⟩ = some (.int .i64 0) := HN2.out.cell 2
  have d3 : w2.cell? ⟨n1, 3, none⟩ = some (.string ⟨#[]⟩) := HN2.out.cell 3
  have d4 : w2.cell? ⟨n1, 4, none⟩ = some (.int .i64 0) := HN2.out.cell 4
  have ld := HN2.out.lt
  go_region
  go_wp2
  show bodyPost _ _ _ Exit.ret _ ((st5 w2 (w.heap.size + 1) (.int .i64 0) (.int .i64 0) (.int .i64 0) (.string ⟨#[]⟩) (.int .i64 0)).drew)
  have I1 : Blk 35 (w.heap.size + 1) #[.int .i64 0, .int .i64 0, .int .i64 0, .string ⟨#[]⟩, .int .i64 0] ((st5 w2 (w.heap.size + 1) (.int .i64 0) (.int .i64 0) (.int .i64 0) (.string ⟨#[]⟩) (.int .i64 0)).drew) := (st5_blk HR2.out).ch ((Ch.refl [] _).drew) (not_nil _)
  have hC : Ch [w.heap.size + 1] w2 ((st5 w2 (w.heap.size + 1) (.int .i64 0) (.int .i64 0) (.int .i64 0) (.string ⟨#[]⟩) (.int .i64 0)).drew) := (st5_ch (Ch.refl _ _) (.inl (by simp))).drew
  have y0 : ((st5 w2 (w.heap.size + 1) (.int .i64 0) (.int .i64 0) (.int .i64 0) (.string ⟨#[]⟩) (.int .i64 0)).drew).cell? ⟨(w.heap.size + 1), 0, none⟩ = some (.int .i64 0) := I1.cell 0
  have y1 : ((st5 w2 (w.heap.size + 1) (.int .i64 0) (.int .i64 0) (.int .i64 0) (.string ⟨#[]⟩) (.int .i64 0)).drew).cell? ⟨(w.heap.size + 1), 1, none⟩ = some (.int .i64 0) := I1.cell 1
  have y2 : ((st5 w2 (w.heap.size + 1) (.int .i64 0) (.int .i64 0) (.int .i64 0) (.string ⟨#[]⟩) (.int .i64 0)).drew).cell? ⟨(w.heap.size + 1), 2, none⟩ = some (.int .i64 0) := I1.cell 2
  have y3 : ((st5 w2 (w.heap.size + 1) (.int .i64 0) (.int .i64 0) (.int .i64 0) (.string ⟨#[]⟩) (.int .i64 0)).drew).cell? ⟨(w.heap.size + 1), 3, none⟩ = some (.string ⟨#[]⟩) := I1.cell 3
  have y4 : ((st5 w2 (w.heap.size + 1) (.int .i64 0) (.int .i64 0) (.int .i64 0) (.string ⟨#[]⟩) (.int .i64 0)).drew).cell? ⟨(w.heap.size + 1), 4, none⟩ = some (.int .i64 0) := I1.cell 4
  have HF : Hid (Ch [] w ((st5 w2 (w.heap.size + 1) (.int .i64 0) (.int .i64 0) (.int .i64 0) (.string ⟨#[]⟩) (.int .i64 0)).drew)) := Lib.hid ((HC0.out.trans HS2.out).fresh (fun g hg => by simp at hg; omega) hC)
  generalize ((st5 w2 (w.heap.size + 1) (.int .i64 0) (.int .i64 0) (.int .i64 0) (.string ⟨#[]⟩) (.int .i64 0)).drew) = W9 at *
  refine bodyPost_ret (v := .tuple #[.int .i64 0, .agg #[.int .i64 0, .int .i64 0, .int .i64 0, .string ⟨#[]⟩, .int .i64 0], .int .i64 1]) (by simp [results, Try.results14, go_sem, y0, y1, y2, y3, y4]) rfl ⟨rfl, HF.out⟩
set_option maxHeartbeats 4000000 in
theorem rprog_nil5 (w : World) (n m : Int) (v : V5)  :
    Calls Try.prog 14 #[.pointer none, .agg #[.int .i64 5, .int .i64 n, .int .i64 m, .int .i64 v.k, .int .i64 v.p, .int .i64 v.q, .string v.s, .int .i64 v.r]] w fun e w' => e = .returned (.tuple #[.int .i64 0, .agg #[.int .i64 0, .int .i64 0, .int .i64 0, .string ⟨#[]⟩, .int .i64 0], .int .i64 1]) ∧ Ch [] w w' := by
  have HC0 : Hid (Ch [] w ((w.alloc (.cells #[.int .i64 5, .int .i64 n, .int .i64 m, .int .i64 v.k, .int .i64 v.p, .int .i64 v.q, .string v.s, .int .i64 v.r] 39)).alloc (.cells #[.int .i64 0, .int .i64 0, .int .i64 0, .string ⟨#[]⟩, .int .i64 0] 35))) := Lib.hid (((Ch.refl [] w).alloc _).alloc _)
  have HR0 : Hid (Blk 35 (w.heap.size + 1) #[.int .i64 0, .int .i64 0, .int .i64 0, .string ⟨#[]⟩, .int .i64 0] ((w.alloc (.cells #[.int .i64 5, .int .i64 n, .int .i64 m, .int .i64 v.k, .int .i64 v.p, .int .i64 v.q, .string v.s, .int .i64 v.r] 39)).alloc (.cells #[.int .i64 0, .int .i64 0, .int .i64 0, .string ⟨#[]⟩, .int .i64 0] 35))) := Lib.hid (Blk.new _ _ _ _ (by simp))
  have HA0 : Hid (Blk 39 w.heap.size #[.int .i64 5, .int .i64 n, .int .i64 m, .int .i64 v.k, .int .i64 v.p, .int .i64 v.q, .string v.s, .int .i64 v.r] ((w.alloc (.cells #[.int .i64 5, .int .i64 n, .int .i64 m, .int .i64 v.k, .int .i64 v.p, .int .i64 v.q, .string v.s, .int .i64 v.r] 39)).alloc (.cells #[.int .i64 0, .int .i64 0, .int .i64 0, .string ⟨#[]⟩, .int .i64 0] 35))) := Lib.hid ((Blk.new w 39 #[.int .i64 5, .int .i64 n, .int .i64 m, .int .i64 v.k, .int .i64 v.p, .int .i64 v.q, .string v.s, .int .i64 v.r] _ rfl).ch ((Ch.refl [] _).alloc _) (not_nil _))
  have Q : Hid (Calls Try.prog 39 #[.pointer none, .int .i64 n, .agg #[.int .i64 v.k, .int .i64 v.p, .int .i64 v.q, .string v.s, .int .i64 v.r]] ((w.alloc (.cells #[.int .i64 5, .int .i64 n, .int .i64 m, .int .i64 v.k, .int .i64 v.p, .int .i64 v.q, .string v.s, .int .i64 v.r] 39)).alloc (.cells #[.int .i64 0, .int .i64 0, .int .i64 0, .string ⟨#[]⟩, .int .i64 0] 35)) fun e w' => e = .returned (.int .i64 1) ∧ Ch [] ((w.alloc (.cells #[.int .i64 5, .int .i64 n, .int .i64 m, .int .i64 v.k, .int .i64 v.p, .int .i64 v.q, .string v.s, .int .i64 v.r] 39)).alloc (.cells #[.int .i64 0, .int .i64 0, .int .i64 0, .string ⟨#[]⟩, .int .i64 0] 35)) w') := Lib.hid (by
    generalize ((w.alloc (.cells #[.int .i64 5, .int .i64 n, .int .i64 m, .int .i64 v.k, .int .i64 v.p, .int .i64 v.q, .string v.s, .int .i64 v.r] 39)).alloc (.cells #[.int .i64 0, .int .i64 0, .int .i64 0, .string ⟨#[]⟩, .int .i64 0] 35)) = W at *
    exact (rput_nil n v W).mono fun e w' hh => hh)
  go_enter Try.func14, Try.ntmps14
  go_upto_region 1 with fail
  generalize ((w.alloc (.cells #[.int .i64 5, .int .i64 n, .int .i64 m, .int .i64 v.k, .int .i64 v.p, .int .i64 v.q, .string v.s, .int .i64 v.r] 39)).alloc (.cells #[.int .i64 0, .int .i64 0, .int .i64 0, .string ⟨#[]⟩, .int .i64 0] 35)) = w0 at *
  have a0 : w0.cell? ⟨w.heap.size, 0, none⟩ = some (.int .i64 5) := HA0.out.cell 0
  have a1 : w0.cell? ⟨w.heap.size, 1, none⟩ = some (.int .i64 n) := HA0.out.cell 1
  have a2 : w0.cell? ⟨w.heap.size, 2, none⟩ = some (.int .i64 m) := HA0.out.cell 2
  have a3 : w0.cell? ⟨w.heap.size, 3, none⟩ = some (.int .i64 v.k) := HA0.out.cell 3
  have a4 : w0.cell? ⟨w.heap.size, 4, none⟩ = some (.int .i64 v.p) := HA0.out.cell 4
  have a5 : w0.cell? ⟨w.heap.size, 5, none⟩ = some (.int .i64 v.q) := HA0.out.cell 5
  have a6 : w0.cell? ⟨w.heap.size, 6, none⟩ = some (.string v.s) := HA0.out.cell 6
  have a7 : w0.cell? ⟨w.heap.size, 7, none⟩ = some (.int .i64 v.r) := HA0.out.cell 7
  have la := HA0.out.lt
  go_wp2_with (go_at_call 39; (with_reducible refine (Q.out).mono ?_); rintro e w1 ⟨rfl, hs⟩; have HS := Lib.hid hs; have HR1 : Hid (Blk 35 (w.heap.size + 1) #[.int .i64 0, .int .i64 0, .int .i64 0, .string ⟨#[]⟩, .int .i64 0] w1) := Lib.hid (HR0.out.ch hs (not_nil _)); have b0 : w1.cell? ⟨w.heap.size + 1, 0, none⟩ = some (.int .i64 0) := HR1.out.cell 0; have b1 : w1.cell? ⟨w.heap.size + 1, 1, none⟩ = some (.int .i64 0) := HR1.out.cell 1; have b2 : w1.cell? ⟨w.heap.size + 1, 2, none⟩ = some (.int .i64 0) := HR1.out.cell 2; have b3 : w1.cell? ⟨w.heap.size + 1, 3, none⟩ = some (.string ⟨#[]⟩) := HR1.out.cell 3; have b4 : w1.cell? ⟨w.heap.size + 1, 4, none⟩ = some (.int .i64 0) := HR1.out.cell 4; have fz0 := HR1.out.fz 0; have fz1 := HR1.out.fz 1; have fz2 := HR1.out.fz 2; have fz3 := HR1.out.fz 3; have fz4 := HR1.out.fz 4; have lb := HR1.out.lt; clear hs)
  show bodyPost _ _ _ Exit.ret _ (st5 w1 (w.heap.size + 1) (.int .i64 0) (.int .i64 0) (.int .i64 0) (.string ⟨#[]⟩) (.int .i64 0))
  have I1 : Blk 35 (w.heap.size + 1) #[.int .i64 0, .int .i64 0, .int .i64 0, .string ⟨#[]⟩, .int .i64 0] (st5 w1 (w.heap.size + 1) (.int .i64 0) (.int .i64 0) (.int .i64 0) (.string ⟨#[]⟩) (.int .i64 0)) := st5_blk HR1.out
  have hC : Ch [w.heap.size + 1] w1 (st5 w1 (w.heap.size + 1) (.int .i64 0) (.int .i64 0) (.int .i64 0) (.string ⟨#[]⟩) (.int .i64 0)) := st5_ch (Ch.refl _ _) (.inl (by simp))
  have y0 : (st5 w1 (w.heap.size + 1) (.int .i64 0) (.int .i64 0) (.int .i64 0) (.string ⟨#[]⟩) (.int .i64 0)).cell? ⟨(w.heap.size + 1), 0, none⟩ = some (.int .i64 0) := I1.cell 0
  have y1 : (st5 w1 (w.heap.size + 1) (.int .i64 0) (.int .i64 0) (.int .i64 0) (.string ⟨#[]⟩) (.int .i64 0)).cell? ⟨(w.heap.size + 1), 1, none⟩ = some (.int .i64 0) := I1.cell 1
  have y2 : (st5 w1 (w.heap.size + 1) (.int .i64 0) (.int .i64 0) (.int .i64 0) (.string ⟨#[]⟩) (.int .i64 0)).cell? ⟨(w.heap.size + 1), 2, none⟩ = some (.int .i64 0) := I1.cell 2
  have y3 : (st5 w1 (w.heap.size + 1) (.int .i64 0) (.int .i64 0) (.int .i64 0) (.string ⟨#[]⟩) (.int .i64 0)).cell? ⟨(w.heap.size + 1), 3, none⟩ = some (.string ⟨#[]⟩) := I1.cell 3
  have y4 : (st5 w1 (w.heap.size + 1) (.int .i64 0) (.int .i64 0) (.int .i64 0) (.string ⟨#[]⟩) (.int .i64 0)).cell? ⟨(w.heap.size + 1), 4, none⟩ = some (.int .i64 0) := I1.cell 4
  have HF : Hid (Ch [] w (st5 w1 (w.heap.size + 1) (.int .i64 0) (.int .i64 0) (.int .i64 0) (.string ⟨#[]⟩) (.int .i64 0))) := Lib.hid ((HC0.out.trans HS.out).fresh (fun g hg => by simp at hg; omega) hC)
  generalize (st5 w1 (w.heap.size + 1) (.int .i64 0) (.int .i64 0) (.int .i64 0) (.string ⟨#[]⟩) (.int .i64 0)) = W9 at *
  refine bodyPost_ret (v := .tuple #[.int .i64 0, .agg #[.int .i64 0, .int .i64 0, .int .i64 0, .string ⟨#[]⟩, .int .i64 0], .int .i64 1]) (by simp [results, Try.results14, go_sem, y0, y1, y2, y3, y4]) rfl ⟨rfl, HF.out⟩
set_option maxHeartbeats 4000000 in
theorem rprog_nil6 (w : World) (n m : Int) (v : V5)  :
    Calls Try.prog 14 #[.pointer none, .agg #[.int .i64 6, .int .i64 n, .int .i64 m, .int .i64 v.k, .int .i64 v.p, .int .i64 v.q, .string v.s, .int .i64 v.r]] w fun e w' => e = .returned (.tuple #[.int .i64 0, .agg #[.int .i64 0, .int .i64 0, .int .i64 0, .string ⟨#[]⟩, .int .i64 0], .int .i64 1]) ∧ Ch [] w w' := by
  have HC0 : Hid (Ch [] w ((w.alloc (.cells #[.int .i64 6, .int .i64 n, .int .i64 m, .int .i64 v.k, .int .i64 v.p, .int .i64 v.q, .string v.s, .int .i64 v.r] 39)).alloc (.cells #[.int .i64 0, .int .i64 0, .int .i64 0, .string ⟨#[]⟩, .int .i64 0] 35))) := Lib.hid (((Ch.refl [] w).alloc _).alloc _)
  have HR0 : Hid (Blk 35 (w.heap.size + 1) #[.int .i64 0, .int .i64 0, .int .i64 0, .string ⟨#[]⟩, .int .i64 0] ((w.alloc (.cells #[.int .i64 6, .int .i64 n, .int .i64 m, .int .i64 v.k, .int .i64 v.p, .int .i64 v.q, .string v.s, .int .i64 v.r] 39)).alloc (.cells #[.int .i64 0, .int .i64 0, .int .i64 0, .string ⟨#[]⟩, .int .i64 0] 35))) := Lib.hid (Blk.new _ _ _ _ (by simp))
  have HA0 : Hid (Blk 39 w.heap.size #[.int .i64 6, .int .i64 n, .int .i64 m, .int .i64 v.k, .int .i64 v.p, .int .i64 v.q, .string v.s, .int .i64 v.r] ((w.alloc (.cells #[.int .i64 6, .int .i64 n, .int .i64 m, .int .i64 v.k, .int .i64 v.p, .int .i64 v.q, .string v.s, .int .i64 v.r] 39)).alloc (.cells #[.int .i64 0, .int .i64 0, .int .i64 0, .string ⟨#[]⟩, .int .i64 0] 35))) := Lib.hid ((Blk.new w 39 #[.int .i64 6, .int .i64 n, .int .i64 m, .int .i64 v.k, .int .i64 v.p, .int .i64 v.q, .string v.s, .int .i64 v.r] _ rfl).ch ((Ch.refl [] _).alloc _) (not_nil _))
  have Q : Hid (Calls Try.prog 40 #[.pointer none, .int .i64 n] ((w.alloc (.cells #[.int .i64 6, .int .i64 n, .int .i64 m, .int .i64 v.k, .int .i64 v.p, .int .i64 v.q, .string v.s, .int .i64 v.r] 39)).alloc (.cells #[.int .i64 0, .int .i64 0, .int .i64 0, .string ⟨#[]⟩, .int .i64 0] 35)) fun e w' => e = .returned (.int .i64 1) ∧ Ch [] ((w.alloc (.cells #[.int .i64 6, .int .i64 n, .int .i64 m, .int .i64 v.k, .int .i64 v.p, .int .i64 v.q, .string v.s, .int .i64 v.r] 39)).alloc (.cells #[.int .i64 0, .int .i64 0, .int .i64 0, .string ⟨#[]⟩, .int .i64 0] 35)) w') := Lib.hid (by
    generalize ((w.alloc (.cells #[.int .i64 6, .int .i64 n, .int .i64 m, .int .i64 v.k, .int .i64 v.p, .int .i64 v.q, .string v.s, .int .i64 v.r] 39)).alloc (.cells #[.int .i64 0, .int .i64 0, .int .i64 0, .string ⟨#[]⟩, .int .i64 0] 35)) = W at *
    exact (rinsert_nil n W).mono fun e w' hh => ⟨hh.1, by rw [hh.2]; exact Ch.refl _ _⟩)
  go_enter Try.func14, Try.ntmps14
  go_upto_region 1 with fail
  generalize ((w.alloc (.cells #[.int .i64 6, .int .i64 n, .int .i64 m, .int .i64 v.k, .int .i64 v.p, .int .i64 v.q, .string v.s, .int .i64 v.r] 39)).alloc (.cells #[.int .i64 0, .int .i64 0, .int .i64 0, .string ⟨#[]⟩, .int .i64 0] 35)) = w0 at *
  have a0 : w0.cell? ⟨w.heap.size, 0, none⟩ = some (.int .i64 6) := HA0.out.cell 0
  have a1 : w0.cell? ⟨w.heap.size, 1, none⟩ = some (.int .i64 n) := HA0.out.cell 1
  have a2 : w0.cell? ⟨w.heap.size, 2, none⟩ = some (.int .i64 m) := HA0.out.cell 2
  have a3 : w0.cell? ⟨w.heap.size, 3, none⟩ = some (.int .i64 v.k) := HA0.out.cell 3
  have a4 : w0.cell? ⟨w.heap.size, 4, none⟩ = some (.int .i64 v.p) := HA0.out.cell 4
  have a5 : w0.cell? ⟨w.heap.size, 5, none⟩ = some (.int .i64 v.q) := HA0.out.cell 5
  have a6 : w0.cell? ⟨w.heap.size, 6, none⟩ = some (.string v.s) := HA0.out.cell 6
  have a7 : w0.cell? ⟨w.heap.size, 7, none⟩ = some (.int .i64 v.r) := HA0.out.cell 7
  have la := HA0.out.lt
  go_wp2_with (go_at_call 40; (with_reducible refine (Q.out).mono ?_); rintro e w1 ⟨rfl, hs⟩; have HS := Lib.hid hs; have HR1 : Hid (Blk 35 (w.heap.size + 1) #[.int .i64 0, .int .i64 0, .int .i64 0, .string ⟨#[]⟩, .int .i64 0] w1) := Lib.hid (HR0.out.ch hs (not_nil _)); have b0 : w1.cell? ⟨w.heap.size + 1, 0, none⟩ = some (.int .i64 0) := HR1.out.cell 0; have b1 : w1.cell? ⟨w.heap.size + 1, 1, none⟩ = some (.int .i64 0) := HR1.out.cell 1; have b2 : w1.cell? ⟨w.heap.size + 1, 2, none⟩ = some (.int .i64 0) := HR1.out.cell 2; have b3 : w1.cell? ⟨w.heap.size + 1, 3, none⟩ = some (.string ⟨#[]⟩) := HR1.out.cell 3; have b4 : w1.cell? ⟨w.heap.size + 1, 4, none⟩ = some (.int .i64 0) := HR1.out.cell 4; have fz0 := HR1.out.fz 0; have fz1 := HR1.out.fz 1; have fz2 := HR1.out.fz 2; have fz3 := HR1.out.fz 3; have fz4 := HR1.out.fz 4; have lb := HR1.out.lt; clear hs)
  show bodyPost _ _ _ Exit.ret _ (st5 w1 (w.heap.size + 1) (.int .i64 0) (.int .i64 0) (.int .i64 0) (.string ⟨#[]⟩) (.int .i64 0))
  have I1 : Blk 35 (w.heap.size + 1) #[.int .i64 0, .int .i64 0, .int .i64 0, .string ⟨#[]⟩, .int .i64 0] (st5 w1 (w.heap.size + 1) (.int .i64 0) (.int .i64 0) (.int .i64 0) (.string ⟨#[]⟩) (.int .i64 0)) := st5_blk HR1.out
  have hC : Ch [w.heap.size + 1] w1 (st5 w1 (w.heap.size + 1) (.int .i64 0) (.int .i64 0) (.int .i64 0) (.string ⟨#[]⟩) (.int .i64 0)) := st5_ch (Ch.refl _ _) (.inl (by simp))
  have y0 : (st5 w1 (w.heap.size + 1) (.int .i64 0) (.int .i64 0) (.int .i64 0) (.string ⟨#[]⟩) (.int .i64 0)).cell? ⟨(w.heap.size + 1), 0, none⟩ = some (.int .i64 0) := I1.cell 0
  have y1 : (st5 w1 (w.heap.size + 1) (.int .i64 0) (.int .i64 0) (.int .i64 0) (.string ⟨#[]⟩) (.int .i64 0)).cell? ⟨(w.heap.size + 1), 1, none⟩ = some (.int .i64 0) := I1.cell 1
  have y2 : (st5 w1 (w.heap.size + 1) (.int .i64 0) (.int .i64 0) (.int .i64 0) (.string ⟨#[]⟩) (.int .i64 0)).cell? ⟨(w.heap.size + 1), 2, none⟩ = some (.int .i64 0) := I1.cell 2
  have y3 : (st5 w1 (w.heap.size + 1) (.int .i64 0) (.int .i64 0) (.int .i64 0) (.string ⟨#[]⟩) (.int .i64 0)).cell? ⟨(w.heap.size + 1), 3, none⟩ = some (.string ⟨#[]⟩) := I1.cell 3
  have y4 : (st5 w1 (w.heap.size + 1) (.int .i64 0) (.int .i64 0) (.int .i64 0) (.string ⟨#[]⟩) (.int .i64 0)).cell? ⟨(w.heap.size + 1), 4, none⟩ = some (.int .i64 0) := I1.cell 4
  have HF : Hid (Ch [] w (st5 w1 (w.heap.size + 1) (.int .i64 0) (.int .i64 0) (.int .i64 0) (.string ⟨#[]⟩) (.int .i64 0))) := Lib.hid ((HC0.out.trans HS.out).fresh (fun g hg => by simp at hg; omega) hC)
  generalize (st5 w1 (w.heap.size + 1) (.int .i64 0) (.int .i64 0) (.int .i64 0) (.string ⟨#[]⟩) (.int .i64 0)) = W9 at *
  refine bodyPost_ret (v := .tuple #[.int .i64 0, .agg #[.int .i64 0, .int .i64 0, .int .i64 0, .string ⟨#[]⟩, .int .i64 0], .int .i64 1]) (by simp [results, Try.results14, go_sem, y0, y1, y2, y3, y4]) rfl ⟨rfl, HF.out⟩
set_option maxHeartbeats 4000000 in
theorem rprog_nil7 (w : World) (n m : Int) (v : V5)  :
    Calls Try.prog 14 #[.pointer none, .agg #[.int .i64 7, .int .i64 n, .int .i64 m, .int .i64 v.k, .int .i64 v.p, .int .i64 v.q, .string v.s, .int .i64 v.r]] w fun e w' => e = .returned (.tuple #[.int .i64 0, .agg #[.int .i64 0, .int .i64 0, .int .i64 0, .string ⟨#[]⟩, .int .i64 0], .int .i64 1]) ∧ Ch [] w w' := by
  have HC0 : Hid (Ch [] w ((w.alloc (.cells #[.int .i64 7, .int .i64 n, .int .i64 m, .int .i64 v.k, .int .i64 v.p, .int .i64 v.q, .string v.s, .int .i64 v.r] 39)).alloc (.cells #[.int .i64 0, .int .i64 0, .int .i64 0, .string ⟨#[]⟩, .int .i64 0] 35))) := Lib.hid (((Ch.refl [] w).alloc _).alloc _)
  have HR0 : Hid (Blk 35 (w.heap.size + 1) #[.int .i64 0, .int .i64 0, .int .i64 0, .string ⟨#[]⟩, .int .i64 0] ((w.alloc (.cells #[.int .i64 7, .int .i64 n, .int .i64 m, .int .i64 v.k, .int .i64 v.p, .int .i64 v.q, .string v.s, .int .i64 v.r] 39)).alloc (.cells #[.int .i64 0, .int .i64 0, .int .i64 0, .string ⟨#[]⟩, .int .i64 0] 35))) := Lib.hid (Blk.new _ _ _ _ (by simp))
  have HA0 : Hid (Blk 39 w.heap.size #[.int .i64 7, .int .i64 n, .int .i64 m, .int .i64 v.k, .int .i64 v.p, .int .i64 v.q, .string v.s, .int .i64 v.r] ((w.alloc (.cells #[.int .i64 7, .int .i64 n, .int .i64 m, .int .i64 v.k, .int .i64 v.p, .int .i64 v.q, .string v.s, .int .i64 v.r] 39)).alloc (.cells #[.int .i64 0, .int .i64 0, .int .i64 0, .string ⟨#[]⟩, .int .i64 0] 35))) := Lib.hid ((Blk.new w 39 #[.int .i64 7, .int .i64 n, .int .i64 m, .int .i64 v.k, .int .i64 v.p, .int .i64 v.q, .string v.s, .int .i64 v.r] _ rfl).ch ((Ch.refl [] _).alloc _) (not_nil _))
  have Q : Hid (Calls Try.prog 41 #[.pointer none, .int .i64 n] ((w.alloc (.cells #[.int .i64 7, .int .i64 n, .int .i64 m, .int .i64 v.k, .int .i64 v.p, .int .i64 v.q, .string v.s, .int .i64 v.r] 39)).alloc (.cells #[.int .i64 0, .int .i64 0, .int .i64 0, .string ⟨#[]⟩, .int .i64 0] 35)) fun e w' => e = .returned (.int .i64 1) ∧ Ch [] ((w.alloc (.cells #[.int .i64 7, .int .i64 n, .int .i64 m, .int .i64 v.k, .int .i64 v.p, .int .i64 v.q, .string v.s, .int .i64 v.r] 39)).alloc (.cells #[.int .i64 0, .int .i64 0, .int .i64 0, .string ⟨#[]⟩, .int .i64 0] 35)) w') := Lib.hid (by
    generalize ((w.alloc (.cells #[.int .i64 7, .int .i64 n, .int .i64 m, .int .i64 v.k, .int .i64 v.p, .int .i64 v.q, .string v.s, .int .i64 v.r] 39)).alloc (.cells #[.int .i64 0, .int .i64 0, .int .i64 0, .string ⟨#[]⟩, .int .i64 0] 35)) = W at *
    exact (rremove_nil n W).mono fun e w' hh => ⟨hh.1, by rw [hh.2]; exact Ch.refl _ _⟩)
  go_enter Try.func14, Try.ntmps14
  go_upto_region 1 with fail
  generalize ((w.alloc (.cells #[.int .i64 7, .int .i64 n, .int .i64 m, .int .i64 v.k, .int .i64 v.p, .int .i64 v.q, .string v.s, .int .i64 v.r] 39)).alloc (.cells #[.int .i64 0, .int .i64 0, .int .i64 0, .string ⟨#[]⟩, .int .i64 0] 35)) = w0 at *
  have a0 : w0.cell? ⟨w.heap.size, 0, none⟩ = some (.int .i64 7) := HA0.out.cell 0
  have a1 : w0.cell? ⟨w.heap.size, 1, none⟩ = some (.int .i64 n) := HA0.out.cell 1
  have a2 : w0.cell? ⟨w.heap.size, 2, none⟩ = some (.int .i64 m) := HA0.out.cell 2
  have a3 : w0.cell? ⟨w.heap.size, 3, none⟩ = some (.int .i64 v.k) := HA0.out.cell 3
  have a4 : w0.cell? ⟨w.heap.size, 4, none⟩ = some (.int .i64 v.p) := HA0.out.cell 4
  have a5 : w0.cell? ⟨w.heap.size, 5, none⟩ = some (.int .i64 v.q) := HA0.out.cell 5
  have a6 : w0.cell? ⟨w.heap.size, 6, none⟩ = some (.string v.s) := HA0.out.cell 6
  have a7 : w0.cell? ⟨w.heap.size, 7, none⟩ = some (.int .i64 v.r) := HA0.out.cell 7
  have la := HA0.out.lt
  go_wp2_with (go_at_call 41; (with_reducible refine (Q.out).mono ?_); rintro e w1 ⟨rfl, hs⟩; have HS := Lib.hid hs; have HR1 : Hid (Blk 35 (w.heap.size + 1) #[.int .i64 0, .int .i64 0, .int .i64 0, .string ⟨#[]⟩, .int .i64 0] w1) := Lib.hid (HR0.out.ch hs (not_nil _)); have b0 : w1.cell? ⟨w.heap.size + 1, 0, none⟩ = some (.int .i64 0) := HR1.out.cell 0; have b1 : w1.cell? ⟨w.heap.size + 1, 1, none⟩ = some (.int .i64 0) := HR1.out.cell 1; have b2 : w1.cell? ⟨w.heap.size + 1, 2, none⟩ = some (.int .i64 0) := HR1.out.cell 2; have b3 : w1.cell? ⟨w.heap.size + 1, 3, none⟩ = some (.string ⟨#[]⟩) := HR1.out.cell 3; have b4 : w1.cell? ⟨w.heap.size + 1, 4, none⟩ = some (.int .i64 0) := HR1.out.cell 4; have fz0 := HR1.out.fz 0; have fz1 := HR1.out.fz 1; have fz2 := HR1.out.fz 2; have fz3 := HR1.out.fz 3; have fz4 := HR1.out.fz 4; have lb := HR1.out.lt; clear hs)
  show bodyPost _ _ _ Exit.ret _ (st5 w1 (w.heap.size + 1) (.int .i64 0) (.int .i64 0) (.int .i64 0) (.string ⟨#[]⟩) (.int .i64 0))
  have I1 : Blk 35 (w.heap.size + 1) #[.int .i64 0, .int .i64 0, .int .i64 0, .string ⟨#[]⟩, .int .i64 0] (st5 w1 (w.heap.size + 1) (.int .i64 0) (.int .i64 0) (.int .i64 0) (.string ⟨#[]⟩) (.int .i64 0)) := st5_blk HR1.out
  have hC : Ch [w.heap.size + 1] w1 (st5 w1 (w.heap.size + 1) (.int .i64 0) (.int .i64 0) (.int .i64 0) (.string ⟨#[]⟩) (.int .i64 0)) := st5_ch (Ch.refl _ _) (.inl (by simp))
  have y0 : (st5 w1 (w.heap.size + 1) (.int .i64 0) (.int .i64 0) (.int .i64 0) (.string ⟨#[]⟩) (.int .i64 0)).cell? ⟨(w.heap.size + 1), 0, none⟩ = some (.int .i64 0) := I1.cell 0
  have y1 : (st5 w1 (w.heap.size + 1) (.int .i64 0) (.int .i64 0) (.int .i64 0) (.string ⟨#[]⟩) (.int .i64 0)).cell? ⟨(w.heap.size + 1), 1, none⟩ = some (.int .i64 0) := I1.cell 1
  have y2 : (st5 w1 (w.heap.size + 1) (.int .i64 0) (.int .i64 0) (.int .i64 0) (.string ⟨#[]⟩) (.int .i64 0)).cell? ⟨(w.heap.size + 1), 2, none⟩ = some (.int .i64 0) := I1.cell 2
  have y3 : (st5 w1 (w.heap.size + 1) (.int .i64 0) (.int .i64 0) (.int .i64 0) (.string ⟨#[]⟩) (.int .i64 0)).cell? ⟨(w.heap.size + 1), 3, none⟩ = some (.string ⟨#[]⟩) := I1.cell 3
  have y4 : (st5 w1 (w.heap.size + 1) (.int .i64 0) (.int .i64 0) (.int .i64 0) (.string ⟨#[]⟩) (.int .i64 0)).cell? ⟨(w.heap.size + 1), 4, none⟩ = some (.int .i64 0) := I1.cell 4
  have HF : Hid (Ch [] w (st5 w1 (w.heap.size + 1) (.int .i64 0) (.int .i64 0) (.int .i64 0) (.string ⟨#[]⟩) (.int .i64 0))) := Lib.hid ((HC0.out.trans HS.out).fresh (fun g hg => by simp at hg; omega) hC)
  generalize (st5 w1 (w.heap.size + 1) (.int .i64 0) (.int .i64 0) (.int .i64 0) (.string ⟨#[]⟩) (.int .i64 0)) = W9 at *
  refine bodyPost_ret (v := .tuple #[.int .i64 0, .agg #[.int .i64 0, .int .i64 0, .int .i64 0, .string ⟨#[]⟩, .int .i64 0], .int .i64 1]) (by simp [results, Try.results14, go_sem, y0, y1, y2, y3, y4]) rfl ⟨rfl, HF.out⟩
set_option maxHeartbeats 4000000 in
theorem rprog_nil8 (w : World) (n m : Int) (v : V5)  :
    Calls Try.prog 14 #[.pointer none, .agg #[.int .i64 8, .int .i64 n, .int .i64 m, .int .i64 v.k, .int .i64 v.p, .int .i64 v.q, .string v.s, .int .i64 v.r]] w fun e w' => e = .returned (.tuple #[.int .i64 0, .agg #[.int .i64 0, .int .i64 0, .int .i64 0, .string ⟨#[]⟩, .int .i64 0], .int .i64 1]) ∧ Ch [] w w' := by
  have HC0 : Hid (Ch [] w ((w.alloc (.cells #[.int .i64 8, .int .i64 n, .int .i64 m, .int .i64 v.k, .int .i64 v.p, .int .i64 v.q, .string v.s, .int .i64 v.r] 39)).alloc (.cells #[.int .i64 0, .int .i64 0, .int .i64 0, .string ⟨#[]⟩, .int .i64 0] 35))) := Lib.hid (((Ch.refl [] w).alloc _).alloc _)
  have HR0 : Hid (Blk 35 (w.heap.size + 1) #[.int .i64 0, .int .i64 0, .int .i64 0, .string ⟨#[]⟩, .int .i64 0] ((w.alloc (.cells #[.int .i64 8, .int .i64 n, .int .i64 m, .int .i64 v.k, .int .i64 v.p, .int .i64 v.q, .string v.s, .int .i64 v.r] 39)).alloc (.cells #[.int .i64 0, .int .i64 0, .int .i64 0, .string ⟨#[]⟩, .int .i64 0] 35))) := Lib.hid (Blk.new _ _ _ _ (by simp))
  have HA0 : Hid (Blk 39 w.heap.size #[.int .i64 8, .int .i64 n, .int .i64 m, .int .i64 v.k, .int .i64 v.p, .int .i64 v.q, .string v.s, .int .i64 v.r] ((w.alloc (.cells #[.int .i64 8, .int .i64 n, .int .i64 m, .int .i64 v.k, .int .i64 v.p, .int .i64 v.q, .string v.s, .int .i64 v.r] 39)).alloc (.cells #[.int .i64 0, .int .i64 0, .int .i64 0, .string ⟨#[]⟩, .int .i64 0] 35))) := Lib.hid ((Blk.new w 39 #[.int .i64 8, .int .i64 n, .int .i64 m, .int .i64 v.k, .int .i64 v.p, .int .i64 v.q, .string v.s, .int .i64 v.r] _ rfl).ch ((Ch.refl [] _).alloc _) (not_nil _))
  have Q : Hid (Calls Try.prog 42 #[.pointer none, .int .i64 n, .int .i64 m] ((w.alloc (.cells #[.int .i64 8, .int .i64 n, .int .i64 m, .int .i64 v.k, .int .i64 v.p, .int .i64 v.q, .string v.s, .int .i64 v.r] 39)).alloc (.cells #[.int .i64 0, .int .i64 0, .int .i64 0, .string ⟨#[]⟩, .int .i64 0] 35)) fun e w' => e = .returned (.int .i64 1) ∧ Ch [] ((w.alloc (.cells #[.int .i64 8, .int .i64 n, .int .i64 m, .int .i64 v.k, .int .i64 v.p, .int .i64 v.q, .string v.s, .int .i64 v.r] 39)).alloc (.cells #[.int .i64 0, .int .i64 0, .int .i64 0, .string ⟨#[]⟩, .int .i64 0] 35)) w') := Lib.hid (by
    generalize ((w.alloc (.cells #[.int .i64 8, .int .i64 n, .int .i64 m, .int .i64 v.k, .int .i64 v.p, .int .i64 v.q, .string v.s, .int .i64 v.r] 39)).alloc (.cells #[.int .i64 0, .int .i64 0, .int .i64 0, .string ⟨#[]⟩, .int .i64 0] 35)) = W at *
    exact (rrot_nil n m W).mono fun e w' hh => ⟨hh.1, by rw [hh.2]; exact Ch.refl _ _⟩)
  go_enter Try.func14, Try.ntmps14
  go_upto_region 1 with fail
  generalize ((w.alloc (.cells #[.int .i64 8, .int .i64 n, .int .i64 m, .int .i64 v.k, .int .i64 v.p, .int .i64 v.q, .string v.s, .int .i64 v.r] 39)).alloc (.cells #[.int .i64 0, .int .i64 0, .int .i64 0, .string ⟨#[]⟩, .int .i64 0] 35)) = w0 at *
  have a0 : w0.cell? ⟨w.heap.size, 0, none⟩ = some (.int .i64 8) := HA0.out.cell 0
  have a1 : w0.cell? ⟨w.heap.size, 1, none⟩ = some (.int .i64 n) := HA0.out.cell 1
  have a2 : w0.cell? ⟨w.heap.size, 2, none⟩ = some (.int .i64 m) := HA0.out.cell 2
  have a3 : w0.cell? ⟨w.heap.size, 3, none⟩ = some (.int .i64 v.k) := HA0.out.cell 3
  have a4 : w0.cell? ⟨w.heap.size, 4, none⟩ = some (.int .i64 v.p) := HA0.out.cell 4
  have a5 : w0.cell? ⟨w.heap.size, 5, none⟩ = some (.int .i64 v.q) := HA0.out.cell 5
  have a6 : w0.cell? ⟨w.heap.size, 6, none⟩ = some (.string v.s) := HA0.out.cell 6
  have a7 : w0.cell? ⟨w.heap.size, 7, none⟩ = some (.int .i64 v.r) := HA0.out.cell 7
  have la := HA0.out.lt
  go_wp2_with (go_at_call 42; (with_reducible refine (Q.out).mono ?_); rintro e w1 ⟨rfl, hs⟩; have HS := Lib.hid hs; have HR1 : Hid (Blk 35 (w.heap.size + 1) #[.int .i64 0, .int .i64 0, .int .i64 0, .string ⟨#[]⟩, .int .i64 0] w1) := Lib.hid (HR0.out.ch hs (not_nil _)); have b0 : w1.cell? ⟨w.heap.size + 1, 0, none⟩ = some (.int .i64 0) := HR1.out.cell 0; have b1 : w1.cell? ⟨w.heap.size + 1, 1, none⟩ = some (.int .i64 0) := HR1.out.cell 1; have b2 : w1.cell? ⟨w.heap.size + 1, 2, none⟩ = some (.int .i64 0) := HR1.out.cell 2; have b3 : w1.cell? ⟨w.heap.size + 1, 3, none⟩ = some (.string ⟨#[]⟩) := HR1.out.cell 3; have b4 : w1.cell? ⟨w.heap.size + 1, 4, none⟩ = some (.int .i64 0) := HR1.out.cell 4; have fz0 := HR1.out.fz 0; have fz1 := HR1.out.fz 1; have fz2 := HR1.out.fz 2; have fz3 := HR1.out.fz 3; have fz4 := HR1.out.fz 4; have lb := HR1.out.lt; clear hs)
  show bodyPost _ _ _ Exit.ret _ (st5 w1 (w.heap.size + 1) (.int .i64 0) (.int .i64 0) (.int .i64 0) (.string ⟨#[]⟩) (.int .i64 0))
  have I1 : Blk 35 (w.heap.size + 1) #[.int .i64 0, .int .i64 0, .int .i64 0, .string ⟨#[]⟩, .int .i64 0] (st5 w1 (w.heap.size + 1) (.int .i64 0) (.int .i64 0) (.int .i64 0) (.string ⟨#[]⟩) (.int .i64 0)) := st5_blk HR1.out
  have hC : Ch [w.heap.size + 1] w1 (st5 w1 (w.heap.size + 1) (.int .i64 0) (.int .i64 0) (.int .i64 0) (.string ⟨#[]⟩) (.int .i64 0)) := st5_ch (Ch.refl _ _) (.inl (by simp))
  have y0 : (st5 w1 (w.heap.size + 1) (.int .i64 0) (.int .i64 0) (.int .i64 0) (.string ⟨#[]⟩) (.int .i64 0)).cell? ⟨(w.heap.size + 1), 0, none⟩ = some (.int .i64 0) := I1.cell 0
  have y1 : (st5 w1 (w.heap.size + 1) (.int .i64 0) (.int .i64 0) (.int .i64 0) (.string ⟨#[]⟩) (.int .i64 0)).cell? ⟨(w.heap.size + 1), 1, none⟩ = some (.int .i64 0) := I1.cell 1
  have y2 : (st5 w1 (w.heap.size + 1) (.int .i64 0) (.int .i64 0) (.int .i64 0) (.string ⟨#[]⟩) (.int .i64 0)).cell? ⟨(w.heap.size + 1), 2, none⟩ = some (.int .i64 0) := I1.cell 2
  have y3 : (st5 w1 (w.heap.size + 1) (.int .i64 0) (.int .i64 0) (.int .i64 0) (.string ⟨#[]⟩) (.int .i64 0)).cell? ⟨(w.heap.size + 1), 3, none⟩ = some (.string ⟨#[]⟩) := I1.cell 3
  have y4 : (st5 w1 (w.heap.size + 1) (.int .i64 0) (.int .i64 0) (.int .i64 0) (.string ⟨#[]⟩) (.int .i64 0)).cell? ⟨(w.heap.size + 1), 4, none⟩ = some (.int .i64 0) := I1.cell 4
  have HF : Hid (Ch [] w (st5 w1 (w.heap.size + 1) (.int .i64 0) (.int .i64 0) (.int .i64 0) (.string ⟨#[]⟩) (.int .i64 0))) := Lib.hid ((HC0.out.trans HS.out).fresh (fun g hg => by simp at hg; omega) hC)
  generalize (st5 w1 (w.heap.size + 1) (.int .i64 0) (.int .i64 0) (.int .i64 0) (.string ⟨#[]⟩) (.int .i64 0)) = W9 at *
  refine bodyPost_ret (v := .tuple #[.int .i64 0, .agg #[.int .i64 0, .int .i64 0, .int .i64 0, .string ⟨#[]⟩, .int .i64 0], .int .i64 1]) (by simp [results, Try.results14, go_sem, y0, y1, y2, y3, y4]) rfl ⟨rfl, HF.out⟩
set_option maxHeartbeats 4000000 in
theorem rprog_nil9 (w : World) (n m : Int) (v : V5)  :
    Calls Try.prog 14 #[.pointer none, .agg #[.int .i64 9, .int .i64 n, .int .i64 m, .int .i64 v.k, .int .i64 v.p, .int .i64 v.q, .string v.s, .int .i64 v.r]] w fun e w' => e = .returned (.tuple #[.int .i64 0, .agg #[.int .i64 0, .int .i64 0, .int .i64 0, .string ⟨#[]⟩, .int .i64 0], .int .i64 1]) ∧ Ch [] w w' := by
  have HC0 : Hid (Ch [] w ((w.alloc (.cells #[.int .i64 9, .int .i64 n, .int .i64 m, .int .i64 v.k, .int .i64 v.p, .int .i64 v.q, .string v.s, .int .i64 v.r] 39)).alloc (.cells #[.int .i64 0, .int .i64 0, .int .i64 0, .string ⟨#[]⟩, .int .i64 0] 35))) := Lib.hid (((Ch.refl [] w).alloc _).alloc _)
  have HR0 : Hid (Blk 35 (w.heap.size + 1) #[.int .i64 0, .int .i64 0, .int .i64 0, .string ⟨#[]⟩, .int .i64 0] ((w.alloc (.cells #[.int .i64 9, .int .i64 n, .int .i64 m, .int .i64 v.k, .int .i64 v.p, .int .i64 v.q, .string v.s, .int .i64 v.r] 39)).alloc (.cells #[.int .i64 0, .int .i64 0, .int .i64 0, .string ⟨#[]⟩, .int .i64 0] 35))) := Lib.hid (Blk.new _ _ _ _ (by simp))
  have HA0 : Hid (Blk 39 w.heap.size #[.int .i64 9, .int .i64 n, .int .i64 m, .int .i64 v.k, .int .i64 v.p, .int .i64 v.q, .string v.s, .int .i64 v.r] ((w.alloc (.cells #[.int .i64 9, .int .i64 n, .int .i64 m, .int .i64 v.k, .int .i64 v.p, .int .i64 v.q, .string v.s, .int .i64 v.r] 39)).alloc (.cells #[.int .i64 0, .int .i64 0, .int .i64 0, .string ⟨#[]⟩, .int .i64 0] 35))) := Lib.hid ((Blk.new w 39 #[.int .i64 9, .int .i64 n, .int .i64 m, .int .i64 v.k, .int .i64 v.p, .int .i64 v.q, .string v.s, .int .i64 v.r] _ rfl).ch ((Ch.refl [] _).alloc _) (not_nil _))
  have Q : Hid (Calls Try.prog 43 #[.pointer none, .int .i64 n, .int .i64 m] ((w.alloc (.cells #[.int .i64 9, .int .i64 n, .int .i64 m, .int .i64 v.k, .int .i64 v.p, .int .i64 v.q, .string v.s, .int .i64 v.r] 39)).alloc (.cells #[.int .i64 0, .int .i64 0, .int .i64 0, .string ⟨#[]⟩, .int .i64 0] 35)) fun e w' => e = .returned (.int .i64 1) ∧ Ch [] ((w.alloc (.cells #[.int .i64 9, .int .i64 n, .int .i64 m, .int .i64 v.k, .int .i64 v.p, .int .i64 v.q, .string v.s, .int .i64 v.r] 39)).alloc (.cells #[.int .i64 0, .int .i64 0, .int .i64 0, .string ⟨#[]⟩, .int .i64 0] 35)) w') := Lib.hid (by
    generalize ((w.alloc (.cells #[.int .i64 9, .int .i64 n, .int .i64 m, .int .i64 v.k, .int .i64 v.p, .int .i64 v.q, .string v.s, .int .i64 v.r] 39)).alloc (.cells #[.int .i64 0, .int .i64 0, .int .i64 0, .string ⟨#[]⟩, .int .i64 0] 35)) = W at *
    exact (rcopy_nil n m W).mono fun e w' hh => hh)
  go_enter Try.func14, Try.ntmps14
  go_upto_region 1 with fail
  generalize ((w.alloc (.cells #[.int .i64 9, .int .i64 n, .int .i64 m, .int .i64 v.k, .int .i64 v.p, .int .i64 v.q, .string v.s, .int .i64 v.r] 39)).alloc (.cells #[.int .i64 0, .int .i64 0, .int .i64 0, .string ⟨#[]⟩, .int .i64 0] 35)) = w0 at *
  have a0 : w0.cell? ⟨w.heap.size, 0, none⟩ = some (.int .i64 9) := HA0.out.cell 0
  have a1 : w0.cell? ⟨w.heap.size, 1, none⟩ = some (.int .i64 n) := HA0.out.cell 1
  have a2 : w0.cell? ⟨w.heap.size, 2, none⟩ = some (.int .i64 m) := HA0.out.cell 2
  have a3 : w0.cell? ⟨w.heap.size, 3, none⟩ = some (.int .i64 v.k) := HA0.out.cell 3
  have a4 : w0.cell? ⟨w.heap.size, 4, none⟩ = some (.int .i64 v.p) := HA0.out.cell 4
  have a5 : w0.cell? ⟨w.heap.size, 5, none⟩ = some (.int .i64 v.q) := HA0.out.cell 5
  have a6 : w0.cell? ⟨w.heap.size, 6, none⟩ = some (.string v.s) := HA0.out.cell 6
  have a7 : w0.cell? ⟨w.heap.size, 7, none⟩ = some (.int .i64 v.r) := HA0.out.cell 7
  have la := HA0.out.lt
  go_wp2_with (go_at_call 43; (with_reducible refine (Q.out).mono ?_); rintro e w1 ⟨rfl, hs⟩; have HS := Lib.hid hs; have HR1 : Hid (Blk 35 (w.heap.size + 1) #[.int .i64 0, .int .i64 0, .int .i64 0, .string ⟨#[]⟩, .int .i64 0] w1) := Lib.hid (HR0.out.ch hs (not_nil _)); have b0 : w1.cell? ⟨w.heap.size + 1, 0, none⟩ = some (.int .i64 0) := HR1.out.cell 0; have b1 : w1.cell? ⟨w.heap.size + 1, 1, none⟩ = some (.int .i64 0) := HR1.out.cell 1; have b2 : w1.cell? ⟨w.heap.size + 1, 2, none⟩ = some (.int .i64 0) := HR1.out.cell 2; have b3 : w1.cell? ⟨w.heap.size + 1, 3, none⟩ = some (.string ⟨#[]⟩) := HR1.out.cell 3; have b4 : w1.cell? ⟨w.heap.size + 1, 4, none⟩ = some (.int .i64 0) := HR1.out.cell 4; have fz0 := HR1.out.fz 0; have fz1 := HR1.out.fz 1; have fz2 := HR1.out.fz 2; have fz3 := HR1.out.fz 3; have fz4 := HR1.out.fz 4; have lb := HR1.out.lt; clear hs)
  show bodyPost _ _ _ Exit.ret _ (st5 w1 (w.heap.size + 1) (.int .i64 0) (.int .i64 0) (.int .i64 0) (.string ⟨#[]⟩) (.int .i64 0))
  have I1 : Blk 35 (w.heap.size + 1) #[.int .i64 0, .int .i64 0, .int .i64 0, .string ⟨#[]⟩, .int .i64 0] (st5 w1 (w.heap.size + 1) (.int .i64 0) (.int .i64 0) (.int .i64 0) (.string ⟨#[]⟩) (.int .i64 0)) := st5_blk HR1.out
  have hC : Ch [w.heap.size + 1] w1 (st5 w1 (w.heap.size + 1) (.int .i64 0) (.int .i64 0) (.int .i64 0) (.string ⟨#[]⟩) (.int .i64 0)) := st5_ch (Ch.refl _ _) (.inl (by simp))
  have y0 : (st5 w1 (w.heap.size + 1) (.int .i64 0) (.int .i64 0) (.int .i64 0) (.string ⟨#[]⟩) (.int .i64 0)).cell? ⟨(w.heap.size + 1), 0, none⟩ = some (.int .i64 0) := I1.cell 0
  have y1 : (st5 w1 (w.heap.size + 1) (.int .i64 0) (.int .i64 0) (.int .i64 0) (.string ⟨#[]⟩) (.int .i64 0)).cell? ⟨(w.heap.size + 1), 1, none⟩ = some (.int .i64 0) := I1.cell 1
  have y2 : (st5 w1 (w.heap.size + 1) (.int .i64 0) (.int .i64 0) (.int .i64 0) (.string ⟨#[]⟩) (.int .i64 0)).cell? ⟨(w.heap.size + 1), 2, none⟩ = some (.int .i64 0) := I1.cell 2
  have y3 : (st5 w1 (w.heap.size + 1) (.int .i64 0) (.int .i64 0) (.int .i64 0) (.string ⟨#[]⟩) (.int .i64 0)).cell? ⟨(w.heap.size + 1), 3, none⟩ = some (.string ⟨#[]⟩) := I1.cell 3
  have y4 : (st5 w1 (w.heap.size + 1) (.int .i64 0) (.int .i64 0) (.int .i64 0) (.string ⟨#[]⟩) (.int .i64 0)).cell? ⟨(w.heap.size + 1), 4, none⟩ = some (.int .i64 0) := I1.cell 4
  have HF : Hid (Ch [] w (st5 w1 (w.heap.size + 1) (.int .i64 0) (.int .i64 0) (.int .i64 0) (.string ⟨#[]⟩) (.int .i64 0))) := Lib.hid ((HC0.out.trans HS.out).fresh (fun g hg => by simp at hg; omega) hC)
  generalize (st5 w1 (w.heap.size + 1) (.int .i64 0) (.int .i64 0) (.int .i64 0) (.string ⟨#[]⟩) (.int .i64 0)) = W9 at *
  refine bodyPost_ret (v := .tuple #[.int .i64 0, .agg #[.int .i64 0, .int .i64 0, .int .i64 0, .string ⟨#[]⟩, .int .i64 0], .int .i64 1]) (by simp [results, Try.results14, go_sem, y0, y1, y2, y3, y4]) rfl ⟨rfl, HF.out⟩
set_option maxHeartbeats 4000000 in
theorem rprog_nil10 (w : World) (n m : Int) (v : V5) (k : Int) (hk : ¬ k = 0 ∧ ¬ k = 1 ∧ ¬ k = 2 ∧ ¬ k = 3 ∧ ¬ k = 4 ∧ ¬ k = 5 ∧ ¬ k = 6 ∧ ¬ k = 7 ∧ ¬ k = 8 ∧ ¬ k = 9) :
    Calls Try.prog 14 #[.pointer none, .agg #[.int .i64 k, .int .i64 n, .int .i64 m, .int .i64 v.k, .int .i64 v.p, .int .i64 v.q, .string v.s, .int .i64 v.r]] w fun e w' => e = .returned (.tuple #[.int .i64 0, .agg #[.int .i64 0, .int .i64 0, .int .i64 0, .string ⟨#[]⟩, .int .i64 0], .int .i64 1]) ∧ Ch [] w w' := by
  have HC0 : Hid (Ch [] w ((w.alloc (.cells #[.int .i64 k, .int .i64 n, .int .i64 m, .int .i64 v.k, .int .i64 v.p, .int .i64 v.q, .string v.s, .int .i64 v.r] 39)).alloc (.cells #[.int .i64 0, .int .i64 0, .int .i64 0, .string ⟨#[]⟩, .int .i64 0] 35))) := Lib.hid (((Ch.refl [] w).alloc _).alloc _)
  have HR0 : Hid (Blk 35 (w.heap.size + 1) #[.int .i64 0, .int .i64 0, .int .i64 0, .string ⟨#[]⟩, .int .i64 0] ((w.alloc (.cells #[.int .i64 k, .int .i64 n, .int .i64 m, .int .i64 v.k, .int .i64 v.p, .int .i64 v.q, .string v.s, .int .i64 v.r] 39)).alloc (.cells #[.int .i64 0, .int .i64 0, .int .i64 0, .string ⟨#[]⟩, .int .i64 0] 35))) := Lib.hid (Blk.new _ _ _ _ (by simp))
  have HA0 : Hid (Blk 39 w.heap.size #[.int .i64 k, .int .i64 n, .int .i64 m, .int .i64 v.k, .int .i64 v.p, .int .i64 v.q, .string v.s, .int .i64 v.r] ((w.alloc (.cells #[.int .i64 k, .int .i64 n, .int .i64 m, .int .i64 v.k, .int .i64 v.p, .int .i64 v.q, .string v.s, .int .i64 v.r] 39)).alloc (.cells #[.int .i64 0, .int .i64 0, .int .i64 0, .string ⟨#[]⟩, .int .i64 0] 35))) := Lib.hid ((Blk.new w 39 #[.int .i64 k, .int .i64 n, .int .i64 m, .int .i64 v.k, .int .i64 v.p, .int .i64 v.q, .string v.s, .int .i64 v.r] _ rfl).ch ((Ch.refl [] _).alloc _) (not_nil _))
  have Q : Hid (Calls Try.prog 44 #[.pointer none, .int .i64 n] ((w.alloc (.cells #[.int .i64 k, .int .i64 n, .int .i64 m, .int .i64 v.k, .int .i64 v.p, .int .i64 v.q, .string v.s, .int .i64 v.r] 39)).alloc (.cells #[.int .i64 0, .int .i64 0, .int .i64 0, .string ⟨#[]⟩, .int .i64 0] 35)) fun e w' => e = .returned (.int .i64 1) ∧ Ch [] ((w.alloc (.cells #[.int .i64 k, .int .i64 n, .int .i64 m, .int .i64 v.k, .int .i64 v.p, .int .i64 v.q, .string v.s, .int .i64 v.r] 39)).alloc (.cells #[.int .i64 0, .int .i64 0, .int .i64 0, .string ⟨#[]⟩, .int .i64 0] 35)) w') := Lib.hid (by
    generalize ((w.alloc (.cells #[.int .i64 k, .int .i64 n, .int .i64 m, .int .i64 v.k, .int .i64 v.p, .int .i64 v.q, .string v.s, .int .i64 v.r] 39)).alloc (.cells #[.int .i64 0, .int .i64 0, .int .i64 0, .string ⟨#[]⟩, .int .i64 0] 35)) = W at *
    exact (rroom_nil n W).mono fun e w' hh => ⟨hh.1, by rw [hh.2]; exact Ch.refl _ _⟩)
  obtain ⟨h0, h1, h2, h3, h4, h5, h6, h7, h8, h9⟩ := hk
  go_enter Try.func14, Try.ntmps14
  go_upto_region 1 with fail
  generalize ((w.alloc (.cells #[.int .i64 k, .int .i64 n, .int .i64 m, .int .i64 v.k, .int .i64 v.p, .int .i64 v.q, .string v.s, .int .i64 v.r] 39)).alloc (.cells #[.int .i64 0, .int .i64 0, .int .i64 0, .string ⟨#[]⟩, .int .i64 0] 35)) = w0 at *
  have a0 : w0.cell? ⟨w.heap.size, 0, none⟩ = some (.int .i64 k) := HA0.out.cell 0
  have a1 : w0.cell? ⟨w.heap.size, 1, none⟩ = some (.int .i64 n) := HA0.out.cell 1
  have a2 : w0.cell? ⟨w.heap.size, 2, none⟩ = some (.int .i64 m) := HA0.out.cell 2
  have a3 : w0.cell? ⟨w.heap.size, 3, none⟩ = some (.int .i64 v.k) := HA0.out.cell 3
  have a4 : w0.cell? ⟨w.heap.size, 4, none⟩ = some (.int .i64 v.p) := HA0.out.cell 4
  have a5 : w0.cell? ⟨w.heap.size, 5, none⟩ = some (.int .i64 v.q) := HA0.out.cell 5
  have a6 : w0.cell? ⟨w.heap.size, 6, none⟩ = some (.string v.s) := HA0.out.cell 6
  have a7 : w0.cell? ⟨w.heap.size, 7, none⟩ = some (.int .i64 v.r) := HA0.out.cell 7
  have la := HA0.out.lt
  go_wp2_with (go_at_call 44; (with_reducible refine (Q.out).mono ?_); rintro e w1 ⟨rfl, hs⟩; have HS := Lib.hid hs; have HR1 : Hid (Blk 35 (w.heap.size + 1) #[.int .i64 0, .int .i64 0, .int .i64 0, .string ⟨#[]⟩, .int .i64 0] w1) := Lib.hid (HR0.out.ch hs (not_nil _)); have b0 : w1.cell? ⟨w.heap.size + 1, 0, none⟩ = some (.int .i64 0) := HR1.out.cell 0; have b1 : w1.cell? ⟨w.heap.size + 1, 1, none⟩ = some (.int .i64 0) := HR1.out.cell 1; have b2 : w1.cell? ⟨w.heap.size + 1, 2, none⟩ = some (.int .i64 0) := HR1.out.cell 2; have b3 : w1.cell? ⟨w.heap.size + 1, 3, none⟩ = some (.string ⟨#[]⟩) := HR1.out.cell 3; have b4 : w1.cell? ⟨w.heap.size + 1, 4, none⟩ = some (.int .i64 0) := HR1.out.cell 4; have fz0 := HR1.out.fz 0; have fz1 := HR1.out.fz 1; have fz2 := HR1.out.fz 2; have fz3 := HR1.out.fz 3; have fz4 := HR1.out.fz 4; have lb := HR1.out.lt; clear hs)
  show bodyPost _ _ _ Exit.ret _ (st5 w1 (w.heap.size + 1) (.int .i64 0) (.int .i64 0) (.int .i64 0) (.string ⟨#[]⟩) (.int .i64 0))
  have I1 : Blk 35 (w.heap.size + 1) #[.int .i64 0, .int .i64 0, .int .i64 0, .string ⟨#[]⟩, .int .i64 0] (st5 w1 (w.heap.size + 1) (.int .i64 0) (.int .i64 0) (.int .i64 0) (.string ⟨#[]⟩) (.int .i64 0)) := st5_blk HR1.out
  have hC : Ch [w.heap.size + 1] w1 (st5 w1 (w.heap.size + 1) (.int .i64 0) (.int .i64 0) (.int .i64 0) (.string ⟨#[]⟩) (.int .i64 0)) := st5_ch (Ch.refl _ _) (.inl (by simp))
  have y0 : (st5 w1 (w.heap.size + 1) (.int .i64 0) (.int .i64 0) (.int .i64 0) (.string ⟨#[]⟩) (.int .i64 0)).cell? ⟨(w.heap.size + 1), 0, none⟩ = some (.int .i64 0) := I1.cell 0
  have y1 : (st5 w1 (w.heap.size + 1) (.int .i64 0) (.int .i64 0) (.int .i64 0) (.string ⟨#[]⟩) (.int .i64 0)).cell? ⟨(w.heap.size + 1), 1, none⟩ = some (.int .i64 0) := I1.cell 1
  have y2 : (st5 w1 (w.heap.size + 1) (.int .i64 0) (.int .i64 0) (.int .i64 0) (.string ⟨#[]⟩) (.int .i64 0)).cell? ⟨(w.heap.size + 1), 2, none⟩ = some (.int .i64 0) := I1.cell 2
  have y3 : (st5 w1 (w.heap.size + 1) (.int .i64 0) (.int .i64 0) (.int .i64 0) (.string ⟨#[]⟩) (.int .i64 0)).cell? ⟨(w.heap.size + 1), 3, none⟩ = some (.string ⟨#[]⟩) := I1.cell 3
  have y4 : (st5 w1 (w.heap.size + 1) (.int .i64 0) (.int .i64 0) (.int .i64 0) (.string ⟨#[]⟩) (.int .i64 0)).cell? ⟨(w.heap.size + 1), 4, none⟩ = some (.int .i64 0) := I1.cell 4
  have HF : Hid (Ch [] w (st5 w1 (w.heap.size + 1) (.int .i64 0) (.int .i64 0) (.int .i64 0) (.string ⟨#[]⟩) (.int .i64 0))) := Lib.hid ((HC0.out.trans HS.out).fresh (fun g hg => by simp at hg; omega) hC)
  generalize (st5 w1 (w.heap.size + 1) (.int .i64 0) (.int .i64 0) (.int .i64 0) (.string ⟨#[]⟩) (.int .i64 0)) = W9 at *
  refine bodyPost_ret (v := .tuple #[.int .i64 0, .agg #[.int .i64 0, .int .i64 0, .int .i64 0, .string ⟨#[]⟩, .int .i64 0], .int .i64 1]) (by simp [results, Try.results14, go_sem, y0, y1, y2, y3, y4]) rfl ⟨rfl, HF.out⟩
theorem rprog_nil (k n m : Int) (v : V5) (w : World) :
    Calls Try.prog 14 #[.pointer none, .agg #[.int .i64 k, .int .i64 n, .int .i64 m, .int .i64 v.k, .int .i64 v.p, .int .i64 v.q, .string v.s, .int .i64 v.r]] w fun e w' => e = .returned (.tuple #[.int .i64 0, .agg #[.int .i64 0, .int .i64 0, .int .i64 0, .string ⟨#[]⟩, .int .i64 0], .int .i64 1]) ∧ Ch [] w w' := by
  by_cases h0 : k = 0
  · subst h0; exact rprog_nil0 w n m v
  by_cases h1 : k = 1
  · subst h1; exact rprog_nil1 w n m v
  by_cases h2 : k = 2
  · subst h2; exact rprog_nil2 w n m v
  by_cases h3 : k = 3
  · subst h3; exact rprog_nil3 w n m v
  by_cases h4 : k = 4
  · subst h4; exact rprog_nil4 w n m v
  by_cases h5 : k = 5
  · subst h5; exact rprog_nil5 w n m v
  by_cases h6 : k = 6
  · subst h6; exact rprog_nil6 w n m v
  by_cases h7 : k = 7
  · subst h7; exact rprog_nil7 w n m v
  by_cases h8 : k = 8
  · subst h8; exact rprog_nil8 w n m v
  by_cases h9 : k = 9
  · subst h9; exact rprog_nil9 w n m v
  exact rprog_nil10 w n m v k ⟨h0, h1, h2, h3, h4, h5, h6, h7, h8, h9⟩
set_option maxHeartbeats 4000000 in
theorem cprog_nil0 (w : World) (n m : Int) (v : V5)  :
    Calls Try.prog 13 #[.pointer none, .agg #[.int .i64 0, .int .i64 n, .int .i64 m, .int .i64 v.k, .int .i64 v.p, .int .i64 v.q, .string v.s, .int .i64 v.r]] w fun e w' => e = .returned (.tuple #[.int .i64 0, .agg #[.int .i64 0, .int .i64 0, .int .i64 0, .string ⟨#[]⟩, .int .i64 0], .int .i64 1]) ∧ Ch [] w w' := by
  have HC0 : Hid (Ch [] w ((w.alloc (.cells #[.int .i64 0, .int .i64 n, .int .i64 m, .int .i64 v.k, .int .i64 v.p, .int .i64 v.q, .string v.s, .int .i64 v.r] 39)).alloc (.cells #[.int .i64 0, .int .i64 0, .int .i64 0, .string ⟨#[]⟩, .int .i64 0] 35))) := Lib.hid (((Ch.refl [] w).alloc _).alloc _)
  have HR0 : Hid (Blk 35 (w.heap.size + 1) #[.int .i64 0, .int .i64 0, .int .i64 0, .string ⟨#[]⟩, .int .i64 0] ((w.alloc (.cells #[.int .i64 0, .int .i64 n, .int .i64 m, .int .i64 v.k, .int .i64 v.p, .int .i64 v.q, .string v.s, .int .i64 v.r] 39)).alloc (.cells #[.int .i64 0, .int .i64 0, .int .i64 0, .string ⟨#[]⟩, .int .i64 0] 35))) := Lib.hid (Blk.new _ _ _ _ (by simp))
  have HA0 : Hid (Blk 39 w.heap.size #[.int .i64 0, .int .i64 n, .int .i64 m, .int .i64 v.k, .int .i64 v.p, .int .i64 v.q, .string v.s, .int .i64 v.r] ((w.alloc (.cells #[.int .i64 0, .int .i64 n, .int .i64 m, .int .i64 v.k, .int .i64 v.p, .int .i64 v.q, .string v.s, .int .i64 v.r] 39)).alloc (.cells #[.int .i64 0, .int .i64 0, .int .i64 0, .string ⟨#[]⟩, .int .i64 0] 35))) := Lib.hid ((Blk.new w 39 #[.int .i64 0, .int .i64 n, .int .i64 m, .int .i64 v.k, .int .i64 v.p, .int .i64 v.q, .string v.s, .int .i64 v.r] _ rfl).ch ((Ch.refl [] _).alloc _) (not_nil _))
  have Q : Hid (Calls Try.prog 24 #[.pointer none, .agg #[.int .i64 v.k, .int .i64 v.p, .int .i64 v.q, .string v.s, .int .i64 v.r]] ((w.alloc (.cells #[.int .i64 0, .int .i64 n, .int .i64 m, .int .i64 v.k, .int .i64 v.p, .int .i64 v.q, .string v.s, .int .i64 v.r] 39)).alloc (.cells #[.int .i64 0, .int .i64 0, .int .i64 0, .string ⟨#[]⟩, .int .i64 0] 35)) fun e w' => e = .returned (.int .i64 1) ∧ Ch [] ((w.alloc (.cells #[.int .i64 0, .int .i64 n, .int .i64 m, .int .i64 v.k, .int .i64 v.p, .int .i64 v.q, .string v.s, .int .i64 v.r] 39)).alloc (.cells #[.int .i64 0, .int .i64 0, .int .i64 0, .string ⟨#[]⟩, .int .i64 0] 35)) w') := Lib.hid (by
    generalize ((w.alloc (.cells #[.int .i64 0, .int .i64 n, .int .i64 m, .int .i64 v.k, .int .i64 v.p, .int .i64 v.q, .string v.s, .int .i64 v.r] 39)).alloc (.cells #[.int .i64 0, .int .i64 0, .int .i64 0, .string ⟨#[]⟩, .int .i64 0] 35)) = W at *
    exact (spush_nil v W).mono fun e w' hh => hh)
  go_enter Try.func13, Try.ntmps13
  go_upto_region 1 with fail
  generalize ((w.alloc (.cells #[.int .i64 0, .int .i64 n, .int .i64 m, .int .i64 v.k, .int .i64 v.p, .int .i64 v.q, .string v.s, .int .i64 v.r] 39)).alloc (.cells #[.int .i64 0, .int .i64 0, .int .i64 0, .string ⟨#[]⟩, .int .i64 0] 35)) = w0 at *
  have a0 : w0.cell? ⟨w.heap.size, 0, none⟩ = some (.int .i64 0) := HA0.out.cell 0
  have a1 : w0.cell? ⟨w.heap.size, 1, none⟩ = some (.int .i64 n) := HA0.out.cell 1
  have a2 : w0.cell? ⟨w.heap.size, 2, none⟩ = some (.int .i64 m) := HA0.out.cell 2
  have a3 : w0.cell? ⟨w.heap.size, 3, none⟩ = some (.int .i64 v.k) := HA0.out.cell 3
  have a4 : w0.cell? ⟨w.heap.size, 4, none⟩ = some (.int .i64 v.p) := HA0.out.cell 4
  have a5 : w0.cell? ⟨w.heap.size, 5, none⟩ = some (.int .i64 v.q) := HA0.out.cell 5
  have a6 : w0.cell? ⟨w.heap.size, 6, none⟩ = some (.string v.s) := HA0.out.cell 6
  have a7 : w0.cell? ⟨w.heap.size, 7, none⟩ = some (.int .i64 v.r) := HA0.out.cell 7
  have la := HA0.out.lt
  go_wp2_with (go_at_call 24; (with_reducible refine (Q.out).mono ?_); rintro e w1 ⟨rfl, hs⟩; have HS := Lib.hid hs; have HR1 : Hid (Blk 35 (w.heap.size + 1) #[.int .i64 0, .int .i64 0, .int .i64 0, .string ⟨#[]⟩, .int .i64 0] w1) := Lib.hid (HR0.out.ch hs (not_nil _)); have b0 : w1.cell? ⟨w.heap.size + 1, 0, none⟩ = some (.int .i64 0) := HR1.out.cell 0; have b1 : w1.cell? ⟨w.heap.size + 1, 1, none⟩ = some (.int .i64 0) := HR1.out.cell 1; have b2 : w1.cell? ⟨w.heap.size + 1, 2, none⟩ = some (.int .i64 0) := HR1.out.cell 2; have b3 : w1.cell? ⟨w.heap.size + 1, 3, none⟩ = some (.string ⟨#[]⟩) := HR1.out.cell 3; have b4 : w1.cell? ⟨w.heap.size + 1, 4, none⟩ = some (.int .i64 0) := HR1.out.cell 4; have fz0 := HR1.out.fz 0; have fz1 := HR1.out.fz 1; have fz2 := HR1.out.fz 2; have fz3 := HR1.out.fz 3; have fz4 := HR1.out.fz 4; have lb := HR1.out.lt; clear hs)
  show bodyPost _ _ _ Exit.ret _ (st5 w1 (w.heap.size + 1) (.int .i64 0) (.int .i64 0) (.int .i64 0) (.string ⟨#[]⟩) (.int .i64 0))
  have I1 : Blk 35 (w.heap.size + 1) #[.int .i64 0, .int .i64 0, .int .i64 0, .string ⟨#[]⟩, .int .i64 0] (st5 w1 (w.heap.size + 1) (.int .i64 0) (.int .i64 0) (.int .i64 0) (.string ⟨#[]⟩) (.int .i64 0)) := st5_blk HR1.out
  have hC : Ch [w.heap.size + 1] w1 (st5 w1 (w.heap.size + 1) (.int .i64 0) (.int .i64 0) (.int .i64 0) (.string ⟨#[]⟩) (.int .i64 0)) := st5_ch (Ch.refl _ _) (.inl (by simp))
  have y0 : (st5 w1 (w.heap.size + 1) (.int .i64 0) (.int .i64 0) (.int .i64 0) (.string ⟨#[]⟩) (.int .i64 0)).cell? ⟨(w.heap.size + 1), 0, none⟩ = some (.int .i64 0) := I1.cell 0
  have y1 : (st5 w1 (w.heap.size + 1) (.int .i64 0) (.int .i64 0) (.int .i64 0) (.string ⟨#[]⟩) (.int .i64 0)).cell? ⟨(w.heap.size + 1), 1, none⟩ = some (.int .i64 0) := I1.cell 1
  have y2 : (st5 w1 (w.heap.size + 1) (.int .i64 0) (.int .i64 0) (.int .i64 0) (.string ⟨#[]⟩) (.int .i64 0)).cell? ⟨(w.heap.size + 1), 2, none⟩ = some (.int .i64 0) := I1.cell 2
  have y3 : (st5 w1 (w.heap.size + 1) (.int .i64 0) (.int .i64 0) (.int .i64 0) (.string ⟨#[]⟩) (.int .i64 0)).cell? ⟨(w.heap.size + 1), 3, none⟩ = some (.string ⟨#[]⟩) := I1.cell 3
  have y4 : (st5 w1 (w.heap.size + 1) (.int .i64 0) (.int .i64 0) (.int .i64 0) (.string ⟨#[]⟩) (.int .i64 0)).cell? ⟨(w.heap.size + 1), 4, none⟩ = some (.int .i64 0) := I1.cell 4
  have HF : Hid (Ch [] w (st5 w1 (w.heap.size + 1) (.int .i64 0) (.int .i64 0) (.int .i64 0) (.string ⟨#[]⟩) (.int .i64 0))) := Lib.hid ((HC0.out.trans HS.out).fresh (fun g hg => by simp at hg; omega) hC)
  generalize (st5 w1 (w.heap.size + 1) (.int .i64 0) (.int .i64 0) (.int .i64 0) (.string ⟨#[]⟩) (.int .i64 0)) = W9 at *
  refine bodyPost_ret (v := .tuple #[.int .i64 0, .agg #[.int .i64 0, .int .i64 0, .int .i64 0, .string ⟨#[]⟩, .int .i64 0], .int .i64 1]) (by simp [results, Try.results13, go_sem, y0, y1, y2, y3, y4]) rfl ⟨rfl, HF.out⟩
set_option maxHeartbeats 4000000 in
theorem cprog_nil1 (w : World) (n m : Int) (v : V5)  :
    Calls Try.prog 13 #[.pointer none, .agg #[.int .i64 1, .int .i64 n, .int .i64 m, .int .i64 v.k, .int .i64 v.p, .int .i64 v.q, .string v.s, .int .i64 v.r]] w fun e w' => e = .returned (.tuple #[.int .i64 0, .agg #[.int .i64 0, .int .i64 0, .int .i64 0, .string ⟨#[]⟩, .int .i64 0], .int .i64 1]) ∧ Ch [] w w' := by
  have HC0 : Hid (Ch [] w ((w.alloc (.cells #[.int .i64 1, .int .i64 n, .int .i64 m, .int .i64 v.k, .int .i64 v.p, .int .i64 v.q, .string v.s, .int .i64 v.r] 39)).alloc (.cells #[.int .i64 0, .int .i64 0, .int .i64 0, .string ⟨#[]⟩, .int .i64 0] 35))) := Lib.hid (((Ch.refl [] w).alloc _).alloc _)
  have HR0 : Hid (Blk 35 (w.heap.size + 1) #[.int .i64 0, .int .i64 0, .int .i64 0, .string ⟨#[]⟩, .int .i64 0] ((w.alloc (.cells #[.int .i64 1, .int .i64 n, .int .i64 m, .int .i64 v.k, .int .i64 v.p, .int .i64 v.q, .string v.s, .int .i64 v.r] 39)).alloc (.cells #[.int .i64 0, .int .i64 0, .int .i64 0, .string ⟨#[]⟩, .int .i64 0] 35))) := Lib.hid (Blk.new _ _ _ _ (by simp))
  have HA0 : Hid (Blk 39 w.heap.size #[.int .i64 1, .int .i64 n, .int .i64 m, .int .i64 v.k, .int .i64 v.p, .int .i64 v.q, .string v.s, .int .i64 v.r] ((w.alloc (.cells #[.int .i64 1, .int .i64 n, .int .i64 m, .int .i64 v.k, .int .i64 v.p, .int .i64 v.q, .string v.s, .int .i64 v.r] 39)).alloc (.cells #[.int .i64 0, .int .i64 0, .int .i64 0, .string ⟨#[]⟩, .int .i64 0] 35))) := Lib.hid ((Blk.new w 39 #[.int .i64 1, .int .i64 n, .int .i64 m, .int .i64 v.k, .int .i64 v.p, .int .i64 v.q, .string v.s, .int .i64 v.r] _ rfl).ch ((Ch.refl [] _).alloc _) (not_nil _))
  have Q : Hid (Calls Try.prog 31 #[.pointer none, .int .i64 n] ((w.alloc (.cells #[.int .i64 1, .int .i64 n, .int .i64 m, .int .i64 v.k, .int .i64 v.p, .int .i64 v.q, .string v.s, .int .i64 v.r] 39)).alloc (.cells #[.int .i64 0, .int .i64 0, .int .i64 0, .string ⟨#[]⟩, .int .i64 0] 35)) fun e w' => e = .returned (.int .i64 1) ∧ Ch [] ((w.alloc (.cells #[.int .i64 1, .int .i64 n, .int .i64 m, .int .i64 v.k, .int .i64 v.p, .int .i64 v.q, .string v.s, .int .i64 v.r] 39)).alloc (.cells #[.int .i64 0, .int .i64 0, .int .i64 0, .string ⟨#[]⟩, .int .i64 0] 35)) w') := Lib.hid (by
    generalize ((w.alloc (.cells #[.int .i64 1, .int .i64 n, .int .i64 m, .int .i64 v.k, .int .i64 v.p, .int .i64 v.q, .string v.s, .int .i64 v.r] 39)).alloc (.cells #[.int .i64 0, .int .i64 0, .int .i64 0, .string ⟨#[]⟩, .int .i64 0] 35)) = W at *
    exact (spop_nil n W).mono fun e w' hh => ⟨hh.1, by rw [hh.2]; exact Ch.refl _ _⟩)
  go_enter Try.func13, Try.ntmps13
  go_upto_region 1 with fail
  generalize ((w.alloc (.cells #[.int .i64 1, .int .i64 n, .int .i64 m, .int .i64 v.k, .int .i64 v.p, .int .i64 v.q, .string v.s, .int .i64 v.r] 39)).alloc (.cells #[.int .i64 0, .int .i64 0, .int .i64 0, .string ⟨#[]⟩, .int .i64 0] 35)) = w0 at *
  have a0 : w0.cell? ⟨w.heap.size, 0, none⟩ = some (.int .i64 1) := HA0.out.cell 0
  have a1 : w0.cell? ⟨w.heap.size, 1, none⟩ = some (.int .i64 n) := HA0.out.cell 1
  have a2 : w0.cell? ⟨w.heap.size, 2, none⟩ = some (.int .i64 m) := HA0.out.cell 2
  have a3 : w0.cell? ⟨w.heap.size, 3, none⟩ = some (.int .i64 v.k) := HA0.out.cell 3
  have a4 : w0.cell? ⟨w.heap.size, 4, none⟩ = some (.int .i64 v.p) := HA0.out.cell 4
  have a5 : w0.cell? ⟨w.heap.size, 5, none⟩ = some (.int .i64 v.q) := HA0.out.cell 5
  have a6 : w0.cell? ⟨w.heap.size, 6, none⟩ = some (.string v.s) := HA0.out.cell 6
  have a7 : w0.cell? ⟨w.heap.size, 7, none⟩ = some (.int .i64 v.r) := HA0.out.cell 7
  have la := HA0.out.lt
  go_wp2_with (go_at_call 31; (with_reducible refine (Q.out).mono ?_); rintro e w1 ⟨rfl, hs⟩; have HS := Lib.hid hs; have HR1 : Hid (Blk 35 (w.heap.size + 1) #[.int .i64 0, .int .i64 0, .int .i64 0, .string ⟨#[]⟩, .int .i64 0] w1) := Lib.hid (HR0.out.ch hs (not_nil _)); have b0 : w1.cell? ⟨w.heap.size + 1, 0, none⟩ = some (.int .i64 0) := HR1.out.cell 0; have b1 : w1.cell? ⟨w.heap.size + 1, 1, none⟩ = some (.int .i64 0) := HR1.out.cell 1; have b2 : w1.cell? ⟨w.heap.size + 1, 2, none⟩ = some (.int .i64 0) := HR1.out.cell 2; have b3 : w1.cell? ⟨w.heap.size + 1, 3, none⟩ = some (.string ⟨#[]⟩) := HR1.out.cell 3; have b4 : w1.cell? ⟨w.heap.size + 1, 4, none⟩ = some (.int .i64 0) := HR1.out.cell 4; have fz0 := HR1.out.fz 0; have fz1 := HR1.out.fz 1; have fz2 := HR1.out.fz 2; have fz3 := HR1.out.fz 3; have fz4 := HR1.out.fz 4; have lb := HR1.out.lt; clear hs)
  show bodyPost _ _ _ Exit.ret _ (st5 w1 (w.heap.size + 1) (.int .i64 0) (.int .i64 0) (.int .i64 0) (.string ⟨#[]⟩) (.int .i64 0))
  have I1 : Blk 35 (w.heap.size + 1) #[.int .i64 0, .int .i64 0, .int .i64 0, .string ⟨#[]⟩, .int .i64 0] (st5 w1 (w.heap.size + 1) (.int .i64 0) (.int .i64 0) (.int .i64 0) (.string ⟨#[]⟩) (.int .i64 0)) := st5_blk HR1.out
  have hC : Ch [w.heap.size + 1] w1 (st5 w1 (w.heap.size + 1) (.int .i64 0) (.int .i64 0) (.int .i64 0) (.string ⟨#[]⟩) (.int .i64 0)) := st5_ch (Ch.refl _ _) (.inl (by simp))
  have y0 : (st5 w1 (w.heap.size + 1) (.int .i64 0) (.int .i64 0) (.int .i64 0) (.string ⟨#[]⟩) (.int .i64 0)).cell? ⟨(w.heap.size + 1), 0, none⟩ = some (.int .i64 0) := I1.cell 0
  have y1 : (st5 w1 (w.heap.size + 1) (.int .i64 0) (.int .i64 0) (.int .i64 0) (.string ⟨#[]⟩) (.int .i64 0)).cell? ⟨(w.heap.size + 1), 1, none⟩ = some (.int .i64 0) := I1.cell 1
  have y2 : (st5 w1 (w.heap.size + 1) (.int .i64 0) (.int .i64 0) (.int .i64 0) (.string ⟨#[]⟩) (.int .i64 0)).cell? ⟨(w.heap.size + 1), 2, none⟩ = some (.int .i64 0) := I1.cell 2
  have y3 : (st5 w1 (w.heap.size + 1) (.int .i64 0) (.int .i64 0) (.int .i64 0) (.string ⟨#[]⟩) (.int .i64 0)).cell? ⟨(w.heap.size + 1), 3, none⟩ = some (.string ⟨#[]⟩) := I1.cell 3
  have y4 : (st5 w1 (w.heap.size + 1) (.int .i64 0) (.int .i64 0) (.int .i64 0) (.string ⟨#[]⟩) (.int .i64 0)).cell? ⟨(w.heap.size + 1), 4, none⟩ = some (.int .i64 0) := I1.cell 4
  have HF : Hid (Ch [] w (st5 w1 (w.heap.size + 1) (.int .i64 0) (.int .i64 0) (.int .i64 0) (.string ⟨#[]⟩) (.int .i64 0))) := Lib.hid ((HC0.out.trans HS.out).fresh (fun g hg => by simp at hg; omega) hC)
  generalize (st5 w1 (w.heap.size + 1) (.int .i64 0) (.int .i64 0) (.int .i64 0) (.string ⟨#[]⟩) (.int .i64 0)) = W9 at *
  refine bodyPost_ret (v := .tuple #[.int .i64 0, .agg #[.int .i64 0, .int .i64 0, .int .i64 0, .string ⟨#[]⟩, .int .i64 0], .int .i64 1]) (by simp [results, Try.results13, go_sem, y0, y1, y2, y3, y4]) rfl ⟨rfl, HF.out⟩
set_option maxHeartbeats 4000000 in
theorem cprog_nil2 (w : World) (n m : Int) (v : V5)  :
    Calls Try.prog 13 #[.pointer none, .agg #[.int .i64 2, .int .i64 n, .int .i64 m, .int .i64 v.k, .int .i64 v.p, .int .i64 v.q, .string v.s, .int .i64 v.r]] w fun e w' => e = .returned (.tuple #[.int .i64 0, .agg #[.int .i64 0, .int .i64 0, .int .i64 0, .string ⟨#[]⟩, .int .i64 0], .int .i64 1]) ∧ Ch [] w w' := by
  have HC0 : Hid (Ch [] w ((w.alloc (.cells #[.int .i64 2, .int .i64 n, .int .i64 m, .int .i64 v.k, .int .i64 v.p, .int .i64 v.q, .string v.s, .int .i64 v.r] 39)).alloc (.cells #[.int .i64 0, .int .i64 0, .int .i64 0, .string ⟨#[]⟩, .int .i64 0] 35))) := Lib.hid (((Ch.refl [] w).alloc _).alloc _)
  have HR0 : Hid (Blk 35 (w.heap.size + 1) #[.int .i64 0, .int .i64 0, .int .i64 0, .string ⟨#[]⟩, .int .i64 0] ((w.alloc (.cells #[.int .i64 2, .int .i64 n, .int .i64 m, .int .i64 v.k, .int .i64 v.p, .int .i64 v.q, .string v.s, .int .i64 v.r] 39)).alloc (.cells #[.int .i64 0, .int .i64 0, .int .i64 0, .string ⟨#[]⟩, .int .i64 0] 35))) := Lib.hid (Blk.new _ _ _ _ (by simp))
  have HA0 : Hid (Blk 39 w.heap.size #[.int .i64 2, .int .i64 n, .int .i64 m, .int .i64 v.k, .int .i64 v.p, .int .i64 v.q, .string v.s, .int .i64 v.r] ((w.alloc (.cells #[.int .i64 2, .int .i64 n, .int .i64 m, .int .i64 v.k, .int .i64 v.p, .int .i64 v.q, .string v.s, .int .i64 v.r] 39)).alloc (.cells #[.int .i64 0, .int .i64 0, .int .i64 0, .string ⟨#[]⟩, .int .i64 0] 35))) := Lib.hid ((Blk.new w 39 #[.int .i64 2, .int .i64 n, .int .i64 m, .int .i64 v.k, .int .i64 v.p, .int .i64 v.q, .string v.s, .int .i64 v.r] _ rfl).ch ((Ch.refl [] _).alloc _) (not_nil _))
  have Q : Hid (Calls Try.prog 30 #[.pointer none, .int .i64 n] ((w.alloc (.cells #[.int .i64 2, .int .i64 n, .int .i64 m, .int .i64 v.k, .int .i64 v.p, .int .i64 v.q, .string v.s, .int .i64 v.r] 39)).alloc (.cells #[.int .i64 0, .int .i64 0, .int .i64 0, .string ⟨#[]⟩, .int .i64 0] 35)) fun e w' => e = .returned (.int .i64 1) ∧ Ch [] ((w.alloc (.cells #[.int .i64 2, .int .i64 n, .int .i64 m, .int .i64 v.k, .int .i64 v.p, .int .i64 v.q, .string v.s, .int .i64 v.r] 39)).alloc (.cells #[.int .i64 0, .int .i64 0, .int .i64 0, .string ⟨#[]⟩, .int .i64 0] 35)) w') := Lib.hid (by
    generalize ((w.alloc (.cells #[.int .i64 2, .int .i64 n, .int .i64 m, .int .i64 v.k, .int .i64 v.p, .int .i64 v.q, .string v.s, .int .i64 v.r] 39)).alloc (.cells #[.int .i64 0, .int .i64 0, .int .i64 0, .string ⟨#[]⟩, .int .i64 0] 35)) = W at *
    exact (settop_nil n W).mono fun e w' hh => ⟨hh.1, by rw [hh.2]; exact Ch.refl _ _⟩)
  go_enter Try.func13, Try.ntmps13
  go_upto_region 1 with fail
  generalize ((w.alloc (.cells #[.int .i64 2, .int .i64 n, .int .i64 m, .int .i64 v.k, .int .i64 v.p, .int .i64 v.q, .string v.s, .int .i64 v.r] 39)).alloc (.cells #[.int .i64 0, .int .i64 0, .int .i64 0, .string ⟨#[]⟩, .int .i64 0] 35)) = w0 at *
  have a0 : w0.cell? ⟨w.heap.size, 0, none⟩ = some (.int .i64 2) := HA0.out.cell 0
  have a1 : w0.cell? ⟨w.heap.size, 1, none⟩ = some (.int .i64 n) := HA0.out.cell 1
  have a2 : w0.cell? ⟨w.heap.size, 2, none⟩ = some (.int .i64 m) := HA0.out.cell 2
  have a3 : w0.cell? ⟨w.heap.size, 3, none⟩ = some (.int .i64 v.k) := HA0.out.cell 3
  have a4 : w0.cell? ⟨w.heap.size, 4, none⟩ = some (.int .i64 v.p) := HA0.out.cell 4
  have a5 : w0.cell? ⟨w.heap.size, 5, none⟩ = some (.int .i64 v.q) := HA0.out.cell 5
  have a6 : w0.cell? ⟨w.heap.size, 6, none⟩ = some (.string v.s) := HA0.out.cell 6
  have a7 : w0.cell? ⟨w.heap.size, 7, none⟩ = some (.int .i64 v.r) := HA0.out.cell 7
  have la := HA0.out.lt
  go_wp2_with (go_at_call 30; (with_reducible refine (Q.out).mono ?_); rintro e w1 ⟨rfl, hs⟩; have HS := Lib.hid hs; have HR1 : Hid (Blk 35 (w.heap.size + 1) #[.int .i64 0, .int .i64 0, .int .i64 0, .string ⟨#[]⟩, .int .i64 0] w1) := Lib.hid (HR0.out.ch hs (not_nil _)); have b0 : w1.cell? ⟨w.heap.size + 1, 0, none⟩ = some (.int .i64 0) := HR1.out.cell 0; have b1 : w1.cell? ⟨w.heap.size + 1, 1, none⟩ = some (.int .i64 0) := HR1.out.cell 1; have b2 : w1.cell? ⟨w.heap.size + 1, 2, none⟩ = some (.int .i64 0) := HR1.out.cell 2; have b3 : w1.cell? ⟨w.heap.size + 1, 3, none⟩ = some (.string ⟨#[]⟩) := HR1.out.cell 3; have b4 : w1.cell? ⟨w.heap.size + 1, 4, none⟩ = some (.int .i64 0) := HR1.out.cell 4; have fz0 := HR1.out.fz 0; have fz1 := HR1.out.fz 1; have fz2 := HR1.out.fz 2; have fz3 := HR1.out.fz 3; have fz4 := HR1.out.fz 4; have lb := HR1.out.lt; clear hs)
  show bodyPost _ _ _ Exit.ret _ (st5 w1 (w.heap.size + 1) (.int .i64 0) (.int .i64 0) (.int .i64 0) (.string ⟨#[]⟩) (.int .i64 0))
  have I1 : Blk 35 (w.heap.size + 1) #[.int .i64 0, .int .i64 0, .int .i64 0, .string ⟨#[]⟩, .int .i64 0] (st5 w1 (w.heap.size + 1) (.int .i64 0) (.int .i64 0) (.int .i64 0) (.string ⟨#[]⟩) (.int .i64 0)) := st5_blk HR1.out
  have hC : Ch [w.heap.size + 1] w1 (st5 w1 (w.heap.size + 1) (.int .i64 0) (.int .i64 0) (.int .i64 0) (.string ⟨#[]⟩) (.int .i64 0)) := st5_ch (Ch.refl _ _) (.inl (by simp))
  have y0 : (st5 w1 (w.heap.size + 1) (.int .i64 0) (.int .i64 0) (.int .i64 0) (.string ⟨#[]⟩) (.int .i64 0)).cell? ⟨(w.heap.size + 1), 0, none⟩ = some (.int .i64 0) := I1.cell 0
  have y1 : (st5 w1 (w.heap.size + 1) (.int .i64 0) (.int .i64 0) (.int .i64 0) (.string ⟨#[]⟩) (.int .i64 0)).cell? ⟨(w.heap.size + 1), 1, none⟩ = some (.int .i64 0) := I1.cell 1
  have y2 : (st5 w1 (w.heap.size + 1) (.int .i64 0) (.int .i64 0) (.int .i64 0) (.string ⟨#[]⟩) (.int .i64 0)).cell? ⟨(w.heap.size + 1), 2, none⟩ = some (.int .i64 0) := I1.cell 2
  have y3 : (st5 w1 (w.heap.size + 1) (.int .i64 0) (.int .i64 0) (.int .i64 0) (.string ⟨#[]⟩) (.int .i64 0)).cell? ⟨(w.heap.size + 1), 3, none⟩ = some (.string ⟨#[]⟩) := I1.cell 3
  have y4 : (st5 w1 (w.heap.size + 1) (.int .i64 0) (.int .i64 0) (.int .i64 0) (.string ⟨#[]⟩) (.int .i64 0)).cell? ⟨(w.heap.size + 1), 4, none⟩ = some (.int .i64 0) := I1.cell 4
  have HF : Hid (Ch [] w (st5 w1 (w.heap.size + 1) (.int .i64 0) (.int .i64 0) (.int .i64 0) (.string ⟨#[]⟩) (.int .i64 0))) := Lib.hid ((HC0.out.trans HS.out).fresh (fun g hg => by simp at hg; omega) hC)
  generalize (st5 w1 (w.heap.size + 1) (.int .i64 0) (.int .i64 0) (.int .i64 0) (.string ⟨#[]⟩) (.int .i64 0)) = W9 at *
  refine bodyPost_ret (v := .tuple #[.int .i64 0, .agg #[.int .i64 0, .int .i64 0, .int .i64 0, .string ⟨#[]⟩, .int .i64 0], .int .i64 1]) (by simp [results, Try.results13, go_sem, y0, y1, y2, y3, y4]) rfl ⟨rfl, HF.out⟩
set_option maxHeartbeats 4000000 in
theorem cprog_nil3 (w : World) (n m : Int) (v : V5)  :
    Calls Try.prog 13 #[.pointer none, .agg #[.int .i64 3, .int .i64 n, .int .i64 m, .int .i64 v.k, .int .i64 v.p, .int .i64 v.q, .string v.s, .int .i64 v.r]] w fun e w' => e = .returned (.tuple #[.int .i64 0, .agg #[.int .i64 0, .int .i64 0, .int .i64 0, .string ⟨#[]⟩, .int .i64 0], .int .i64 1]) ∧ Ch [] w w' := by
  have HC0 : Hid (Ch [] w ((w.alloc (.cells #[.int .i64 3, .int .i64 n, .int .i64 m, .int .i64 v.k, .int .i64 v.p, .int .i64 v.q, .string v.s, .int .i64 v.r] 39)).alloc (.cells #[.int .i64 0, .int .i64 0, .int .i64 0, .string ⟨#[]⟩, .int .i64 0] 35))) := Lib.hid (((Ch.refl [] w).alloc _).alloc _)
  have HR0 : Hid (Blk 35 (w.heap.size + 1) #[.int .i64 0, .int .i64 0, .int .i64 0, .string ⟨#[]⟩, .int .i64 0] ((w.alloc (.cells #[.int .i64 3, .int .i64 n, .int .i64 m, .int .i64 v.k, .int .i64 v.p, .int .i64 v.q, .string v.s, .int .i64 v.r] 39)).alloc (.cells #[.int .i64 0, .int .i64 0, .int .i64 0, .string ⟨#[]⟩, .int .i64 0] 35))) := Lib.hid (Blk.new _ _ _ _ (by simp))
  have HA0 : Hid (Blk 39 w.heap.size #[.int .i64 3, .int .i64 n, .int .i64 m, .int .i64 v.k, .int .i64 v.p, .int .i64 v.q, .string v.s, .int .i64 v.r] ((w.alloc (.cells #[.int .i64 3, .int .i64 n, .int .i64 m, .int .i64 v.k, .int .i64 v.p, .int .i64 v.q, .string v.s, .int .i64 v.r] 39)).alloc (.cells #[.int .i64 0, .int .i64 0, .int .i64 0, .string ⟨#[]⟩, .int .i64 0] 35))) := Lib.hid ((Blk.new w 39 #[.int .i64 3, .int .i64 n, .int .i64 m, .int .i64 v.k, .int .i64 v.p, .int .i64 v.q, .string v.s, .int .i64 v.r] _ rfl).ch ((Ch.refl [] _).alloc _) (not_nil _))
  have Q : Hid (Calls Try.prog 32 #[.pointer none, .int .i64 n] ((w.alloc (.cells #[.int .i64 3, .int .i64 n, .int .i64 m, .int .i64 v.k, .int .i64 v.p, .int .i64 v.q, .string v.s, .int .i64 v.r] 39)).alloc (.cells #[.int .i64 0, .int .i64 0, .int .i64 0, .string ⟨#[]⟩, .int .i64 0] 35)) fun e w' => e = .returned (.tuple #[.int .i64 0, .int .i64 1]) ∧ Ch [] ((w.alloc (.cells #[.int .i64 3, .int .i64 n, .int .i64 m, .int .i64 v.k, .int .i64 v.p, .int .i64 v.q, .string v.s, .int .i64 v.r] 39)).alloc (.cells #[.int .i64 0, .int .i64 0, .int .i64 0, .string ⟨#[]⟩, .int .i64 0] 35)) w') := Lib.hid (by
    generalize ((w.alloc (.cells #[.int .i64 3, .int .i64 n, .int .i64 m, .int .i64 v.k, .int .i64 v.p, .int .i64 v.q, .string v.s, .int .i64 v.r] 39)).alloc (.cells #[.int .i64 0, .int .i64 0, .int .i64 0, .string ⟨#[]⟩, .int .i64 0] 35)) = W at *
    exact (abs_nil n W).mono fun e w' hh => ⟨hh.1, by rw [hh.2]; exact Ch.refl _ _⟩)
  go_enter Try.func13, Try.ntmps13
  go_upto_region 1 with fail
  generalize ((w.alloc (.cells #[.int .i64 3, .int .i64 n, .int .i64 m, .int .i64 v.k, .int .i64 v.p, .int .i64 v.q, .string v.s, .int .i64 v.r] 39)).alloc (.cells #[.int .i64 0, .int .i64 0, .int .i64 0, .string ⟨#[]⟩, .int .i64 0] 35)) = w0 at *
  have a0 : w0.cell? ⟨w.heap.size, 0, none⟩ = some (.int .i64 3) := HA0.out.cell 0
  have a1 : w0.cell? ⟨w.heap.size, 1, none⟩ = some (.int .i64 n) := HA0.out.cell 1
  have a2 : w0.cell? ⟨w.heap.size, 2, none⟩ = some (.int .i64 m) := HA0.out.cell 2
  have a3 : w0.cell? ⟨w.heap.size, 3, none⟩ = some (.int .i64 v.k) := HA0.out.cell 3
  have a4 : w0.cell? ⟨w.heap.size, 4, none⟩ = some (.int .i64 v.p) := HA0.out.cell 4
  have a5 : w0.cell? ⟨w.heap.size, 5, none⟩ = some (.int .i64 v.q) := HA0.out.cell 5
  have a6 : w0.cell? ⟨w.heap.size, 6, none⟩ = some (.string v.s) := HA0.out.cell 6
  have a7 : w0.cell? ⟨w.heap.size, 7, none⟩ = some (.int .i64 v.r) := HA0.out.cell 7
  have la := HA0.out.lt
  go_wp2_with (go_at_call 32; (with_reducible refine (Q.out).mono ?_); rintro e w1 ⟨rfl, hs⟩; have HS := Lib.hid hs; have HR1 : Hid (Blk 35 (w.heap.size + 1) #[.int .i64 0, .int .i64 0, .int .i64 0, .string ⟨#[]⟩, .int .i64 0] w1) := Lib.hid (HR0.out.ch hs (not_nil _)); have b0 : w1.cell? ⟨w.heap.size + 1, 0, none⟩ = some (.int .i64 0) := HR1.out.cell 0; have b1 : w1.cell? ⟨w.heap.size + 1, 1, none⟩ = some (.int .i64 0) := HR1.out.cell 1; have b2 : w1.cell? ⟨w.heap.size + 1, 2, none⟩ = some (.int .i64 0) := HR1.out.cell 2; have b3 : w1.cell? ⟨w.heap.size + 1, 3, none⟩ = some (.string ⟨#[]⟩) := HR1.out.cell 3; have b4 : w1.cell? ⟨w.heap.size + 1, 4, none⟩ = some (.int .i64 0) := HR1.out.cell 4; have fz0 := HR1.out.fz 0; have fz1 := HR1.out.fz 1; have fz2 := HR1.out.fz 2; have fz3 := HR1.out.fz 3; have fz4 := HR1.out.fz 4; have lb := HR1.out.lt; clear hs)
  show bodyPost _ _ _ Exit.ret _ (st5 w1 (w.heap.size + 1) (.int .i64 0) (.int .i64 0) (.int .i64 0) (.string ⟨#[]⟩) (.int .i64 0))
  have I1 : Blk 35 (w.heap.size + 1) #[.int .i64 0, .int .i64 0, .int .i64 0, .string ⟨#[]⟩, .int .i64 0] (st5 w1 (w.heap.size + 1) (.int .i64 0) (.int .i64 0) (.int .i64 0) (.string ⟨#[]⟩) (.int .i64 0)) := st5_blk HR1.out
  have hC : Ch [w.heap.size + 1] w1 (st5 w1 (w.heap.size + 1) (.int .i64 0) (.int .i64 0) (.int .i64 0) (.string ⟨#[]⟩) (.int .i64 0)) := st5_ch (Ch.refl _ _) (.inl (by simp))
  have y0 : (st5 w1 (w.heap.size + 1) (.int .i64 0) (.int .i64 0) (.int .i64 0) (.string ⟨#[]⟩) (.int .i64 0)).cell? ⟨(w.heap.size + 1), 0, none⟩ = some (.int .i64 0) := I1.cell 0
  have y1 : (st5 w1 (w.heap.size + 1) (.int .i64 0) (.int .i64 0) (.int .i64 0) (.string ⟨#[]⟩) (.int .i64 0)).cell? ⟨(w.heap.size + 1), 1, none⟩ = some (.int .i64 0) := I1.cell 1
  have y2 : (st5 w1 (w.heap.size + 1) (.int .i64 0) (.int .i64 0) (.int .i64 0) (.string ⟨#[]⟩) (.int .i64 0)).cell? ⟨(w.heap.size + 1), 2, none⟩ = some (.int .i64 0) := I1.cell 2
  have y3 : (st5 w1 (w.heap.size + 1) (.int .i64 0) (.int .i64 0) (.int .i64 0) (.string ⟨#[]⟩) (.int .i64 0)).cell? ⟨(w.heap.size + 1), 3, none⟩ = some (.string ⟨#[]⟩) := I1.cell 3
  have y4 : (st5 w1 (w.heap.size + 1) (.int .i64 0) (.int .i64 0) (.int .i64 0) (.string ⟨#[]⟩) (.int .i64 0)).cell? ⟨(w.heap.size + 1), 4, none⟩ = some (.int .i64 0) := I1.cell 4
  have HF : Hid (Ch [] w (st5 w1 (w.heap.size + 1) (.int .i64 0) (.int .i64 0) (.int .i64 0) (.string ⟨#[]⟩) (.int .i64 0))) := Lib.hid ((HC0.out.trans HS.out).fresh (fun g hg => by simp at hg; omega) hC)
  generalize (st5 w1 (w.heap.size + 1) (.int .i64 0) (.int .i64 0) (.int .i64 0) (.string ⟨#[]⟩) (.int .i64 0)) = W9 at *
  refine bodyPost_ret (v := .tuple #[.int .i64 0, .agg #[.int .i64 0, .int .i64 0, .int .i64 0, .string ⟨#[]⟩, .int .i64 0], .int .i64 1]) (by simp [results, Try.results13, go_sem, y0, y1, y2, y3, y4]) rfl ⟨rfl, HF.out⟩
set_option maxHeartbeats 4000000 in
theorem cprog_nil4 (w : World) (n m : Int) (v : V5)  :
    Calls Try.prog 13 #[.pointer none, .agg #[.int .i64 4, .int .i64 n, .int .i64 m, .int .i64 v.k, .int .i64 v.p, .int .i64 v.q, .string v.s, .int .i64 v.r]] w fun e w' => e = .returned (.tuple #[.int .i64 0, .agg #[.int .i64 0, .int .i64 0, .int .i64 0, .string ⟨#[]⟩, .int .i64 0], .int .i64 1]) ∧ Ch [] w w' := by
  have HC0 : Hid (Ch [] w ((w.alloc (.cells #[.int .i64 4, .int .i64 n, .int .i64 m, .int .i64 v.k, .int .i64 v.p, .int .i64 v.q, .string v.s, .int .i64 v.r] 39)).alloc (.cells #[.int .i64 0, .int .i64 0, .int .i64 0, .string ⟨#[]⟩, .int .i64 0] 35))) := Lib.hid (((Ch.refl [] w).alloc _).alloc _)
  have HR0 : Hid (Blk 35 (w.heap.size + 1) #[.int .i64 0, .int .i64 0, .int .i64 0, .string ⟨#[]⟩, .int .i64 0] ((w.alloc (.cells #[.int .i64 4, .int .i64 n, .int .i64 m, .int .i64 v.k, .int .i64 v.p, .int .i64 v.q, .string v.s, .int .i64 v.r] 39)).alloc (.cells #[.int .i64 0, .int .i64 0, .int .i64 0, .string ⟨#[]⟩, .int .i64 0] 35))) := Lib.hid (Blk.new _ _ _ _ (by simp))
  have HA0 : Hid (Blk 39 w.heap.size #[.int .i64 4, .int .i64 n, .int .i64 m, .int .i64 v.k, .int .i64 v.p, .int .i64 v.q, .string v.s, .int .i64 v.r] ((w.alloc (.cells #[.int .i64 4, .int .i64 n, .int .i64 m, .int .i64 v.k, .int .i64 v.p, .int .i64 v.q, .string v.s, .int .i64 v.r] 39)).alloc (.cells #[.int .i64 0, .int .i64 0, .int .i64 0, .string ⟨#[]⟩, .int .i64 0] 35))) := Lib.hid ((Blk.new w 39 #[.int .i64 4, .int .i64 n, .int .i64 m, .int .i64 v.k, .int .i64 v.p, .int .i64 v.q, .string v.s, .int .i64 v.r] _ rfl).ch ((Ch.refl [] _).alloc _) (not_nil _))
  have Q : Hid (Calls Try.prog 22 #[.pointer none, .int .i64 n] ((w.alloc (.cells #[.int .i64 4, .int .i64 n, .int .i64 m, .int .i64 v.k, .int .i64 v.p, .int .i64 v.q, .string v.s, .int .i64 v.r] 39)).alloc (.cells #[.int .i64 0, .int .i64 0, .int .i64 0, .string ⟨#[]⟩, .int .i64 0] 35)) fun e w' => e = .returned (.tuple #[.agg #[.int .i64 0, .int .i64 0, .int .i64 0, .string ⟨#[]⟩, .int .i64 0], .int .i64 1]) ∧ Ch [] ((w.alloc (.cells #[.int .i64 4, .int .i64 n, .int .i64 m, .int .i64 v.k, .int .i64 v.p, .int .i64 v.q, .string v.s, .int .i64 v.r] 39)).alloc (.cells #[.int .i64 0, .int .i64 0, .int .i64 0, .string ⟨#[]⟩, .int .i64 0] 35)) w') := Lib.hid (by
    generalize ((w.alloc (.cells #[.int .i64 4, .int .i64 n, .int .i64 m, .int .i64 v.k, .int .i64 v.p, .int .i64 v.q, .string v.s, .int .i64 v.r] 39)).alloc (.cells #[.int .i64 0, .int .i64 0, .int .i64 0, .string ⟨#[]⟩, .int .i64 0] 35)) = W at *
    exact (at_nil W n).mono fun e w' hh => ⟨hh.1, Ch.of_below hh.2⟩)
  go_enter Try.func13, Try.ntmps13
  go_upto_region 1 with fail
  generalize ((w.alloc (.cells #[.int .i64 4, .int .i64 n, .int .i64 m, .int .i64 v.k, .int .i64 v.p, .int .i64 v.q, .string v.s, .int .i64 v.r] 39)).alloc (.cells #[.int .i64 0, .int .i64 0, .int .i64 0, .string ⟨#[]⟩, .int .i64 0] 35)) = w0 at *
  have a0 : w0.cell? ⟨w.heap.size, 0, none⟩ = some (.int .i64 4) := HA0.out.cell 0
  have a1 : w0.cell? ⟨w.heap.size, 1, none⟩ = some (.int .i64 n) := HA0.out.cell 1
  have a2 : w0.cell? ⟨w.heap.size, 2, none⟩ = some (.int .i64 m) := HA0.out.cell 2
  have a3 : w0.cell? ⟨w.heap.size, 3, none⟩ = some (.int .i64 v.k) := HA0.out.cell 3
  have a4 : w0.cell? ⟨w.heap.size, 4, none⟩ = some (.int .i64 v.p) := HA0.out.cell 4
  have a5 : w0.cell? ⟨w.heap.size, 5, none⟩ = some (.int .i64 v.q) := HA0.out.cell 5
  have a6 : w0.cell? ⟨w.heap.size, 6, none⟩ = some (.string v.s) := HA0.out.cell 6
  have a7 : w0.cell? ⟨w.heap.size, 7, none⟩ = some (.int .i64 v.r) := HA0.out.cell 7
  have la := HA0.out.lt
  go_upto_region 13 with (go_at_call 22; (with_reducible refine (Q.out).mono ?_); rintro e w1 ⟨rfl, hs⟩; have HS := Lib.hid hs; have HR1 : Hid (Blk 35 (w.heap.size + 1) #[.int .i64 0, .int .i64 0, .int .i64 0, .string ⟨#[]⟩, .int .i64 0] w1) := Lib.hid (HR0.out.ch hs (not_nil _)); have b0 : w1.cell? ⟨w.heap.size + 1, 0, none⟩ = some (.int .i64 0) := HR1.out.cell 0; have b1 : w1.cell? ⟨w.heap.size + 1, 1, none⟩ = some (.int .i64 0) := HR1.out.cell 1; have b2 : w1.cell? ⟨w.heap.size + 1, 2, none⟩ = some (.int .i64 0) := HR1.out.cell 2; have b3 : w1.cell? ⟨w.heap.size + 1, 3, none⟩ = some (.string ⟨#[]⟩) := HR1.out.cell 3; have b4 : w1.cell? ⟨w.heap.size + 1, 4, none⟩ = some (.int .i64 0) := HR1.out.cell 4; have fz0 := HR1.out.fz 0; have fz1 := HR1.out.fz 1; have fz2 := HR1.out.fz 2; have fz3 := HR1.out.fz 3; have fz4 := HR1.out.fz 4; have lb := HR1.out.lt; clear hs)
  have HR2 : Hid (Blk 35 (w.heap.size + 1) #[.int .i64 0, .int .i64 0, .int .i64 0, .string ⟨#[]⟩, .int .i64 0] (w1.alloc (.cells #[.int .i64 0, .int .i64 0, .int .i64 0, .string ⟨#[]⟩, .int .i64 0] 35))) := Lib.hid (HR1.out.ch ((Ch.refl [] _).alloc _) (not_nil _))
  have HN2 : Hid (Blk 35 w1.heap.size #[.int .i64 0, .int .i64 0, .int .i64 0, .string ⟨#[]⟩, .int .i64 0] (w1.alloc (.cells #[.int .i64 0, .int .i64 0, .int .i64 0, .string ⟨#[]⟩, .int .i64 0] 35))) := Lib.hid (Blk.new _ _ _ _ rfl)
  have HS2 : Hid (Ch [] w0 (w1.alloc (.cells #[.int .i64 0, .int .i64 0, .int .i64 0, .string ⟨#[]⟩, .int .i64 0] 35))) := Lib.hid (HS.out.alloc (.cells #[.int .i64 0, .int .i64 0, .int .i64 0, .string ⟨#[]⟩, .int .i64 0] 35))
  have hne : ¬ w.heap.size + 1 = w1.heap.size := by have := HR1.out.lt; omega
  have hne2 : ¬ w1.heap.size = w.heap.size + 1 := by omega
  clear b0 b1 b2 b3 b4 fz0 fz1 fz2 fz3 fz4 lb
  obtain ⟨n1, hn1⟩ : ∃ n1, n1 = w1.heap.size := ⟨_, rfl⟩
  rw [← hn1] at hne hne2 HN2 ⊢
  generalize (w1.alloc (.cells #[.int .i64 0, .int .i64 0, .int .i64 0, .string ⟨#[]⟩, .int .i64 0] 35)) = w2 at *
  have HN1 := Lib.hid hn1
  clear hn1
  have b0 : w2.cell? ⟨w.heap.size + 1, 0, none⟩ = some (.int .i64 0) := HR2.out.cell 0
  have b1 : w2.cell? ⟨w.heap.size + 1, 1, none⟩ = some (.int .i64 0) := HR2.out.cell 1
  have b2 : w2.cell? ⟨w.heap.size + 1, 2, none⟩ = some (.int .i64 0) := HR2.out.cell 2
  have b3 : w2.cell? ⟨w.heap.size + 1, 3, none⟩ = some (.string ⟨#[]⟩) := HR2.out.cell 3
  have b4 : w2.cell? ⟨w.heap.size + 1, 4, none⟩ = some (.int .i64 0) := HR2.out.cell 4
  have fz0 := HR2.out.fz 0
  have fz1 := HR2.out.fz 1
  have fz2 := HR2.out.fz 2
  have fz3 := HR2.out.fz 3
  have fz4 := HR2.out.fz 4
  have lb := HR2.out.lt
  have d0 : w2.cell? ⟨n1, 0, none⟩ = some (.int .i64 0) := HN2.out.cell 0
  have d1 : w2.cell? ⟨n1, 1, none⟩ = some (.int .i64 0) := HN2.out.cell 1
  have d2 : w2.cell? ⟨n1, 2, none⟩ = some (.int .i64 0) := HN2.out.cell 2
  have d3 : w2.cell? ⟨n1, 3, none⟩ = some (.string ⟨#[]⟩) := HN2.out.cell 3
  have d4 : w2.cell? ⟨n1, 4, none⟩ = some (.int .i64 0) := HN2.out.cell 4
  have ld := HN2.out.lt
  go_region
  go_wp2
  show bodyPost _ _ _ Exit.ret _ ((st5 w2 (w.heap.size + 1) (.int .i64 0) (.int .i64 0) (.int .i64 0) (.string ⟨#[]⟩) (.int .i64 0)).drew)
  have I1 : Blk 35 (w.heap.size + 1) #[.int .i64 0, .int .i64 0, .int .i64 0, .string ⟨#[]⟩, .int .i64 0] ((st5 w2 (w.heap.size + 1) (.int .i64 0) (.int .i64 0) (.int .i64 0) (.string ⟨#[]⟩) (.int .i64 0)).drew) := (st5_blk HR2.out).ch ((Ch.refl [] _).drew) (not_nil _)
  have hC : Ch [w.heap.size + 1] w2 ((st5 w2 (w.heap.size + 1) (.int .i64 0) (.int .i64 0) (.int .i64 0) (.string ⟨#[]⟩) (.int .i64 0)).drew) := (st5_ch (Ch.refl _ _) (.inl (by simp))).drew
  have y0 : ((st5 w2 (w.heap.size + 1) (.int .i64 0) (.int .i64 0) (.int .i64 0) (.string ⟨#[]⟩) (.int .i64 0)).drew).cell? ⟨(w.heap.size + 1), 0, none⟩ = some (.int .i64 0) := I1.cell 0
  have y1 : ((st5 w2 (w.heap.size + 1) (.int .i64 0) (.int .i64 0) (.int .i64 0) (.string ⟨#[]⟩) (.int .i64 0)).drew).cell? ⟨(w.heap.size + 1), 1, none⟩ = some (.int .i64 0) := I1.cell 1
  have y2 : ((st5 w2 (w.heap.size + 1) (.int .i64 0) (.int .i64 0) (.int .i64 0) (.string ⟨#[]⟩) (.int .i64 0)).drew).cell? ⟨(w.heap.size + 1), 2, none⟩ = some (.int .i64 0) := I1.cell 2
  have y3 : ((st5 w2 (w.heap.size + 1) (.int .i64 0) (.int .i64 0) (.int .i64 0) (.string ⟨#[]⟩) (.int .i64 0)).drew).cell? ⟨(w.heap.size + 1), 3, none⟩ = some (.string ⟨#[]⟩) := I1.cell 3
  have y4 : ((st5 w2 (w.heap.size + 1) (.int .i64 0) (.int .i64 0) (.int .i64 0) (.string ⟨#[]⟩) (.int .i64 0)).drew).cell? ⟨(w.heap.size + 1), 4, none⟩ = some (.int .i64 0) := I1.cell 4
  have HF : Hid (Ch [] w ((st5 w2 (w.heap.size + 1) (.int .i64 0) (.int .i64 0) (.int .i64 0) (.string ⟨#[]⟩) (.int .i64 0)).drew)) := Lib.hid ((HC0.out.trans HS2.out).fresh (fun g hg => by simp at hg; omega) hC)
  generalize ((st5 w2 (w.heap.size + 1) (.int .i64 0) (.int .i64 0) (.int .i64 0) (.string ⟨#[]⟩) (.int .i64 0)).drew) = W9 at *
  refine bodyPost_ret (v := .tuple #[.int .i64 0, .agg #[.int .i64 0, .int .i64 0, .int .i64 0, .string ⟨#[]⟩, .int .i64 0], .int .i64 1]) (by simp [results, Try.results13, go_sem, y0, y1, y2, y3, y4]) rfl ⟨rfl, HF.out⟩
set_option maxHeartbeats 4000000 in
theorem cprog_nil5 (w : World) (n m : Int) (v : V5)  :
    Calls Try.prog 13 #[.pointer none, .agg #[.int .i64 5, .int .i64 n, .int .i64 m, .int .i64 v.k, .int .i64 v.p, .int .i64 v.q, .string v.s, .int .i64 v.r]] w fun e w' => e = .returned (.tuple #[.int .i64 0, .agg #[.int .i64 0, .int .i64 0, .int .i64 0, .string ⟨#[]⟩, .int .i64 0], .int .i64 1]) ∧ Ch [] w w' := by
  have HC0 : Hid (Ch [] w ((w.alloc (.cells #[.int .i64 5, .int .i64 n, .int .i64 m, .int .i64 v.k, .int .i64 v.p, .int .i64 v.q, .string v.s, .int .i64 v.r] 39)).alloc (.cells #[.int .i64 0, .int .i64 0, .int .i64 0, .string ⟨#[]⟩, .int .i64 0] 35))) := Lib.hid (((Ch.refl [] w).alloc _).alloc _)
  have HR0 : Hid (Blk 35 (w.heap.size + 1) #[.int .i64 0, .int .i64 0, .int .i64 0, .string ⟨#[]⟩, .int .i64 0] ((w.alloc (.cells #[.int .i64 5, .int .i64 n, .int .i64 m, .int .i64 v.k, .int .i64 v.p, .int .i64 v.q, .string v.s, .int .i64 v.r] 39)).alloc (.cells #[.int .i64 0, .int .i64 0, .int .i64 0, .string ⟨#[]⟩, .int .i64 0] 35))) := Lib.hid (Blk.new _ _ _ _ (by simp))
  have HA0 : Hid (Blk 39 w.heap.size #[.int .i64 5, .int .i64 n, .int .i64 m, .int .i64 v.k, .int .i64 v.p, .int .i64 v.q, .string v.s, .int .i64 v.r] ((w.alloc (.cells #[.int .i64 5, .int .i64 n, .int .i64 m, .int .i64 v.k, .int .i64 v.p, .int .i64 v.q, .string v.s, .int .i64 v.r] 39)).alloc (.cells #[.int .i64 0, .int .i64 0, .int .i64 0, .string ⟨#[]⟩, .int .i64 0] 35))) := Lib.hid ((Blk.new w 39 #[.int .i64 5, .int .i64 n, .int .i64 m, .int .i64 v.k, .int .i64 v.p, .int .i64 v.q, .string v.s, .int .i64 v.r] _ rfl).ch ((Ch.refl [] _).alloc _) (not_nil _))
  have Q : Hid (Calls Try.prog 29 #[.pointer none, .int .i64 n, .agg #[.int .i64 v.k, .int .i64 v.p, .int .i64 v.q, .string v.s, .int .i64 v.r]] ((w.alloc (.cells #[.int .i64 5, .int .i64 n, .int .i64 m, .int .i64 v.k, .int .i64 v.p, .int .i64 v.q, .string v.s, .int .i64 v.r] 39)).alloc (.cells #[.int .i64 0, .int .i64 0, .int .i64 0, .string ⟨#[]⟩, .int .i64 0] 35)) fun e w' => e = .returned (.int .i64 1) ∧ Ch [] ((w.alloc (.cells #[.int .i64 5, .int .i64 n, .int .i64 m, .int .i64 v.k, .int .i64 v.p, .int .i64 v.q, .string v.s, .int .i64 v.r] 39)).alloc (.cells #[.int .i64 0, .int .i64 0, .int .i64 0, .string ⟨#[]⟩, .int .i64 0] 35)) w') := Lib.hid (by
    generalize ((w.alloc (.cells #[.int .i64 5, .int .i64 n, .int .i64 m, .int .i64 v.k, .int .i64 v.p, .int .i64 v.q, .string v.s, .int .i64 v.r] 39)).alloc (.cells #[.int .i64 0, .int .i64 0, .int .i64 0, .string ⟨#[]⟩, .int .i64 0] 35)) = W at *
    exact (put_nil n v W).mono fun e w' hh => hh)
  go_enter Try.func13, Try.ntmps13
  go_upto_region 1 with fail
  generalize ((w.alloc (.cells #[.int .i64 5, .int .i64 n, .int .i64 m, .int .i64 v.k, .int .i64 v.p, .int .i64 v.q, .string v.s, .int .i64 v.r] 39)).alloc (.cells #[.int .i64 0, .int .i64 0, .int .i64 0, .string ⟨#[]⟩, .int .i64 0] 35)) = w0 at *
  have a0 : w0.cell? ⟨w.heap.size, 0, none⟩ = some (.int .i64 5) := HA0.out.cell 0
  have a1 : w0.cell? ⟨w.heap.size, 1, none⟩ = some (.int .i64 n) := HA0.out.cell 1
  have a2 : w0.cell? ⟨w.heap.size, 2, none⟩ = some (.int .i64 m) := HA0.out.cell 2
  have a3 : w0.cell? ⟨w.heap.size, 3, none⟩ = some (.int .i64 v.k) := HA0.out.cell 3
  have a4 : w0.cell? ⟨w.heap.size, 4, none⟩ = some (.int .i64 v.p) := HA0.out.cell 4
  have a5 : w0.cell? ⟨w.heap.size, 5, none⟩ = some (.int .i64 v.q) := HA0.out.cell 5
  have a6 : w0.cell? ⟨w.heap.size, 6, none⟩ = some (.string v.s) := HA0.out.cell 6
  have a7 : w0.cell? ⟨w.heap.size, 7, none⟩ = some (.int .i64 v.r) := HA0.out.cell 7
  have la := HA0.out.lt
  go_wp2_with (go_at_call 29; (with_reducible refine (Q.out).mono ?_); rintro e w1 ⟨rfl, hs⟩; have HS := Lib.hid hs; have HR1 : Hid (Blk 35 (w.heap.size + 1) #[.int .i64 0, .int .i64 0, .int .i64 0, .string ⟨#[]⟩, .int .i64 0] w1) := Lib.hid (HR0.out.ch hs (not_nil _)); have b0 : w1.cell? ⟨w.heap.size + 1, 0, none⟩ = some (.int .i64 0) := HR1.out.cell 0; have b1 : w1.cell? ⟨w.heap.size + 1, 1, none⟩ = some (.int .i64 0) := HR1.out.cell 1; have b2 : w1.cell? ⟨w.heap.size + 1, 2, none⟩ = some (.int .i64 0) := HR1.out.cell 2; have b3 : w1.cell? ⟨w.heap.size + 1, 3, none⟩ = some (.string ⟨#[]⟩) := HR1.out.cell 3; have b4 : w1.cell? ⟨w.heap.size + 1, 4, none⟩ = some (.int .i64 0) := HR1.out.cell 4; have fz0 := HR1.out.fz 0; have fz1 := HR1.out.fz 1; have fz2 := HR1.out.fz 2; have fz3 := HR1.out.fz 3; have fz4 := HR1.out.fz 4; have lb := HR1.out.lt; clear hs)
  show bodyPost _ _ _ Exit.ret _ (st5 w1 (w.heap.size + 1) (.int .i64 0) (.int .i64 0) (.int .i64 0) (.string ⟨#[]⟩) (.int .i64 0))
  have I1 : Blk 35 (w.heap.size + 1) #[.int .i64 0, .int .i64 0, .int .i64 0, .string ⟨#[]⟩, .int .i64 0] (st5 w1 (w.heap.size + 1) (.int .i64 0) (.int .i64 0) (.int .i64 0) (.string ⟨#[]⟩) (.int .i64 0)) := st5_blk HR1.out
  have hC : Ch [w.heap.size + 1] w1 (st5 w1 (w.heap.size + 1) (.int .i64 0) (.int .i64 0) (.int .i64 0) (.string ⟨#[]⟩) (.int .i64 0)) := st5_ch (Ch.refl _ _) (.inl (by simp))
  have y0 : (st5 w1 (w.heap.size + 1) (.int .i64 0) (.int .i64 0) (.int .i64 0) (.string ⟨#[]⟩) (.int .i64 0)).cell? ⟨(w.heap.size + 1), 0, none⟩ = some (.int .i64 0) := I1.cell 0
  have y1 : (st5 w1 (w.heap.size + 1) (.int .i64 0) (.int .i64 0) (.int .i64 0) (.string ⟨#[]⟩) (.int .i64 0)).cell? ⟨(w.heap.size + 1), 1, none⟩ = some (.int .i64 0) := I1.cell 1
  have y2 : (st5 w1 (w.heap.size + 1) (.int .i64 0) (.int .i64 0) (.int .i64 0) (.string ⟨#[]⟩) (.int .i64 0)).cell? ⟨(w.heap.size + 1), 2, none⟩ = some (.int .i64 0) := I1.cell 2
  have y3 : (st5 w1 (w.heap.size + 1) (.int .i64 0) (.int .i64 0) (.int .i64 0) (.string ⟨#[]⟩) (.int .i64 0)).cell? ⟨(w.heap.size + 1), 3, none⟩ = some (.string ⟨#[]⟩) := I1.cell 3
  have y4 : (st5 w1 (w.heap.size + 1) (.int .i64 0) (.int .i64 0) (.int .i64 0) (.string ⟨#[]⟩) (.int .i64 0)).cell? ⟨(w.heap.size + 1), 4, none⟩ = some (.int .i64 0) := I1.cell 4
  have HF : Hid (Ch [] w (st5 w1 (w.heap.size + 1) (.int .i64 0) (.int .i64 0) (.int .i64 0) (.string ⟨#[]⟩) (.int .i64 0))) := Lib.hid ((HC0.out.trans HS.out).fresh (fun g hg => by simp at hg; omega) hC)
  generalize (st5 w1 (w.heap.size + 1) (.int .i64 0) (.int .i64 0) (.int .i64 0) (.string ⟨#[]⟩) (.int .i64 0)) = W9 at *
  refine bodyPost_ret (v := .tuple #[.int .i64 0, .agg #[.int .i64 0, .int .i64 0, .int .i64 0, .string ⟨#[]⟩, .int .i64 0], .int .i64 1]) (by simp [results, Try.results13, go_sem, y0, y1, y2, y3, y4]) rfl ⟨rfl, HF.out⟩
set_option maxHeartbeats 4000000 in
theorem cprog_nil6 (w : World) (n m : Int) (v : V5)  :
    Calls Try.prog 13 #[.pointer none, .agg #[.int .i64 6, .int .i64 n, .int .i64 m, .int .i64 v.k, .int .i64 v.p, .int .i64 v.q, .string v.s, .int .i64 v.r]] w fun e w' => e = .returned (.tuple #[.int .i64 0, .agg #[.int .i64 0, .int .i64 0, .int .i64 0, .string ⟨#[]⟩, .int .i64 0], .int .i64 1]) ∧ Ch [] w w' := by
  have HC0 : Hid (Ch [] w ((w.alloc (.cells #[.int .i64 6, .int .i64 n, .int .i64 m, .int .i64 v.k, .int .i64 v.p, .int .i64 v.q, .string v.s, .int .i64 v.r] 39)).alloc (.cells #[.int .i64 0, .int .i64 0, .int .i64 0, .string ⟨#[]⟩, .int .i64 0] 35))) := Lib.hid (((Ch.refl [] w).alloc _).alloc _)
  have HR0 : Hid (Blk 35 (w.heap.size + 1) #[.int .i64 0, .int .i64 0, .int .i64 0, .string ⟨#[]⟩, .int .i64 0] ((w.alloc (.cells #[.int .i64 6, .int .i64 n, .int .i64 m, .int .i64 v.k, .int .i64 v.p, .int .i64 v.q, .string v.s, .int .i64 v.r] 39)).alloc (.cells #[.int .i64 0, .int .i64 0, .int .i64 0, .string ⟨#[]⟩, .int .i64 0] 35))) := Lib.hid (Blk.new _ _ _ _ (by simp))
  have HA0 : Hid (Blk 39 w.heap.size #[.int .i64 6, .int .i64 n, .int .i64 m, .int .i64 v.k, .int .i64 v.p, .int .i64 v.q, .string v.s, .int .i64 v.r] ((w.alloc (.cells #[.int .i64 6, .int .i64 n, .int .i64 m, .int .i64 v.k, .int .i64 v.p, .int .i64 v.q, .string v.s, .int .i64 v.r] 39)).alloc (.cells #[.int .i64 0, .int .i64 0, .int .i64 0, .string ⟨#[]⟩, .int .i64 0] 35))) := Lib.hid ((Blk.new w 39 #[.int .i64 6, .int .i64 n, .int .i64 m, .int .i64 v.k, .int .i64 v.p, .int .i64 v.q, .string v.s, .int .i64 v.r] _ rfl).ch ((Ch.refl [] _).alloc _) (not_nil _))
  have Q : Hid (Calls Try.prog 25 #[.pointer none, .int .i64 n] ((w.alloc (.cells #[.int .i64 6, .int .i64 n, .int .i64 m, .int .i64 v.k, .int .i64 v.p, .int .i64 v.q, .string v.s, .int .i64 v.r] 39)).alloc (.cells #[.int .i64 0, .int .i64 0, .int .i64 0, .string ⟨#[]⟩, .int .i64 0] 35)) fun e w' => e = .returned (.int .i64 1) ∧ Ch [] ((w.alloc (.cells #[.int .i64 6, .int .i64 n, .int .i64 m, .int .i64 v.k, .int .i64 v.p, .int .i64 v.q, .string v.s, .int .i64 v.r] 39)).alloc (.cells #[.int .i64 0, .int .i64 0, .int .i64 0, .string ⟨#[]⟩, .int .i64 0] 35)) w') := Lib.hid (by
    generalize ((w.alloc (.cells #[.int .i64 6, .int .i64 n, .int .i64 m, .int .i64 v.k, .int .i64 v.p, .int .i64 v.q, .string v.s, .int .i64 v.r] 39)).alloc (.cells #[.int .i64 0, .int .i64 0, .int .i64 0, .string ⟨#[]⟩, .int .i64 0] 35)) = W at *
    exact (insert_nil n W).mono fun e w' hh => ⟨hh.1, by rw [hh.2]; exact Ch.refl _ _⟩)
  go_enter Try.func13, Try.ntmps13
  go_upto_region 1 with fail
  generalize ((w.alloc (.cells #[.int .i64 6, .int .i64 n, .int .i64 m, .int .i64 v.k, .int .i64 v.p, .int .i64 v.q, .string v.s, .int .i64 v.r] 39)).alloc (.cells #[.int .i64 0, .int .i64 0, .int .i64 0, .string ⟨#[]⟩, .int .i64 0] 35)) = w0 at *
  have a0 : w0.cell? ⟨w.heap.size, 0, none⟩ = some (.int .i64 6) := HA0.out.cell 0
  have a1 : w0.cell? ⟨w.heap.size, 1, none⟩ = some (.int .i64 n) := HA0.out.cell 1
  have a2 : w0.cell? ⟨w.heap.size, 2, none⟩ = some (.int .i64 m) := HA0.out.cell 2
  have a3 : w0.cell? ⟨w.heap.size, 3, none⟩ = some (.int .i64 v.k) := HA0.out.cell 3
  have a4 : w0.cell? ⟨w.heap.size, 4, none⟩ = some (.int .i64 v.p) := HA0.out.cell 4
  have a5 : w0.cell? ⟨w.heap.size, 5, none⟩ = some (.int .i64 v.q) := HA0.out.cell 5
  have a6 : w0.cell? ⟨w.heap.size, 6, none⟩ = some (.string v.s) := HA0.out.cell 6
  have a7 : w0.cell? ⟨w.heap.size, 7, none⟩ = some (.int .i64 v.r) := HA0.out.cell 7
  have la := HA0.out.lt
  go_wp2_with (go_at_call 25; (with_reducible refine (Q.out).mono ?_); rintro e w1 ⟨rfl, hs⟩; have HS := Lib.hid hs; have HR1 : Hid (Blk 35 (w.heap.size + 1) #[.int .i64 0, .int .i64 0, .int .i64 0, .string ⟨#[]⟩, .int .i64 0] w1) := Lib.hid (HR0.out.ch hs (not_nil _)); have b0 : w1.cell? ⟨w.heap.size + 1, 0, none⟩ = some (.int .i64 0) := HR1.out.cell 0; have b1 : w1.cell? ⟨w.heap.size + 1, 1, none⟩ = some (.int .i64 0) := HR1.out.cell 1; have b2 : w1.cell? ⟨w.heap.size + 1, 2, none⟩ = some (.int .i64 0) := HR1.out.cell 2; have b3 : w1.cell? ⟨w.heap.size + 1, 3, none⟩ = some (.string ⟨#[]⟩) := HR1.out.cell 3; have b4 : w1.cell? ⟨w.heap.size + 1, 4, none⟩ = some (.int .i64 0) := HR1.out.cell 4; have fz0 := HR1.out.fz 0; have fz1 := HR1.out.fz 1; have fz2 := HR1.out.fz 2; have fz3 := HR1.out.fz 3; have fz4 := HR1.out.fz 4; have lb := HR1.out.lt; clear hs)
  show bodyPost _ _ _ Exit.ret _ (st5 w1 (w.heap.size + 1) (.int .i64 0) (.int .i64 0) (.int .i64 0) (.string ⟨#[]⟩) (.int .i64 0))
  have I1 : Blk 35 (w.heap.size + 1) #[.int .i64 0, .int .i64 0, .int .i64 0, .string ⟨#[]⟩, .int .i64 0] (st5 w1 (w.heap.size + 1) (.int .i64 0) (.int .i64 0) (.int .i64 0) (.string ⟨#[]⟩) (.int .i64 0)) := st5_blk HR1.out
  have hC : Ch [w.heap.size + 1] w1 (st5 w1 (w.heap.size + 1) (.int .i64 0) (.int .i64 0) (.int .i64 0) (.string ⟨#[]⟩) (.int .i64 0)) := st5_ch (Ch.refl _ _) (.inl (by simp))
  have y0 : (st5 w1 (w.heap.size + 1) (.int .i64 0) (.int .i64 0) (.int .i64 0) (.string ⟨#[]⟩) (.int .i64 0)).cell? ⟨(w.heap.size + 1), 0, none⟩ = some (.int .i64 0) := I1.cell 0
  have y1 : (st5 w1 (w.heap.size + 1) (.int .i64 0) (.int .i64 0) (.int .i64 0) (.string ⟨#[]⟩) (.int .i64 0)).cell? ⟨(w.heap.size + 1), 1, none⟩ = some (.int .i64 0) := I1.cell 1
  have y2 : (st5 w1 (w.heap.size + 1) (.int .i64 0) (.int .i64 0) (.int .i64 0) (.string ⟨#[]⟩) (.int .i64 0)).cell? ⟨(w.heap.size + 1), 2, none⟩ = some (.int .i64 0) := I1.cell 2
  have y3 : (st5 w1 (w.heap.size + 1) (.int .i64 0) (.int .i64 0) (.int .i64 0) (.string ⟨#[]⟩) (.int .i64 0)).cell? ⟨(w.heap.size + 1), 3, none⟩ = some (.string ⟨#[]⟩) := I1.cell 3
  have y4 : (st5 w1 (w.heap.size + 1) (.int .i64 0) (.int .i64 0) (.int .i64 0) (.string ⟨#[]⟩) (.int .i64 0)).cell? ⟨(w.heap.size + 1), 4, none⟩ = some (.int .i64 0) := I1.cell 4
  have HF : Hid (Ch [] w (st5 w1 (w.heap.size + 1) (.int .i64 0) (.int .i64 0) (.int .i64 0) (.string ⟨#[]⟩) (.int .i64 0))) := Lib.hid ((HC0.out.trans HS.out).fresh (fun g hg => by simp at hg; omega) hC)
  generalize (st5 w1 (w.heap.size + 1) (.int .i64 0) (.int .i64 0) (.int .i64 0) (.string ⟨#[]⟩) (.int .i64 0)) = W9 at *
  refine bodyPost_ret (v := .tuple #[.int .i64 0, .agg #[.int .i64 0, .int .i64 0, .int .i64 0, .string ⟨#[]⟩, .int .i64 0], .int .i64 1]) (by simp [results, Try.results13, go_sem, y0, y1, y2, y3, y4]) rfl ⟨rfl, HF.out⟩
set_option maxHeartbeats 4000000 in
theorem cprog_nil7 (w : World) (n m : Int) (v : V5)  :
    Calls Try.prog 13 #[.pointer none, .agg #[.int .i64 7, .int .i64 n, .int .i64 m, .int .i64 v.k, .int .i64 v.p, .int .i64 v.q, .string v.s, .int .i64 v.r]] w fun e w' => e = .returned (.tuple #[.int .i64 0, .agg #[.int .i64 0, .int .i64 0, .int .i64 0, .string ⟨#[]⟩, .int .i64 0], .int .i64 1]) ∧ Ch [] w w' := by
  have HC0 : Hid (Ch [] w ((w.alloc (.cells #[.int .i64 7, .int .i64 n, .int .i64 m, .int .i64 v.k, .int .i64 v.p, .int .i64 v.q, .string v.s, .int .i64 v.r] 39)).alloc (.cells #[.int .i64 0, .int .i64 0, .int .i64 0, .string ⟨#[]⟩, .int .i64 0] 35))) := Lib.hid (((Ch.refl [] w).alloc _).alloc _)
  have HR0 : Hid (Blk 35 (w.heap.size + 1) #[.int .i64 0, .int .i64 0, .int .i64 0, .string ⟨#[]⟩, .int .i64 0] ((w.alloc (.cells #[.int .i64 7, .int .i64 n, .int .i64 m, .int .i64 v.k, .int .i64 v.p, .int .i64 v.q, .string v.s, .int .i64 v.r] 39)).alloc (.cells #[.int .i64 0, .int .i64 0, .int .i64 0, .string ⟨#[]⟩, .int .i64 0] 35))) := Lib.hid (Blk.new _ _ _ _ (by simp))
  have HA0 : Hid (Blk 39 w.heap.size #[.int .i64 7, .int .i64 n, .int .i64 m, .int .i64 v.k, .int .i64 v.p, .int .i64 v.q, .string v.s, .int .i64 v.r] ((w.alloc (.cells #[.int .i64 7, .int .i64 n, .int .i64 m, .int .i64 v.k, .int .i64 v.p, .int .i64 v.q, .string v.s, .int .i64 v.r] 39)).alloc (.cells #[.int .i64 0, .int .i64 0, .int .i64 0, .string ⟨#[]⟩, .int .i64 0] 35))) := Lib.hid ((Blk.new w 39 #[.int .i64 7, .int .i64 n, .int .i64 m, .int .i64 v.k, .int .i64 v.p, .int .i64 v.q, .string v.s, .int .i64 v.r] _ rfl).ch ((Ch.refl [] _).alloc _) (not_nil _))
  have Q : Hid (Calls Try.prog 26 #[.pointer none, .int .i64 n] ((w.alloc (.cells #[.int .i64 7, .int .i64 n, .int .i64 m, .int .i64 v.k, .int .i64 v.p, .int .i64 v.q, .string v.s, .int .i64 v.r] 39)).alloc (.cells #[.int .i64 0, .int .i64 0, .int .i64 0, .string ⟨#[]⟩, .int .i64 0] 35)) fun e w' => e = .returned (.int .i64 1) ∧ Ch [] ((w.alloc (.cells #[.int .i64 7, .int .i64 n, .int .i64 m, .int .i64 v.k, .int .i64 v.p, .int .i64 v.q, .string v.s, .int .i64 v.r] 39)).alloc (.cells #[.int .i64 0, .int .i64 0, .int .i64 0, .string ⟨#[]⟩, .int .i64 0] 35)) w') := Lib.hid (by
    generalize ((w.alloc (.cells #[.int .i64 7, .int .i64 n, .int .i64 m, .int .i64 v.k, .int .i64 v.p, .int .i64 v.q, .string v.s, .int .i64 v.r] 39)).alloc (.cells #[.int .i64 0, .int .i64 0, .int .i64 0, .string ⟨#[]⟩, .int .i64 0] 35)) = W at *
    exact (remove_nil n W).mono fun e w' hh => ⟨hh.1, by rw [hh.2]; exact Ch.refl _ _⟩)
  go_enter Try.func13, Try.ntmps13
  go_upto_region 1 with fail
  generalize ((w.alloc (.cells #[.int .i64 7, .int .i64 n, .int .i64 m, .int .i64 v.k, .int .i64 v.p, .int .i64 v.q, .string v.s, .int .i64 v.r] 39)).alloc (.cells #[.int .i64 0, .int .i64 0, .int .i64 0, .string ⟨#[]⟩, .int .i64 0] 35)) = w0 at *
  have a0 : w0.cell? ⟨w.heap.size, 0, none⟩ = some (.int .i64 7) := HA0.out.cell 0
  have a1 : w0.cell? ⟨w.heap.size, 1, none⟩ = some (.int .i64 n) := HA0.out.cell 1
  have a2 : w0.cell? ⟨w.heap.size, 2, none⟩ = some (.int .i64 m) := HA0.out.cell 2
  have a3 : w0.cell? ⟨w.heap.size, 3, none⟩ = some (.int .i64 v.k) := HA0.out.cell 3
  have a4 : w0.cell? ⟨w.heap.size, 4, none⟩ = some (.int .i64 v.p) := HA0.out.cell 4
  have a5 : w0.cell? ⟨w.heap.size, 5, none⟩ = some (.int .i64 v.q) := HA0.out.cell 5
  have a6 : w0.cell? ⟨w.heap.size, 6, none⟩ = some (.string v.s) := HA0.out.cell 6
  have a7 : w0.cell? ⟨w.heap.size, 7, none⟩ = some (.int .i64 v.r) := HA0.out.cell 7
  have la := HA0.out.lt
  go_wp2_with (go_at_call 26; (with_reducible refine (Q.out).mono ?_); rintro e w1 ⟨rfl, hs⟩; have HS := Lib.hid hs; have HR1 : Hid (Blk 35 (w.heap.size + 1) #[.int .i64 0, .int .i64 0, .int .i64 0, .string ⟨#[]⟩, .int .i64 0] w1) := Lib.hid (HR0.out.ch hs (not_nil _)); have b0 : w1.cell? ⟨w.heap.size + 1, 0, none⟩ = some (.int .i64 0) := HR1.out.cell 0; have b1 : w1.cell? ⟨w.heap.size + 1, 1, none⟩ = some (.int .i64 0) := HR1.out.cell 1; have b2 : w1.cell? ⟨w.heap.size + 1, 2, none⟩ = some (.int .i64 0) := HR1.out.cell 2; have b3 : w1.cell? ⟨w.heap.size + 1, 3, none⟩ = some (.string ⟨#[]⟩) := HR1.out.cell 3; have b4 : w1.cell? ⟨w.heap.size + 1, 4, none⟩ = some (.int .i64 0) := HR1.out.cell 4; have fz0 := HR1.out.fz 0; have fz1 := HR1.out.fz 1; have fz2 := HR1.out.fz 2; have fz3 := HR1.out.fz 3; have fz4 := HR1.out.fz 4; have lb := HR1.out.lt; clear hs)
  show bodyPost _ _ _ Exit.ret _ (st5 w1 (w.heap.size + 1) (.int .i64 0) (.int .i64 0) (.int .i64 0) (.string ⟨#[]⟩) (.int .i64 0))
  have I1 : Blk 35 (w.heap.size + 1) #[.int .i64 0, .int .i64 0, .int .i64 0, .string ⟨#[]⟩, .int .i64 0] (st5 w1 (w.heap.size + 1) (.int .i64 0) (.int .i64 0) (.int .i64 0) (.string ⟨#[]⟩) (.int .i64 0)) := st5_blk HR1.out
  have hC : Ch [w.heap.size + 1] w1 (st5 w1 (w.heap.size + 1) (.int .i64 0) (.int .i64 0) (.int .i64 0) (.string ⟨#[]⟩) (.int .i64 0)) := st5_ch (Ch.refl _ _) (.inl (by simp))
  have y0 : (st5 w1 (w.heap.size + 1) (.int .i64 0) (.int .i64 0) (.int .i64 0) (.string ⟨#[]⟩) (.int .i64 0)).cell? ⟨(w.heap.size + 1), 0, none⟩ = some (.int .i64 0) := I1.cell 0
  have y1 : (st5 w1 (w.heap.size + 1) (.int .i64 0) (.int .i64 0) (.int .i64 0) (.string ⟨#[]⟩) (.int .i64 0)).cell? ⟨(w.heap.size + 1), 1, none⟩ = some (.int .i64 0) := I1.cell 1
  have y2 : (st5 w1 (w.heap.size + 1) (.int .i64 0) (.int .i64 0) (.int .i64 0) (.string ⟨#[]⟩) (.int .i64 0)).cell? ⟨(w.heap.size + 1), 2, none⟩ = some (.int .i64 0) := I1.cell 2
  have y3 : (st5 w1 (w.heap.size + 1) (.int .i64 0) (.int .i64 0) (.int .i64 0) (.string ⟨#[]⟩) (.int .i64 0)).cell? ⟨(w.heap.size + 1), 3, none⟩ = some (.string ⟨#[]⟩) := I1.cell 3
  have y4 : (st5 w1 (w.heap.size + 1) (.int .i64 0) (.int .i64 0) (.int .i64 0) (.string ⟨#[]⟩) (.int .i64 0)).cell? ⟨(w.heap.size + 1), 4, none⟩ = some (.int .i64 0) := I1.cell 4
  have HF : Hid (Ch [] w (st5 w1 (w.heap.size + 1) (.int .i64 0) (.int .i64 0) (.int .i64 0) (.string ⟨#[]⟩) (.int .i64 0))) := Lib.hid ((HC0.out.trans HS.out).fresh (fun g hg => by simp at hg; omega) hC)
  generalize (st5 w1 (w.heap.size + 1) (.int .i64 0) (.int .i64 0) (.int .i64 0) (.string ⟨#[]⟩) (.int .i64 0)) = W9 at *
  refine bodyPost_ret (v := .tuple #[.int .i64 0, .agg #[.int .i64 0, .int .i64 0, .int .i64 0, .string ⟨#[]⟩, .int .i64 0], .int .i64 1]) (by simp [results, Try.results13, go_sem, y0, y1, y2, y3, y4]) rfl ⟨rfl, HF.out⟩
set_option maxHeartbeats 4000000 in
theorem cprog_nil8 (w : World) (n m : Int) (v : V5)  :
    Calls Try.prog 13 #[.pointer none, .agg #[.int .i64 8, .int .i64 n, .int .i64 m, .int .i64 v.k, .int .i64 v.p, .int .i64 v.q, .string v.s, .int .i64 v.r]] w fun e w' => e = .returned (.tuple #[.int .i64 0, .agg #[.int .i64 0, .int .i64 0, .int .i64 0, .string ⟨#[]⟩, .int .i64 0], .int .i64 1]) ∧ Ch [] w w' := by
  have HC0 : Hid (Ch [] w ((w.alloc (.cells #[.int .i64 8, .int .i64 n, .int .i64 m, .int .i64 v.k, .int .i64 v.p, .int .i64 v.q, .string v.s, .int .i64 v.r] 39)).alloc (.cells #[.int .i64 0, .int .i64 0, .int .i64 0, .string ⟨#[]⟩, .int .i64 0] 35))) := Lib.hid (((Ch.refl [] w).alloc _).alloc _)
  have HR0 : Hid (Blk 35 (w.heap.size + 1) #[.int .i64 0, .int .i64 0, .int .i64 0, .string ⟨#[]⟩, .int .i64 0] ((w.alloc (.cells #[.int .i64 8, .int .i64 n, .int .i64 m, .int .i64 v.k, .int .i64 v.p, .int .i64 v.q, .string v.s, .int .i64 v.r] 39)).alloc (.cells #[.int .i64 0, .int .i64 0, .int .i64 0, .string ⟨#[]⟩, .int .i64 0] 35))) := Lib.hid (Blk.new _ _ _ _ (by simp))
  have HA0 : Hid (Blk 39 w.heap.size #[.int .i64 8, .int .i64 n, .int .i64 m, .int .i64 v.k, .int .i64 v.p, .int .i64 v.q, .string v.s, .int .i64 v.r] ((w.alloc (.cells #[.int .i64 8, .int .i64 n, .int .i64 m, .int .i64 v.k, .int .i64 v.p, .int .i64 v.q, .string v.s, .int .i64 v.r] 39)).alloc (.cells #[.int .i64 0, .int .i64 0, .int .i64 0, .string ⟨#[]⟩, .int .i64 0] 35))) := Lib.hid ((Blk.new w 39 #[.int .i64 8, .int .i64 n, .int .i64 m, .int .i64 v.k, .int .i64 v.p, .int .i64 v.q, .string v.s, .int .i64 v.r] _ rfl).ch ((Ch.refl [] _).alloc _) (not_nil _))
  have Q : Hid (Calls Try.prog 21 #[.pointer none, .int .i64 n, .int .i64 m] ((w.alloc (.cells #[.int .i64 8, .int .i64 n, .int .i64 m, .int .i64 v.k, .int .i64 v.p, .int .i64 v.q, .string v.s, .int .i64 v.r] 39)).alloc (.cells #[.int .i64 0, .int .i64 0, .int .i64 0, .string ⟨#[]⟩, .int .i64 0] 35)) fun e w' => e = .returned (.int .i64 1) ∧ Ch [] ((w.alloc (.cells #[.int .i64 8, .int .i64 n, .int .i64 m, .int .i64 v.k, .int .i64 v.p, .int .i64 v.q, .string v.s, .int .i64 v.r] 39)).alloc (.cells #[.int .i64 0, .int .i64 0, .int .i64 0, .string ⟨#[]⟩, .int .i64 0] 35)) w') := Lib.hid (by
    generalize ((w.alloc (.cells #[.int .i64 8, .int .i64 n, .int .i64 m, .int .i64 v.k, .int .i64 v.p, .int .i64 v.q, .string v.s, .int .i64 v.r] 39)).alloc (.cells #[.int .i64 0, .int .i64 0, .int .i64 0, .string ⟨#[]⟩, .int .i64 0] 35)) = W at *
    exact (rotate_nil n m W).mono fun e w' hh => ⟨hh.1, by rw [hh.2]; exact Ch.refl _ _⟩)
  go_enter Try.func13, Try.ntmps13
  go_upto_region 1 with fail
  generalize ((w.alloc (.cells #[.int .i64 8, .int .i64 n, .int .i64 m, .int .i64 v.k, .int .i64 v.p, .int .i64 v.q, .string v.s, .int .i64 v.r] 39)).alloc (.cells #[.int .i64 0, .int .i64 0, .int .i64 0, .string ⟨#[]⟩, .int .i64 0] 35)) = w0 at *
  have a0 : w0.cell? ⟨w.heap.size, 0, none⟩ = some (.int .i64 8) := HA0.out.cell 0
  have a1 : w0.cell? ⟨w.heap.size, 1, none⟩ = some (.int .i64 n) := HA0.out.cell 1
  have a2 : w0.cell? ⟨w.heap.size, 2, none⟩ = some (.int .i64 m) := HA0.out.cell 2
  have a3 : w0.cell? ⟨w.heap.size, 3, none⟩ = some (.int .i64 v.k) := HA0.out.cell 3
  have a4 : w0.cell? ⟨w.heap.size, 4, none⟩ = some (.int .i64 v.p) := HA0.out.cell 4
  have a5 : w0.cell? ⟨w.heap.size, 5, none⟩ = some (.int .i64 v.q) := HA0.out.cell 5
  have a6 : w0.cell? ⟨w.heap.size, 6, none⟩ = some (.string v.s) := HA0.out.cell 6
  have a7 : w0.cell? ⟨w.heap.size, 7, none⟩ = some (.int .i64 v.r) := HA0.out.cell 7
  have la := HA0.out.lt
  go_wp2_with (go_at_call 21; (with_reducible refine (Q.out).mono ?_); rintro e w1 ⟨rfl, hs⟩; have HS := Lib.hid hs; have HR1 : Hid (Blk 35 (w.heap.size + 1) #[.int .i64 0, .int .i64 0, .int .i64 0, .string ⟨#[]⟩, .int .i64 0] w1) := Lib.hid (HR0.out.ch hs (not_nil _)); have b0 : w1.cell? ⟨w.heap.size + 1, 0, none⟩ = some (.int .i64 0) := HR1.out.cell 0; have b1 : w1.cell? ⟨w.heap.size + 1, 1, none⟩ = some (.int .i64 0) := HR1.out.cell 1; have b2 : w1.cell? ⟨w.heap.size + 1, 2, none⟩ = some (.int .i64 0) := HR1.out.cell 2; have b3 : w1.cell? ⟨w.heap.size + 1, 3, none⟩ = some (.string ⟨#[]⟩) := HR1.out.cell 3; have b4 : w1.cell? ⟨w.heap.size + 1, 4, none⟩ = some (.int .i64 0) := HR1.out.cell 4; have fz0 := HR1.out.fz 0; have fz1 := HR1.out.fz 1; have fz2 := HR1.out.fz 2; have fz3 := HR1.out.fz 3; have fz4 := HR1.out.fz 4; have lb := HR1.out.lt; clear hs)
  show bodyPost _ _ _ Exit.ret _ (st5 w1 (w.heap.size + 1) (.int .i64 0) (.int .i64 0) (.int .i64 0) (.string ⟨#[]⟩) (.int .i64 0))
  have I1 : Blk 35 (w.heap.size + 1) #[.int .i64 0, .int .i64 0, .int .i64 0, .string ⟨#[]⟩, .int .i64 0] (st5 w1 (w.heap.size + 1) (.int .i64 0) (.int .i64 0) (.int .i64 0) (.string ⟨#[]⟩) (.int .i64 0)) := st5_blk HR1.out
  have hC : Ch [w.heap.size + 1] w1 (st5 w1 (w.heap.size + 1) (.int .i64 0) (.int .i64 0) (.int .i64 0) (.string ⟨#[]⟩) (.int .i64 0)) := st5_ch (Ch.refl _ _) (.inl (by simp))
  have y0 : (st5 w1 (w.heap.size + 1) (.int .i64 0) (.int .i64 0) (.int .i64 0) (.string ⟨#[]⟩) (.int .i64 0)).cell? ⟨(w.heap.size + 1), 0, none⟩ = some (.int .i64 0) := I1.cell 0
  have y1 : (st5 w1 (w.heap.size + 1) (.int .i64 0) (.int .i64 0) (.int .i64 0) (.string ⟨#[]⟩) (.int .i64 0)).cell? ⟨(w.heap.size + 1), 1, none⟩ = some (.int .i64 0) := I1.cell 1
  have y2 : (st5 w1 (w.heap.size + 1) (.int .i64 0) (.int .i64 0) (.int .i64 0) (.string ⟨#[]⟩) (.int .i64 0)).cell? ⟨(w.heap.size + 1), 2, none⟩ = some (.int .i64 0) := I1.cell 2
  have y3 : (st5 w1 (w.heap.size + 1) (.int .i64 0) (.int .i64 0) (.int .i64 0) (.string ⟨#[]⟩) (.int .i64 0)).cell? ⟨(w.heap.size + 1), 3, none⟩ = some (.string ⟨#[]⟩) := I1.cell 3
  have y4 : (st5 w1 (w.heap.size + 1) (.int .i64 0) (.int .i64 0) (.int .i64 0) (.string ⟨#[]⟩) (.int .i64 0)).cell? ⟨(w.heap.size + 1), 4, none⟩ = some (.int .i64 0) := I1.cell 4
  have HF : Hid (Ch [] w (st5 w1 (w.heap.size + 1) (.int .i64 0) (.int .i64 0) (.int .i64 0) (.string ⟨#[]⟩) (.int .i64 0))) := Lib.hid ((HC0.out.trans HS.out).fresh (fun g hg => by simp at hg; omega) hC)
  generalize (st5 w1 (w.heap.size + 1) (.int .i64 0) (.int .i64 0) (.int .i64 0) (.string ⟨#[]⟩) (.int .i64 0)) = W9 at *
  refine bodyPost_ret (v := .tuple #[.int .i64 0, .agg #[.int .i64 0, .int .i64 0, .int .i64 0, .string ⟨#[]⟩, .int .i64 0], .int .i64 1]) (by simp [results, Try.results13, go_sem, y0, y1, y2, y3, y4]) rfl ⟨rfl, HF.out⟩
set_option maxHeartbeats 4000000 in
theorem cprog_nil9 (w : World) (n m : Int) (v : V5)  :
    Calls Try.prog 13 #[.pointer none, .agg #[.int .i64 9, .int .i64 n, .int .i64 m, .int .i64 v.k, .int .i64 v.p, .int .i64 v.q, .string v.s, .int .i64 v.r]] w fun e w' => e = .returned (.tuple #[.int .i64 0, .agg #[.int .i64 0, .int .i64 0, .int .i64 0, .string ⟨#[]⟩, .int .i64 0], .int .i64 1]) ∧ Ch [] w w' := by
  have HC0 : Hid (Ch [] w ((w.alloc (.cells #[.int .i64 9, .int .i64 n, .int .i64 m, .int .i64 v.k, .int .i64 v.p, .int .i64 v.q, .string v.s, .int .i64 v.r] 39)).alloc (.cells #[.int .i64 0, .int .i64 0, .int .i64 0, .string ⟨#[]⟩, .int .i64 0] 35))) := Lib.hid (((Ch.refl [] w).alloc _).alloc _)
  have HR0 : Hid (Blk 35 (w.heap.size + 1) #[.int .i64 0, .int .i64 0, .int .i64 0, .string ⟨#[]⟩, .int .i64 0] ((w.alloc (.cells #[.int .i64 9, .int .i64 n, .int .i64 m, .int .i64 v.k, .int .i64 v.p, .int .i64 v.q, .string v.s, .int .i64 v.r] 39)).alloc (.cells #[.int .i64 0, .int .i64 0, .int .i64 0, .string ⟨#[]⟩, .int .i64 0] 35))) := Lib.hid (Blk.new _ _ _ _ (by simp))
  have HA0 : Hid (Blk 39 w.heap.size #[.int .i64 9, .int .i64 n, .int .i64 m, .int .i64 v.k, .int .i64 v.p, .int .i64 v.q, .string v.s, .int .i64 v.r] ((w.alloc (.cells #[.int .i64 9, .int .i64 n, .int .i64 m, .int .i64 v.k, .int .i64 v.p, .int .i64 v.q, .string v.s, .int .i64 v.r] 39)).alloc (.cells #[.int .i64 0, .int .i64 0, .int .i64 0, .string ⟨#[]⟩, .int .i64 0] 35))) := Lib.hid ((Blk.new w 39 #[.int .i64 9, .int .i64 n, .int .i64 m, .int .i64 v.k, .int .i64 v.p, .int .i64 v.q, .string v.s, .int .i64 v.r] _ rfl).ch ((Ch.refl [] _).alloc _) (not_nil _))
  have Q : Hid (Calls Try.prog 33 #[.pointer none, .int .i64 n, .int .i64 m] ((w.alloc (.cells #[.int .i64 9, .int .i64 n, .int .i64 m, .int .i64 v.k, .int .i64 v.p, .int .i64 v.q, .string v.s, .int .i64 v.r] 39)).alloc (.cells #[.int .i64 0, .int .i64 0, .int .i64 0, .string ⟨#[]⟩, .int .i64 0] 35)) fun e w' => e = .returned (.int .i64 1) ∧ Ch [] ((w.alloc (.cells #[.int .i64 9, .int .i64 n, .int .i64 m, .int .i64 v.k, .int .i64 v.p, .int .i64 v.q, .string v.s, .int .i64 v.r] 39)).alloc (.cells #[.int .i64 0, .int .i64 0, .int .i64 0, .string ⟨#[]⟩, .int .i64 0] 35)) w') := Lib.hid (by
    generalize ((w.alloc (.cells #[.int .i64 9, .int .i64 n, .int .i64 m, .int .i64 v.k, .int .i64 v.p, .int .i64 v.q, .string v.s, .int .i64 v.r] 39)).alloc (.cells #[.int .i64 0, .int .i64 0, .int .i64 0, .string ⟨#[]⟩, .int .i64 0] 35)) = W at *
    exact (copy_nil n m W).mono fun e w' hh => hh)
  go_enter Try.func13, Try.ntmps13
  go_upto_region 1 with fail
  generalize ((w.alloc (.cells #[.int .i64 9, .int .i64 n, .int .i64 m, .int .i64 v.k, .int .i64 v.p, .int .i64 v.q, .string v.s, .int .i64 v.r] 39)).alloc (.cells #[.int .i64 0, .int .i64 0, .int .i64 0, .string ⟨#[]⟩, .int .i64 0] 35)) = w0 at *
  have a0 : w0.cell? ⟨w.heap.size, 0, none⟩ = some (.int .i64 9) := HA0.out.cell 0
  have a1 : w0.cell? ⟨w.heap.size, 1, none⟩ = some (.int .i64 n) := HA0.out.cell 1
  have a2 : w0.cell? ⟨w.heap.size, 2, none⟩ = some (.int .i64 m) := HA0.out.cell 2
  have a3 : w0.cell? ⟨w.heap.size, 3, none⟩ = some (.int .i64 v.k) := HA0.out.cell 3
  have a4 : w0.cell? ⟨w.heap.size, 4, none⟩ = some (.int .i64 v.p) := HA0.out.cell 4
  have a5 : w0.cell? ⟨w.heap.size, 5, none⟩ = some (.int .i64 v.q) := HA0.out.cell 5
  have a6 : w0.cell? ⟨w.heap.size, 6, none⟩ = some (.string v.s) := HA0.out.cell 6
  have a7 : w0.cell? ⟨w.heap.size, 7, none⟩ = some (.int .i64 v.r) := HA0.out.cell 7
  have la := HA0.out.lt
  go_wp2_with (go_at_call 33; (with_reducible refine (Q.out).mono ?_); rintro e w1 ⟨rfl, hs⟩; have HS := Lib.hid hs; have HR1 : Hid (Blk 35 (w.heap.size + 1) #[.int .i64 0, .int .i64 0, .int .i64 0, .string ⟨#[]⟩, .int .i64 0] w1) := Lib.hid (HR0.out.ch hs (not_nil _)); have b0 : w1.cell? ⟨w.heap.size + 1, 0, none⟩ = some (.int .i64 0) := HR1.out.cell 0; have b1 : w1.cell? ⟨w.heap.size + 1, 1, none⟩ = some (.int .i64 0) := HR1.out.cell 1; have b2 : w1.cell? ⟨w.heap.size + 1, 2, none⟩ = some (.int .i64 0) := HR1.out.cell 2; have b3 : w1.cell? ⟨w.heap.size + 1, 3, none⟩ = some (.string ⟨#[]⟩) := HR1.out.cell 3; have b4 : w1.cell? ⟨w.heap.size + 1, 4, none⟩ = some (.int .i64 0) := HR1.out.cell 4; have fz0 := HR1.out.fz 0; have fz1 := HR1.out.fz 1; have fz2 := HR1.out.fz 2; have fz3 := HR1.out.fz 3; have fz4 := HR1.out.fz 4; have lb := HR1.out.lt; clear hs)
  show bodyPost _ _ _ Exit.ret _ (st5 w1 (w.heap.size + 1) (.int .i64 0) (.int .i64 0) (.int .i64 0) (.string ⟨#[]⟩) (.int .i64 0))
  have I1 : Blk 35 (w.heap.size + 1) #[.int .i64 0, .int .i64 0, .int .i64 0, .string ⟨#[]⟩, .int .i64 0] (st5 w1 (w.heap.size + 1) (.int .i64 0) (.int .i64 0) (.int .i64 0) (.string ⟨#[]⟩) (.int .i64 0)) := st5_blk HR1.out
  have hC : Ch [w.heap.size + 1] w1 (st5 w1 (w.heap.size + 1) (.int .i64 0) (.int .i64 0) (.int .i64 0) (.string ⟨#[]⟩) (.int .i64 0)) := st5_ch (Ch.refl _ _) (.inl (by simp))
  have y0 : (st5 w1 (w.heap.size + 1) (.int .i64 0) (.int .i64 0) (.int .i64 0) (.string ⟨#[]⟩) (.int .i64 0)).cell? ⟨(w.heap.size + 1), 0, none⟩ = some (.int .i64 0) := I1.cell 0
  have y1 : (st5 w1 (w.heap.size + 1) (.int .i64 0) (.int .i64 0) (.int .i64 0) (.string ⟨#[]⟩) (.int .i64 0)).cell? ⟨(w.heap.size + 1), 1, none⟩ = some (.int .i64 0) := I1.cell 1
  have y2 : (st5 w1 (w.heap.size + 1) (.int .i64 0) (.int .i64 0) (.int .i64 0) (.string ⟨#[]⟩) (.int .i64 0)).cell? ⟨(w.heap.size + 1), 2, none⟩ = some (.int .i64 0) := I1.cell 2
  have y3 : (st5 w1 (w.heap.size + 1) (.int .i64 0) (.int .i64 0) (.int .i64 0) (.string ⟨#[]⟩) (.int .i64 0)).cell? ⟨(w.heap.size + 1), 3, none⟩ = some (.string ⟨#[]⟩) := I1.cell 3
  have y4 : (st5 w1 (w.heap.size + 1) (.int .i64 0) (.int .i64 0) (.int .i64 0) (.string ⟨#[]⟩) (.int .i64 0)).cell? ⟨(w.heap.size + 1), 4, none⟩ = some (.int .i64 0) := I1.cell 4
  have HF : Hid (Ch [] w (st5 w1 (w.heap.size + 1) (.int .i64 0) (.int .i64 0) (.int .i64 0) (.string ⟨#[]⟩) (.int .i64 0))) := Lib.hid ((HC0.out.trans HS.out).fresh (fun g hg => by simp at hg; omega) hC)
  generalize (st5 w1 (w.heap.size + 1) (.int .i64 0) (.int .i64 0) (.int .i64 0) (.string ⟨#[]⟩) (.int .i64 0)) = W9 at *
  refine bodyPost_ret (v := .tuple #[.int .i64 0, .agg #[.int .i64 0, .int .i64 0, .int .i64 0, .string ⟨#[]⟩, .int .i64 0], .int .i64 1]) (by simp [results, Try.results13, go_sem, y0, y1, y2, y3, y4]) rfl ⟨rfl, HF.out⟩
set_option maxHeartbeats 4000000 in
theorem cprog_nil10 (w : World) (n m : Int) (v : V5) (k : Int) (hk : ¬ k = 0 ∧ ¬ k = 1 ∧ ¬ k = 2 ∧ ¬ k = 3 ∧ ¬ k = 4 ∧ ¬ k = 5 ∧ ¬ k = 6 ∧ ¬ k = 7 ∧ ¬ k = 8 ∧ ¬ k = 9) :
    Calls Try.prog 13 #[.pointer none, .agg #[.int .i64 k, .int .i64 n, .int .i64 m, .int .i64 v.k, .int .i64 v.p, .int .i64 v.q, .string v.s, .int .i64 v.r]] w fun e w' => e = .returned (.tuple #[.int .i64 0, .agg #[.int .i64 0, .int .i64 0, .int .i64 0, .string ⟨#[]⟩, .int .i64 0], .int .i64 1]) ∧ Ch [] w w' := by
  have HC0 : Hid (Ch [] w ((w.alloc (.cells #[.int .i64 k, .int .i64 n, .int .i64 m, .int .i64 v.k, .int .i64 v.p, .int .i64 v.q, .string v.s, .int .i64 v.r] 39)).alloc (.cells #[.int .i64 0, .int .i64 0, .int .i64 0, .string ⟨#[]⟩, .int .i64 0] 35))) := Lib.hid (((Ch.refl [] w).alloc _).alloc _)
  have HR0 : Hid (Blk 35 (w.heap.size + 1) #[.int .i64 0, .int .i64 0, .int .i64 0, .string ⟨#[]⟩, .int .i64 0] ((w.alloc (.cells #[.int .i64 k, .int .i64 n, .int .i64 m, .int .i64 v.k, .int .i64 v.p, .int .i64 v.q, .string v.s, .int .i64 v.r] 39)).alloc (.cells #[.int .i64 0, .int .i64 0, .int .i64 0, .string ⟨#[]⟩, .int .i64 0] 35))) := Lib.hid (Blk.new _ _ _ _ (by simp))
  have HA0 : Hid (Blk 39 w.heap.size #[.int .i64 k, .int .i64 n, .int .i64 m, .int .i64 v.k, .int .i64 v.p, .int .i64 v.q, .string v.s, .int .i64 v.r] ((w.alloc (.cells #[.int .i64 k, .int .i64 n, .int .i64 m, .int .i64 v.k, .int .i64 v.p, .int .i64 v.q, .string v.s, .int .i64 v.r] 39)).alloc (.cells #[.int .i64 0, .int .i64 0, .int .i64 0, .string ⟨#[]⟩, .int .i64 0] 35))) := Lib.hid ((Blk.new w 39 #[.int .i64 k, .int .i64 n, .int .i64 m, .int .i64 v.k, .int .i64 v.p, .int .i64 v.q, .string v.s, .int .i64 v.r] _ rfl).ch ((Ch.refl [] _).alloc _) (not_nil _))
  have Q : Hid (Calls Try.prog 27 #[.pointer none, .int .i64 n] ((w.alloc (.cells #[.int .i64 k, .int .i64 n, .int .i64 m, .int .i64 v.k, .int .i64 v.p, .int .i64 v.q, .string v.s, .int .i64 v.r] 39)).alloc (.cells #[.int .i64 0, .int .i64 0, .int .i64 0, .string ⟨#[]⟩, .int .i64 0] 35)) fun e w' => e = .returned (.int .i64 1) ∧ Ch [] ((w.alloc (.cells #[.int .i64 k, .int .i64 n, .int .i64 m, .int .i64 v.k, .int .i64 v.p, .int .i64 v.q, .string v.s, .int .i64 v.r] 39)).alloc (.cells #[.int .i64 0, .int .i64 0, .int .i64 0, .string ⟨#[]⟩, .int .i64 0] 35)) w') := Lib.hid (by
    generalize ((w.alloc (.cells #[.int .i64 k, .int .i64 n, .int .i64 m, .int .i64 v.k, .int .i64 v.p, .int .i64 v.q, .string v.s, .int .i64 v.r] 39)).alloc (.cells #[.int .i64 0, .int .i64 0, .int .i64 0, .string ⟨#[]⟩, .int .i64 0] 35)) = W at *
    exact (room_nil n W).mono fun e w' hh => ⟨hh.1, by rw [hh.2]; exact Ch.refl _ _⟩)
  obtain ⟨h0, h1, h2, h3, h4, h5, h6, h7, h8, h9⟩ := hk
  go_enter Try.func13, Try.ntmps13
  go_upto_region 1 with fail
  generalize ((w.alloc (.cells #[.int .i64 k, .int .i64 n, .int .i64 m, .int .i64 v.k, .int .i64 v.p, .int .i64 v.q, .string v.s, .int .i64 v.r] 39)).alloc (.cells #[.int .i64 0, .int .i64 0, .int .i64 0, .string ⟨#[]⟩, .int .i64 0] 35)) = w0 at *
  have a0 : w0.cell? ⟨w.heap.size, 0, none⟩ = some (.int .i64 k) := HA0.out.cell 0
  have a1 : w0.cell? ⟨w.heap.size, 1, none⟩ = some (.int .i64 n) := HA0.out.cell 1
  have a2 : w0.cell? ⟨w.heap.size, 2, none⟩ = some (.int .i64 m) := HA0.out.cell 2
  have a3 : w0.cell? ⟨w.heap.size, 3, none⟩ = some (.int .i64 v.k) := HA0.out.cell 3
  have a4 : w0.cell? ⟨w.heap.size, 4, none⟩ = some (.int .i64 v.p) := HA0.out.cell 4
  have a5 : w0.cell? ⟨w.heap.size, 5, none⟩ = some (.int .i64 v.q) := HA0.out.cell 5
  have a6 : w0.cell? ⟨w.heap.size, 6, none⟩ = some (.string v.s) := HA0.out.cell 6
  have a7 : w0.cell? ⟨w.heap.size, 7, none⟩ = some (.int .i64 v.r) := HA0.out.cell 7
  have la := HA0.out.lt
  go_wp2_with (go_at_call 27; (with_reducible refine (Q.out).mono ?_); rintro e w1 ⟨rfl, hs⟩; have HS := Lib.hid hs; have HR1 : Hid (Blk 35 (w.heap.size + 1) #[.int .i64 0, .int .i64 0, .int .i64 0, .string ⟨#[]⟩, .int .i64 0] w1) := Lib.hid (HR0.out.ch hs (not_nil _)); have b0 : w1.cell? ⟨w.heap.size + 1, 0, none⟩ = some (.int .i64 0) := HR1.out.cell 0; have b1 : w1.cell? ⟨w.heap.size + 1, 1, none⟩ = some (.int .i64 0) := HR1.out.cell 1; have b2 : w1.cell? ⟨w.heap.size + 1, 2, none⟩ = some (.int .i64 0) := HR1.out.cell 2; have b3 : w1.cell? ⟨w.heap.size + 1, 3, none⟩ = some (.string ⟨#[]⟩) := HR1.out.cell 3; have b4 : w1.cell? ⟨w.heap.size + 1, 4, none⟩ = some (.int .i64 0) := HR1.out.cell 4; have fz0 := HR1.out.fz 0; have fz1 := HR1.out.fz 1; have fz2 := HR1.out.fz 2; have fz3 := HR1.out.fz 3; have fz4 := HR1.out.fz 4; have lb := HR1.out.lt; clear hs)
  show bodyPost _ _ _ Exit.ret _ (st5 w1 (w.heap.size + 1) (.int .i64 0) (.int .i64 0) (.int .i64 0) (.string ⟨#[]⟩) (.int .i64 0))
  have I1 : Blk 35 (w.heap.size + 1) #[.int .i64 0, .int .i64 0, .int .i64 0, .string ⟨#[]⟩, .int .i64 0] (st5 w1 (w.heap.size + 1) (.int .i64 0) (.int .i64 0) (.int .i64 0) (.string ⟨#[]⟩) (.int .i64 0)) := st5_blk HR1.out
  have hC : Ch [w.heap.size + 1] w1 (st5 w1 (w.heap.size + 1) (.int .i64 0) (.int .i64 0) (.int .i64 0) (.string ⟨#[]⟩) (.int .i64 0)) := st5_ch (Ch.refl _ _) (.inl (by simp))
  have y0 : (st5 w1 (w.heap.size + 1) (.int .i64 0) (.int .i64 0) (.int .i64 0) (.string ⟨#[]⟩) (.int .i64 0)).cell? ⟨(w.heap.size + 1), 0, none⟩ = some (.int .i64 0) := I1.cell 0
  have y1 : (st5 w1 (w.heap.size + 1) (.int .i64 0) (.int .i64 0) (.int .i64 0) (.string ⟨#[]⟩) (.int .i64 0)).cell? ⟨(w.heap.size + 1), 1, none⟩ = some (.int .i64 0) := I1.cell 1
  have y2 : (st5 w1 (w.heap.size + 1) (.int .i64 0) (.int .i64 0) (.int .i64 0) (.string ⟨#[]⟩) (.int .i64 0)).cell? ⟨(w.heap.size + 1), 2, none⟩ = some (.int .i64 0) := I1.cell 2
  have y3 : (st5 w1 (w.heap.size + 1) (.int .i64 0) (.int .i64 0) (.int .i64 0) (.string ⟨#[]⟩) (.int .i64 0)).cell? ⟨(w.heap.size + 1), 3, none⟩ = some (.string ⟨#[]⟩) := I1.cell 3
  have y4 : (st5 w1 (w.heap.size + 1) (.int .i64 0) (.int .i64 0) (.int .i64 0) (.string ⟨#[]⟩) (.int .i64 0)).cell? ⟨(w.heap.size + 1), 4, none⟩ = some (.int .i64 0) := I1.cell 4
  have HF : Hid (Ch [] w (st5 w1 (w.heap.size + 1) (.int .i64 0) (.int .i64 0) (.int .i64 0) (.string ⟨#[]⟩) (.int .i64 0))) := Lib.hid ((HC0.out.trans HS.out).fresh (fun g hg => by simp at hg; omega) hC)
  generalize (st5 w1 (w.heap.size + 1) (.int .i64 0) (.int .i64 0) (.int .i64 0) (.string ⟨#[]⟩) (.int .i64 0)) = W9 at *
  refine bodyPost_ret (v := .tuple #[.int .i64 0, .agg #[.int .i64 0, .int .i64 0, .int .i64 0, .string ⟨#[]⟩, .int .i64 0], .int .i64 1]) (by simp [results, Try.results13, go_sem, y0, y1, y2, y3, y4]) rfl ⟨rfl, HF.out⟩
theorem cprog_nil (k n m : Int) (v : V5) (w : World) :
    Calls Try.prog 13 #[.pointer none, .agg #[.int .i64 k, .int .i64 n, .int .i64 m, .int .i64 v.k, .int .i64 v.p, .int .i64 v.q, .string v.s, .int .i64 v.r]] w fun e w' => e = .returned (.tuple #[.int .i64 0, .agg #[.int .i64 0, .int .i64 0, .int .i64 0, .string ⟨#[]⟩, .int .i64 0], .int .i64 1]) ∧ Ch [] w w' := by
  by_cases h0 : k = 0
  · subst h0; exact cprog_nil0 w n m v
  by_cases h1 : k = 1
  · subst h1; exact cprog_nil1 w n m v
  by_cases h2 : k = 2
  · subst h2; exact cprog_nil2 w n m v
  by_cases h3 : k = 3
  · subst h3; exact cprog_nil3 w n m v
  by_cases h4 : k = 4
  · subst h4; exact cprog_nil4 w n m v
  by_cases h5 : k = 5
  · subst h5; exact cprog_nil5 w n m v
  by_cases h6 : k = 6
  · subst h6; exact cprog_nil6 w n m v
  by_cases h7 : k = 7
  · subst h7; exact cprog_nil7 w n m v
  by_cases h8 : k = 8
  · subst h8; exact cprog_nil8 w n m v
  by_cases h9 : k = 9
  · subst h9; exact cprog_nil9 w n m v
  exact cprog_nil10 w n m v k ⟨h0, h1, h2, h3, h4, h5, h6, h7, h8, h9⟩
end Go.Proofs.Ytibggoikjlnnkaa
