/- Layer 13: Get. -/
import Derived.Test.YtaaelhhiceildaaTbA
namespace Go.Proofs.Ytaaelhhiceildaa
open Go.RowKit Go.Joins M1
set_option linter.unusedVariables false
/-- What Get returns. -/
def getT (s : TS) (k : V5) : V5 := match elF s.arr.length k with
  | some i => (s.arr[i - 1]?).getD v5z
  | none => getR s.R k
theorem elF_some {n : Nat} {k : V5} {i : Nat} (h : elF n k = some i) : 1 ≤ i ∧ i ≤ n ∧ k = keyV i := by
  unfold elF at h
  split at h
  · rename_i hc
    obtain ⟨h1, h2, h3⟩ := hc
    simp only [Option.some.injEq] at h
    have hi : k.p = (i : Int) := by omega
    refine ⟨by omega, by omega, ?_⟩
    have := of_decide_eq_true h1
    rw [hi] at this
    exact this
  · cases h
set_option maxHeartbeats 4000000 in
theorem tget_some (B t : Nat) (va : Value) (b : Nat) (v m : Value) (s : TS) (w : World) (h : Tb B t va b v m s w) (k : V5) (j : Nat) (hj : j < s.arr.length) (he : elF s.arr.length k = some (j + 1)) (hL : s.arr.length ≤ 1000000) :
    Calls Try.prog 14 #[.pointer (some ⟨t, 0, none⟩), .agg #[.int .i64 k.k, .int .i64 k.p, .int .i64 k.q, .string k.s, .int .i64 k.r]] w fun e w' => e = .returned (.agg #[.int .i64 s.arr[j].k, .int .i64 s.arr[j].p, .int .i64 s.arr[j].q, .string s.arr[j].s, .int .i64 s.arr[j].r]) ∧ Below w.heap.size w w' := by
  have HT0 : Hid (Tb B t va b v m s ((w.alloc (.cells #[.int .i64 k.k, .int .i64 k.p, .int .i64 k.q, .string k.s, .int .i64 k.r] 26)).alloc (.cells #[.int .i64 0, .int .i64 0, .int .i64 0, .string ⟨#[]⟩, .int .i64 0] 26))) := Lib.hid (h.ch0 (((Ch.refl [] w).alloc _).alloc _))
  have KK0 : Hid (Blk 26 w.heap.size #[.int .i64 k.k, .int .i64 k.p, .int .i64 k.q, .string k.s, .int .i64 k.r] ((w.alloc (.cells #[.int .i64 k.k, .int .i64 k.p, .int .i64 k.q, .string k.s, .int .i64 k.r] 26)).alloc (.cells #[.int .i64 0, .int .i64 0, .int .i64 0, .string ⟨#[]⟩, .int .i64 0] 26))) := Lib.hid ((Blk.new w 26 _ _ rfl).ch ((Ch.refl [] _).alloc _) (not_nil _))
  have KB0 : Hid (Blk 26 (w.heap.size + 1) #[.int .i64 0, .int .i64 0, .int .i64 0, .string ⟨#[]⟩, .int .i64 0] ((w.alloc (.cells #[.int .i64 k.k, .int .i64 k.p, .int .i64 k.q, .string k.s, .int .i64 k.r] 26)).alloc (.cells #[.int .i64 0, .int .i64 0, .int .i64 0, .string ⟨#[]⟩, .int .i64 0] 26))) := Lib.hid (Blk.new _ 26 _ _ (by simp))
  have HB0 : Hid (Below w.heap.size w ((w.alloc (.cells #[.int .i64 k.k, .int .i64 k.p, .int .i64 k.q, .string k.s, .int .i64 k.r] 26)).alloc (.cells #[.int .i64 0, .int .i64 0, .int .i64 0, .string ⟨#[]⟩, .int .i64 0] 26))) := Lib.hid ((((Ch.refl [] w).alloc _).alloc _).below)
  have QE : Hid (Calls Try.prog 27 #[.pointer (some ⟨t, 0, none⟩), .agg #[.int .i64 k.k, .int .i64 k.p, .int .i64 k.q, .string k.s, .int .i64 k.r]] ((w.alloc (.cells #[.int .i64 k.k, .int .i64 k.p, .int .i64 k.q, .string k.s, .int .i64 k.r] 26)).alloc (.cells #[.int .i64 0, .int .i64 0, .int .i64 0, .string ⟨#[]⟩, .int .i64 0] 26)) fun e w' => e = .returned (.tuple #[.int .i64 ((j : Int) + 1), .bool true]) ∧ Below ((w.alloc (.cells #[.int .i64 k.k, .int .i64 k.p, .int .i64 k.q, .string k.s, .int .i64 k.r] 26)).alloc (.cells #[.int .i64 0, .int .i64 0, .int .i64 0, .string ⟨#[]⟩, .int .i64 0] 26)).heap.size ((w.alloc (.cells #[.int .i64 k.k, .int .i64 k.p, .int .i64 k.q, .string k.s, .int .i64 k.r] 26)).alloc (.cells #[.int .i64 0, .int .i64 0, .int .i64 0, .string ⟨#[]⟩, .int .i64 0] 26)) w') := Lib.hid (element_some B t va b v m s _ HT0.out k (j + 1) he)
  obtain ⟨p, cap, rfl, hp⟩ := h.form
  have HP : Hid (∀ W, Tb B t (.slice p s.arr.length cap) b v m s W → ∃ g, p = some ⟨g, 0, none⟩ ∧ g < W.heap.size ∧ ∀ q, q < 5 → W.cell? ⟨g, j * 5 + q, none⟩ = (vC s.arr[j])[q]?) := Lib.hid fun W hW => by
    obtain ⟨p', cap', e', hp'⟩ := hW.form
    injection e' with e1 e2 e3
    obtain ⟨g, q1, q2, _, q3⟩ := hp' (by omega)
    exact ⟨g, by rw [e1]; exact q1, q2, fun q hq => q3 j hj q hq⟩
  have hj2 : (j : Int) < (s.arr.length : Int) := by omega
  have hj0 : (0 : Int) ≤ (j : Int) := by omega
  have dj : IntKind.i64.wrap ((j : Int) + 1 - 1) = (j : Int) := by rw [show (j : Int) + 1 - 1 = j by omega]; exact IntWalk.i64_in _ (by omega)
  have dj0 : IntKind.i64.wrap (j : Int) = (j : Int) := IntWalk.i64_in _ (by omega)
  clear h hp he
  generalize s.arr[j] = x at *
  go_enter Try.func14, Try.ntmps14
  go_upto_region 5 with (go_at_call 27; (with_reducible refine (QE.out).mono ?_); rintro e w1 ⟨rfl, hb1⟩; have HC1 : Hid (Ch [] ((w.alloc (.cells #[.int .i64 k.k, .int .i64 k.p, .int .i64 k.q, .string k.s, .int .i64 k.r] 26)).alloc (.cells #[.int .i64 0, .int .i64 0, .int .i64 0, .string ⟨#[]⟩, .int .i64 0] 26)) w1) := Lib.hid (Ch.of_below hb1); have HT1 := Lib.hid (HT0.out.ch0 HC1.out); have c0 := HT1.out.blk.cell 0; have c2 : w1.cell? ⟨t, 2, none⟩ = some (.pointer (some ⟨b, 0, none⟩)) := HT1.out.blk.cell 2; have hbl := HT1.out.blk.lt; have KB := Lib.hid (KB0.out.ch HC1.out (not_nil _)); have KK := Lib.hid (KK0.out.ch HC1.out (not_nil _)); clear hb1)
  obtain ⟨g, rfl, hgl, key⟩ := HP.out w1 HT1.out
  have d0 : w1.cell? ⟨g, j * 5, none⟩ = some (.int .i64 x.k) := key 0 (by omega)
  have d1 : w1.cell? ⟨g, j * 5 + 1, none⟩ = some (.int .i64 x.p) := key 1 (by omega)
  have d2 : w1.cell? ⟨g, j * 5 + 2, none⟩ = some (.int .i64 x.q) := key 2 (by omega)
  have d3 : w1.cell? ⟨g, j * 5 + 3, none⟩ = some (.string x.s) := key 3 (by omega)
  have d4 : w1.cell? ⟨g, j * 5 + 4, none⟩ = some (.int .i64 x.r) := key 4 (by omega)
  have HBW : Hid (Below w.heap.size w w1) := Lib.hid (HB0.out.trans (HC1.out.below.mono HB0.out.size))
  have r0 : w1.cell? ⟨(w.heap.size + 1), 0, none⟩ = some (.int .i64 0) := KB.out.cell 0
  have r1 : w1.cell? ⟨(w.heap.size + 1), 1, none⟩ = some (.int .i64 0) := KB.out.cell 1
  have r2 : w1.cell? ⟨(w.heap.size + 1), 2, none⟩ = some (.int .i64 0) := KB.out.cell 2
  have r3 : w1.cell? ⟨(w.heap.size + 1), 3, none⟩ = some (.string ⟨#[]⟩) := KB.out.cell 3
  have r4 : w1.cell? ⟨(w.heap.size + 1), 4, none⟩ = some (.int .i64 0) := KB.out.cell 4
  have rf0 := KB.out.fz 0
  have rf1 := KB.out.fz 1
  have rf2 := KB.out.fz 2
  have rf3 := KB.out.fz 3
  have rf4 := KB.out.fz 4
  have rl := KB.out.lt
  clear key
  go_wp2
  show bodyPost _ _ _ Exit.ret _ (st5 w1 (w.heap.size + 1) (.int .i64 x.k) (.int .i64 x.p) (.int .i64 x.q) (.string x.s) (.int .i64 x.r))
  have hI : Blk 26 (w.heap.size + 1) #[.int .i64 x.k, .int .i64 x.p, .int .i64 x.q, .string x.s, .int .i64 x.r] (st5 w1 (w.heap.size + 1) (.int .i64 x.k) (.int .i64 x.p) (.int .i64 x.q) (.string x.s) (.int .i64 x.r)) := st5_blk KB.out
  have hS := st5_bel (R := (w.heap.size + 1)) (a0 := .int .i64 x.k) (a1 := .int .i64 x.p) (a2 := .int .i64 x.q) (a3 := .string x.s) (a4 := .int .i64 x.r) HBW.out (by omega)
  have d0 := hI.cell 0
  have d1 := hI.cell 1
  have d2 := hI.cell 2
  have d3 := hI.cell 3
  have d4 := hI.cell 4
  simp at d0 d1 d2 d3 d4
  generalize (st5 w1 (w.heap.size + 1) (.int .i64 x.k) (.int .i64 x.p) (.int .i64 x.q) (.string x.s) (.int .i64 x.r)) = W9 at *
  refine bodyPost_ret (v := .agg #[.int .i64 x.k, .int .i64 x.p, .int .i64 x.q, .string x.s, .int .i64 x.r]) (by simp [results, Try.results14, go_sem, d0, d1, d2, d3, d4]) rfl ⟨rfl, hS⟩
set_option maxHeartbeats 4000000 in
theorem tget_none (B t : Nat) (va : Value) (b : Nat) (v m : Value) (s : TS) (w : World) (h : Tb B t va b v m s w) (k : V5) (he : elF s.arr.length k = none) (hL : s.R.length ≤ 1000000) :
    Calls Try.prog 14 #[.pointer (some ⟨t, 0, none⟩), .agg #[.int .i64 k.k, .int .i64 k.p, .int .i64 k.q, .string k.s, .int .i64 k.r]] w fun e w' => e = .returned (.agg #[.int .i64 (getR s.R k).k, .int .i64 (getR s.R k).p, .int .i64 (getR s.R k).q, .string (getR s.R k).s, .int .i64 (getR s.R k).r]) ∧ Below w.heap.size w w' := by
  have HT0 : Hid (Tb B t va b v m s ((w.alloc (.cells #[.int .i64 k.k, .int .i64 k.p, .int .i64 k.q, .string k.s, .int .i64 k.r] 26)).alloc (.cells #[.int .i64 0, .int .i64 0, .int .i64 0, .string ⟨#[]⟩, .int .i64 0] 26))) := Lib.hid (h.ch0 (((Ch.refl [] w).alloc _).alloc _))
  have KK0 : Hid (Blk 26 w.heap.size #[.int .i64 k.k, .int .i64 k.p, .int .i64 k.q, .string k.s, .int .i64 k.r] ((w.alloc (.cells #[.int .i64 k.k, .int .i64 k.p, .int .i64 k.q, .string k.s, .int .i64 k.r] 26)).alloc (.cells #[.int .i64 0, .int .i64 0, .int .i64 0, .string ⟨#[]⟩, .int .i64 0] 26))) := Lib.hid ((Blk.new w 26 _ _ rfl).ch ((Ch.refl [] _).alloc _) (not_nil _))
  have KB0 : Hid (Blk 26 (w.heap.size + 1) #[.int .i64 0, .int .i64 0, .int .i64 0, .string ⟨#[]⟩, .int .i64 0] ((w.alloc (.cells #[.int .i64 k.k, .int .i64 k.p, .int .i64 k.q, .string k.s, .int .i64 k.r] 26)).alloc (.cells #[.int .i64 0, .int .i64 0, .int .i64 0, .string ⟨#[]⟩, .int .i64 0] 26))) := Lib.hid (Blk.new _ 26 _ _ (by simp))
  have HB0 : Hid (Below w.heap.size w ((w.alloc (.cells #[.int .i64 k.k, .int .i64 k.p, .int .i64 k.q, .string k.s, .int .i64 k.r] 26)).alloc (.cells #[.int .i64 0, .int .i64 0, .int .i64 0, .string ⟨#[]⟩, .int .i64 0] 26))) := Lib.hid ((((Ch.refl [] w).alloc _).alloc _).below)
  have QE := Lib.hid (element_none B t va b v m s _ HT0.out k he)
  have QG0 : Hid (∀ W, OmR B b v m s.R W → Calls Try.prog 33 #[.pointer (some ⟨b, 0, none⟩), .agg #[.int .i64 k.k, .int .i64 k.p, .int .i64 k.q, .string k.s, .int .i64 k.r]] W fun e w' => e = .returned (.agg #[.int .i64 (getR s.R k).k, .int .i64 (getR s.R k).p, .int .i64 (getR s.R k).q, .string (getR s.R k).s, .int .i64 (getR s.R k).r]) ∧ Below W.heap.size W w') := Lib.hid fun W hc => get_R B b v m s.R k W hc hL
  clear h he
  generalize getR s.R k = x at *
  go_enter Try.func14, Try.ntmps14
  go_upto_region 6 with (go_at_call 27; (with_reducible refine (QE.out).mono ?_); rintro e w1 ⟨rfl, hb1⟩; have HC1 : Hid (Ch [] ((w.alloc (.cells #[.int .i64 k.k, .int .i64 k.p, .int .i64 k.q, .string k.s, .int .i64 k.r] 26)).alloc (.cells #[.int .i64 0, .int .i64 0, .int .i64 0, .string ⟨#[]⟩, .int .i64 0] 26)) w1) := Lib.hid (Ch.of_below hb1); have HT1 := Lib.hid (HT0.out.ch0 HC1.out); have c0 := HT1.out.blk.cell 0; have c2 : w1.cell? ⟨t, 2, none⟩ = some (.pointer (some ⟨b, 0, none⟩)) := HT1.out.blk.cell 2; have hbl := HT1.out.blk.lt; have KB := Lib.hid (KB0.out.ch HC1.out (not_nil _)); have KK := Lib.hid (KK0.out.ch HC1.out (not_nil _)); clear hb1)
  have QG : Hid (∀ W, Ch [] w1 W → _) := Lib.hid fun W hc => QG0.out W (HT1.out.om.ch hc (fun g _ => not_nil g))
  have HBW : Hid (Below w.heap.size w w1) := Lib.hid (HB0.out.trans (HC1.out.below.mono HB0.out.size))
  have u0 : w1.cell? ⟨w.heap.size, 0, none⟩ = some (.int .i64 k.k) := KK.out.cell 0
  have u1 : w1.cell? ⟨w.heap.size, 1, none⟩ = some (.int .i64 k.p) := KK.out.cell 1
  have u2 : w1.cell? ⟨w.heap.size, 2, none⟩ = some (.int .i64 k.q) := KK.out.cell 2
  have u3 : w1.cell? ⟨w.heap.size, 3, none⟩ = some (.string k.s) := KK.out.cell 3
  have u4 : w1.cell? ⟨w.heap.size, 4, none⟩ = some (.int .i64 k.r) := KK.out.cell 4
  have ul := KK.out.lt
  clear c0
  go_region_law (go_simp; go_at_call 33; (with_reducible refine (QG.out _ ?hc).mono ?_); (case hc => first | exact Ch.refl _ _ | exact (Ch.refl _ _).drew | exact (Ch.refl _ _).drewN _); rintro e w2 ⟨rfl, hb2⟩; (first | have HC2 : Hid (Ch [] w1 w2) := Lib.hid (Ch.of_below hb2) | have HC2 : Hid (Ch [] w1 w2) := Lib.hid (((Ch.refl [] w1).drew).trans (Ch.of_below hb2)) | have HC2 : Hid (Ch [] w1 w2) := Lib.hid (((Ch.refl [] w1).drewN _).trans (Ch.of_below hb2))); have KB2 := Lib.hid (KB.out.ch HC2.out (not_nil _)); have r0 : w2.cell? ⟨w.heap.size + 1, 0, none⟩ = some (.int .i64 0) := KB2.out.cell 0; have r1 : w2.cell? ⟨w.heap.size + 1, 1, none⟩ = some (.int .i64 0) := KB2.out.cell 1; have r2 : w2.cell? ⟨w.heap.size + 1, 2, none⟩ = some (.int .i64 0) := KB2.out.cell 2; have r3 : w2.cell? ⟨w.heap.size + 1, 3, none⟩ = some (.string ⟨#[]⟩) := KB2.out.cell 3; have r4 : w2.cell? ⟨w.heap.size + 1, 4, none⟩ = some (.int .i64 0) := KB2.out.cell 4; have rf0 := KB2.out.fz 0; have rf1 := KB2.out.fz 1; have rf2 := KB2.out.fz 2; have rf3 := KB2.out.fz 3; have rf4 := KB2.out.fz 4; have rl := KB2.out.lt; clear hb2)
  all_goals (
    have HBX : Hid (Below w.heap.size w w2) := Lib.hid (HBW.out.trans (HC2.out.below.mono HBW.out.size))
    go_wp2
    show bodyPost _ _ _ Exit.ret _ (st5 w2 (w.heap.size + 1) (.int .i64 x.k) (.int .i64 x.p) (.int .i64 x.q) (.string x.s) (.int .i64 x.r))
    have hI : Blk 26 (w.heap.size + 1) #[.int .i64 x.k, .int .i64 x.p, .int .i64 x.q, .string x.s, .int .i64 x.r] (st5 w2 (w.heap.size + 1) (.int .i64 x.k) (.int .i64 x.p) (.int .i64 x.q) (.string x.s) (.int .i64 x.r)) := st5_blk KB2.out
    have hS := st5_bel (R := (w.heap.size + 1)) (a0 := .int .i64 x.k) (a1 := .int .i64 x.p) (a2 := .int .i64 x.q) (a3 := .string x.s) (a4 := .int .i64 x.r) HBX.out (by omega)
    have d0 := hI.cell 0
    have d1 := hI.cell 1
    have d2 := hI.cell 2
    have d3 := hI.cell 3
    have d4 := hI.cell 4
    simp at d0 d1 d2 d3 d4
    generalize (st5 w2 (w.heap.size + 1) (.int .i64 x.k) (.int .i64 x.p) (.int .i64 x.q) (.string x.s) (.int .i64 x.r)) = W9 at *
    refine bodyPost_ret (v := .agg #[.int .i64 x.k, .int .i64 x.p, .int .i64 x.q, .string x.s, .int .i64 x.r]) (by simp [results, Try.results14, go_sem, d0, d1, d2, d3, d4]) rfl ⟨rfl, hS⟩)
theorem tget_any (B t : Nat) (va : Value) (b : Nat) (v m : Value) (s : TS) (w : World) (h : Tb B t va b v m s w) (k : V5) (hL : s.arr.length ≤ 1000000) (hR : s.R.length ≤ 1000000) :
    Calls Try.prog 14 #[.pointer (some ⟨t, 0, none⟩), .agg #[.int .i64 k.k, .int .i64 k.p, .int .i64 k.q, .string k.s, .int .i64 k.r]] w fun e w' => e = .returned (.agg #[.int .i64 (getT s k).k, .int .i64 (getT s k).p, .int .i64 (getT s k).q, .string (getT s k).s, .int .i64 (getT s k).r]) ∧ Below w.heap.size w w' := by
  unfold getT
  cases he : elF s.arr.length k with
  | none => exact tget_none B t va b v m s w h k he hR
  | some i =>
    obtain ⟨h1, h2, _⟩ := elF_some he
    obtain ⟨j, rfl⟩ : ∃ j, i = j + 1 := ⟨i - 1, by omega⟩
    have := tget_some B t va b v m s w h k j (by omega) he hL
    simp only [Nat.add_sub_cancel, List.getElem?_eq_getElem (show j < s.arr.length by omega), Option.getD_some]
    exact this
end Go.Proofs.Ytaaelhhiceildaa
namespace Go.Proofs.Ytaaelhhiceildaa
open Go.RowKit Go.Joins M1
set_option linter.unusedVariables false
/-- The number of values that are not nil. -/
def cntA (l : List V5) : Nat := (l.filter (fun v => decide (v.k ≠ 0))).length
theorem cntA_step {l : List V5} {i : Nat} (hi : i < l.length) : cntA (l.take (i + 1)) = cntA (l.take i) + if l[i].k ≠ 0 then 1 else 0 := by
  unfold cntA
  rw [List.take_succ_eq_append_getElem hi, List.filter_append, List.length_append]
  by_cases h : l[i].k = 0 <;> simp [h]
theorem cntA_le (l : List V5) (i : Nat) : cntA (l.take i) ≤ i := Nat.le_trans (List.length_filter_le _ _) (by rw [List.length_take]; omega)
def sizeT (s : TS) : Nat := 4 + 2 * s.arr.length + 4 * (if s.st then lenR s.R else s.R.length)
set_option maxHeartbeats 4000000 in
theorem size_a (B t : Nat) (va : Value) (b : Nat) (v m : Value) (s : TS) (w : World) (h : Tb B t va b v m s w) (hL : s.arr.length + s.R.length ≤ 1000000) (n : Nat) (hn : n = if s.st then lenR s.R else s.R.length) (x : Bool) (hx : s.st = x) :
    Calls Try.prog 21 #[.pointer (some ⟨t, 0, none⟩)] w fun e w' => e = .returned (.int .i64 ((4 + 2 * s.arr.length + 4 * n : Nat) : Int)) ∧ w = w' := by
  obtain ⟨p, cap, rfl, _⟩ := h.form
  have hlr := lenR_le s.R
  have hn1 : n ≤ 1000000 := by rw [hn]; split <;> omega
  have c0 : w.cell? ⟨t, 0, none⟩ = some (.slice p s.arr.length cap) := h.blk.cell 0
  have c2 : w.cell? ⟨t, 2, none⟩ = some (.pointer (some ⟨b, 0, none⟩)) := h.blk.cell 2
  have c3 : w.cell? ⟨t, 3, none⟩ = some (.bool x) := by have := h.blk.cell 3; rw [hx] at this; exact this
  have hb := h.blk.lt
  have QS := Lib.hid (slots_R B b v m s.R w h.om)
  have QL := Lib.hid (len_R B b v m s.R w h.om)
  have d1 : IntKind.i64.wrap (2 * (s.arr.length : Int)) = 2 * (s.arr.length : Int) := IntWalk.i64_in _ (by omega)
  have d2 : IntKind.i64.wrap (4 + 2 * (s.arr.length : Int)) = 4 + 2 * (s.arr.length : Int) := IntWalk.i64_in _ (by omega)
  have d3 : IntKind.i64.wrap (4 * (n : Int)) = 4 * (n : Int) := IntWalk.i64_in _ (by omega)
  have d4 : IntKind.i64.wrap (4 + 2 * (s.arr.length : Int) + 4 * (n : Int)) = 4 + 2 * (s.arr.length : Int) + 4 * (n : Int) := IntWalk.i64_in _ (by omega)
  have he : ((4 + 2 * s.arr.length + 4 * n : Nat) : Int) = 4 + 2 * (s.arr.length : Int) + 4 * (n : Int) := by omega
  rw [he]
  cases x with
  | false =>
    rw [hx] at hn
    simp only [Bool.false_eq_true, if_false] at hn
    have QS2 : Hid (Calls Try.prog 41 #[.pointer (some ⟨b, 0, none⟩)] w fun e w' => e = .returned (.int .i64 (n : Int)) ∧ w = w') := Lib.hid (by have := QS.out; rw [← hn] at this; exact this)
    clear h hn hlr QS he hx hn1 hL
    go_enter Try.func21, Try.ntmps21
    go_wp2_with (first | (go_at_call 41; (with_reducible refine (QS2.out).mono ?_); rintro e w1 ⟨rfl, rfl⟩) | (go_at_call 36; (with_reducible refine (QL.out).mono ?_); rintro e w1 ⟨rfl, rfl⟩))
    go_ret
    exact ⟨rfl, rfl⟩
  | true =>
    rw [hx] at hn
    simp only [if_true] at hn
    have QL2 : Hid (Calls Try.prog 36 #[.pointer (some ⟨b, 0, none⟩)] w fun e w' => e = .returned (.int .i64 (n : Int)) ∧ w = w') := Lib.hid (by have := QL.out; rw [← hn] at this; exact this)
    clear h hn hlr QL he hx hn1 hL
    go_enter Try.func21, Try.ntmps21
    go_wp2_with (first | (go_at_call 41; (with_reducible refine (QS.out).mono ?_); rintro e w1 ⟨rfl, rfl⟩) | (go_at_call 36; (with_reducible refine (QL2.out).mono ?_); rintro e w1 ⟨rfl, rfl⟩))
    go_ret
    exact ⟨rfl, rfl⟩
theorem tsize_any (B t : Nat) (va : Value) (b : Nat) (v m : Value) (s : TS) (w : World) (h : Tb B t va b v m s w) (hL : s.arr.length + s.R.length ≤ 1000000) :
    Calls Try.prog 21 #[.pointer (some ⟨t, 0, none⟩)] w fun e w' => e = .returned (.int .i64 (sizeT s : Int)) ∧ w = w' := size_a B t va b v m s w h hL _ rfl _ rfl
set_option maxHeartbeats 4000000 in
theorem tcount_any (B t : Nat) (va : Value) (b : Nat) (v m : Value) (s : TS) (w : World) (h : Tb B t va b v m s w) (hL : s.arr.length + s.R.length ≤ 1000000) :
    Calls Try.prog 16 #[.pointer (some ⟨t, 0, none⟩)] w fun e w' => e = .returned (.int .i64 ((lenR s.R + cntA s.arr : Nat) : Int)) ∧ Below w.heap.size w w' := by
  obtain ⟨p, cap, rfl, hp⟩ := h.form
  have hlr := lenR_le s.R
  have HP := Lib.hid hp
  have c0 : w.cell? ⟨t, 0, none⟩ = some (.slice p s.arr.length cap) := h.blk.cell 0
  have c2 : w.cell? ⟨t, 2, none⟩ = some (.pointer (some ⟨b, 0, none⟩)) := h.blk.cell 2
  have hb := h.blk.lt
  have QL := Lib.hid (len_R B b v m s.R w h.om)
  clear h hp
  go_enter Try.func16, Try.ntmps16
  go_wp2_with (go_at_call 36; (with_reducible refine (QL.out).mono ?_); rintro e w1 ⟨rfl, rfl⟩)
  go_loopw [3, 18] (fun v3 v18 wr => ∃ i : Nat, i ≤ s.arr.length ∧ v3 = .int .i64 ((lenR s.R + cntA (s.arr.take i) : Nat) : Int) ∧ v18 = .int .i64 (i : Int) ∧ Hid (Below w.heap.size w wr)) (fun _ v18 _ => s.arr.length - (intOf v18).toNat)
  case atStart => exact ⟨0, Nat.zero_le _, by simp [cntA], rfl, Lib.hid (Below.refl _ _)⟩
  case round =>
    obtain ⟨i, hi, rfl, rfl, HB⟩ := hrel
    rename World => wr
    have hcl := cntA_le s.arr i
    by_cases hlt : i < s.arr.length
    · have hlt' : (i : Int) < (s.arr.length : Int) := by omega
      have hi0' : (0 : Int) ≤ (i : Int) := by omega
      have di : IntKind.i64.wrap ((i : Int) + 1) = (i : Int) + 1 := IntWalk.i64_in _ (by omega)
      have dn : IntKind.i64.wrap ((lenR s.R : Int) + (cntA (s.arr.take i) : Int) + 1) = (lenR s.R : Int) + (cntA (s.arr.take i) : Int) + 1 := IntWalk.i64_in _ (by omega)
      have hst := cntA_step hlt
      obtain ⟨g, rfl, hgl, _, key⟩ := HP.out (by omega)
      have key2 : ∀ j, j < 5 → wr.cell? ⟨g, i * 5 + j, none⟩ = (vC s.arr[i])[j]? := fun j hj => (HB.out.cell (p := ⟨g, _, none⟩) hgl).trans (key i hlt j hj)
      have hg2 : g < wr.heap.size := Nat.lt_of_lt_of_le hgl HB.out.size
      have d0 : wr.cell? ⟨g, i * 5, none⟩ = some (.int .i64 s.arr[i].k) := key2 0 (by omega)
      have d1 : wr.cell? ⟨g, i * 5 + 1, none⟩ = some (.int .i64 s.arr[i].p) := key2 1 (by omega)
      have d2 : wr.cell? ⟨g, i * 5 + 2, none⟩ = some (.int .i64 s.arr[i].q) := key2 2 (by omega)
      have d3 : wr.cell? ⟨g, i * 5 + 3, none⟩ = some (.string s.arr[i].s) := key2 3 (by omega)
      have d4 : wr.cell? ⟨g, i * 5 + 4, none⟩ = some (.int .i64 s.arr[i].r) := key2 4 (by omega)
      clear key key2
      have HBA : Hid (Below w.heap.size w (wr.alloc (.cells #[.int .i64 s.arr[i].k, .int .i64 s.arr[i].p, .int .i64 s.arr[i].q, .string s.arr[i].s, .int .i64 s.arr[i].r] 26))) := Lib.hid (HB.out.alloc HB.out.size _)
      by_cases hz : s.arr[i].k = 0
      · have e0 : (s.arr[i].k != 0) = false := by simp [hz]
        have HST : Hid (cntA (s.arr.take (i + 1)) = cntA (s.arr.take i)) := Lib.hid (by rw [hst, if_neg (by simpa using hz)]; rfl)
        clear hz hst
        go_wp2
        go_roundw
        (case rel => exact ⟨i + 1, by omega, by rw [HST.out], by go_num, HBA⟩)
        (case measure => simp [intOf]; omega)
      · have e0 : (s.arr[i].k != 0) = true := bne_iff_ne.2 hz
        have HST : Hid (cntA (s.arr.take (i + 1)) = cntA (s.arr.take i) + 1) := Lib.hid (by rw [hst, if_pos hz])
        clear hz hst
        go_wp2
        go_roundw
        (case rel => exact ⟨i + 1, by omega, by rw [HST.out]; go_num, by go_num, HBA⟩)
        (case measure => simp [intOf]; omega)
    · have hlt' : ¬ (i : Int) < (s.arr.length : Int) := by omega
      have HE : Hid (cntA (s.arr.take i) = cntA s.arr) := Lib.hid (by rw [show i = s.arr.length by omega, List.take_length])
      go_wp2
      go_ret
      exact ⟨by rw [← HE.out]; first | rfl | simp, HB.out⟩
end Go.Proofs.Ytaaelhhiceildaa
