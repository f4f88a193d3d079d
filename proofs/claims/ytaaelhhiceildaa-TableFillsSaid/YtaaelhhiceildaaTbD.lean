/- Layer 13: put. -/
import Derived.Test.YtaaelhhiceildaaTbC
import Derived.Test.YtaaelhhiceildaaOdrR
namespace Go.Proofs.Ytaaelhhiceildaa
open Go.RowKit Go.Joins M1
set_option linter.unusedVariables false
theorem Tb.put {B t b g cap : Nat} {v m : Value} {s : TS} {w : World} (h : Tb B t (.slice (some ⟨g, 0, none⟩) s.arr.length cap) b v m s w) (j : Nat) (hj : j < s.arr.length) (x : V5) :
    Tb B t (.slice (some ⟨g, 0, none⟩) s.arr.length cap) b v m ⟨s.arr.set j x, s.bl, s.R, s.st⟩ (stL w g (j * 5) (vC x)) ∧ Ch [g] w (stL w g (j * 5) (vC x)) := by
  have hgt : g ≠ t := (h.apr g (mem_ob.2 rfl)).1
  have hgo : g ∉ omS b v m := (h.apr g (mem_ob.2 rfl)).2
  have hc : Ch [g] w (stL w g (j * 5) (vC x)) := stL_ch (by simp) _ _ (Ch.refl _ _)
  refine ⟨⟨h.blk.ch hc (by simp; exact fun e => hgt e.symm), h.lo, ?_, h.om.ch hc (fun y hy => by simp; intro e; subst e; exact hgo hy), h.apt, h.apr, by simpa using h.bnd⟩, hc⟩
  have hr := h.row
  rw [← map_flat] at hr
  have := row_store (n := 5) (vC x) (C := s.arr.map vC) (fun c hc => by obtain ⟨y, _, rfl⟩ := List.mem_map.1 hc; rfl) j 0 (by simpa using hj) (by rw [vC_len]; omega) hr
  rw [List.getElem_map, show patch (vC s.arr[j]) 0 (vC x) = vC x from rfl, ← List.map_set, map_flat] at this
  simpa using this
theorem tb_after {B t : Nat} {va : Value} {b : Nat} {v m : Value} {s' : TS} {w w' : World} (h : Tb B t va b v m s' w') (hc : Ch (tbS t va b v m) w w') : TbSaid B t va b v m s' w w' := ⟨⟨va, b, v, m, h, fun g hg => .inl hg⟩, hc⟩
/-- What follows a call that changed a table in its own blocks. -/
theorem tb_next {B t : Nat} {va : Value} {b : Nat} {v m : Value} {s' : TS} {w w1 w2 : World} (hc : Ch (tbS t va b v m) w w1) (h : TbSaid B t va b v m s' w1 w2) : TbSaid B t va b v m s' w w2 := by
  obtain ⟨⟨va', b', v', m', h1, h2⟩, h3⟩ := h
  refine ⟨⟨va', b', v', m', h1, fun g hg => ?_⟩, hc.trans h3⟩
  rcases h2 g hg with q | q
  · exact .inl q
  · right; have := hc.size; omega
/-- What put leaves. -/
def putS (s : TS) (j : Nat) (x : V5) : TS := if x.k ≠ 0 then ⟨s.arr.set j x, min s.bl j, s.R, s.st⟩ else if j + 1 = s.arr.length then trimS ⟨s.arr.set j x, s.bl, s.R, s.st⟩ else ⟨s.arr.set j x, s.bl, s.R, s.st⟩
set_option maxHeartbeats 8000000 in
theorem put_a1 (B t : Nat) (va : Value) (b : Nat) (v m : Value) (s : TS) (w : World) (h : Tb B t va b v m s w) (j : Nat) (x : V5) (hj : j < s.arr.length) (hL : s.arr.length ≤ 1000000) (hx : x.k ≠ 0) (hb : s.bl ≤ j) :
    Calls Try.prog 28 #[.pointer (some ⟨t, 0, none⟩), .int .i64 ((j : Int) + 1), .agg #[.int .i64 x.k, .int .i64 x.p, .int .i64 x.q, .string x.s, .int .i64 x.r]] w fun e w' => e = .returned (.tuple #[]) ∧ TbSaid B t va b v m (⟨s.arr.set j x, s.bl, s.R, s.st⟩) w w' := by
  have ex : (x.k != 0) = true := bne_iff_ne.2 hx
  have hb1 : (s.bl : Int) ≤ (j : Int) := by omega
  obtain ⟨p, cap, rfl, hp⟩ := h.form
  obtain ⟨g, rfl, _, _, _⟩ := hp (by omega)
  have h0 : Tb B t (.slice (some ⟨g, 0, none⟩) s.arr.length cap) b v m s (w.alloc (.cells #[.int .i64 x.k, .int .i64 x.p, .int .i64 x.q, .string x.s, .int .i64 x.r] 26)) := h.ch0 ((Ch.refl [] w).alloc _)
  have HPUT := Lib.hid (h0.put j hj x)
  have K0 : Hid (Blk 26 w.heap.size #[.int .i64 x.k, .int .i64 x.p, .int .i64 x.q, .string x.s, .int .i64 x.r] (w.alloc (.cells #[.int .i64 x.k, .int .i64 x.p, .int .i64 x.q, .string x.s, .int .i64 x.r] 26))) := Lib.hid (Blk.new w _ _ _ rfl)
  have HC0 : Hid (Ch [] w (w.alloc (.cells #[.int .i64 x.k, .int .i64 x.p, .int .i64 x.q, .string x.s, .int .i64 x.r] 26))) := Lib.hid ((Ch.refl [] w).alloc _)
  have HXG : Hid (w.heap.size ∉ [g]) := Lib.hid fun hx => by have := (h.lt g (by simp [tbS, Go.Proofs.Ytaaelhhiceildaa.ob, Value.ownBlock])).2; simp at hx; omega
  have HXT : Hid (w.heap.size ≠ t) := Lib.hid fun hx => by have := h.blk.lt; omega
  have HIN : Hid (∀ y, y ∈ [g] → y ∈ tbS t (.slice (some ⟨g, 0, none⟩) s.arr.length cap) b v m) := Lib.hid fun y hy => by simp at hy; subst hy; simp [tbS, Go.Proofs.Ytaaelhhiceildaa.ob, Value.ownBlock]
  obtain ⟨p', cap', e', hp'⟩ := h0.form
  injection e' with e1 e2 e3
  subst e3
  obtain ⟨g', q1, hgl, hgf, key⟩ := hp' (by omega)
  rw [← e1] at q1
  injection q1 with q1
  injection q1 with q1
  subst q1
  have c0 : (w.alloc (.cells #[.int .i64 x.k, .int .i64 x.p, .int .i64 x.q, .string x.s, .int .i64 x.r] 26)).cell? ⟨t, 0, none⟩ = some (.slice (some ⟨g, 0, none⟩) s.arr.length cap) := h0.blk.cell 0
  have hbl := h0.blk.lt
  have hj2 : (j : Int) < (s.arr.length : Int) := by omega
  have hj0 : (0 : Int) ≤ (j : Int) := by omega
  have dj : IntKind.i64.wrap ((j : Int) + 1 - 1) = (j : Int) := by rw [show (j : Int) + 1 - 1 = j by omega]; exact IntWalk.i64_in _ (by omega)
  have dj0 : IntKind.i64.wrap (j : Int) = (j : Int) := IntWalk.i64_in _ (by omega)
  clear hx
  clear h h0 hp hp' e1
  go_enter Try.func28, Try.ntmps28
  go_upto_region 1 with fail
  have d0 : (w.alloc (.cells #[.int .i64 x.k, .int .i64 x.p, .int .i64 x.q, .string x.s, .int .i64 x.r] 26)).cell? ⟨g, j * 5, none⟩ = some (.int .i64 s.arr[j].k) := key j hj 0 (by omega)
  have d1 : (w.alloc (.cells #[.int .i64 x.k, .int .i64 x.p, .int .i64 x.q, .string x.s, .int .i64 x.r] 26)).cell? ⟨g, j * 5 + 1, none⟩ = some (.int .i64 s.arr[j].p) := key j hj 1 (by omega)
  have d2 : (w.alloc (.cells #[.int .i64 x.k, .int .i64 x.p, .int .i64 x.q, .string x.s, .int .i64 x.r] 26)).cell? ⟨g, j * 5 + 2, none⟩ = some (.int .i64 s.arr[j].q) := key j hj 2 (by omega)
  have d3 : (w.alloc (.cells #[.int .i64 x.k, .int .i64 x.p, .int .i64 x.q, .string x.s, .int .i64 x.r] 26)).cell? ⟨g, j * 5 + 3, none⟩ = some (.string s.arr[j].s) := key j hj 3 (by omega)
  have d4 : (w.alloc (.cells #[.int .i64 x.k, .int .i64 x.p, .int .i64 x.q, .string x.s, .int .i64 x.r] 26)).cell? ⟨g, j * 5 + 4, none⟩ = some (.int .i64 s.arr[j].r) := key j hj 4 (by omega)
  clear key
  generalize w.alloc (.cells #[.int .i64 x.k, .int .i64 x.p, .int .i64 x.q, .string x.s, .int .i64 x.r] 26) = w0 at *
  have u0 : w0.cell? ⟨w.heap.size, 0, none⟩ = some (.int .i64 x.k) := K0.out.cell 0
  have u1 : w0.cell? ⟨w.heap.size, 1, none⟩ = some (.int .i64 x.p) := K0.out.cell 1
  have u2 : w0.cell? ⟨w.heap.size, 2, none⟩ = some (.int .i64 x.q) := K0.out.cell 2
  have u3 : w0.cell? ⟨w.heap.size, 3, none⟩ = some (.string x.s) := K0.out.cell 3
  have u4 : w0.cell? ⟨w.heap.size, 4, none⟩ = some (.int .i64 x.r) := K0.out.cell 4
  have lu := K0.out.lt
  have f0 := hgf (j * 5)
  have f1 := hgf (j * 5 + 1)
  have f2 := hgf (j * 5 + 2)
  have f3 := hgf (j * 5 + 3)
  have f4 := hgf (j * 5 + 4)
  clear hgf
  go_region
  all_goals (
    go_upto_region 2 with fail
    go_name_world V1 hV
    have HT1 : Hid (Tb B t (.slice (some ⟨g, 0, none⟩) s.arr.length cap) b v m ⟨s.arr.set j x, s.bl, s.R, s.st⟩ V1) := Lib.hid (by rw [← hV]; first | exact HPUT.out.1 | exact HPUT.out.1.ch0 ((Ch.refl [] _).drew))
    have HC1 : Hid (Ch [g] w0 V1) := Lib.hid (by rw [← hV]; first | exact HPUT.out.2 | exact HPUT.out.2.drew)
    have HC2 : Hid (Ch (tbS t (.slice (some ⟨g, 0, none⟩) s.arr.length cap) b v m) w V1) := Lib.hid ((HC0.out.mono (fun g' hg' => absurd hg' (not_nil g'))).trans (HC1.out.mono HIN.out))
    have K1 : Hid (Blk 26 w.heap.size #[.int .i64 x.k, .int .i64 x.p, .int .i64 x.q, .string x.s, .int .i64 x.r] V1) := Lib.hid (K0.out.ch HC1.out HXG.out)
    clear hV c0 d0 d1 d2 d3 d4 u0 u1 u2 u3 u4 f0 f1 f2 f3 f4 hgl hbl lu
    have u0 : V1.cell? ⟨w.heap.size, 0, none⟩ = some (.int .i64 x.k) := K1.out.cell 0
    have lu := K1.out.lt
    have c0 : V1.cell? ⟨t, 0, none⟩ = some (.slice (some ⟨g, 0, none⟩) s.arr.length cap) := HT1.out.blk.cell 0
    have c1 : V1.cell? ⟨t, 1, none⟩ = some (.int .i64 (s.bl : Int)) := HT1.out.blk.cell 1
    have f1 := HT1.out.blk.fz 1
    have hbl := HT1.out.blk.lt
    have HBM : Hid (∀ n : Nat, n ≤ s.bl → n ≤ s.arr.length → TbSaid B t (.slice (some ⟨g, 0, none⟩) s.arr.length cap) b v m ⟨s.arr.set j x, n, s.R, s.st⟩ w (V1.setCell ⟨t, 1, none⟩ (.int .i64 (n : Int)))) := Lib.hid fun n hn hn2 => by
      have hs : Ch [t] V1 (V1.setCell ⟨t, 1, none⟩ (.int .i64 (n : Int))) := (Ch.refl [t] V1).set t 1 _ (.inl (by simp))
      refine ⟨⟨(.slice (some ⟨g, 0, none⟩) s.arr.length cap), b, v, m, ⟨HT1.out.blk.set 1 _, HT1.out.lo, hs.ownB HT1.out.row (fun y hy => by simp; exact (HT1.out.apr y hy).1), HT1.out.om.ch hs (fun y hy => by simp; intro e; subst e; exact HT1.out.apt hy), HT1.out.apt, HT1.out.apr, by simpa using hn2⟩, fun y hy => .inl hy⟩, HC2.out.trans (hs.mono (fun y hy => by simp at hy; subst hy; simp [tbS]))⟩
    clear HPUT K0 HXG
    have HF := Lib.hid (HBM.out s.bl (by omega) (by omega))
    go_wp2
    go_end0
    exact ⟨rfl, HF.out⟩)
set_option maxHeartbeats 8000000 in
theorem put_a2 (B t : Nat) (va : Value) (b : Nat) (v m : Value) (s : TS) (w : World) (h : Tb B t va b v m s w) (j : Nat) (x : V5) (hj : j < s.arr.length) (hL : s.arr.length ≤ 1000000) (hx : x.k ≠ 0) (hb : j < s.bl) :
    Calls Try.prog 28 #[.pointer (some ⟨t, 0, none⟩), .int .i64 ((j : Int) + 1), .agg #[.int .i64 x.k, .int .i64 x.p, .int .i64 x.q, .string x.s, .int .i64 x.r]] w fun e w' => e = .returned (.tuple #[]) ∧ TbSaid B t va b v m (⟨s.arr.set j x, j, s.R, s.st⟩) w w' := by
  have ex : (x.k != 0) = true := bne_iff_ne.2 hx
  have hb1 : (j : Int) < (s.bl : Int) := by omega
  obtain ⟨p, cap, rfl, hp⟩ := h.form
  obtain ⟨g, rfl, _, _, _⟩ := hp (by omega)
  have h0 : Tb B t (.slice (some ⟨g, 0, none⟩) s.arr.length cap) b v m s (w.alloc (.cells #[.int .i64 x.k, .int .i64 x.p, .int .i64 x.q, .string x.s, .int .i64 x.r] 26)) := h.ch0 ((Ch.refl [] w).alloc _)
  have HPUT := Lib.hid (h0.put j hj x)
  have K0 : Hid (Blk 26 w.heap.size #[.int .i64 x.k, .int .i64 x.p, .int .i64 x.q, .string x.s, .int .i64 x.r] (w.alloc (.cells #[.int .i64 x.k, .int .i64 x.p, .int .i64 x.q, .string x.s, .int .i64 x.r] 26))) := Lib.hid (Blk.new w _ _ _ rfl)
  have HC0 : Hid (Ch [] w (w.alloc (.cells #[.int .i64 x.k, .int .i64 x.p, .int .i64 x.q, .string x.s, .int .i64 x.r] 26))) := Lib.hid ((Ch.refl [] w).alloc _)
  have HXG : Hid (w.heap.size ∉ [g]) := Lib.hid fun hx => by have := (h.lt g (by simp [tbS, Go.Proofs.Ytaaelhhiceildaa.ob, Value.ownBlock])).2; simp at hx; omega
  have HXT : Hid (w.heap.size ≠ t) := Lib.hid fun hx => by have := h.blk.lt; omega
  have HIN : Hid (∀ y, y ∈ [g] → y ∈ tbS t (.slice (some ⟨g, 0, none⟩) s.arr.length cap) b v m) := Lib.hid fun y hy => by simp at hy; subst hy; simp [tbS, Go.Proofs.Ytaaelhhiceildaa.ob, Value.ownBlock]
  obtain ⟨p', cap', e', hp'⟩ := h0.form
  injection e' with e1 e2 e3
  subst e3
  obtain ⟨g', q1, hgl, hgf, key⟩ := hp' (by omega)
  rw [← e1] at q1
  injection q1 with q1
  injection q1 with q1
  subst q1
  have c0 : (w.alloc (.cells #[.int .i64 x.k, .int .i64 x.p, .int .i64 x.q, .string x.s, .int .i64 x.r] 26)).cell? ⟨t, 0, none⟩ = some (.slice (some ⟨g, 0, none⟩) s.arr.length cap) := h0.blk.cell 0
  have hbl := h0.blk.lt
  have hj2 : (j : Int) < (s.arr.length : Int) := by omega
  have hj0 : (0 : Int) ≤ (j : Int) := by omega
  have dj : IntKind.i64.wrap ((j : Int) + 1 - 1) = (j : Int) := by rw [show (j : Int) + 1 - 1 = j by omega]; exact IntWalk.i64_in _ (by omega)
  have dj0 : IntKind.i64.wrap (j : Int) = (j : Int) := IntWalk.i64_in _ (by omega)
  clear hx
  clear h h0 hp hp' e1
  go_enter Try.func28, Try.ntmps28
  go_upto_region 1 with fail
  have d0 : (w.alloc (.cells #[.int .i64 x.k, .int .i64 x.p, .int .i64 x.q, .string x.s, .int .i64 x.r] 26)).cell? ⟨g, j * 5, none⟩ = some (.int .i64 s.arr[j].k) := key j hj 0 (by omega)
  have d1 : (w.alloc (.cells #[.int .i64 x.k, .int .i64 x.p, .int .i64 x.q, .string x.s, .int .i64 x.r] 26)).cell? ⟨g, j * 5 + 1, none⟩ = some (.int .i64 s.arr[j].p) := key j hj 1 (by omega)
  have d2 : (w.alloc (.cells #[.int .i64 x.k, .int .i64 x.p, .int .i64 x.q, .string x.s, .int .i64 x.r] 26)).cell? ⟨g, j * 5 + 2, none⟩ = some (.int .i64 s.arr[j].q) := key j hj 2 (by omega)
  have d3 : (w.alloc (.cells #[.int .i64 x.k, .int .i64 x.p, .int .i64 x.q, .string x.s, .int .i64 x.r] 26)).cell? ⟨g, j * 5 + 3, none⟩ = some (.string s.arr[j].s) := key j hj 3 (by omega)
  have d4 : (w.alloc (.cells #[.int .i64 x.k, .int .i64 x.p, .int .i64 x.q, .string x.s, .int .i64 x.r] 26)).cell? ⟨g, j * 5 + 4, none⟩ = some (.int .i64 s.arr[j].r) := key j hj 4 (by omega)
  clear key
  generalize w.alloc (.cells #[.int .i64 x.k, .int .i64 x.p, .int .i64 x.q, .string x.s, .int .i64 x.r] 26) = w0 at *
  have u0 : w0.cell? ⟨w.heap.size, 0, none⟩ = some (.int .i64 x.k) := K0.out.cell 0
  have u1 : w0.cell? ⟨w.heap.size, 1, none⟩ = some (.int .i64 x.p) := K0.out.cell 1
  have u2 : w0.cell? ⟨w.heap.size, 2, none⟩ = some (.int .i64 x.q) := K0.out.cell 2
  have u3 : w0.cell? ⟨w.heap.size, 3, none⟩ = some (.string x.s) := K0.out.cell 3
  have u4 : w0.cell? ⟨w.heap.size, 4, none⟩ = some (.int .i64 x.r) := K0.out.cell 4
  have lu := K0.out.lt
  have f0 := hgf (j * 5)
  have f1 := hgf (j * 5 + 1)
  have f2 := hgf (j * 5 + 2)
  have f3 := hgf (j * 5 + 3)
  have f4 := hgf (j * 5 + 4)
  clear hgf
  go_region
  all_goals (
    go_upto_region 2 with fail
    go_name_world V1 hV
    have HT1 : Hid (Tb B t (.slice (some ⟨g, 0, none⟩) s.arr.length cap) b v m ⟨s.arr.set j x, s.bl, s.R, s.st⟩ V1) := Lib.hid (by rw [← hV]; first | exact HPUT.out.1 | exact HPUT.out.1.ch0 ((Ch.refl [] _).drew))
    have HC1 : Hid (Ch [g] w0 V1) := Lib.hid (by rw [← hV]; first | exact HPUT.out.2 | exact HPUT.out.2.drew)
    have HC2 : Hid (Ch (tbS t (.slice (some ⟨g, 0, none⟩) s.arr.length cap) b v m) w V1) := Lib.hid ((HC0.out.mono (fun g' hg' => absurd hg' (not_nil g'))).trans (HC1.out.mono HIN.out))
    have K1 : Hid (Blk 26 w.heap.size #[.int .i64 x.k, .int .i64 x.p, .int .i64 x.q, .string x.s, .int .i64 x.r] V1) := Lib.hid (K0.out.ch HC1.out HXG.out)
    clear hV c0 d0 d1 d2 d3 d4 u0 u1 u2 u3 u4 f0 f1 f2 f3 f4 hgl hbl lu
    have u0 : V1.cell? ⟨w.heap.size, 0, none⟩ = some (.int .i64 x.k) := K1.out.cell 0
    have lu := K1.out.lt
    have c0 : V1.cell? ⟨t, 0, none⟩ = some (.slice (some ⟨g, 0, none⟩) s.arr.length cap) := HT1.out.blk.cell 0
    have c1 : V1.cell? ⟨t, 1, none⟩ = some (.int .i64 (s.bl : Int)) := HT1.out.blk.cell 1
    have f1 := HT1.out.blk.fz 1
    have hbl := HT1.out.blk.lt
    have HBM : Hid (∀ n : Nat, n ≤ s.bl → n ≤ s.arr.length → TbSaid B t (.slice (some ⟨g, 0, none⟩) s.arr.length cap) b v m ⟨s.arr.set j x, n, s.R, s.st⟩ w (V1.setCell ⟨t, 1, none⟩ (.int .i64 (n : Int)))) := Lib.hid fun n hn hn2 => by
      have hs : Ch [t] V1 (V1.setCell ⟨t, 1, none⟩ (.int .i64 (n : Int))) := (Ch.refl [t] V1).set t 1 _ (.inl (by simp))
      refine ⟨⟨(.slice (some ⟨g, 0, none⟩) s.arr.length cap), b, v, m, ⟨HT1.out.blk.set 1 _, HT1.out.lo, hs.ownB HT1.out.row (fun y hy => by simp; exact (HT1.out.apr y hy).1), HT1.out.om.ch hs (fun y hy => by simp; intro e; subst e; exact HT1.out.apt hy), HT1.out.apt, HT1.out.apr, by simpa using hn2⟩, fun y hy => .inl hy⟩, HC2.out.trans (hs.mono (fun y hy => by simp at hy; subst hy; simp [tbS]))⟩
    clear HPUT K0 HXG
    have HF := Lib.hid (HBM.out j (by omega) (by omega))
    go_wp2
    go_end0
    exact ⟨rfl, HF.out⟩)
set_option maxHeartbeats 8000000 in
theorem put_b (B t : Nat) (va : Value) (b : Nat) (v m : Value) (s : TS) (w : World) (h : Tb B t va b v m s w) (j : Nat) (x : V5) (hj : j < s.arr.length) (hL : s.arr.length ≤ 1000000) (hx : x.k = 0) (hl : j + 1 ≠ s.arr.length) :
    Calls Try.prog 28 #[.pointer (some ⟨t, 0, none⟩), .int .i64 ((j : Int) + 1), .agg #[.int .i64 x.k, .int .i64 x.p, .int .i64 x.q, .string x.s, .int .i64 x.r]] w fun e w' => e = .returned (.tuple #[]) ∧ TbSaid B t va b v m (⟨s.arr.set j x, s.bl, s.R, s.st⟩) w w' := by
  have ex : (x.k != 0) = false := by simp [hx]
  have el : ((j : Int) + 1 == (s.arr.length : Int)) = false := beq_eq_false_iff_ne.2 (by omega)
  obtain ⟨p, cap, rfl, hp⟩ := h.form
  obtain ⟨g, rfl, _, _, _⟩ := hp (by omega)
  have h0 : Tb B t (.slice (some ⟨g, 0, none⟩) s.arr.length cap) b v m s (w.alloc (.cells #[.int .i64 x.k, .int .i64 x.p, .int .i64 x.q, .string x.s, .int .i64 x.r] 26)) := h.ch0 ((Ch.refl [] w).alloc _)
  have HPUT := Lib.hid (h0.put j hj x)
  have K0 : Hid (Blk 26 w.heap.size #[.int .i64 x.k, .int .i64 x.p, .int .i64 x.q, .string x.s, .int .i64 x.r] (w.alloc (.cells #[.int .i64 x.k, .int .i64 x.p, .int .i64 x.q, .string x.s, .int .i64 x.r] 26))) := Lib.hid (Blk.new w _ _ _ rfl)
  have HC0 : Hid (Ch [] w (w.alloc (.cells #[.int .i64 x.k, .int .i64 x.p, .int .i64 x.q, .string x.s, .int .i64 x.r] 26))) := Lib.hid ((Ch.refl [] w).alloc _)
  have HXG : Hid (w.heap.size ∉ [g]) := Lib.hid fun hx => by have := (h.lt g (by simp [tbS, Go.Proofs.Ytaaelhhiceildaa.ob, Value.ownBlock])).2; simp at hx; omega
  have HXT : Hid (w.heap.size ≠ t) := Lib.hid fun hx => by have := h.blk.lt; omega
  have HIN : Hid (∀ y, y ∈ [g] → y ∈ tbS t (.slice (some ⟨g, 0, none⟩) s.arr.length cap) b v m) := Lib.hid fun y hy => by simp at hy; subst hy; simp [tbS, Go.Proofs.Ytaaelhhiceildaa.ob, Value.ownBlock]
  obtain ⟨p', cap', e', hp'⟩ := h0.form
  injection e' with e1 e2 e3
  subst e3
  obtain ⟨g', q1, hgl, hgf, key⟩ := hp' (by omega)
  rw [← e1] at q1
  injection q1 with q1
  injection q1 with q1
  subst q1
  have c0 : (w.alloc (.cells #[.int .i64 x.k, .int .i64 x.p, .int .i64 x.q, .string x.s, .int .i64 x.r] 26)).cell? ⟨t, 0, none⟩ = some (.slice (some ⟨g, 0, none⟩) s.arr.length cap) := h0.blk.cell 0
  have hbl := h0.blk.lt
  have hj2 : (j : Int) < (s.arr.length : Int) := by omega
  have hj0 : (0 : Int) ≤ (j : Int) := by omega
  have dj : IntKind.i64.wrap ((j : Int) + 1 - 1) = (j : Int) := by rw [show (j : Int) + 1 - 1 = j by omega]; exact IntWalk.i64_in _ (by omega)
  have dj0 : IntKind.i64.wrap (j : Int) = (j : Int) := IntWalk.i64_in _ (by omega)
  clear hx hl
  clear h h0 hp hp' e1
  go_enter Try.func28, Try.ntmps28
  go_upto_region 1 with fail
  have d0 : (w.alloc (.cells #[.int .i64 x.k, .int .i64 x.p, .int .i64 x.q, .string x.s, .int .i64 x.r] 26)).cell? ⟨g, j * 5, none⟩ = some (.int .i64 s.arr[j].k) := key j hj 0 (by omega)
  have d1 : (w.alloc (.cells #[.int .i64 x.k, .int .i64 x.p, .int .i64 x.q, .string x.s, .int .i64 x.r] 26)).cell? ⟨g, j * 5 + 1, none⟩ = some (.int .i64 s.arr[j].p) := key j hj 1 (by omega)
  have d2 : (w.alloc (.cells #[.int .i64 x.k, .int .i64 x.p, .int .i64 x.q, .string x.s, .int .i64 x.r] 26)).cell? ⟨g, j * 5 + 2, none⟩ = some (.int .i64 s.arr[j].q) := key j hj 2 (by omega)
  have d3 : (w.alloc (.cells #[.int .i64 x.k, .int .i64 x.p, .int .i64 x.q, .string x.s, .int .i64 x.r] 26)).cell? ⟨g, j * 5 + 3, none⟩ = some (.string s.arr[j].s) := key j hj 3 (by omega)
  have d4 : (w.alloc (.cells #[.int .i64 x.k, .int .i64 x.p, .int .i64 x.q, .string x.s, .int .i64 x.r] 26)).cell? ⟨g, j * 5 + 4, none⟩ = some (.int .i64 s.arr[j].r) := key j hj 4 (by omega)
  clear key
  generalize w.alloc (.cells #[.int .i64 x.k, .int .i64 x.p, .int .i64 x.q, .string x.s, .int .i64 x.r] 26) = w0 at *
  have u0 : w0.cell? ⟨w.heap.size, 0, none⟩ = some (.int .i64 x.k) := K0.out.cell 0
  have u1 : w0.cell? ⟨w.heap.size, 1, none⟩ = some (.int .i64 x.p) := K0.out.cell 1
  have u2 : w0.cell? ⟨w.heap.size, 2, none⟩ = some (.int .i64 x.q) := K0.out.cell 2
  have u3 : w0.cell? ⟨w.heap.size, 3, none⟩ = some (.string x.s) := K0.out.cell 3
  have u4 : w0.cell? ⟨w.heap.size, 4, none⟩ = some (.int .i64 x.r) := K0.out.cell 4
  have lu := K0.out.lt
  have f0 := hgf (j * 5)
  have f1 := hgf (j * 5 + 1)
  have f2 := hgf (j * 5 + 2)
  have f3 := hgf (j * 5 + 3)
  have f4 := hgf (j * 5 + 4)
  clear hgf
  go_region
  all_goals (
    go_upto_region 2 with fail
    go_name_world V1 hV
    have HT1 : Hid (Tb B t (.slice (some ⟨g, 0, none⟩) s.arr.length cap) b v m ⟨s.arr.set j x, s.bl, s.R, s.st⟩ V1) := Lib.hid (by rw [← hV]; first | exact HPUT.out.1 | exact HPUT.out.1.ch0 ((Ch.refl [] _).drew))
    have HC1 : Hid (Ch [g] w0 V1) := Lib.hid (by rw [← hV]; first | exact HPUT.out.2 | exact HPUT.out.2.drew)
    have HC2 : Hid (Ch (tbS t (.slice (some ⟨g, 0, none⟩) s.arr.length cap) b v m) w V1) := Lib.hid ((HC0.out.mono (fun g' hg' => absurd hg' (not_nil g'))).trans (HC1.out.mono HIN.out))
    have K1 : Hid (Blk 26 w.heap.size #[.int .i64 x.k, .int .i64 x.p, .int .i64 x.q, .string x.s, .int .i64 x.r] V1) := Lib.hid (K0.out.ch HC1.out HXG.out)
    clear hV c0 d0 d1 d2 d3 d4 u0 u1 u2 u3 u4 f0 f1 f2 f3 f4 hgl hbl lu
    have u0 : V1.cell? ⟨w.heap.size, 0, none⟩ = some (.int .i64 x.k) := K1.out.cell 0
    have lu := K1.out.lt
    have c0 : V1.cell? ⟨t, 0, none⟩ = some (.slice (some ⟨g, 0, none⟩) s.arr.length cap) := HT1.out.blk.cell 0
    have c1 : V1.cell? ⟨t, 1, none⟩ = some (.int .i64 (s.bl : Int)) := HT1.out.blk.cell 1
    have f1 := HT1.out.blk.fz 1
    have hbl := HT1.out.blk.lt
    clear HPUT K0 HXG
    have HF := Lib.hid (tb_after HT1.out HC2.out)
    go_wp2
    go_end0
    exact ⟨rfl, HF.out⟩)
set_option maxHeartbeats 8000000 in
theorem put_c (B t : Nat) (va : Value) (b : Nat) (v m : Value) (s : TS) (w : World) (h : Tb B t va b v m s w) (j : Nat) (x : V5) (hj : j < s.arr.length) (hL : s.arr.length ≤ 1000000) (hx : x.k = 0) (hl : j + 1 = s.arr.length) :
    Calls Try.prog 28 #[.pointer (some ⟨t, 0, none⟩), .int .i64 ((j : Int) + 1), .agg #[.int .i64 x.k, .int .i64 x.p, .int .i64 x.q, .string x.s, .int .i64 x.r]] w fun e w' => e = .returned (.tuple #[]) ∧ TbSaid B t va b v m (trimS ⟨s.arr.set j x, s.bl, s.R, s.st⟩) w w' := by
  have ex : (x.k != 0) = false := by simp [hx]
  have el : ((j : Int) + 1 == (s.arr.length : Int)) = true := beq_iff_eq.2 (by omega)
  obtain ⟨p, cap, rfl, hp⟩ := h.form
  obtain ⟨g, rfl, _, _, _⟩ := hp (by omega)
  have h0 : Tb B t (.slice (some ⟨g, 0, none⟩) s.arr.length cap) b v m s (w.alloc (.cells #[.int .i64 x.k, .int .i64 x.p, .int .i64 x.q, .string x.s, .int .i64 x.r] 26)) := h.ch0 ((Ch.refl [] w).alloc _)
  have HPUT := Lib.hid (h0.put j hj x)
  have K0 : Hid (Blk 26 w.heap.size #[.int .i64 x.k, .int .i64 x.p, .int .i64 x.q, .string x.s, .int .i64 x.r] (w.alloc (.cells #[.int .i64 x.k, .int .i64 x.p, .int .i64 x.q, .string x.s, .int .i64 x.r] 26))) := Lib.hid (Blk.new w _ _ _ rfl)
  have HC0 : Hid (Ch [] w (w.alloc (.cells #[.int .i64 x.k, .int .i64 x.p, .int .i64 x.q, .string x.s, .int .i64 x.r] 26))) := Lib.hid ((Ch.refl [] w).alloc _)
  have HXG : Hid (w.heap.size ∉ [g]) := Lib.hid fun hx => by have := (h.lt g (by simp [tbS, Go.Proofs.Ytaaelhhiceildaa.ob, Value.ownBlock])).2; simp at hx; omega
  have HXT : Hid (w.heap.size ≠ t) := Lib.hid fun hx => by have := h.blk.lt; omega
  have HIN : Hid (∀ y, y ∈ [g] → y ∈ tbS t (.slice (some ⟨g, 0, none⟩) s.arr.length cap) b v m) := Lib.hid fun y hy => by simp at hy; subst hy; simp [tbS, Go.Proofs.Ytaaelhhiceildaa.ob, Value.ownBlock]
  obtain ⟨p', cap', e', hp'⟩ := h0.form
  injection e' with e1 e2 e3
  subst e3
  obtain ⟨g', q1, hgl, hgf, key⟩ := hp' (by omega)
  rw [← e1] at q1
  injection q1 with q1
  injection q1 with q1
  subst q1
  have c0 : (w.alloc (.cells #[.int .i64 x.k, .int .i64 x.p, .int .i64 x.q, .string x.s, .int .i64 x.r] 26)).cell? ⟨t, 0, none⟩ = some (.slice (some ⟨g, 0, none⟩) s.arr.length cap) := h0.blk.cell 0
  have hbl := h0.blk.lt
  have hj2 : (j : Int) < (s.arr.length : Int) := by omega
  have hj0 : (0 : Int) ≤ (j : Int) := by omega
  have dj : IntKind.i64.wrap ((j : Int) + 1 - 1) = (j : Int) := by rw [show (j : Int) + 1 - 1 = j by omega]; exact IntWalk.i64_in _ (by omega)
  have dj0 : IntKind.i64.wrap (j : Int) = (j : Int) := IntWalk.i64_in _ (by omega)
  clear hx hl
  clear h h0 hp hp' e1
  go_enter Try.func28, Try.ntmps28
  go_upto_region 1 with fail
  have d0 : (w.alloc (.cells #[.int .i64 x.k, .int .i64 x.p, .int .i64 x.q, .string x.s, .int .i64 x.r] 26)).cell? ⟨g, j * 5, none⟩ = some (.int .i64 s.arr[j].k) := key j hj 0 (by omega)
  have d1 : (w.alloc (.cells #[.int .i64 x.k, .int .i64 x.p, .int .i64 x.q, .string x.s, .int .i64 x.r] 26)).cell? ⟨g, j * 5 + 1, none⟩ = some (.int .i64 s.arr[j].p) := key j hj 1 (by omega)
  have d2 : (w.alloc (.cells #[.int .i64 x.k, .int .i64 x.p, .int .i64 x.q, .string x.s, .int .i64 x.r] 26)).cell? ⟨g, j * 5 + 2, none⟩ = some (.int .i64 s.arr[j].q) := key j hj 2 (by omega)
  have d3 : (w.alloc (.cells #[.int .i64 x.k, .int .i64 x.p, .int .i64 x.q, .string x.s, .int .i64 x.r] 26)).cell? ⟨g, j * 5 + 3, none⟩ = some (.string s.arr[j].s) := key j hj 3 (by omega)
  have d4 : (w.alloc (.cells #[.int .i64 x.k, .int .i64 x.p, .int .i64 x.q, .string x.s, .int .i64 x.r] 26)).cell? ⟨g, j * 5 + 4, none⟩ = some (.int .i64 s.arr[j].r) := key j hj 4 (by omega)
  clear key
  generalize w.alloc (.cells #[.int .i64 x.k, .int .i64 x.p, .int .i64 x.q, .string x.s, .int .i64 x.r] 26) = w0 at *
  have u0 : w0.cell? ⟨w.heap.size, 0, none⟩ = some (.int .i64 x.k) := K0.out.cell 0
  have u1 : w0.cell? ⟨w.heap.size, 1, none⟩ = some (.int .i64 x.p) := K0.out.cell 1
  have u2 : w0.cell? ⟨w.heap.size, 2, none⟩ = some (.int .i64 x.q) := K0.out.cell 2
  have u3 : w0.cell? ⟨w.heap.size, 3, none⟩ = some (.string x.s) := K0.out.cell 3
  have u4 : w0.cell? ⟨w.heap.size, 4, none⟩ = some (.int .i64 x.r) := K0.out.cell 4
  have lu := K0.out.lt
  have f0 := hgf (j * 5)
  have f1 := hgf (j * 5 + 1)
  have f2 := hgf (j * 5 + 2)
  have f3 := hgf (j * 5 + 3)
  have f4 := hgf (j * 5 + 4)
  clear hgf
  go_region
  all_goals (
    go_upto_region 2 with fail
    go_name_world V1 hV
    have HT1 : Hid (Tb B t (.slice (some ⟨g, 0, none⟩) s.arr.length cap) b v m ⟨s.arr.set j x, s.bl, s.R, s.st⟩ V1) := Lib.hid (by rw [← hV]; first | exact HPUT.out.1 | exact HPUT.out.1.ch0 ((Ch.refl [] _).drew))
    have HC1 : Hid (Ch [g] w0 V1) := Lib.hid (by rw [← hV]; first | exact HPUT.out.2 | exact HPUT.out.2.drew)
    have HC2 : Hid (Ch (tbS t (.slice (some ⟨g, 0, none⟩) s.arr.length cap) b v m) w V1) := Lib.hid ((HC0.out.mono (fun g' hg' => absurd hg' (not_nil g'))).trans (HC1.out.mono HIN.out))
    have K1 : Hid (Blk 26 w.heap.size #[.int .i64 x.k, .int .i64 x.p, .int .i64 x.q, .string x.s, .int .i64 x.r] V1) := Lib.hid (K0.out.ch HC1.out HXG.out)
    clear hV c0 d0 d1 d2 d3 d4 u0 u1 u2 u3 u4 f0 f1 f2 f3 f4 hgl hbl lu
    have u0 : V1.cell? ⟨w.heap.size, 0, none⟩ = some (.int .i64 x.k) := K1.out.cell 0
    have lu := K1.out.lt
    have c0 : V1.cell? ⟨t, 0, none⟩ = some (.slice (some ⟨g, 0, none⟩) s.arr.length cap) := HT1.out.blk.cell 0
    have c1 : V1.cell? ⟨t, 1, none⟩ = some (.int .i64 (s.bl : Int)) := HT1.out.blk.cell 1
    have f1 := HT1.out.blk.fz 1
    have hbl := HT1.out.blk.lt
    clear HPUT K0 HXG
    have QT := Lib.hid (trim_any B t (.slice (some ⟨g, 0, none⟩) s.arr.length cap) b v m _ V1 HT1.out (by simpa using hL))
    have HF := Lib.hid (tb_after HT1.out HC2.out)
    go_wp2_with (go_at_call 47; (with_reducible refine (QT.out).mono ?_); rintro e V2 ⟨rfl, hs2⟩; have HS2 := Lib.hid (tb_next HC2.out hs2); clear hs2)
    go_end0
    exact ⟨rfl, HS2.out⟩)
theorem put_any (B t : Nat) (va : Value) (b : Nat) (v m : Value) (s : TS) (w : World) (h : Tb B t va b v m s w) (j : Nat) (x : V5) (hj : j < s.arr.length) (hL : s.arr.length ≤ 1000000) :
    Calls Try.prog 28 #[.pointer (some ⟨t, 0, none⟩), .int .i64 ((j : Int) + 1), .agg #[.int .i64 x.k, .int .i64 x.p, .int .i64 x.q, .string x.s, .int .i64 x.r]] w fun e w' => e = .returned (.tuple #[]) ∧ TbSaid B t va b v m (putS s j x) w w' := by
  unfold putS
  by_cases hx : x.k = 0
  · rw [if_neg (by simpa using hx)]
    by_cases hl : j + 1 = s.arr.length
    · rw [if_pos hl]; exact put_c B t va b v m s w h j x hj hL hx hl
    · rw [if_neg hl]; exact put_b B t va b v m s w h j x hj hL hx hl
  · rw [if_pos hx]
    by_cases hb : s.bl ≤ j
    · rw [Nat.min_eq_left hb]; exact put_a1 B t va b v m s w h j x hj hL hx hb
    · rw [Nat.min_eq_right (by omega)]; exact put_a2 B t va b v m s w h j x hj hL hx (by omega)
end Go.Proofs.Ytaaelhhiceildaa
