/- Layer 13: nextRest. -/
import Derived.Test.YtaaelhhiceildaaTbN
import Derived.Test.YtaaelhhiceildaaTbF
namespace Go.Proofs.Ytaaelhhiceildaa
open Go.RowKit Go.Joins M1
set_option linter.unusedVariables false
/-- What nextRest returns. -/
def nrT (s : TS) (k : V5) : Nx := if s.st = true ∧ (getR s.R k).k = 0 then ⟨v5z, v5z, false, 13⟩ else nextR s.R k
theorem om_tb {B t : Nat} {va : Value} {b : Nat} {v m : Value} {s : TS} {w w' : World} (h : Tb B t va b v m s w) (ho : OmR B b v m s.R w') (hc : Ch (omS b v m) w w') : Tb B t va b v m s w' :=
  ⟨h.blk.ch hc h.apt, h.lo, hc.ownB h.row (fun g hg => (h.apr g hg).2), ho, h.apt, h.apr, h.bnd⟩
set_option maxHeartbeats 8000000 in
theorem nr_z (B t : Nat) (va : Value) (b : Nat) (v m : Value) (s : TS) (w : World) (h : Tb B t va b v m s w) (k : V5) (hs : s.st = true) (hg : (getR s.R k).k = 0) (hR : s.R.length ≤ 1000000) :
    Calls Try.prog 38 #[.pointer (some ⟨t, 0, none⟩), .agg #[.int .i64 k.k, .int .i64 k.p, .int .i64 k.q, .string k.s, .int .i64 k.r]] w fun e w' => e = .returned (.tuple #[.agg #[.int .i64 0, .int .i64 0, .int .i64 0, .string ⟨#[]⟩, .int .i64 0], .agg #[.int .i64 0, .int .i64 0, .int .i64 0, .string ⟨#[]⟩, .int .i64 0], .bool false, .int .i64 13]) ∧ Ch [] w w' := by
  have HT0 : Hid (Tb B t va b v m s (((w.alloc (.cells #[.int .i64 k.k, .int .i64 k.p, .int .i64 k.q, .string k.s, .int .i64 k.r] 26)).alloc (.cells #[.int .i64 0, .int .i64 0, .int .i64 0, .string ⟨#[]⟩, .int .i64 0] 26)).alloc (.cells #[.int .i64 0, .int .i64 0, .int .i64 0, .string ⟨#[]⟩, .int .i64 0] 26))) := Lib.hid (h.ch0 ((((Ch.refl [] w).alloc _).alloc _).alloc _))
  have KK0 : Hid (Blk 26 w.heap.size #[.int .i64 k.k, .int .i64 k.p, .int .i64 k.q, .string k.s, .int .i64 k.r] (((w.alloc (.cells #[.int .i64 k.k, .int .i64 k.p, .int .i64 k.q, .string k.s, .int .i64 k.r] 26)).alloc (.cells #[.int .i64 0, .int .i64 0, .int .i64 0, .string ⟨#[]⟩, .int .i64 0] 26)).alloc (.cells #[.int .i64 0, .int .i64 0, .int .i64 0, .string ⟨#[]⟩, .int .i64 0] 26))) := Lib.hid ((Blk.new w 26 _ _ rfl).ch (((Ch.refl [] _).alloc _).alloc _) (not_nil _))
  have KA0 : Hid (Blk 26 (w.heap.size + 1) #[.int .i64 0, .int .i64 0, .int .i64 0, .string ⟨#[]⟩, .int .i64 0] (((w.alloc (.cells #[.int .i64 k.k, .int .i64 k.p, .int .i64 k.q, .string k.s, .int .i64 k.r] 26)).alloc (.cells #[.int .i64 0, .int .i64 0, .int .i64 0, .string ⟨#[]⟩, .int .i64 0] 26)).alloc (.cells #[.int .i64 0, .int .i64 0, .int .i64 0, .string ⟨#[]⟩, .int .i64 0] 26))) := Lib.hid ((Blk.new (w.alloc (.cells #[.int .i64 k.k, .int .i64 k.p, .int .i64 k.q, .string k.s, .int .i64 k.r] 26)) 26 _ _ (by simp)).ch ((Ch.refl [] _).alloc _) (not_nil _))
  have KB0 : Hid (Blk 26 (w.heap.size + 1 + 1) #[.int .i64 0, .int .i64 0, .int .i64 0, .string ⟨#[]⟩, .int .i64 0] (((w.alloc (.cells #[.int .i64 k.k, .int .i64 k.p, .int .i64 k.q, .string k.s, .int .i64 k.r] 26)).alloc (.cells #[.int .i64 0, .int .i64 0, .int .i64 0, .string ⟨#[]⟩, .int .i64 0] 26)).alloc (.cells #[.int .i64 0, .int .i64 0, .int .i64 0, .string ⟨#[]⟩, .int .i64 0] 26))) := Lib.hid (Blk.new _ 26 _ _ (by simp))
  have HC0 : Hid (Ch [] w (((w.alloc (.cells #[.int .i64 k.k, .int .i64 k.p, .int .i64 k.q, .string k.s, .int .i64 k.r] 26)).alloc (.cells #[.int .i64 0, .int .i64 0, .int .i64 0, .string ⟨#[]⟩, .int .i64 0] 26)).alloc (.cells #[.int .i64 0, .int .i64 0, .int .i64 0, .string ⟨#[]⟩, .int .i64 0] 26))) := Lib.hid ((((Ch.refl [] w).alloc _).alloc _).alloc _)
  have HNT : Hid (∀ g ∈ tbS t va b v m, g < w.heap.size) := Lib.hid fun g hg => (h.lt g hg).2
  have eg : ((getR s.R k).k == 0) = true := beq_iff_eq.2 hg
  have QG : Hid (∀ W, OmR B b v m s.R W → Calls Try.prog 33 #[.pointer (some ⟨b, 0, none⟩), .agg #[.int .i64 k.k, .int .i64 k.p, .int .i64 k.q, .string k.s, .int .i64 k.r]] W fun e w' => e = .returned (.agg #[.int .i64 (getR s.R k).k, .int .i64 (getR s.R k).p, .int .i64 (getR s.R k).q, .string (getR s.R k).s, .int .i64 (getR s.R k).r]) ∧ Below W.heap.size W w') := Lib.hid fun W hw => get_R B b v m s.R k W hw hR
  have FD := fd_valT
  clear h hg
  generalize getR s.R k = y at *
  go_enter Try.func38, Try.ntmps38
  go_upto_region 1 with fail
  generalize (((w.alloc (.cells #[.int .i64 k.k, .int .i64 k.p, .int .i64 k.q, .string k.s, .int .i64 k.r] 26)).alloc (.cells #[.int .i64 0, .int .i64 0, .int .i64 0, .string ⟨#[]⟩, .int .i64 0] 26)).alloc (.cells #[.int .i64 0, .int .i64 0, .int .i64 0, .string ⟨#[]⟩, .int .i64 0] 26)) = w0 at *
  have c3 : w0.cell? ⟨t, 3, none⟩ = some (.bool true) := by have := HT0.out.blk.cell 3; rw [hs] at this; exact this
  have c2 : w0.cell? ⟨t, 2, none⟩ = some (.pointer (some ⟨b, 0, none⟩)) := HT0.out.blk.cell 2
  have hbl := HT0.out.blk.lt
  have u0 : w0.cell? ⟨w.heap.size, 0, none⟩ = some (.int .i64 k.k) := KK0.out.cell 0
  have u1 : w0.cell? ⟨w.heap.size, 1, none⟩ = some (.int .i64 k.p) := KK0.out.cell 1
  have u2 : w0.cell? ⟨w.heap.size, 2, none⟩ = some (.int .i64 k.q) := KK0.out.cell 2
  have u3 : w0.cell? ⟨w.heap.size, 3, none⟩ = some (.string k.s) := KK0.out.cell 3
  have u4 : w0.cell? ⟨w.heap.size, 4, none⟩ = some (.int .i64 k.r) := KK0.out.cell 4
  have lu := KK0.out.lt
  have ho6 := HT0.out.om
  have hW := Below.refl w0.heap.size w0
  have hcc : ∀ c o, c < w0.heap.size → w0.drew.cell? ⟨c, o, none⟩ = w0.cell? ⟨c, o, none⟩ := fun _ _ _ => rfl
  go_region_held3 (fun w' => (∀ c o, c < w0.heap.size → w'.cell? ⟨c, o, none⟩ = w0.cell? ⟨c, o, none⟩) ∧ OmR B b v m s.R w' ∧ Below w0.heap.size w0 w') (first | assumption | exact ⟨hcc, ho6.ch ((Ch.refl [] w0).drew) (by simp), hW.drew⟩ | exact keepL (by assumption) hb7) (first | (go_at_call 33; have hE := (‹_ ∧ OmR _ _ _ _ _ _ ∧ Below _ _ _›).2.1; (with_reducible refine (QG.out _ hE).mono ?_); clear hE; rintro e w7 ⟨rfl, hb7⟩))
  all_goals (
    have hS := ‹_ ∧ OmR _ _ _ _ _ _ ∧ Below _ _ _›
    rename World => V1
    have HC1 : Hid (Ch [] w0 V1) := Lib.hid (Ch.of_below hS.2.2)
    have KA1 := Lib.hid (KA0.out.ch HC1.out (not_nil _))
    have KB1 := Lib.hid (KB0.out.ch HC1.out (not_nil _))
    clear hS ho6 hW hcc FD c3 c2 hbl u0 u1 u2 u3 u4 lu
    have r0 : V1.cell? ⟨(w.heap.size + 1), 0, none⟩ = some (.int .i64 0) := KA1.out.cell 0
    have r1 : V1.cell? ⟨(w.heap.size + 1), 1, none⟩ = some (.int .i64 0) := KA1.out.cell 1
    have r2 : V1.cell? ⟨(w.heap.size + 1), 2, none⟩ = some (.int .i64 0) := KA1.out.cell 2
    have r3 : V1.cell? ⟨(w.heap.size + 1), 3, none⟩ = some (.string ⟨#[]⟩) := KA1.out.cell 3
    have r4 : V1.cell? ⟨(w.heap.size + 1), 4, none⟩ = some (.int .i64 0) := KA1.out.cell 4
    have rf0 := KA1.out.fz 0
    have rf1 := KA1.out.fz 1
    have rf2 := KA1.out.fz 2
    have rf3 := KA1.out.fz 3
    have rf4 := KA1.out.fz 4
    have rl := KA1.out.lt
    have q0 : V1.cell? ⟨(w.heap.size + 1 + 1), 0, none⟩ = some (.int .i64 0) := KB1.out.cell 0
    have q1 : V1.cell? ⟨(w.heap.size + 1 + 1), 1, none⟩ = some (.int .i64 0) := KB1.out.cell 1
    have q2 : V1.cell? ⟨(w.heap.size + 1 + 1), 2, none⟩ = some (.int .i64 0) := KB1.out.cell 2
    have q3 : V1.cell? ⟨(w.heap.size + 1 + 1), 3, none⟩ = some (.string ⟨#[]⟩) := KB1.out.cell 3
    have q4 : V1.cell? ⟨(w.heap.size + 1 + 1), 4, none⟩ = some (.int .i64 0) := KB1.out.cell 4
    have qf0 := KB1.out.fz 0
    have qf1 := KB1.out.fz 1
    have qf2 := KB1.out.fz 2
    have qf3 := KB1.out.fz 3
    have qf4 := KB1.out.fz 4
    have ql := KB1.out.lt
    go_wp2
    show bodyPost _ _ _ Exit.ret _ (st5 (st5 V1 (w.heap.size + 1) (.int .i64 0) (.int .i64 0) (.int .i64 0) (.string ⟨#[]⟩) (.int .i64 0)) (w.heap.size + 1 + 1) (.int .i64 0) (.int .i64 0) (.int .i64 0) (.string ⟨#[]⟩) (.int .i64 0))
    have I1 : Blk 26 (w.heap.size + 1) #[.int .i64 0, .int .i64 0, .int .i64 0, .string ⟨#[]⟩, .int .i64 0] (st5 (st5 V1 (w.heap.size + 1) (.int .i64 0) (.int .i64 0) (.int .i64 0) (.string ⟨#[]⟩) (.int .i64 0)) (w.heap.size + 1 + 1) (.int .i64 0) (.int .i64 0) (.int .i64 0) (.string ⟨#[]⟩) (.int .i64 0)) := (st5_blk KA1.out).ch (st5_ch (S := [(w.heap.size + 1 + 1)]) (Ch.refl _ _) (.inl (by simp))) (by simp)
    have I2 : Blk 26 (w.heap.size + 1 + 1) #[.int .i64 0, .int .i64 0, .int .i64 0, .string ⟨#[]⟩, .int .i64 0] (st5 (st5 V1 (w.heap.size + 1) (.int .i64 0) (.int .i64 0) (.int .i64 0) (.string ⟨#[]⟩) (.int .i64 0)) (w.heap.size + 1 + 1) (.int .i64 0) (.int .i64 0) (.int .i64 0) (.string ⟨#[]⟩) (.int .i64 0)) := st5_blk (KB1.out.ch (st5_ch (S := [(w.heap.size + 1)]) (Ch.refl _ _) (.inl (by simp))) (by simp))
    have HS : Hid (Ch [(w.heap.size + 1), (w.heap.size + 1 + 1)] V1 (st5 (st5 V1 (w.heap.size + 1) (.int .i64 0) (.int .i64 0) (.int .i64 0) (.string ⟨#[]⟩) (.int .i64 0)) (w.heap.size + 1 + 1) (.int .i64 0) (.int .i64 0) (.int .i64 0) (.string ⟨#[]⟩) (.int .i64 0))) := Lib.hid (st5_ch (st5_ch (Ch.refl _ _) (.inl (by simp))) (.inl (by simp)))
    have x0 := I1.cell 0
    have x1 := I1.cell 1
    have x2 := I1.cell 2
    have x3 := I1.cell 3
    have x4 := I1.cell 4
    have y0 := I2.cell 0
    have y1 := I2.cell 1
    have y2 := I2.cell 2
    have y3 := I2.cell 3
    have y4 := I2.cell 4
    simp at x0 x1 x2 x3 x4 y0 y1 y2 y3 y4
    have HF : Hid (Ch [] w (st5 (st5 V1 (w.heap.size + 1) (.int .i64 0) (.int .i64 0) (.int .i64 0) (.string ⟨#[]⟩) (.int .i64 0)) (w.heap.size + 1 + 1) (.int .i64 0) (.int .i64 0) (.int .i64 0) (.string ⟨#[]⟩) (.int .i64 0))) := Lib.hid ((HC0.out.trans HC1.out).fresh (L := [(w.heap.size + 1), (w.heap.size + 1 + 1)]) (fun g hg => by simp at hg; omega) HS.out)
    generalize (st5 (st5 V1 (w.heap.size + 1) (.int .i64 0) (.int .i64 0) (.int .i64 0) (.string ⟨#[]⟩) (.int .i64 0)) (w.heap.size + 1 + 1) (.int .i64 0) (.int .i64 0) (.int .i64 0) (.string ⟨#[]⟩) (.int .i64 0)) = W9 at *
    refine bodyPost_ret (v := .tuple #[.agg #[.int .i64 0, .int .i64 0, .int .i64 0, .string ⟨#[]⟩, .int .i64 0], .agg #[.int .i64 0, .int .i64 0, .int .i64 0, .string ⟨#[]⟩, .int .i64 0], .bool false, .int .i64 13]) (by simp [results, Try.results38, go_sem, x0, x1, x2, x3, x4, y0, y1, y2, y3, y4]) rfl ⟨rfl, HF.out⟩)
end Go.Proofs.Ytaaelhhiceildaa
namespace Go.Proofs.Ytaaelhhiceildaa
open Go.RowKit Go.Joins M1
set_option linter.unusedVariables false
set_option maxHeartbeats 8000000 in
theorem nr_a (B t : Nat) (va : Value) (b : Nat) (v m : Value) (s : TS) (w : World) (h : Tb B t va b v m s w) (k : V5) (hs : s.st = false) (hR : s.R.length ≤ 1000000) :
    Calls Try.prog 38 #[.pointer (some ⟨t, 0, none⟩), .agg #[.int .i64 k.k, .int .i64 k.p, .int .i64 k.q, .string k.s, .int .i64 k.r]] w fun e w' => e = .returned (NxV (nextR s.R k)) ∧ TbSaid B t va b v m s w w' := by
  have HT0 : Hid (Tb B t va b v m s (((w.alloc (.cells #[.int .i64 k.k, .int .i64 k.p, .int .i64 k.q, .string k.s, .int .i64 k.r] 26)).alloc (.cells #[.int .i64 0, .int .i64 0, .int .i64 0, .string ⟨#[]⟩, .int .i64 0] 26)).alloc (.cells #[.int .i64 0, .int .i64 0, .int .i64 0, .string ⟨#[]⟩, .int .i64 0] 26))) := Lib.hid (h.ch0 ((((Ch.refl [] w).alloc _).alloc _).alloc _))
  have KK0 : Hid (Blk 26 w.heap.size #[.int .i64 k.k, .int .i64 k.p, .int .i64 k.q, .string k.s, .int .i64 k.r] (((w.alloc (.cells #[.int .i64 k.k, .int .i64 k.p, .int .i64 k.q, .string k.s, .int .i64 k.r] 26)).alloc (.cells #[.int .i64 0, .int .i64 0, .int .i64 0, .string ⟨#[]⟩, .int .i64 0] 26)).alloc (.cells #[.int .i64 0, .int .i64 0, .int .i64 0, .string ⟨#[]⟩, .int .i64 0] 26))) := Lib.hid ((Blk.new w 26 _ _ rfl).ch (((Ch.refl [] _).alloc _).alloc _) (not_nil _))
  have KA0 : Hid (Blk 26 (w.heap.size + 1) #[.int .i64 0, .int .i64 0, .int .i64 0, .string ⟨#[]⟩, .int .i64 0] (((w.alloc (.cells #[.int .i64 k.k, .int .i64 k.p, .int .i64 k.q, .string k.s, .int .i64 k.r] 26)).alloc (.cells #[.int .i64 0, .int .i64 0, .int .i64 0, .string ⟨#[]⟩, .int .i64 0] 26)).alloc (.cells #[.int .i64 0, .int .i64 0, .int .i64 0, .string ⟨#[]⟩, .int .i64 0] 26))) := Lib.hid ((Blk.new (w.alloc (.cells #[.int .i64 k.k, .int .i64 k.p, .int .i64 k.q, .string k.s, .int .i64 k.r] 26)) 26 _ _ (by simp)).ch ((Ch.refl [] _).alloc _) (not_nil _))
  have KB0 : Hid (Blk 26 (w.heap.size + 1 + 1) #[.int .i64 0, .int .i64 0, .int .i64 0, .string ⟨#[]⟩, .int .i64 0] (((w.alloc (.cells #[.int .i64 k.k, .int .i64 k.p, .int .i64 k.q, .string k.s, .int .i64 k.r] 26)).alloc (.cells #[.int .i64 0, .int .i64 0, .int .i64 0, .string ⟨#[]⟩, .int .i64 0] 26)).alloc (.cells #[.int .i64 0, .int .i64 0, .int .i64 0, .string ⟨#[]⟩, .int .i64 0] 26))) := Lib.hid (Blk.new _ 26 _ _ (by simp))
  have HC0 : Hid (Ch [] w (((w.alloc (.cells #[.int .i64 k.k, .int .i64 k.p, .int .i64 k.q, .string k.s, .int .i64 k.r] 26)).alloc (.cells #[.int .i64 0, .int .i64 0, .int .i64 0, .string ⟨#[]⟩, .int .i64 0] 26)).alloc (.cells #[.int .i64 0, .int .i64 0, .int .i64 0, .string ⟨#[]⟩, .int .i64 0] 26))) := Lib.hid ((((Ch.refl [] w).alloc _).alloc _).alloc _)
  have HNT : Hid (∀ g ∈ tbS t va b v m, g < w.heap.size) := Lib.hid fun g hg => (h.lt g hg).2
  have QN0 : Hid (∀ W, OmR B b v m s.R W → Calls Try.prog 40 #[.pointer (some ⟨b, 0, none⟩), .agg #[.int .i64 k.k, .int .i64 k.p, .int .i64 k.q, .string k.s, .int .i64 k.r]] W fun e w' => e = .returned (NxV (nextR s.R k)) ∧ OmR B b v m s.R w' ∧ Ch (omS b v m) W w') := Lib.hid fun W hw => next_R B b v m s.R k W hw hR
  clear h
  generalize nextR s.R k = y at *
  unfold NxV
  go_enter Try.func38, Try.ntmps38
  go_upto_region 1 with fail
  generalize (((w.alloc (.cells #[.int .i64 k.k, .int .i64 k.p, .int .i64 k.q, .string k.s, .int .i64 k.r] 26)).alloc (.cells #[.int .i64 0, .int .i64 0, .int .i64 0, .string ⟨#[]⟩, .int .i64 0] 26)).alloc (.cells #[.int .i64 0, .int .i64 0, .int .i64 0, .string ⟨#[]⟩, .int .i64 0] 26)) = w0 at *
  have c3 : w0.cell? ⟨t, 3, none⟩ = some (.bool false) := by have := HT0.out.blk.cell 3; rw [hs] at this; exact this
  have hbl := HT0.out.blk.lt
  go_quiet (fail)
  go_upto_region 3 with fail
  go_name_world V1 hV
  have HC1 : Hid (Ch [] w0 V1) := Lib.hid (by rw [← hV]; first | exact (Ch.refl [] w0).drewN _ | exact (Ch.refl [] w0).drew | exact Ch.refl [] w0)
  have HT1 := Lib.hid (HT0.out.ch0 HC1.out)
  have KK1 := Lib.hid (KK0.out.ch HC1.out (not_nil _))
  have KA1 := Lib.hid (KA0.out.ch HC1.out (not_nil _))
  have KB1 := Lib.hid (KB0.out.ch HC1.out (not_nil _))
  clear hV c3 hbl
  have c2 : V1.cell? ⟨t, 2, none⟩ = some (.pointer (some ⟨b, 0, none⟩)) := HT1.out.blk.cell 2
  have hbl := HT1.out.blk.lt
  have u0 : V1.cell? ⟨w.heap.size, 0, none⟩ = some (.int .i64 k.k) := KK1.out.cell 0
  have u1 : V1.cell? ⟨w.heap.size, 1, none⟩ = some (.int .i64 k.p) := KK1.out.cell 1
  have u2 : V1.cell? ⟨w.heap.size, 2, none⟩ = some (.int .i64 k.q) := KK1.out.cell 2
  have u3 : V1.cell? ⟨w.heap.size, 3, none⟩ = some (.string k.s) := KK1.out.cell 3
  have u4 : V1.cell? ⟨w.heap.size, 4, none⟩ = some (.int .i64 k.r) := KK1.out.cell 4
  have lu := KK1.out.lt
  have QN : Hid (∀ W, Ch [] V1 W → Calls Try.prog 40 #[.pointer (some ⟨b, 0, none⟩), .agg #[.int .i64 k.k, .int .i64 k.p, .int .i64 k.q, .string k.s, .int .i64 k.r]] W fun e w' => e = .returned (NxV y) ∧ OmR B b v m s.R w' ∧ Ch (omS b v m) W w') := Lib.hid fun W hc => QN0.out W (HT1.out.om.ch hc (fun g _ => not_nil g))
  unfold NxV at QN
  go_region_law (go_simp; go_at_call 40; (with_reducible refine (QN.out _ ?hc).mono ?_); (case hc => first | exact Ch.refl _ _ | exact (Ch.refl _ _).drew | exact (Ch.refl _ _).drewN _); rintro e w7 ⟨rfl, ho7, hc7⟩; (first | have HC7 : Hid (Ch (omS b v m) V1 w7) := Lib.hid hc7 | have HC7 : Hid (Ch (omS b v m) V1 w7) := Lib.hid (((Ch.refl _ V1).drew).trans hc7) | have HC7 : Hid (Ch (omS b v m) V1 w7) := Lib.hid (((Ch.refl _ V1).drewN _).trans hc7)); have HO7 := Lib.hid ho7; have KA7 := Lib.hid (KA1.out.ch HC7.out (fun hq => by have := HNT.out (w.heap.size + 1) (by simp [tbS, hq]); omega)); have KB7 := Lib.hid (KB1.out.ch HC7.out (fun hq => by have := HNT.out (w.heap.size + 1 + 1) (by simp [tbS, hq]); omega)); have r0 : w7.cell? ⟨(w.heap.size + 1), 0, none⟩ = some (.int .i64 0) := KA7.out.cell 0; have r1 : w7.cell? ⟨(w.heap.size + 1), 1, none⟩ = some (.int .i64 0) := KA7.out.cell 1; have r2 : w7.cell? ⟨(w.heap.size + 1), 2, none⟩ = some (.int .i64 0) := KA7.out.cell 2; have r3 : w7.cell? ⟨(w.heap.size + 1), 3, none⟩ = some (.string ⟨#[]⟩) := KA7.out.cell 3; have r4 : w7.cell? ⟨(w.heap.size + 1), 4, none⟩ = some (.int .i64 0) := KA7.out.cell 4; have rf0 := KA7.out.fz 0; have rf1 := KA7.out.fz 1; have rf2 := KA7.out.fz 2; have rf3 := KA7.out.fz 3; have rf4 := KA7.out.fz 4; have rl := KA7.out.lt; have q0 : w7.cell? ⟨(w.heap.size + 1 + 1), 0, none⟩ = some (.int .i64 0) := KB7.out.cell 0; have q1 : w7.cell? ⟨(w.heap.size + 1 + 1), 1, none⟩ = some (.int .i64 0) := KB7.out.cell 1; have q2 : w7.cell? ⟨(w.heap.size + 1 + 1), 2, none⟩ = some (.int .i64 0) := KB7.out.cell 2; have q3 : w7.cell? ⟨(w.heap.size + 1 + 1), 3, none⟩ = some (.string ⟨#[]⟩) := KB7.out.cell 3; have q4 : w7.cell? ⟨(w.heap.size + 1 + 1), 4, none⟩ = some (.int .i64 0) := KB7.out.cell 4; have qf0 := KB7.out.fz 0; have qf1 := KB7.out.fz 1; have qf2 := KB7.out.fz 2; have qf3 := KB7.out.fz 3; have qf4 := KB7.out.fz 4; have ql := KB7.out.lt; clear ho7 hc7)
  all_goals (
    go_wp2
    show bodyPost _ _ _ Exit.ret _ (st5 (st5 w7 (w.heap.size + 1) (.int .i64 y.key.k) (.int .i64 y.key.p) (.int .i64 y.key.q) (.string y.key.s) (.int .i64 y.key.r)) (w.heap.size + 1 + 1) (.int .i64 y.val.k) (.int .i64 y.val.p) (.int .i64 y.val.q) (.string y.val.s) (.int .i64 y.val.r))
    have I1 : Blk 26 (w.heap.size + 1) #[.int .i64 y.key.k, .int .i64 y.key.p, .int .i64 y.key.q, .string y.key.s, .int .i64 y.key.r] (st5 (st5 w7 (w.heap.size + 1) (.int .i64 y.key.k) (.int .i64 y.key.p) (.int .i64 y.key.q) (.string y.key.s) (.int .i64 y.key.r)) (w.heap.size + 1 + 1) (.int .i64 y.val.k) (.int .i64 y.val.p) (.int .i64 y.val.q) (.string y.val.s) (.int .i64 y.val.r)) := (st5_blk KA7.out).ch (st5_ch (S := [(w.heap.size + 1 + 1)]) (Ch.refl _ _) (.inl (by simp))) (by simp)
    have I2 : Blk 26 (w.heap.size + 1 + 1) #[.int .i64 y.val.k, .int .i64 y.val.p, .int .i64 y.val.q, .string y.val.s, .int .i64 y.val.r] (st5 (st5 w7 (w.heap.size + 1) (.int .i64 y.key.k) (.int .i64 y.key.p) (.int .i64 y.key.q) (.string y.key.s) (.int .i64 y.key.r)) (w.heap.size + 1 + 1) (.int .i64 y.val.k) (.int .i64 y.val.p) (.int .i64 y.val.q) (.string y.val.s) (.int .i64 y.val.r)) := st5_blk (KB7.out.ch (st5_ch (S := [(w.heap.size + 1)]) (Ch.refl _ _) (.inl (by simp))) (by simp))
    have HS : Hid (Ch [(w.heap.size + 1), (w.heap.size + 1 + 1)] w7 (st5 (st5 w7 (w.heap.size + 1) (.int .i64 y.key.k) (.int .i64 y.key.p) (.int .i64 y.key.q) (.string y.key.s) (.int .i64 y.key.r)) (w.heap.size + 1 + 1) (.int .i64 y.val.k) (.int .i64 y.val.p) (.int .i64 y.val.q) (.string y.val.s) (.int .i64 y.val.r))) := Lib.hid (st5_ch (st5_ch (Ch.refl _ _) (.inl (by simp))) (.inl (by simp)))
    have x0 := I1.cell 0
    have x1 := I1.cell 1
    have x2 := I1.cell 2
    have x3 := I1.cell 3
    have x4 := I1.cell 4
    have y0 := I2.cell 0
    have y1 := I2.cell 1
    have y2 := I2.cell 2
    have y3 := I2.cell 3
    have y4 := I2.cell 4
    simp at x0 x1 x2 x3 x4 y0 y1 y2 y3 y4
    have HF : Hid (TbSaid B t va b v m s w (st5 (st5 w7 (w.heap.size + 1) (.int .i64 y.key.k) (.int .i64 y.key.p) (.int .i64 y.key.q) (.string y.key.s) (.int .i64 y.key.r)) (w.heap.size + 1 + 1) (.int .i64 y.val.k) (.int .i64 y.val.p) (.int .i64 y.val.q) (.string y.val.s) (.int .i64 y.val.r))) := Lib.hid (by
      have h7 := om_tb HT1.out HO7.out HC7.out
      have hc1 : Ch (tbS t va b v m) w V1 := (HC0.out.trans HC1.out).mono (fun g hg => absurd hg (not_nil g))
      exact tb_fin hc1 (tb_after h7 (HC7.out.mono (fun g hg => by simp [tbS, hg]))) HS.out (fun g hg => by
        have hA := KA1.out.lt
        have hB := KB1.out.lt
        simp at hg
        rcases hg with rfl | rfl
        · exact ⟨fun hq => by have := HNT.out _ hq; omega, hA, by omega⟩
        · exact ⟨fun hq => by have := HNT.out _ hq; omega, hB, by omega⟩))
    generalize (st5 (st5 w7 (w.heap.size + 1) (.int .i64 y.key.k) (.int .i64 y.key.p) (.int .i64 y.key.q) (.string y.key.s) (.int .i64 y.key.r)) (w.heap.size + 1 + 1) (.int .i64 y.val.k) (.int .i64 y.val.p) (.int .i64 y.val.q) (.string y.val.s) (.int .i64 y.val.r)) = W9 at *
    refine bodyPost_ret (v := .tuple #[.agg #[.int .i64 y.key.k, .int .i64 y.key.p, .int .i64 y.key.q, .string y.key.s, .int .i64 y.key.r], .agg #[.int .i64 y.val.k, .int .i64 y.val.p, .int .i64 y.val.q, .string y.val.s, .int .i64 y.val.r], .bool y.ok, .int .i64 y.err]) (by simp [results, Try.results38, go_sem, x0, x1, x2, x3, x4, y0, y1, y2, y3, y4]) rfl ⟨rfl, HF.out⟩)
set_option maxHeartbeats 8000000 in
theorem nr_b (B t : Nat) (va : Value) (b : Nat) (v m : Value) (s : TS) (w : World) (h : Tb B t va b v m s w) (k : V5) (hs : s.st = true) (hg : (getR s.R k).k ≠ 0) (hR : s.R.length ≤ 1000000) :
    Calls Try.prog 38 #[.pointer (some ⟨t, 0, none⟩), .agg #[.int .i64 k.k, .int .i64 k.p, .int .i64 k.q, .string k.s, .int .i64 k.r]] w fun e w' => e = .returned (NxV (nextR s.R k)) ∧ TbSaid B t va b v m s w w' := by
  have HT0 : Hid (Tb B t va b v m s (((w.alloc (.cells #[.int .i64 k.k, .int .i64 k.p, .int .i64 k.q, .string k.s, .int .i64 k.r] 26)).alloc (.cells #[.int .i64 0, .int .i64 0, .int .i64 0, .string ⟨#[]⟩, .int .i64 0] 26)).alloc (.cells #[.int .i64 0, .int .i64 0, .int .i64 0, .string ⟨#[]⟩, .int .i64 0] 26))) := Lib.hid (h.ch0 ((((Ch.refl [] w).alloc _).alloc _).alloc _))
  have KK0 : Hid (Blk 26 w.heap.size #[.int .i64 k.k, .int .i64 k.p, .int .i64 k.q, .string k.s, .int .i64 k.r] (((w.alloc (.cells #[.int .i64 k.k, .int .i64 k.p, .int .i64 k.q, .string k.s, .int .i64 k.r] 26)).alloc (.cells #[.int .i64 0, .int .i64 0, .int .i64 0, .string ⟨#[]⟩, .int .i64 0] 26)).alloc (.cells #[.int .i64 0, .int .i64 0, .int .i64 0, .string ⟨#[]⟩, .int .i64 0] 26))) := Lib.hid ((Blk.new w 26 _ _ rfl).ch (((Ch.refl [] _).alloc _).alloc _) (not_nil _))
  have KA0 : Hid (Blk 26 (w.heap.size + 1) #[.int .i64 0, .int .i64 0, .int .i64 0, .string ⟨#[]⟩, .int .i64 0] (((w.alloc (.cells #[.int .i64 k.k, .int .i64 k.p, .int .i64 k.q, .string k.s, .int .i64 k.r] 26)).alloc (.cells #[.int .i64 0, .int .i64 0, .int .i64 0, .string ⟨#[]⟩, .int .i64 0] 26)).alloc (.cells #[.int .i64 0, .int .i64 0, .int .i64 0, .string ⟨#[]⟩, .int .i64 0] 26))) := Lib.hid ((Blk.new (w.alloc (.cells #[.int .i64 k.k, .int .i64 k.p, .int .i64 k.q, .string k.s, .int .i64 k.r] 26)) 26 _ _ (by simp)).ch ((Ch.refl [] _).alloc _) (not_nil _))
  have KB0 : Hid (Blk 26 (w.heap.size + 1 + 1) #[.int .i64 0, .int .i64 0, .int .i64 0, .string ⟨#[]⟩, .int .i64 0] (((w.alloc (.cells #[.int .i64 k.k, .int .i64 k.p, .int .i64 k.q, .string k.s, .int .i64 k.r] 26)).alloc (.cells #[.int .i64 0, .int .i64 0, .int .i64 0, .string ⟨#[]⟩, .int .i64 0] 26)).alloc (.cells #[.int .i64 0, .int .i64 0, .int .i64 0, .string ⟨#[]⟩, .int .i64 0] 26))) := Lib.hid (Blk.new _ 26 _ _ (by simp))
  have HC0 : Hid (Ch [] w (((w.alloc (.cells #[.int .i64 k.k, .int .i64 k.p, .int .i64 k.q, .string k.s, .int .i64 k.r] 26)).alloc (.cells #[.int .i64 0, .int .i64 0, .int .i64 0, .string ⟨#[]⟩, .int .i64 0] 26)).alloc (.cells #[.int .i64 0, .int .i64 0, .int .i64 0, .string ⟨#[]⟩, .int .i64 0] 26))) := Lib.hid ((((Ch.refl [] w).alloc _).alloc _).alloc _)
  have HNT : Hid (∀ g ∈ tbS t va b v m, g < w.heap.size) := Lib.hid fun g hg => (h.lt g hg).2
  have QN0 : Hid (∀ W, OmR B b v m s.R W → Calls Try.prog 40 #[.pointer (some ⟨b, 0, none⟩), .agg #[.int .i64 k.k, .int .i64 k.p, .int .i64 k.q, .string k.s, .int .i64 k.r]] W fun e w' => e = .returned (NxV (nextR s.R k)) ∧ OmR B b v m s.R w' ∧ Ch (omS b v m) W w') := Lib.hid fun W hw => next_R B b v m s.R k W hw hR
  have eg : ((getR s.R k).k == 0) = false := beq_eq_false_iff_ne.2 hg
  have QG : Hid (∀ W, OmR B b v m s.R W → Calls Try.prog 33 #[.pointer (some ⟨b, 0, none⟩), .agg #[.int .i64 k.k, .int .i64 k.p, .int .i64 k.q, .string k.s, .int .i64 k.r]] W fun e w' => e = .returned (.agg #[.int .i64 (getR s.R k).k, .int .i64 (getR s.R k).p, .int .i64 (getR s.R k).q, .string (getR s.R k).s, .int .i64 (getR s.R k).r]) ∧ Below W.heap.size W w') := Lib.hid fun W hw => get_R B b v m s.R k W hw hR
  have FD := fd_valT
  clear h hg
  generalize getR s.R k = z at *
  generalize nextR s.R k = y at *
  unfold NxV
  go_enter Try.func38, Try.ntmps38
  go_upto_region 1 with fail
  generalize (((w.alloc (.cells #[.int .i64 k.k, .int .i64 k.p, .int .i64 k.q, .string k.s, .int .i64 k.r] 26)).alloc (.cells #[.int .i64 0, .int .i64 0, .int .i64 0, .string ⟨#[]⟩, .int .i64 0] 26)).alloc (.cells #[.int .i64 0, .int .i64 0, .int .i64 0, .string ⟨#[]⟩, .int .i64 0] 26)) = w0 at *
  have c3 : w0.cell? ⟨t, 3, none⟩ = some (.bool true) := by have := HT0.out.blk.cell 3; rw [hs] at this; exact this
  have c2 : w0.cell? ⟨t, 2, none⟩ = some (.pointer (some ⟨b, 0, none⟩)) := HT0.out.blk.cell 2
  have hbl := HT0.out.blk.lt
  have u0 : w0.cell? ⟨w.heap.size, 0, none⟩ = some (.int .i64 k.k) := KK0.out.cell 0
  have u1 : w0.cell? ⟨w.heap.size, 1, none⟩ = some (.int .i64 k.p) := KK0.out.cell 1
  have u2 : w0.cell? ⟨w.heap.size, 2, none⟩ = some (.int .i64 k.q) := KK0.out.cell 2
  have u3 : w0.cell? ⟨w.heap.size, 3, none⟩ = some (.string k.s) := KK0.out.cell 3
  have u4 : w0.cell? ⟨w.heap.size, 4, none⟩ = some (.int .i64 k.r) := KK0.out.cell 4
  have lu := KK0.out.lt
  have ho6 := HT0.out.om
  have hW := Below.refl w0.heap.size w0
  have hcc : ∀ c o, c < w0.heap.size → w0.drew.cell? ⟨c, o, none⟩ = w0.cell? ⟨c, o, none⟩ := fun _ _ _ => rfl
  go_region_held3 (fun w' => (∀ c o, c < w0.heap.size → w'.cell? ⟨c, o, none⟩ = w0.cell? ⟨c, o, none⟩) ∧ OmR B b v m s.R w' ∧ Below w0.heap.size w0 w') (first | assumption | exact ⟨hcc, ho6.ch ((Ch.refl [] w0).drew) (by simp), hW.drew⟩ | exact keepL (by assumption) hb7) (first | (go_at_call 33; have hE := (‹_ ∧ OmR _ _ _ _ _ _ ∧ Below _ _ _›).2.1; (with_reducible refine (QG.out _ hE).mono ?_); clear hE; rintro e w7 ⟨rfl, hb7⟩))
  all_goals (
    have hS := ‹_ ∧ OmR _ _ _ _ _ _ ∧ Below _ _ _›
    rename World => V1
    have HC1 : Hid (Ch [] w0 V1) := Lib.hid (Ch.of_below hS.2.2)
    have HT1 := Lib.hid (HT0.out.ch0 HC1.out)
    have KK1 := Lib.hid (KK0.out.ch HC1.out (not_nil _))
    have KA1 := Lib.hid (KA0.out.ch HC1.out (not_nil _))
    have KB1 := Lib.hid (KB0.out.ch HC1.out (not_nil _))
    clear hS ho6 hW hcc FD c3 c2 hbl u0 u1 u2 u3 u4 lu
    go_upto_region 3 with fail
    have c2 : V1.cell? ⟨t, 2, none⟩ = some (.pointer (some ⟨b, 0, none⟩)) := HT1.out.blk.cell 2
    have hbl := HT1.out.blk.lt
    have u0 : V1.cell? ⟨w.heap.size, 0, none⟩ = some (.int .i64 k.k) := KK1.out.cell 0
    have u1 : V1.cell? ⟨w.heap.size, 1, none⟩ = some (.int .i64 k.p) := KK1.out.cell 1
    have u2 : V1.cell? ⟨w.heap.size, 2, none⟩ = some (.int .i64 k.q) := KK1.out.cell 2
    have u3 : V1.cell? ⟨w.heap.size, 3, none⟩ = some (.string k.s) := KK1.out.cell 3
    have u4 : V1.cell? ⟨w.heap.size, 4, none⟩ = some (.int .i64 k.r) := KK1.out.cell 4
    have lu := KK1.out.lt
    have QN : Hid (∀ W, Ch [] V1 W → Calls Try.prog 40 #[.pointer (some ⟨b, 0, none⟩), .agg #[.int .i64 k.k, .int .i64 k.p, .int .i64 k.q, .string k.s, .int .i64 k.r]] W fun e w' => e = .returned (NxV y) ∧ OmR B b v m s.R w' ∧ Ch (omS b v m) W w') := Lib.hid fun W hc => QN0.out W (HT1.out.om.ch hc (fun g _ => not_nil g))
    unfold NxV at QN
    go_region_law (go_simp; go_at_call 40; (with_reducible refine (QN.out _ ?hc).mono ?_); (case hc => first | exact Ch.refl _ _ | exact (Ch.refl _ _).drew | exact (Ch.refl _ _).drewN _); rintro e w7 ⟨rfl, ho7, hc7⟩; (first | have HC7 : Hid (Ch (omS b v m) V1 w7) := Lib.hid hc7 | have HC7 : Hid (Ch (omS b v m) V1 w7) := Lib.hid (((Ch.refl _ V1).drew).trans hc7) | have HC7 : Hid (Ch (omS b v m) V1 w7) := Lib.hid (((Ch.refl _ V1).drewN _).trans hc7)); have HO7 := Lib.hid ho7; have KA7 := Lib.hid (KA1.out.ch HC7.out (fun hq => by have := HNT.out (w.heap.size + 1) (by simp [tbS, hq]); omega)); have KB7 := Lib.hid (KB1.out.ch HC7.out (fun hq => by have := HNT.out (w.heap.size + 1 + 1) (by simp [tbS, hq]); omega)); have r0 : w7.cell? ⟨(w.heap.size + 1), 0, none⟩ = some (.int .i64 0) := KA7.out.cell 0; have r1 : w7.cell? ⟨(w.heap.size + 1), 1, none⟩ = some (.int .i64 0) := KA7.out.cell 1; have r2 : w7.cell? ⟨(w.heap.size + 1), 2, none⟩ = some (.int .i64 0) := KA7.out.cell 2; have r3 : w7.cell? ⟨(w.heap.size + 1), 3, none⟩ = some (.string ⟨#[]⟩) := KA7.out.cell 3; have r4 : w7.cell? ⟨(w.heap.size + 1), 4, none⟩ = some (.int .i64 0) := KA7.out.cell 4; have rf0 := KA7.out.fz 0; have rf1 := KA7.out.fz 1; have rf2 := KA7.out.fz 2; have rf3 := KA7.out.fz 3; have rf4 := KA7.out.fz 4; have rl := KA7.out.lt; have q0 : w7.cell? ⟨(w.heap.size + 1 + 1), 0, none⟩ = some (.int .i64 0) := KB7.out.cell 0; have q1 : w7.cell? ⟨(w.heap.size + 1 + 1), 1, none⟩ = some (.int .i64 0) := KB7.out.cell 1; have q2 : w7.cell? ⟨(w.heap.size + 1 + 1), 2, none⟩ = some (.int .i64 0) := KB7.out.cell 2; have q3 : w7.cell? ⟨(w.heap.size + 1 + 1), 3, none⟩ = some (.string ⟨#[]⟩) := KB7.out.cell 3; have q4 : w7.cell? ⟨(w.heap.size + 1 + 1), 4, none⟩ = some (.int .i64 0) := KB7.out.cell 4; have qf0 := KB7.out.fz 0; have qf1 := KB7.out.fz 1; have qf2 := KB7.out.fz 2; have qf3 := KB7.out.fz 3; have qf4 := KB7.out.fz 4; have ql := KB7.out.lt; clear ho7 hc7)
    all_goals (
      go_wp2
      show bodyPost _ _ _ Exit.ret _ (st5 (st5 w7 (w.heap.size + 1) (.int .i64 y.key.k) (.int .i64 y.key.p) (.int .i64 y.key.q) (.string y.key.s) (.int .i64 y.key.r)) (w.heap.size + 1 + 1) (.int .i64 y.val.k) (.int .i64 y.val.p) (.int .i64 y.val.q) (.string y.val.s) (.int .i64 y.val.r))
      have I1 : Blk 26 (w.heap.size + 1) #[.int .i64 y.key.k, .int .i64 y.key.p, .int .i64 y.key.q, .string y.key.s, .int .i64 y.key.r] (st5 (st5 w7 (w.heap.size + 1) (.int .i64 y.key.k) (.int .i64 y.key.p) (.int .i64 y.key.q) (.string y.key.s) (.int .i64 y.key.r)) (w.heap.size + 1 + 1) (.int .i64 y.val.k) (.int .i64 y.val.p) (.int .i64 y.val.q) (.string y.val.s) (.int .i64 y.val.r)) := (st5_blk KA7.out).ch (st5_ch (S := [(w.heap.size + 1 + 1)]) (Ch.refl _ _) (.inl (by simp))) (by simp)
      have I2 : Blk 26 (w.heap.size + 1 + 1) #[.int .i64 y.val.k, .int .i64 y.val.p, .int .i64 y.val.q, .string y.val.s, .int .i64 y.val.r] (st5 (st5 w7 (w.heap.size + 1) (.int .i64 y.key.k) (.int .i64 y.key.p) (.int .i64 y.key.q) (.string y.key.s) (.int .i64 y.key.r)) (w.heap.size + 1 + 1) (.int .i64 y.val.k) (.int .i64 y.val.p) (.int .i64 y.val.q) (.string y.val.s) (.int .i64 y.val.r)) := st5_blk (KB7.out.ch (st5_ch (S := [(w.heap.size + 1)]) (Ch.refl _ _) (.inl (by simp))) (by simp))
      have HS : Hid (Ch [(w.heap.size + 1), (w.heap.size + 1 + 1)] w7 (st5 (st5 w7 (w.heap.size + 1) (.int .i64 y.key.k) (.int .i64 y.key.p) (.int .i64 y.key.q) (.string y.key.s) (.int .i64 y.key.r)) (w.heap.size + 1 + 1) (.int .i64 y.val.k) (.int .i64 y.val.p) (.int .i64 y.val.q) (.string y.val.s) (.int .i64 y.val.r))) := Lib.hid (st5_ch (st5_ch (Ch.refl _ _) (.inl (by simp))) (.inl (by simp)))
      have x0 := I1.cell 0
      have x1 := I1.cell 1
      have x2 := I1.cell 2
      have x3 := I1.cell 3
      have x4 := I1.cell 4
      have y0 := I2.cell 0
      have y1 := I2.cell 1
      have y2 := I2.cell 2
      have y3 := I2.cell 3
      have y4 := I2.cell 4
      simp at x0 x1 x2 x3 x4 y0 y1 y2 y3 y4
      have HF : Hid (TbSaid B t va b v m s w (st5 (st5 w7 (w.heap.size + 1) (.int .i64 y.key.k) (.int .i64 y.key.p) (.int .i64 y.key.q) (.string y.key.s) (.int .i64 y.key.r)) (w.heap.size + 1 + 1) (.int .i64 y.val.k) (.int .i64 y.val.p) (.int .i64 y.val.q) (.string y.val.s) (.int .i64 y.val.r))) := Lib.hid (by
        have h7 := om_tb HT1.out HO7.out HC7.out
        have hc1 : Ch (tbS t va b v m) w V1 := (HC0.out.trans HC1.out).mono (fun g hg => absurd hg (not_nil g))
        exact tb_fin hc1 (tb_after h7 (HC7.out.mono (fun g hg => by simp [tbS, hg]))) HS.out (fun g hg => by
          have hA := KA1.out.lt
          have hB := KB1.out.lt
          simp at hg
          rcases hg with rfl | rfl
          · exact ⟨fun hq => by have := HNT.out _ hq; omega, hA, by omega⟩
          · exact ⟨fun hq => by have := HNT.out _ hq; omega, hB, by omega⟩))
      generalize (st5 (st5 w7 (w.heap.size + 1) (.int .i64 y.key.k) (.int .i64 y.key.p) (.int .i64 y.key.q) (.string y.key.s) (.int .i64 y.key.r)) (w.heap.size + 1 + 1) (.int .i64 y.val.k) (.int .i64 y.val.p) (.int .i64 y.val.q) (.string y.val.s) (.int .i64 y.val.r)) = W9 at *
      refine bodyPost_ret (v := .tuple #[.agg #[.int .i64 y.key.k, .int .i64 y.key.p, .int .i64 y.key.q, .string y.key.s, .int .i64 y.key.r], .agg #[.int .i64 y.val.k, .int .i64 y.val.p, .int .i64 y.val.q, .string y.val.s, .int .i64 y.val.r], .bool y.ok, .int .i64 y.err]) (by simp [results, Try.results38, go_sem, x0, x1, x2, x3, x4, y0, y1, y2, y3, y4]) rfl ⟨rfl, HF.out⟩))
theorem nr_any (B t : Nat) (va : Value) (b : Nat) (v m : Value) (s : TS) (w : World) (h : Tb B t va b v m s w) (k : V5) (hR : s.R.length ≤ 1000000) :
    Calls Try.prog 38 #[.pointer (some ⟨t, 0, none⟩), .agg #[.int .i64 k.k, .int .i64 k.p, .int .i64 k.q, .string k.s, .int .i64 k.r]] w fun e w' => e = .returned (NxV (nrT s k)) ∧ TbSaid B t va b v m s w w' := by
  unfold nrT
  cases hs : s.st with
  | false => rw [if_neg (by simp)]; exact nr_a B t va b v m s w h k hs hR
  | true =>
    by_cases hg : (getR s.R k).k = 0
    · rw [if_pos ⟨rfl, hg⟩]
      exact (nr_z B t va b v m s w h k hs hg hR).mono fun e w' hh => ⟨hh.1, tb_0 h hh.2⟩
    · rw [if_neg (fun q => hg q.2)]
      exact nr_b B t va b v m s w h k hs hg hR
end Go.Proofs.Ytaaelhhiceildaa
