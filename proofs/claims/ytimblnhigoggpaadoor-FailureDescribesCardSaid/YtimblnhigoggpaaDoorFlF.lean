/- Layer 19: Message, Text of a string, Same, few lines, what can't be called. -/
import Derived.Test.YtimblnhigoggpaaDoorFlE
import Derived.Test.YtimblnhigoggpaaDoorValD
namespace Go.Proofs.YtimblnhigoggpaaDoor
open Go.RowKit Go.Joins M1
set_option linter.unusedVariables false
def cutS (s : ByteArray) : ByteArray := if s.size ≤ 4096 then s else s.extract 0 4096
set_option maxHeartbeats 2000000 in
theorem message_of (s : ByteArray) (vt : Value) (l : List Pl) (nv : V5) (w : World)
    (QR0 : ∀ W, Ch [] w W → Calls Tryd.prog 14 #[.agg #[.int .i64 3, .int .i64 0, .int .i64 0, .string (cutS s), .int .i64 0], .int .i64 1, vt] W fun e w' => ∃ vt', e = .returned (.agg #[.int .i64 nv.k, .int .i64 nv.p, .int .i64 nv.q, .string nv.s, .int .i64 nv.r, vt']) ∧ RP W.heap.size vt' l w' ∧ Ch [] W w') :
    Calls Tryd.prog 16 #[.string s, vt] w fun e w' => ∃ vt', e = .returned (.agg #[.int .i64 nv.k, .int .i64 nv.p, .int .i64 nv.q, .string nv.s, .int .i64 nv.r, vt']) ∧ RP w.heap.size vt' l w' ∧ Ch [] w w' := by
  have HC0 : Hid (Ch [] w (w.alloc (.cells #[.int .i64 0, .int .i64 0, .int .i64 0, .string ⟨#[]⟩, .int .i64 0, .slice none 0 0] 31))) := Lib.hid ((Ch.refl [] w).alloc _)
  have HB : Hid (Blk 31 w.heap.size #[.int .i64 0, .int .i64 0, .int .i64 0, .string ⟨#[]⟩, .int .i64 0, .slice none 0 0] (w.alloc (.cells #[.int .i64 0, .int .i64 0, .int .i64 0, .string ⟨#[]⟩, .int .i64 0, .slice none 0 0] 31))) := Lib.hid (Blk.new w _ _ _ rfl)
  have QS := Lib.hid (fun (t : ByteArray) W => ofStr_any t W)
  by_cases h : s.size ≤ 4096
  · have hcut : cutS s = s := by unfold cutS; rw [if_pos h]
    have h1 : (s.size : Int) ≤ 4096 := by omega
    have h2 : ¬ (4096 : Int) < (s.size : Int) := by omega
    have h3 : s.extract 0 s.size = s := by simp
    have h5 : min (s.size : Int) 4096 = (s.size : Int) := by omega
    rw [hcut] at QR0
    have QR := Lib.hid QR0
    clear h hcut QR0
    go_enter Tryd.func16, Tryd.ntmps16
    go_wp2_with (first | (go_at_call 33; (with_reducible refine (QS.out _ _).mono ?_); rintro e w0 ⟨rfl, hb0⟩; have HC01 := Lib.hid (Ch.of_below (S := []) hb0); have HB0 := Lib.hid (HB.out.below hb0); have HC02 := Lib.hid (HC0.out.trans HC01.out); have hs0 : w.heap.size < w0.heap.size := (by have := HC01.out.size; simp at this; omega); clear hb0) | (go_at_call 14; (with_reducible refine (QR.out _ HC02.out).mono ?_); rintro e w1 ⟨vt', rfl, hr, hc⟩; obtain ⟨pl, cl, rfl⟩ := ownB_form hr; have HR := Lib.hid hr; have HC := Lib.hid hc; have KB := Lib.hid (HB0.out.ch hc (not_nil _)); clear hr hc; have d0 : w1.cell? ⟨w.heap.size, 0, none⟩ = some (.int .i64 0) := KB.out.cell 0; have d1 : w1.cell? ⟨w.heap.size, 1, none⟩ = some (.int .i64 0) := KB.out.cell 1; have d2 : w1.cell? ⟨w.heap.size, 2, none⟩ = some (.int .i64 0) := KB.out.cell 2; have d3 : w1.cell? ⟨w.heap.size, 3, none⟩ = some (.string ⟨#[]⟩) := KB.out.cell 3; have d4 : w1.cell? ⟨w.heap.size, 4, none⟩ = some (.int .i64 0) := KB.out.cell 4; have d5 : w1.cell? ⟨w.heap.size, 5, none⟩ = some (.slice none 0 0) := KB.out.cell 5; have f0 : w1.frozen? ⟨w.heap.size, 0, none⟩ = false := KB.out.fz 0; have f1 : w1.frozen? ⟨w.heap.size, 1, none⟩ = false := KB.out.fz 1; have f2 : w1.frozen? ⟨w.heap.size, 2, none⟩ = false := KB.out.fz 2; have f3 : w1.frozen? ⟨w.heap.size, 3, none⟩ = false := KB.out.fz 3; have f4 : w1.frozen? ⟨w.heap.size, 4, none⟩ = false := KB.out.fz 4; have f5 : w1.frozen? ⟨w.heap.size, 5, none⟩ = false := KB.out.fz 5; have lR := KB.out.lt))
    clear d0 f0 d1 f1 d2 f2 d3 f3 d4 f4 d5 f5
    show bodyPost _ _ _ Exit.ret _ (st6 w1 w.heap.size (.int .i64 nv.k) (.int .i64 nv.p) (.int .i64 nv.q) (.string nv.s) (.int .i64 nv.r) (.slice pl l.length cl))
    have hI : Blk 31 w.heap.size #[.int .i64 nv.k, .int .i64 nv.p, .int .i64 nv.q, .string nv.s, .int .i64 nv.r, .slice pl l.length cl] (st6 w1 w.heap.size (.int .i64 nv.k) (.int .i64 nv.p) (.int .i64 nv.q) (.string nv.s) (.int .i64 nv.r) (.slice pl l.length cl)) := st6_blk KB.out
    have hS : Ch [w.heap.size] w1 (st6 w1 w.heap.size (.int .i64 nv.k) (.int .i64 nv.p) (.int .i64 nv.q) (.string nv.s) (.int .i64 nv.r) (.slice pl l.length cl)) := st6_ch (Ch.refl [w.heap.size] w1) (.inl (by simp))
    generalize (st6 w1 w.heap.size (.int .i64 nv.k) (.int .i64 nv.p) (.int .i64 nv.q) (.string nv.s) (.int .i64 nv.r) (.slice pl l.length cl)) = W9 at *
    have d0 : W9.cell? ⟨w.heap.size, 0, none⟩ = some (.int .i64 nv.k) := hI.cell 0
    have d1 : W9.cell? ⟨w.heap.size, 1, none⟩ = some (.int .i64 nv.p) := hI.cell 1
    have d2 : W9.cell? ⟨w.heap.size, 2, none⟩ = some (.int .i64 nv.q) := hI.cell 2
    have d3 : W9.cell? ⟨w.heap.size, 3, none⟩ = some (.string nv.s) := hI.cell 3
    have d4 : W9.cell? ⟨w.heap.size, 4, none⟩ = some (.int .i64 nv.r) := hI.cell 4
    have d5 : W9.cell? ⟨w.heap.size, 5, none⟩ = some (.slice pl l.length cl) := hI.cell 5
    refine bodyPost_ret (v := .agg #[.int .i64 nv.k, .int .i64 nv.p, .int .i64 nv.q, .string nv.s, .int .i64 nv.r, .slice pl l.length cl]) (by simp [results, Tryd.results16, go_sem, d0, d1, d2, d3, d4, d5]) rfl ⟨_, rfl, (HR.out.mono (by omega)).ch hS (HR.out.off (by omega)), (HC02.out.trans HC.out).fresh (fun g hg => by simp at hg; omega) hS⟩
  · have hcut : cutS s = (s.extract 0 4096) := by unfold cutS; rw [if_neg h]
    have h1 : ¬ (s.size : Int) ≤ 4096 := by omega
    have h2 : (4096 : Int) < (s.size : Int) := by omega
    have h3 : (4096 : Int) ≤ (s.size : Int) := by omega
    have h5 : min (s.size : Int) 4096 = 4096 := by omega
    rw [hcut] at QR0
    have QR := Lib.hid QR0
    clear h hcut QR0
    go_enter Tryd.func16, Tryd.ntmps16
    go_wp2_with (first | (go_at_call 33; (with_reducible refine (QS.out _ _).mono ?_); rintro e w0 ⟨rfl, hb0⟩; have HC01 := Lib.hid (Ch.of_below (S := []) hb0); have HB0 := Lib.hid (HB.out.below hb0); have HC02 := Lib.hid (HC0.out.trans HC01.out); have hs0 : w.heap.size < w0.heap.size := (by have := HC01.out.size; simp at this; omega); clear hb0) | (go_at_call 14; (with_reducible refine (QR.out _ HC02.out).mono ?_); rintro e w1 ⟨vt', rfl, hr, hc⟩; obtain ⟨pl, cl, rfl⟩ := ownB_form hr; have HR := Lib.hid hr; have HC := Lib.hid hc; have KB := Lib.hid (HB0.out.ch hc (not_nil _)); clear hr hc; have d0 : w1.cell? ⟨w.heap.size, 0, none⟩ = some (.int .i64 0) := KB.out.cell 0; have d1 : w1.cell? ⟨w.heap.size, 1, none⟩ = some (.int .i64 0) := KB.out.cell 1; have d2 : w1.cell? ⟨w.heap.size, 2, none⟩ = some (.int .i64 0) := KB.out.cell 2; have d3 : w1.cell? ⟨w.heap.size, 3, none⟩ = some (.string ⟨#[]⟩) := KB.out.cell 3; have d4 : w1.cell? ⟨w.heap.size, 4, none⟩ = some (.int .i64 0) := KB.out.cell 4; have d5 : w1.cell? ⟨w.heap.size, 5, none⟩ = some (.slice none 0 0) := KB.out.cell 5; have f0 : w1.frozen? ⟨w.heap.size, 0, none⟩ = false := KB.out.fz 0; have f1 : w1.frozen? ⟨w.heap.size, 1, none⟩ = false := KB.out.fz 1; have f2 : w1.frozen? ⟨w.heap.size, 2, none⟩ = false := KB.out.fz 2; have f3 : w1.frozen? ⟨w.heap.size, 3, none⟩ = false := KB.out.fz 3; have f4 : w1.frozen? ⟨w.heap.size, 4, none⟩ = false := KB.out.fz 4; have f5 : w1.frozen? ⟨w.heap.size, 5, none⟩ = false := KB.out.fz 5; have lR := KB.out.lt))
    clear d0 f0 d1 f1 d2 f2 d3 f3 d4 f4 d5 f5
    show bodyPost _ _ _ Exit.ret _ (st6 w1 w.heap.size (.int .i64 nv.k) (.int .i64 nv.p) (.int .i64 nv.q) (.string nv.s) (.int .i64 nv.r) (.slice pl l.length cl))
    have hI : Blk 31 w.heap.size #[.int .i64 nv.k, .int .i64 nv.p, .int .i64 nv.q, .string nv.s, .int .i64 nv.r, .slice pl l.length cl] (st6 w1 w.heap.size (.int .i64 nv.k) (.int .i64 nv.p) (.int .i64 nv.q) (.string nv.s) (.int .i64 nv.r) (.slice pl l.length cl)) := st6_blk KB.out
    have hS : Ch [w.heap.size] w1 (st6 w1 w.heap.size (.int .i64 nv.k) (.int .i64 nv.p) (.int .i64 nv.q) (.string nv.s) (.int .i64 nv.r) (.slice pl l.length cl)) := st6_ch (Ch.refl [w.heap.size] w1) (.inl (by simp))
    generalize (st6 w1 w.heap.size (.int .i64 nv.k) (.int .i64 nv.p) (.int .i64 nv.q) (.string nv.s) (.int .i64 nv.r) (.slice pl l.length cl)) = W9 at *
    have d0 : W9.cell? ⟨w.heap.size, 0, none⟩ = some (.int .i64 nv.k) := hI.cell 0
    have d1 : W9.cell? ⟨w.heap.size, 1, none⟩ = some (.int .i64 nv.p) := hI.cell 1
    have d2 : W9.cell? ⟨w.heap.size, 2, none⟩ = some (.int .i64 nv.q) := hI.cell 2
    have d3 : W9.cell? ⟨w.heap.size, 3, none⟩ = some (.string nv.s) := hI.cell 3
    have d4 : W9.cell? ⟨w.heap.size, 4, none⟩ = some (.int .i64 nv.r) := hI.cell 4
    have d5 : W9.cell? ⟨w.heap.size, 5, none⟩ = some (.slice pl l.length cl) := hI.cell 5
    refine bodyPost_ret (v := .agg #[.int .i64 nv.k, .int .i64 nv.p, .int .i64 nv.q, .string nv.s, .int .i64 nv.r, .slice pl l.length cl]) (by simp [results, Tryd.results16, go_sem, d0, d1, d2, d3, d4, d5]) rfl ⟨_, rfl, (HR.out.mono (by omega)).ch hS (HR.out.off (by omega)), (HC02.out.trans HC.out).fresh (fun g hg => by simp at hg; omega) hS⟩
theorem vtext_str (s : ByteArray) (p q r : Int) (w : World) : Calls Tryd.prog 34 #[.agg #[.int .i64 3, .int .i64 p, .int .i64 q, .string s, .int .i64 r]] w fun e w' => e = .returned (.string s) ∧ Ch [] w w' := by
  go_enter Tryd.func34, Tryd.ntmps34
  go_wp2
  go_ret
  exact ⟨rfl, (Ch.refl [] w).alloc _⟩
theorem ftext_str (s : ByteArray) (p q r : Int) (vt : Value) (l : List Pl) (w : World) (h : PA w vt l) : Calls Tryd.prog 18 #[.agg #[.int .i64 3, .int .i64 p, .int .i64 q, .string s, .int .i64 r, vt]] w fun e w' => e = .returned (.string s) ∧ Ch [] w w' := by
  obtain ⟨p0, c0, rfl, _⟩ := h
  have Q := Lib.hid (fun W => vtext_str s p q r W)
  have HC0 : Hid (Ch [] w (w.alloc (.cells #[.int .i64 3, .int .i64 p, .int .i64 q, .string s, .int .i64 r, .slice p0 l.length c0] 31))) := Lib.hid ((Ch.refl [] w).alloc _)
  go_enter Tryd.func18, Tryd.ntmps18
  go_wp2_with (go_at_call 34; (with_reducible refine (Q.out _).mono ?_); rintro e w1 ⟨rfl, hc⟩; have HC := Lib.hid (HC0.out.trans hc); clear hc)
  go_ret
  exact ⟨rfl, HC.out⟩
theorem lines21 (v : V5) (vt : Value) (l : List Pl) (w : World) (h : PA w vt l) (hl : l.length ≤ 21) (hP : ∀ p ∈ l, LnOk w p) :
    Calls Tryd.prog 20 #[.agg #[.int .i64 v.k, .int .i64 v.p, .int .i64 v.q, .string v.s, .int .i64 v.r, vt]] w fun e w' => (∃ v', e = .returned v' ∧ RS w.heap.size v' (l.map lineB) w') ∧ Ch [] w w' := by
  have H := Lib.hid h
  obtain ⟨p0, c0, rfl, _⟩ := h
  have HC0 : Hid (Ch [] w (w.alloc (.cells #[.int .i64 v.k, .int .i64 v.p, .int .i64 v.q, .string v.s, .int .i64 v.r, .slice p0 l.length c0] 31))) := Lib.hid ((Ch.refl [] w).alloc _)
  have Q : Hid (Calls Tryd.prog 36 #[.slice p0 l.length c0] (w.alloc (.cells #[.int .i64 v.k, .int .i64 v.p, .int .i64 v.q, .string v.s, .int .i64 v.r, .slice p0 l.length c0] 31)) fun e w' => (∃ v', e = .returned v' ∧ RS w.heap.size v' (l.map lineB) w') ∧ Ch [] w w') := Lib.hid (by
    refine (lines_any _ l _ (H.out.below HC0.out) (by omega) (fun p hp => (hP p hp).on HC0.out)).mono ?_
    rintro e w' ⟨⟨v', rfl, hr⟩, hc⟩
    refine ⟨⟨v', rfl, ?_⟩, HC0.out.trans hc⟩
    refine ⟨hr.1, ?_⟩
    rcases hr.2 with q | ⟨g, cap, cur, e, q, r⟩
    · exact .inl q
    · exact .inr ⟨g, cap, cur, e, by simp at q; omega, r⟩)
  have hl' : (l.length : Int) ≤ 21 := by omega
  clear hP hl
  go_enter Tryd.func20, Tryd.ntmps20
  go_wp2_with (go_at_call 36; (with_reducible refine (Q.out).mono ?_); rintro e w1 ⟨⟨v', rfl, hr⟩, hc⟩; have HR := Lib.hid hr; have HC := Lib.hid hc; clear hr hc)
  go_ret
  exact ⟨⟨_, rfl, HR.out⟩, HC.out⟩
theorem eqV_v5 (a c : V5) : eqV a.k a.p a.q a.s a.r c.k c.p c.q c.s c.r = decide (a = c) := by
  unfold eqV
  rw [Bool.eq_iff_iff]
  cases a; cases c; simp
theorem slist_any (a b : Value) (l1 l2 : List Pl) (w : World) (h1 : PA w a l1) (h2 : PA w b l2) (hL : l1.length ≤ 1000000) (hL2 : l2.length ≤ 1000000) :
    Calls Tryd.prog 40 #[a, b] w fun e w' => e = .returned (.bool (decide (l1 = l2))) ∧ Ch [] w w' := by
  obtain ⟨p1, c1, rfl, _, q1⟩ := h1
  obtain ⟨p2, c2, rfl, _, q2⟩ := h2
  obtain ⟨d, hd⟩ : ∃ d, d = decide (l1 = l2) := ⟨_, rfl⟩
  have Q : Hid (Calls Tryd.prog 54 #[.slice p1 l1.length c1, .slice p2 l2.length c2] w fun e w' => e = .returned (.bool d) ∧ Ch [] w w') := Lib.hid (by rw [hd]; exact pequal_any _ _ l1 l2 w q1 q2 hL hL2)
  rw [← hd]
  clear q1 q2 hL hL2 hd
  go_enter Tryd.func40, Tryd.ntmps40
  go_wp2_with (go_at_call 54; (with_reducible refine (Q.out).mono ?_); rintro e w1 ⟨rfl, hc⟩; have HC := Lib.hid hc; clear hc)
  go_ret
  exact ⟨rfl, HC.out⟩
set_option maxHeartbeats 2000000 in
theorem fsame_v (f g : Flr) (p1 p2 : Option Addr) (c1 c2 : Nat) (w : World) (h1 : PA w (.slice p1 f.t.length c1) f.t) (h2 : PA w (.slice p2 g.t.length c2) g.t) (n1 : f.t.length ≤ 1000000) (n2 : g.t.length ≤ 1000000) (hv : decide (f.v = g.v) = false) :
    Calls Tryd.prog 22 #[.agg #[.int .i64 f.v.k, .int .i64 f.v.p, .int .i64 f.v.q, .string f.v.s, .int .i64 f.v.r, .slice p1 f.t.length c1], .agg #[.int .i64 g.v.k, .int .i64 g.v.p, .int .i64 g.v.q, .string g.v.s, .int .i64 g.v.r, .slice p2 g.t.length c2]] w fun e w' => e = .returned (.bool false) ∧ Ch [] w w' := by
  obtain ⟨w0, hw0⟩ : ∃ w0, w0 = ((w.alloc (.cells #[.int .i64 f.v.k, .int .i64 f.v.p, .int .i64 f.v.q, .string f.v.s, .int .i64 f.v.r, .slice p1 f.t.length c1] 31)).alloc (.cells #[.int .i64 g.v.k, .int .i64 g.v.p, .int .i64 g.v.q, .string g.v.s, .int .i64 g.v.r, .slice p2 g.t.length c2] 31)) := ⟨_, rfl⟩
  have HC0 : Hid (Ch [] w w0) := Lib.hid (by rw [hw0]; exact ((Ch.refl [] w).alloc _).alloc _)
  have HB : Hid (Blk 31 (w.heap.size + 1) #[.int .i64 g.v.k, .int .i64 g.v.p, .int .i64 g.v.q, .string g.v.s, .int .i64 g.v.r, .slice p2 g.t.length c2] w0) := Lib.hid (by rw [hw0]; exact Blk.new _ _ _ _ (by simp))
  have HA : Hid (Blk 31 w.heap.size #[.int .i64 f.v.k, .int .i64 f.v.p, .int .i64 f.v.q, .string f.v.s, .int .i64 f.v.r, .slice p1 f.t.length c1] w0) := Lib.hid (by rw [hw0]; exact (Blk.new w _ _ _ rfl).ch ((Ch.refl [] _).alloc _) (not_nil _))
  have QV : Hid (∀ W, Calls Tryd.prog 39 #[.agg #[.int .i64 f.v.k, .int .i64 f.v.p, .int .i64 f.v.q, .string f.v.s, .int .i64 f.v.r], .agg #[.int .i64 g.v.k, .int .i64 g.v.p, .int .i64 g.v.q, .string g.v.s, .int .i64 g.v.r]] W fun e w' => e = .returned (.bool false) ∧ Ch [] W w') := Lib.hid fun W => by
    refine (same_any f.v.k f.v.p f.v.q f.v.s f.v.r g.v.k g.v.p g.v.q g.v.s g.v.r W).mono ?_
    rintro e w' ⟨rfl, hb⟩
    exact ⟨by rw [eqV_v5, hv], Ch.of_below hb⟩
  have HW := Lib.hid hw0
  clear hw0 h1 h2 n1 n2 hv
  go_enter Tryd.func22, Tryd.ntmps22
  go_upto_region 1 with fail
  rw [← HW.out]
  have a0 : w0.cell? ⟨w.heap.size, 0, none⟩ = some (.int .i64 f.v.k) := HA.out.cell 0
  have a1 : w0.cell? ⟨w.heap.size, 1, none⟩ = some (.int .i64 f.v.p) := HA.out.cell 1
  have a2 : w0.cell? ⟨w.heap.size, 2, none⟩ = some (.int .i64 f.v.q) := HA.out.cell 2
  have a3 : w0.cell? ⟨w.heap.size, 3, none⟩ = some (.string f.v.s) := HA.out.cell 3
  have a4 : w0.cell? ⟨w.heap.size, 4, none⟩ = some (.int .i64 f.v.r) := HA.out.cell 4
  have a5 : w0.cell? ⟨w.heap.size, 5, none⟩ = some (.slice p1 f.t.length c1) := HA.out.cell 5
  have b0 : w0.cell? ⟨(w.heap.size + 1), 0, none⟩ = some (.int .i64 g.v.k) := HB.out.cell 0
  have b1 : w0.cell? ⟨(w.heap.size + 1), 1, none⟩ = some (.int .i64 g.v.p) := HB.out.cell 1
  have b2 : w0.cell? ⟨(w.heap.size + 1), 2, none⟩ = some (.int .i64 g.v.q) := HB.out.cell 2
  have b3 : w0.cell? ⟨(w.heap.size + 1), 3, none⟩ = some (.string g.v.s) := HB.out.cell 3
  have b4 : w0.cell? ⟨(w.heap.size + 1), 4, none⟩ = some (.int .i64 g.v.r) := HB.out.cell 4
  have b5 : w0.cell? ⟨(w.heap.size + 1), 5, none⟩ = some (.slice p2 g.t.length c2) := HB.out.cell 5
  have la := HA.out.lt
  have lb := HB.out.lt
  go_wp2_with (first | (go_at_call 39; (with_reducible refine (QV.out _).mono ?_); rintro e w1 ⟨rfl, hc⟩; have HC1 := Lib.hid hc; have x0 : w1.cell? ⟨w.heap.size, 0, none⟩ = some (.int .i64 f.v.k) := (HA.out.ch hc (not_nil _)).cell 0; have x1 : w1.cell? ⟨w.heap.size, 1, none⟩ = some (.int .i64 f.v.p) := (HA.out.ch hc (not_nil _)).cell 1; have x2 : w1.cell? ⟨w.heap.size, 2, none⟩ = some (.int .i64 f.v.q) := (HA.out.ch hc (not_nil _)).cell 2; have x3 : w1.cell? ⟨w.heap.size, 3, none⟩ = some (.string f.v.s) := (HA.out.ch hc (not_nil _)).cell 3; have x4 : w1.cell? ⟨w.heap.size, 4, none⟩ = some (.int .i64 f.v.r) := (HA.out.ch hc (not_nil _)).cell 4; have x5 : w1.cell? ⟨w.heap.size, 5, none⟩ = some (.slice p1 f.t.length c1) := (HA.out.ch hc (not_nil _)).cell 5; have y0 : w1.cell? ⟨w.heap.size + 1, 0, none⟩ = some (.int .i64 g.v.k) := (HB.out.ch hc (not_nil _)).cell 0; have y1 : w1.cell? ⟨w.heap.size + 1, 1, none⟩ = some (.int .i64 g.v.p) := (HB.out.ch hc (not_nil _)).cell 1; have y2 : w1.cell? ⟨w.heap.size + 1, 2, none⟩ = some (.int .i64 g.v.q) := (HB.out.ch hc (not_nil _)).cell 2; have y3 : w1.cell? ⟨w.heap.size + 1, 3, none⟩ = some (.string g.v.s) := (HB.out.ch hc (not_nil _)).cell 3; have y4 : w1.cell? ⟨w.heap.size + 1, 4, none⟩ = some (.int .i64 g.v.r) := (HB.out.ch hc (not_nil _)).cell 4; have y5 : w1.cell? ⟨w.heap.size + 1, 5, none⟩ = some (.slice p2 g.t.length c2) := (HB.out.ch hc (not_nil _)).cell 5; have xl := (HA.out.ch hc (not_nil _)).lt; have yl := (HB.out.ch hc (not_nil _)).lt; clear hc))
  go_ret
  exact ⟨rfl, HC0.out.trans HC1.out⟩
set_option maxHeartbeats 2000000 in
theorem fsame_t (f g : Flr) (p1 p2 : Option Addr) (c1 c2 : Nat) (w : World) (h1 : PA w (.slice p1 f.t.length c1) f.t) (h2 : PA w (.slice p2 g.t.length c2) g.t) (n1 : f.t.length ≤ 1000000) (n2 : g.t.length ≤ 1000000) (hv : decide (f.v = g.v) = true) (ht : decide (f.t = g.t) = false) :
    Calls Tryd.prog 22 #[.agg #[.int .i64 f.v.k, .int .i64 f.v.p, .int .i64 f.v.q, .string f.v.s, .int .i64 f.v.r, .slice p1 f.t.length c1], .agg #[.int .i64 g.v.k, .int .i64 g.v.p, .int .i64 g.v.q, .string g.v.s, .int .i64 g.v.r, .slice p2 g.t.length c2]] w fun e w' => e = .returned (.bool false) ∧ Ch [] w w' := by
  obtain ⟨w0, hw0⟩ : ∃ w0, w0 = ((w.alloc (.cells #[.int .i64 f.v.k, .int .i64 f.v.p, .int .i64 f.v.q, .string f.v.s, .int .i64 f.v.r, .slice p1 f.t.length c1] 31)).alloc (.cells #[.int .i64 g.v.k, .int .i64 g.v.p, .int .i64 g.v.q, .string g.v.s, .int .i64 g.v.r, .slice p2 g.t.length c2] 31)) := ⟨_, rfl⟩
  have HC0 : Hid (Ch [] w w0) := Lib.hid (by rw [hw0]; exact ((Ch.refl [] w).alloc _).alloc _)
  have HB : Hid (Blk 31 (w.heap.size + 1) #[.int .i64 g.v.k, .int .i64 g.v.p, .int .i64 g.v.q, .string g.v.s, .int .i64 g.v.r, .slice p2 g.t.length c2] w0) := Lib.hid (by rw [hw0]; exact Blk.new _ _ _ _ (by simp))
  have HA : Hid (Blk 31 w.heap.size #[.int .i64 f.v.k, .int .i64 f.v.p, .int .i64 f.v.q, .string f.v.s, .int .i64 f.v.r, .slice p1 f.t.length c1] w0) := Lib.hid (by rw [hw0]; exact (Blk.new w _ _ _ rfl).ch ((Ch.refl [] _).alloc _) (not_nil _))
  have QV : Hid (∀ W, Calls Tryd.prog 39 #[.agg #[.int .i64 f.v.k, .int .i64 f.v.p, .int .i64 f.v.q, .string f.v.s, .int .i64 f.v.r], .agg #[.int .i64 g.v.k, .int .i64 g.v.p, .int .i64 g.v.q, .string g.v.s, .int .i64 g.v.r]] W fun e w' => e = .returned (.bool true) ∧ Ch [] W w') := Lib.hid fun W => by
    refine (same_any f.v.k f.v.p f.v.q f.v.s f.v.r g.v.k g.v.p g.v.q g.v.s g.v.r W).mono ?_
    rintro e w' ⟨rfl, hb⟩
    exact ⟨by rw [eqV_v5, hv], Ch.of_below hb⟩
  have QL : Hid (∀ W, Ch [] w0 W → Calls Tryd.prog 40 #[.slice p1 f.t.length c1, .slice p2 g.t.length c2] W fun e w' => e = .returned (.bool false) ∧ Ch [] W w') := Lib.hid fun W hW => by
    rw [← ht]
    exact slist_any _ _ f.t g.t W (h1.below (HC0.out.trans hW)) (h2.below (HC0.out.trans hW)) n1 n2
  have HW := Lib.hid hw0
  clear hw0 h1 h2 n1 n2 hv ht
  go_enter Tryd.func22, Tryd.ntmps22
  go_upto_region 1 with fail
  rw [← HW.out]
  have a0 : w0.cell? ⟨w.heap.size, 0, none⟩ = some (.int .i64 f.v.k) := HA.out.cell 0
  have a1 : w0.cell? ⟨w.heap.size, 1, none⟩ = some (.int .i64 f.v.p) := HA.out.cell 1
  have a2 : w0.cell? ⟨w.heap.size, 2, none⟩ = some (.int .i64 f.v.q) := HA.out.cell 2
  have a3 : w0.cell? ⟨w.heap.size, 3, none⟩ = some (.string f.v.s) := HA.out.cell 3
  have a4 : w0.cell? ⟨w.heap.size, 4, none⟩ = some (.int .i64 f.v.r) := HA.out.cell 4
  have a5 : w0.cell? ⟨w.heap.size, 5, none⟩ = some (.slice p1 f.t.length c1) := HA.out.cell 5
  have b0 : w0.cell? ⟨(w.heap.size + 1), 0, none⟩ = some (.int .i64 g.v.k) := HB.out.cell 0
  have b1 : w0.cell? ⟨(w.heap.size + 1), 1, none⟩ = some (.int .i64 g.v.p) := HB.out.cell 1
  have b2 : w0.cell? ⟨(w.heap.size + 1), 2, none⟩ = some (.int .i64 g.v.q) := HB.out.cell 2
  have b3 : w0.cell? ⟨(w.heap.size + 1), 3, none⟩ = some (.string g.v.s) := HB.out.cell 3
  have b4 : w0.cell? ⟨(w.heap.size + 1), 4, none⟩ = some (.int .i64 g.v.r) := HB.out.cell 4
  have b5 : w0.cell? ⟨(w.heap.size + 1), 5, none⟩ = some (.slice p2 g.t.length c2) := HB.out.cell 5
  have la := HA.out.lt
  have lb := HB.out.lt
  go_wp2_with (first | (go_at_call 39; (with_reducible refine (QV.out _).mono ?_); rintro e w1 ⟨rfl, hc⟩; have HC1 := Lib.hid hc; have x0 : w1.cell? ⟨w.heap.size, 0, none⟩ = some (.int .i64 f.v.k) := (HA.out.ch hc (not_nil _)).cell 0; have x1 : w1.cell? ⟨w.heap.size, 1, none⟩ = some (.int .i64 f.v.p) := (HA.out.ch hc (not_nil _)).cell 1; have x2 : w1.cell? ⟨w.heap.size, 2, none⟩ = some (.int .i64 f.v.q) := (HA.out.ch hc (not_nil _)).cell 2; have x3 : w1.cell? ⟨w.heap.size, 3, none⟩ = some (.string f.v.s) := (HA.out.ch hc (not_nil _)).cell 3; have x4 : w1.cell? ⟨w.heap.size, 4, none⟩ = some (.int .i64 f.v.r) := (HA.out.ch hc (not_nil _)).cell 4; have x5 : w1.cell? ⟨w.heap.size, 5, none⟩ = some (.slice p1 f.t.length c1) := (HA.out.ch hc (not_nil _)).cell 5; have y0 : w1.cell? ⟨w.heap.size + 1, 0, none⟩ = some (.int .i64 g.v.k) := (HB.out.ch hc (not_nil _)).cell 0; have y1 : w1.cell? ⟨w.heap.size + 1, 1, none⟩ = some (.int .i64 g.v.p) := (HB.out.ch hc (not_nil _)).cell 1; have y2 : w1.cell? ⟨w.heap.size + 1, 2, none⟩ = some (.int .i64 g.v.q) := (HB.out.ch hc (not_nil _)).cell 2; have y3 : w1.cell? ⟨w.heap.size + 1, 3, none⟩ = some (.string g.v.s) := (HB.out.ch hc (not_nil _)).cell 3; have y4 : w1.cell? ⟨w.heap.size + 1, 4, none⟩ = some (.int .i64 g.v.r) := (HB.out.ch hc (not_nil _)).cell 4; have y5 : w1.cell? ⟨w.heap.size + 1, 5, none⟩ = some (.slice p2 g.t.length c2) := (HB.out.ch hc (not_nil _)).cell 5; have xl := (HA.out.ch hc (not_nil _)).lt; have yl := (HB.out.ch hc (not_nil _)).lt; clear hc) | (go_at_call 40; (with_reducible refine (QL.out _ HC1.out).mono ?_); rintro e w2 ⟨rfl, hc⟩; have HC2 := Lib.hid (HC1.out.trans hc); clear hc))
  go_ret
  exact ⟨rfl, HC0.out.trans HC2.out⟩
set_option maxHeartbeats 2000000 in
theorem fsame_e (f g : Flr) (p1 p2 : Option Addr) (c1 c2 : Nat) (w : World) (h1 : PA w (.slice p1 f.t.length c1) f.t) (h2 : PA w (.slice p2 g.t.length c2) g.t) (n1 : f.t.length ≤ 1000000) (n2 : g.t.length ≤ 1000000) (hv : decide (f.v = g.v) = true) (ht : decide (f.t = g.t) = true) :
    Calls Tryd.prog 22 #[.agg #[.int .i64 f.v.k, .int .i64 f.v.p, .int .i64 f.v.q, .string f.v.s, .int .i64 f.v.r, .slice p1 f.t.length c1], .agg #[.int .i64 g.v.k, .int .i64 g.v.p, .int .i64 g.v.q, .string g.v.s, .int .i64 g.v.r, .slice p2 g.t.length c2]] w fun e w' => e = .returned (.bool true) ∧ Ch [] w w' := by
  obtain ⟨w0, hw0⟩ : ∃ w0, w0 = ((w.alloc (.cells #[.int .i64 f.v.k, .int .i64 f.v.p, .int .i64 f.v.q, .string f.v.s, .int .i64 f.v.r, .slice p1 f.t.length c1] 31)).alloc (.cells #[.int .i64 g.v.k, .int .i64 g.v.p, .int .i64 g.v.q, .string g.v.s, .int .i64 g.v.r, .slice p2 g.t.length c2] 31)) := ⟨_, rfl⟩
  have HC0 : Hid (Ch [] w w0) := Lib.hid (by rw [hw0]; exact ((Ch.refl [] w).alloc _).alloc _)
  have HB : Hid (Blk 31 (w.heap.size + 1) #[.int .i64 g.v.k, .int .i64 g.v.p, .int .i64 g.v.q, .string g.v.s, .int .i64 g.v.r, .slice p2 g.t.length c2] w0) := Lib.hid (by rw [hw0]; exact Blk.new _ _ _ _ (by simp))
  have HA : Hid (Blk 31 w.heap.size #[.int .i64 f.v.k, .int .i64 f.v.p, .int .i64 f.v.q, .string f.v.s, .int .i64 f.v.r, .slice p1 f.t.length c1] w0) := Lib.hid (by rw [hw0]; exact (Blk.new w _ _ _ rfl).ch ((Ch.refl [] _).alloc _) (not_nil _))
  have QV : Hid (∀ W, Calls Tryd.prog 39 #[.agg #[.int .i64 f.v.k, .int .i64 f.v.p, .int .i64 f.v.q, .string f.v.s, .int .i64 f.v.r], .agg #[.int .i64 g.v.k, .int .i64 g.v.p, .int .i64 g.v.q, .string g.v.s, .int .i64 g.v.r]] W fun e w' => e = .returned (.bool true) ∧ Ch [] W w') := Lib.hid fun W => by
    refine (same_any f.v.k f.v.p f.v.q f.v.s f.v.r g.v.k g.v.p g.v.q g.v.s g.v.r W).mono ?_
    rintro e w' ⟨rfl, hb⟩
    exact ⟨by rw [eqV_v5, hv], Ch.of_below hb⟩
  have QL : Hid (∀ W, Ch [] w0 W → Calls Tryd.prog 40 #[.slice p1 f.t.length c1, .slice p2 g.t.length c2] W fun e w' => e = .returned (.bool true) ∧ Ch [] W w') := Lib.hid fun W hW => by
    rw [← ht]
    exact slist_any _ _ f.t g.t W (h1.below (HC0.out.trans hW)) (h2.below (HC0.out.trans hW)) n1 n2
  have HW := Lib.hid hw0
  clear hw0 h1 h2 n1 n2 hv ht
  go_enter Tryd.func22, Tryd.ntmps22
  go_upto_region 1 with fail
  rw [← HW.out]
  have a0 : w0.cell? ⟨w.heap.size, 0, none⟩ = some (.int .i64 f.v.k) := HA.out.cell 0
  have a1 : w0.cell? ⟨w.heap.size, 1, none⟩ = some (.int .i64 f.v.p) := HA.out.cell 1
  have a2 : w0.cell? ⟨w.heap.size, 2, none⟩ = some (.int .i64 f.v.q) := HA.out.cell 2
  have a3 : w0.cell? ⟨w.heap.size, 3, none⟩ = some (.string f.v.s) := HA.out.cell 3
  have a4 : w0.cell? ⟨w.heap.size, 4, none⟩ = some (.int .i64 f.v.r) := HA.out.cell 4
  have a5 : w0.cell? ⟨w.heap.size, 5, none⟩ = some (.slice p1 f.t.length c1) := HA.out.cell 5
  have b0 : w0.cell? ⟨(w.heap.size + 1), 0, none⟩ = some (.int .i64 g.v.k) := HB.out.cell 0
  have b1 : w0.cell? ⟨(w.heap.size + 1), 1, none⟩ = some (.int .i64 g.v.p) := HB.out.cell 1
  have b2 : w0.cell? ⟨(w.heap.size + 1), 2, none⟩ = some (.int .i64 g.v.q) := HB.out.cell 2
  have b3 : w0.cell? ⟨(w.heap.size + 1), 3, none⟩ = some (.string g.v.s) := HB.out.cell 3
  have b4 : w0.cell? ⟨(w.heap.size + 1), 4, none⟩ = some (.int .i64 g.v.r) := HB.out.cell 4
  have b5 : w0.cell? ⟨(w.heap.size + 1), 5, none⟩ = some (.slice p2 g.t.length c2) := HB.out.cell 5
  have la := HA.out.lt
  have lb := HB.out.lt
  go_wp2_with (first | (go_at_call 39; (with_reducible refine (QV.out _).mono ?_); rintro e w1 ⟨rfl, hc⟩; have HC1 := Lib.hid hc; have x0 : w1.cell? ⟨w.heap.size, 0, none⟩ = some (.int .i64 f.v.k) := (HA.out.ch hc (not_nil _)).cell 0; have x1 : w1.cell? ⟨w.heap.size, 1, none⟩ = some (.int .i64 f.v.p) := (HA.out.ch hc (not_nil _)).cell 1; have x2 : w1.cell? ⟨w.heap.size, 2, none⟩ = some (.int .i64 f.v.q) := (HA.out.ch hc (not_nil _)).cell 2; have x3 : w1.cell? ⟨w.heap.size, 3, none⟩ = some (.string f.v.s) := (HA.out.ch hc (not_nil _)).cell 3; have x4 : w1.cell? ⟨w.heap.size, 4, none⟩ = some (.int .i64 f.v.r) := (HA.out.ch hc (not_nil _)).cell 4; have x5 : w1.cell? ⟨w.heap.size, 5, none⟩ = some (.slice p1 f.t.length c1) := (HA.out.ch hc (not_nil _)).cell 5; have y0 : w1.cell? ⟨w.heap.size + 1, 0, none⟩ = some (.int .i64 g.v.k) := (HB.out.ch hc (not_nil _)).cell 0; have y1 : w1.cell? ⟨w.heap.size + 1, 1, none⟩ = some (.int .i64 g.v.p) := (HB.out.ch hc (not_nil _)).cell 1; have y2 : w1.cell? ⟨w.heap.size + 1, 2, none⟩ = some (.int .i64 g.v.q) := (HB.out.ch hc (not_nil _)).cell 2; have y3 : w1.cell? ⟨w.heap.size + 1, 3, none⟩ = some (.string g.v.s) := (HB.out.ch hc (not_nil _)).cell 3; have y4 : w1.cell? ⟨w.heap.size + 1, 4, none⟩ = some (.int .i64 g.v.r) := (HB.out.ch hc (not_nil _)).cell 4; have y5 : w1.cell? ⟨w.heap.size + 1, 5, none⟩ = some (.slice p2 g.t.length c2) := (HB.out.ch hc (not_nil _)).cell 5; have xl := (HA.out.ch hc (not_nil _)).lt; have yl := (HB.out.ch hc (not_nil _)).lt; clear hc) | (go_at_call 40; (with_reducible refine (QL.out _ HC1.out).mono ?_); rintro e w2 ⟨rfl, hc⟩; have HC2 := Lib.hid (HC1.out.trans hc); clear hc))
  go_ret
  exact ⟨rfl, HC0.out.trans HC2.out⟩
theorem fsame_any (va vb : Value) (f g : Flr) (w : World) (h1 : FA w va f) (h2 : FA w vb g) (n1 : f.t.length ≤ 1000000) (n2 : g.t.length ≤ 1000000) :
    Calls Tryd.prog 22 #[va, vb] w fun e w' => e = .returned (.bool (decide (f = g))) ∧ Ch [] w w' := by
  obtain ⟨vt1, rfl, q1⟩ := h1
  obtain ⟨vt2, rfl, q2⟩ := h2
  have H1 := q1
  have H2 := q2
  obtain ⟨p1, c1, rfl, _⟩ := q1
  obtain ⟨p2, c2, rfl, _⟩ := q2
  have key : decide (f = g) = (decide (f.v = g.v) && decide (f.t = g.t)) := by
    rw [Bool.eq_iff_iff]; cases f; cases g; simp
  rw [key]
  cases hv : decide (f.v = g.v) with
  | false => exact fsame_v f g p1 p2 c1 c2 w H1 H2 n1 n2 hv
  | true =>
    cases ht : decide (f.t = g.t) with
    | false => exact fsame_t f g p1 p2 c1 c2 w H1 H2 n1 n2 hv ht
    | true => exact fsame_e f g p1 p2 c1 c2 w H1 H2 n1 n2 hv ht
theorem typeS_size (k : Int) : (typeS k).size ≤ 100 := by
  unfold typeS typeN
  repeat' split
  all_goals decide
def callE (k : Int) : ByteArray := (⟨#[97, 116, 116, 101, 109, 112, 116, 32, 116, 111, 32, 99, 97, 108, 108, 32, 97, 32]⟩ : ByteArray) ++ typeS k ++ (⟨#[32, 118, 97, 108, 117, 101]⟩ : ByteArray)
theorem describe_call (v : V5) (w : World) (hk : (Lit.int .i64 v.k).wf = true) :
    Calls Tryd.prog 23 #[.int .i64 8, .agg #[.int .i64 v.k, .int .i64 v.p, .int .i64 v.q, .string v.s, .int .i64 v.r]] w fun e w' => e = .returned (.string (callE v.k)) ∧ Ch [] w w' := by
  have QT : Hid (∀ W, Calls Tryd.prog 41 #[.agg #[.int .i64 v.k, .int .i64 v.p, .int .i64 v.q, .string v.s, .int .i64 v.r]] W fun e w' => e = .returned (.string (typeS v.k)) ∧ Below W.heap.size W w') := Lib.hid fun W => type_any v.k v.p v.q v.s v.r W hk
  have QJ : Hid (∀ W, Calls Tryd.prog 27 #[.slice (some ⟨W.heap.size, 0, none⟩) 3 3] (W.alloc (.cells #[.string ⟨#[97, 116, 116, 101, 109, 112, 116, 32, 116, 111, 32, 99, 97, 108, 108, 32, 97, 32]⟩, .string (typeS v.k), .string ⟨#[32, 118, 97, 108, 117, 101]⟩] 9)) fun e w' => e = .returned (.string (callE v.k)) ∧ Ch [] W w') := Lib.hid fun W => join3_any ⟨#[97, 116, 116, 101, 109, 112, 116, 32, 116, 111, 32, 99, 97, 108, 108, 32, 97, 32]⟩ (typeS v.k) ⟨#[32, 118, 97, 108, 117, 101]⟩ W (by have := typeS_size v.k; have e1 : (⟨#[97, 116, 116, 101, 109, 112, 116, 32, 116, 111, 32, 99, 97, 108, 108, 32, 97, 32]⟩ : ByteArray).size = 18 := rfl; have e2 : (⟨#[32, 118, 97, 108, 117, 101]⟩ : ByteArray).size = 6 := rfl; omega)
  have HC0 : Hid (Ch [] w (w.alloc (.cells #[.int .i64 v.k, .int .i64 v.p, .int .i64 v.q, .string v.s, .int .i64 v.r] 25))) := Lib.hid ((Ch.refl [] w).alloc _)
  clear hk
  go_enter Tryd.func23, Tryd.ntmps23
  go_wp2_with (first | (go_at_call 41; (with_reducible refine (QT.out _).mono ?_); rintro e w1 ⟨rfl, hb⟩; have HC1 : Hid (Ch [] w w1) := Lib.hid (HC0.out.trans (Ch.of_below hb)); clear hb) | (go_at_call 27; (with_reducible refine (QJ.out _).mono ?_); rintro e w2 ⟨rfl, hc⟩; have HC2 : Hid (Ch [] w w2) := Lib.hid (HC1.out.trans hc); clear hc))
  go_ret
  exact ⟨rfl, HC2.out⟩
end Go.Proofs.YtimblnhigoggpaaDoor
