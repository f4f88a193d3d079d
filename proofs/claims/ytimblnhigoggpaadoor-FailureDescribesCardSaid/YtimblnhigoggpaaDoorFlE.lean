/- Layer 19: Raise of the code. -/
import Derived.Test.YtimblnhigoggpaaDoorFlD
import Derived.RegionTactic
import Derived.Deep.RegionLaw
import Derived.Deep.RegionWith
namespace Go.Proofs.YtimblnhigoggpaaDoor
open Go.RowKit Go.Joins M1
set_option linter.unusedVariables false
def preB (x : Pl) : ByteArray := itB x.l ++ (⟨#[58, 32]⟩ : ByteArray)
set_option maxHeartbeats 4000000 in
theorem raise_none (v : V5) (lv : Int) (vt : Value) (l : List Pl) (w : World) (h : PA w vt l) (hl : l.length ≤ 1000000) (hlv : (Lit.int .i64 lv).wf = true) (hpos : posI lv l = none) :
    Calls Tryd.prog 14 #[.agg #[.int .i64 v.k, .int .i64 v.p, .int .i64 v.q, .string v.s, .int .i64 v.r], .int .i64 lv, vt] w fun e w' => ∃ vt', e = .returned (.agg #[.int .i64 v.k, .int .i64 v.p, .int .i64 v.q, .string v.s, .int .i64 v.r, vt']) ∧ RP w.heap.size vt' l w' ∧ Ch [] w w' := by
  obtain ⟨w0, hw0⟩ : ∃ w0, w0 = ((w.alloc (.cells #[.int .i64 v.k, .int .i64 v.p, .int .i64 v.q, .string v.s, .int .i64 v.r] 25)).alloc (.cells #[.int .i64 0, .int .i64 0, .int .i64 0, .string ⟨#[]⟩, .int .i64 0, .slice none 0 0] 31)) := ⟨_, rfl⟩
  have HC0 : Hid (Ch [] w w0) := Lib.hid (by rw [hw0]; exact ((Ch.refl [] w).alloc _).alloc _)
  have HR0 : Hid (Blk 31 (w.heap.size + 1) #[.int .i64 0, .int .i64 0, .int .i64 0, .string ⟨#[]⟩, .int .i64 0, .slice none 0 0] w0) := Lib.hid (by rw [hw0]; exact Blk.new _ _ _ _ (by simp))
  have HB0 : Hid (Blk 25 w.heap.size #[.int .i64 v.k, .int .i64 v.p, .int .i64 v.q, .string v.s, .int .i64 v.r] w0) := Lib.hid (by rw [hw0]; exact (Blk.new w _ _ _ rfl).ch ((Ch.refl [] _).alloc _) (not_nil _))
  have QP : Hid (Calls Tryd.prog 26 #[.int .i64 lv, vt] w0 fun e w' => e = .returned (.tuple #[.agg #[.string ⟨#[]⟩, .int .i64 0, .bool false], .bool false]) ∧ Ch [] w0 w') := Lib.hid (by
    have := position_any lv vt l w0 (h.below HC0.out) hl hlv
    rw [hpos] at this
    exact this)
  have QCl : Hid (∀ W, Ch [] w W → Calls Tryd.prog 29 #[vt] W fun e w' => (∃ p c, e = .returned (.slice p l.length c) ∧ RP W.heap.size (.slice p l.length c) l w') ∧ Ch [] W w') := Lib.hid fun W hW => by
    obtain ⟨_, _, _, _, hp⟩ := h.below hW
    refine (pclone_any vt l W hp hl).mono ?_
    rintro e w' ⟨⟨v', rfl, hr⟩, hb⟩
    obtain ⟨p, c, rfl⟩ := ownB_form hr
    exact ⟨⟨p, c, rfl, hr⟩, Ch.of_below hb⟩
  have HLX := Lib.hid hpos
  have HW := Lib.hid hw0
  clear hw0 h hl hlv hpos
  go_enter Tryd.func14, Tryd.ntmps14
  go_upto_region 1 with fail
  rw [← HW.out]
  have u0 : w0.cell? ⟨w.heap.size, 0, none⟩ = some (.int .i64 v.k) := HB0.out.cell 0
  have u1 : w0.cell? ⟨w.heap.size, 1, none⟩ = some (.int .i64 v.p) := HB0.out.cell 1
  have u2 : w0.cell? ⟨w.heap.size, 2, none⟩ = some (.int .i64 v.q) := HB0.out.cell 2
  have u3 : w0.cell? ⟨w.heap.size, 3, none⟩ = some (.string v.s) := HB0.out.cell 3
  have u4 : w0.cell? ⟨w.heap.size, 4, none⟩ = some (.int .i64 v.r) := HB0.out.cell 4
  have lu := HB0.out.lt
  have lR0 := HR0.out.lt
  go_upto_region 6 with (go_at_call 26; (with_reducible refine (QP.out).mono ?_); rintro e w1 ⟨rfl, hc⟩; have HC1 := Lib.hid hc; have HB1 := Lib.hid (HB0.out.ch hc (not_nil _)); have h0 : w1.cell? ⟨w.heap.size, 0, none⟩ = some (.int .i64 v.k) := HB1.out.cell 0; have h1 : w1.cell? ⟨w.heap.size, 1, none⟩ = some (.int .i64 v.p) := HB1.out.cell 1; have h2 : w1.cell? ⟨w.heap.size, 2, none⟩ = some (.int .i64 v.q) := HB1.out.cell 2; have h3 : w1.cell? ⟨w.heap.size, 3, none⟩ = some (.string v.s) := HB1.out.cell 3; have h4 : w1.cell? ⟨w.heap.size, 4, none⟩ = some (.int .i64 v.r) := HB1.out.cell 4; have hlB := HB1.out.lt; clear hc)
  have HCX : Hid (Ch [] w (w1.alloc (.cells #[.string ⟨#[]⟩, .int .i64 0, .bool false] 44))) := Lib.hid ((HC0.out.trans HC1.out).alloc _)
  have HBX : Hid (Blk 25 w.heap.size #[.int .i64 v.k, .int .i64 v.p, .int .i64 v.q, .string v.s, .int .i64 v.r] (w1.alloc (.cells #[.string ⟨#[]⟩, .int .i64 0, .bool false] 44))) := Lib.hid (HB1.out.ch ((Ch.refl [] w1).alloc _) (not_nil _))
  have HRX : Hid (Blk 31 (w.heap.size + 1) #[.int .i64 0, .int .i64 0, .int .i64 0, .string ⟨#[]⟩, .int .i64 0, .slice none 0 0] (w1.alloc (.cells #[.string ⟨#[]⟩, .int .i64 0, .bool false] 44))) := Lib.hid ((HR0.out.ch HC1.out (not_nil _)).ch ((Ch.refl [] w1).alloc _) (not_nil _))
  clear h0 h1 h2 h3 h4 hlB u0 u1 u2 u3 u4 lu lR0
  generalize (w1.alloc (.cells #[.string ⟨#[]⟩, .int .i64 0, .bool false] 44)) = WX at *
  have x0 : WX.cell? ⟨w.heap.size, 0, none⟩ = some (.int .i64 v.k) := HBX.out.cell 0
  have x1 : WX.cell? ⟨w.heap.size, 1, none⟩ = some (.int .i64 v.p) := HBX.out.cell 1
  have x2 : WX.cell? ⟨w.heap.size, 2, none⟩ = some (.int .i64 v.q) := HBX.out.cell 2
  have x3 : WX.cell? ⟨w.heap.size, 3, none⟩ = some (.string v.s) := HBX.out.cell 3
  have x4 : WX.cell? ⟨w.heap.size, 4, none⟩ = some (.int .i64 v.r) := HBX.out.cell 4
  have xl := HBX.out.lt
  have xR := HRX.out.lt
  have HD : Hid (Ch [] WX WX.drew) := Lib.hid (Ch.refl [] WX).drew
  go_region_law (go_simp; (go_at_call 29; (with_reducible refine (QCl.out _ (HCX.out.trans HD.out)).mono ?_); rintro e w9 ⟨⟨p9, c9, rfl, hr9⟩, hc0⟩; have hc : Ch [] WX w9 := HD.out.trans hc0; have HR9 : Hid (RP WX.heap.size (.slice p9 l.length c9) l w9) := Lib.hid (by simpa using hr9); have HC9 := Lib.hid hc; have KB := Lib.hid (HRX.out.ch hc (not_nil _)); have g0 : w9.cell? ⟨w.heap.size, 0, none⟩ = some (.int .i64 v.k) := (HBX.out.ch hc (not_nil _)).cell 0; have g1 : w9.cell? ⟨w.heap.size, 1, none⟩ = some (.int .i64 v.p) := (HBX.out.ch hc (not_nil _)).cell 1; have g2 : w9.cell? ⟨w.heap.size, 2, none⟩ = some (.int .i64 v.q) := (HBX.out.ch hc (not_nil _)).cell 2; have g3 : w9.cell? ⟨w.heap.size, 3, none⟩ = some (.string v.s) := (HBX.out.ch hc (not_nil _)).cell 3; have g4 : w9.cell? ⟨w.heap.size, 4, none⟩ = some (.int .i64 v.r) := (HBX.out.ch hc (not_nil _)).cell 4; have gl := (HBX.out.ch hc (not_nil _)).lt; have d0 : w9.cell? ⟨(w.heap.size + 1), 0, none⟩ = some (.int .i64 0) := KB.out.cell 0; have d1 : w9.cell? ⟨(w.heap.size + 1), 1, none⟩ = some (.int .i64 0) := KB.out.cell 1; have d2 : w9.cell? ⟨(w.heap.size + 1), 2, none⟩ = some (.int .i64 0) := KB.out.cell 2; have d3 : w9.cell? ⟨(w.heap.size + 1), 3, none⟩ = some (.string ⟨#[]⟩) := KB.out.cell 3; have d4 : w9.cell? ⟨(w.heap.size + 1), 4, none⟩ = some (.int .i64 0) := KB.out.cell 4; have d5 : w9.cell? ⟨(w.heap.size + 1), 5, none⟩ = some (.slice none 0 0) := KB.out.cell 5; have f0 : w9.frozen? ⟨(w.heap.size + 1), 0, none⟩ = false := KB.out.fz 0; have f1 : w9.frozen? ⟨(w.heap.size + 1), 1, none⟩ = false := KB.out.fz 1; have f2 : w9.frozen? ⟨(w.heap.size + 1), 2, none⟩ = false := KB.out.fz 2; have f3 : w9.frozen? ⟨(w.heap.size + 1), 3, none⟩ = false := KB.out.fz 3; have f4 : w9.frozen? ⟨(w.heap.size + 1), 4, none⟩ = false := KB.out.fz 4; have f5 : w9.frozen? ⟨(w.heap.size + 1), 5, none⟩ = false := KB.out.fz 5; have lR := KB.out.lt; clear hr9 hc0 hc))
  all_goals (
    go_wp2
    clear d0 f0 d1 f1 d2 f2 d3 f3 d4 f4 d5 f5
    show bodyPost _ _ _ Exit.ret _ (st6 w9 (w.heap.size + 1) (.int .i64 v.k) (.int .i64 v.p) (.int .i64 v.q) (.string v.s) (.int .i64 v.r) (.slice p9 l.length c9))
    have hI : Blk 31 (w.heap.size + 1) #[.int .i64 v.k, .int .i64 v.p, .int .i64 v.q, .string v.s, .int .i64 v.r, .slice p9 l.length c9] (st6 w9 (w.heap.size + 1) (.int .i64 v.k) (.int .i64 v.p) (.int .i64 v.q) (.string v.s) (.int .i64 v.r) (.slice p9 l.length c9)) := st6_blk KB.out
    have hS : Ch [(w.heap.size + 1)] w9 (st6 w9 (w.heap.size + 1) (.int .i64 v.k) (.int .i64 v.p) (.int .i64 v.q) (.string v.s) (.int .i64 v.r) (.slice p9 l.length c9)) := st6_ch (Ch.refl [(w.heap.size + 1)] w9) (.inl (by simp))
    generalize (st6 w9 (w.heap.size + 1) (.int .i64 v.k) (.int .i64 v.p) (.int .i64 v.q) (.string v.s) (.int .i64 v.r) (.slice p9 l.length c9)) = W9 at *
    have d0 : W9.cell? ⟨(w.heap.size + 1), 0, none⟩ = some (.int .i64 v.k) := hI.cell 0
    have d1 : W9.cell? ⟨(w.heap.size + 1), 1, none⟩ = some (.int .i64 v.p) := hI.cell 1
    have d2 : W9.cell? ⟨(w.heap.size + 1), 2, none⟩ = some (.int .i64 v.q) := hI.cell 2
    have d3 : W9.cell? ⟨(w.heap.size + 1), 3, none⟩ = some (.string v.s) := hI.cell 3
    have d4 : W9.cell? ⟨(w.heap.size + 1), 4, none⟩ = some (.int .i64 v.r) := hI.cell 4
    have d5 : W9.cell? ⟨(w.heap.size + 1), 5, none⟩ = some (.slice p9 l.length c9) := hI.cell 5
    refine bodyPost_ret (v := .agg #[.int .i64 v.k, .int .i64 v.p, .int .i64 v.q, .string v.s, .int .i64 v.r, .slice p9 l.length c9]) (by simp [results, Tryd.results14, go_sem, d0, d1, d2, d3, d4, d5]) rfl ⟨_, rfl, (HR9.out.mono (by omega)).ch hS (HR9.out.off (by omega)), (HCX.out.trans HC9.out).fresh (fun g hg => by simp at hg; omega) hS⟩)
set_option maxHeartbeats 4000000 in
theorem raise_kind (v : V5) (lv : Int) (vt : Value) (l : List Pl) (w : World) (h : PA w vt l) (hl : l.length ≤ 1000000) (hlv : (Lit.int .i64 lv).wf = true) (x : Pl) (hpos : posI lv l = some x) (hk : ¬ v.k = 3) :
    Calls Tryd.prog 14 #[.agg #[.int .i64 v.k, .int .i64 v.p, .int .i64 v.q, .string v.s, .int .i64 v.r], .int .i64 lv, vt] w fun e w' => ∃ vt', e = .returned (.agg #[.int .i64 v.k, .int .i64 v.p, .int .i64 v.q, .string v.s, .int .i64 v.r, vt']) ∧ RP w.heap.size vt' l w' ∧ Ch [] w w' := by
  obtain ⟨w0, hw0⟩ : ∃ w0, w0 = ((w.alloc (.cells #[.int .i64 v.k, .int .i64 v.p, .int .i64 v.q, .string v.s, .int .i64 v.r] 25)).alloc (.cells #[.int .i64 0, .int .i64 0, .int .i64 0, .string ⟨#[]⟩, .int .i64 0, .slice none 0 0] 31)) := ⟨_, rfl⟩
  have HC0 : Hid (Ch [] w w0) := Lib.hid (by rw [hw0]; exact ((Ch.refl [] w).alloc _).alloc _)
  have HR0 : Hid (Blk 31 (w.heap.size + 1) #[.int .i64 0, .int .i64 0, .int .i64 0, .string ⟨#[]⟩, .int .i64 0, .slice none 0 0] w0) := Lib.hid (by rw [hw0]; exact Blk.new _ _ _ _ (by simp))
  have HB0 : Hid (Blk 25 w.heap.size #[.int .i64 v.k, .int .i64 v.p, .int .i64 v.q, .string v.s, .int .i64 v.r] w0) := Lib.hid (by rw [hw0]; exact (Blk.new w _ _ _ rfl).ch ((Ch.refl [] _).alloc _) (not_nil _))
  have QP : Hid (Calls Tryd.prog 26 #[.int .i64 lv, vt] w0 fun e w' => e = .returned (.tuple #[.agg #[.string x.n, .int .i64 x.l, .bool x.t], .bool true]) ∧ Ch [] w0 w') := Lib.hid (by
    have := position_any lv vt l w0 (h.below HC0.out) hl hlv
    rw [hpos] at this
    exact this)
  have QCl : Hid (∀ W, Ch [] w W → Calls Tryd.prog 29 #[vt] W fun e w' => (∃ p c, e = .returned (.slice p l.length c) ∧ RP W.heap.size (.slice p l.length c) l w') ∧ Ch [] W w') := Lib.hid fun W hW => by
    obtain ⟨_, _, _, _, hp⟩ := h.below hW
    refine (pclone_any vt l W hp hl).mono ?_
    rintro e w' ⟨⟨v', rfl, hr⟩, hb⟩
    obtain ⟨p, c, rfl⟩ := ownB_form hr
    exact ⟨⟨p, c, rfl, hr⟩, Ch.of_below hb⟩
  have HLX := Lib.hid hpos
  have hk1 : (v.k == 3) = false := by rw [beq_eq_false_iff_ne]; exact hk
  have HW := Lib.hid hw0
  clear hw0 h hl hlv hpos
  go_enter Tryd.func14, Tryd.ntmps14
  go_upto_region 1 with fail
  rw [← HW.out]
  have u0 : w0.cell? ⟨w.heap.size, 0, none⟩ = some (.int .i64 v.k) := HB0.out.cell 0
  have u1 : w0.cell? ⟨w.heap.size, 1, none⟩ = some (.int .i64 v.p) := HB0.out.cell 1
  have u2 : w0.cell? ⟨w.heap.size, 2, none⟩ = some (.int .i64 v.q) := HB0.out.cell 2
  have u3 : w0.cell? ⟨w.heap.size, 3, none⟩ = some (.string v.s) := HB0.out.cell 3
  have u4 : w0.cell? ⟨w.heap.size, 4, none⟩ = some (.int .i64 v.r) := HB0.out.cell 4
  have lu := HB0.out.lt
  have lR0 := HR0.out.lt
  go_upto_region 6 with (go_at_call 26; (with_reducible refine (QP.out).mono ?_); rintro e w1 ⟨rfl, hc⟩; have HC1 := Lib.hid hc; have HB1 := Lib.hid (HB0.out.ch hc (not_nil _)); have h0 : w1.cell? ⟨w.heap.size, 0, none⟩ = some (.int .i64 v.k) := HB1.out.cell 0; have h1 : w1.cell? ⟨w.heap.size, 1, none⟩ = some (.int .i64 v.p) := HB1.out.cell 1; have h2 : w1.cell? ⟨w.heap.size, 2, none⟩ = some (.int .i64 v.q) := HB1.out.cell 2; have h3 : w1.cell? ⟨w.heap.size, 3, none⟩ = some (.string v.s) := HB1.out.cell 3; have h4 : w1.cell? ⟨w.heap.size, 4, none⟩ = some (.int .i64 v.r) := HB1.out.cell 4; have hlB := HB1.out.lt; clear hc)
  have HCX : Hid (Ch [] w (w1.alloc (.cells #[.string x.n, .int .i64 x.l, .bool x.t] 44))) := Lib.hid ((HC0.out.trans HC1.out).alloc _)
  have HBX : Hid (Blk 25 w.heap.size #[.int .i64 v.k, .int .i64 v.p, .int .i64 v.q, .string v.s, .int .i64 v.r] (w1.alloc (.cells #[.string x.n, .int .i64 x.l, .bool x.t] 44))) := Lib.hid (HB1.out.ch ((Ch.refl [] w1).alloc _) (not_nil _))
  have HRX : Hid (Blk 31 (w.heap.size + 1) #[.int .i64 0, .int .i64 0, .int .i64 0, .string ⟨#[]⟩, .int .i64 0, .slice none 0 0] (w1.alloc (.cells #[.string x.n, .int .i64 x.l, .bool x.t] 44))) := Lib.hid ((HR0.out.ch HC1.out (not_nil _)).ch ((Ch.refl [] w1).alloc _) (not_nil _))
  clear h0 h1 h2 h3 h4 hlB u0 u1 u2 u3 u4 lu lR0
  generalize (w1.alloc (.cells #[.string x.n, .int .i64 x.l, .bool x.t] 44)) = WX at *
  have x0 : WX.cell? ⟨w.heap.size, 0, none⟩ = some (.int .i64 v.k) := HBX.out.cell 0
  have x1 : WX.cell? ⟨w.heap.size, 1, none⟩ = some (.int .i64 v.p) := HBX.out.cell 1
  have x2 : WX.cell? ⟨w.heap.size, 2, none⟩ = some (.int .i64 v.q) := HBX.out.cell 2
  have x3 : WX.cell? ⟨w.heap.size, 3, none⟩ = some (.string v.s) := HBX.out.cell 3
  have x4 : WX.cell? ⟨w.heap.size, 4, none⟩ = some (.int .i64 v.r) := HBX.out.cell 4
  have xl := HBX.out.lt
  have xR := HRX.out.lt
  have HD : Hid (Ch [] WX WX.drew) := Lib.hid (Ch.refl [] WX).drew
  go_region_law (go_simp; (go_at_call 29; (with_reducible refine (QCl.out _ (HCX.out.trans HD.out)).mono ?_); rintro e w9 ⟨⟨p9, c9, rfl, hr9⟩, hc0⟩; have hc : Ch [] WX w9 := HD.out.trans hc0; have HR9 : Hid (RP WX.heap.size (.slice p9 l.length c9) l w9) := Lib.hid (by simpa using hr9); have HC9 := Lib.hid hc; have KB := Lib.hid (HRX.out.ch hc (not_nil _)); have g0 : w9.cell? ⟨w.heap.size, 0, none⟩ = some (.int .i64 v.k) := (HBX.out.ch hc (not_nil _)).cell 0; have g1 : w9.cell? ⟨w.heap.size, 1, none⟩ = some (.int .i64 v.p) := (HBX.out.ch hc (not_nil _)).cell 1; have g2 : w9.cell? ⟨w.heap.size, 2, none⟩ = some (.int .i64 v.q) := (HBX.out.ch hc (not_nil _)).cell 2; have g3 : w9.cell? ⟨w.heap.size, 3, none⟩ = some (.string v.s) := (HBX.out.ch hc (not_nil _)).cell 3; have g4 : w9.cell? ⟨w.heap.size, 4, none⟩ = some (.int .i64 v.r) := (HBX.out.ch hc (not_nil _)).cell 4; have gl := (HBX.out.ch hc (not_nil _)).lt; have d0 : w9.cell? ⟨(w.heap.size + 1), 0, none⟩ = some (.int .i64 0) := KB.out.cell 0; have d1 : w9.cell? ⟨(w.heap.size + 1), 1, none⟩ = some (.int .i64 0) := KB.out.cell 1; have d2 : w9.cell? ⟨(w.heap.size + 1), 2, none⟩ = some (.int .i64 0) := KB.out.cell 2; have d3 : w9.cell? ⟨(w.heap.size + 1), 3, none⟩ = some (.string ⟨#[]⟩) := KB.out.cell 3; have d4 : w9.cell? ⟨(w.heap.size + 1), 4, none⟩ = some (.int .i64 0) := KB.out.cell 4; have d5 : w9.cell? ⟨(w.heap.size + 1), 5, none⟩ = some (.slice none 0 0) := KB.out.cell 5; have f0 : w9.frozen? ⟨(w.heap.size + 1), 0, none⟩ = false := KB.out.fz 0; have f1 : w9.frozen? ⟨(w.heap.size + 1), 1, none⟩ = false := KB.out.fz 1; have f2 : w9.frozen? ⟨(w.heap.size + 1), 2, none⟩ = false := KB.out.fz 2; have f3 : w9.frozen? ⟨(w.heap.size + 1), 3, none⟩ = false := KB.out.fz 3; have f4 : w9.frozen? ⟨(w.heap.size + 1), 4, none⟩ = false := KB.out.fz 4; have f5 : w9.frozen? ⟨(w.heap.size + 1), 5, none⟩ = false := KB.out.fz 5; have lR := KB.out.lt; clear hr9 hc0 hc))
  all_goals (
    go_wp2
    clear d0 f0 d1 f1 d2 f2 d3 f3 d4 f4 d5 f5
    show bodyPost _ _ _ Exit.ret _ (st6 w9 (w.heap.size + 1) (.int .i64 v.k) (.int .i64 v.p) (.int .i64 v.q) (.string v.s) (.int .i64 v.r) (.slice p9 l.length c9))
    have hI : Blk 31 (w.heap.size + 1) #[.int .i64 v.k, .int .i64 v.p, .int .i64 v.q, .string v.s, .int .i64 v.r, .slice p9 l.length c9] (st6 w9 (w.heap.size + 1) (.int .i64 v.k) (.int .i64 v.p) (.int .i64 v.q) (.string v.s) (.int .i64 v.r) (.slice p9 l.length c9)) := st6_blk KB.out
    have hS : Ch [(w.heap.size + 1)] w9 (st6 w9 (w.heap.size + 1) (.int .i64 v.k) (.int .i64 v.p) (.int .i64 v.q) (.string v.s) (.int .i64 v.r) (.slice p9 l.length c9)) := st6_ch (Ch.refl [(w.heap.size + 1)] w9) (.inl (by simp))
    generalize (st6 w9 (w.heap.size + 1) (.int .i64 v.k) (.int .i64 v.p) (.int .i64 v.q) (.string v.s) (.int .i64 v.r) (.slice p9 l.length c9)) = W9 at *
    have d0 : W9.cell? ⟨(w.heap.size + 1), 0, none⟩ = some (.int .i64 v.k) := hI.cell 0
    have d1 : W9.cell? ⟨(w.heap.size + 1), 1, none⟩ = some (.int .i64 v.p) := hI.cell 1
    have d2 : W9.cell? ⟨(w.heap.size + 1), 2, none⟩ = some (.int .i64 v.q) := hI.cell 2
    have d3 : W9.cell? ⟨(w.heap.size + 1), 3, none⟩ = some (.string v.s) := hI.cell 3
    have d4 : W9.cell? ⟨(w.heap.size + 1), 4, none⟩ = some (.int .i64 v.r) := hI.cell 4
    have d5 : W9.cell? ⟨(w.heap.size + 1), 5, none⟩ = some (.slice p9 l.length c9) := hI.cell 5
    refine bodyPost_ret (v := .agg #[.int .i64 v.k, .int .i64 v.p, .int .i64 v.q, .string v.s, .int .i64 v.r, .slice p9 l.length c9]) (by simp [results, Tryd.results14, go_sem, d0, d1, d2, d3, d4, d5]) rfl ⟨_, rfl, (HR9.out.mono (by omega)).ch hS (HR9.out.off (by omega)), (HCX.out.trans HC9.out).fresh (fun g hg => by simp at hg; omega) hS⟩)
set_option maxHeartbeats 4000000 in
theorem raise_long (v : V5) (lv : Int) (vt : Value) (l : List Pl) (w : World) (h : PA w vt l) (hl : l.length ≤ 1000000) (hlv : (Lit.int .i64 lv).wf = true) (x : Pl) (hpos : posI lv l = some x) (hit : It w x.l) (hs : v.s.size ≤ 1000000000000000) (hi : (itB x.l).size ≤ 1000) (hcm : ¬ (preB x).size + v.s.size ≤ 4096) :
    Calls Tryd.prog 14 #[.agg #[.int .i64 3, .int .i64 v.p, .int .i64 v.q, .string v.s, .int .i64 v.r], .int .i64 lv, vt] w fun e w' => ∃ vt', e = .returned (.agg #[.int .i64 3, .int .i64 v.p, .int .i64 v.q, .string v.s, .int .i64 v.r, vt']) ∧ RP w.heap.size vt' l w' ∧ Ch [] w w' := by
  obtain ⟨w0, hw0⟩ : ∃ w0, w0 = ((w.alloc (.cells #[.int .i64 3, .int .i64 v.p, .int .i64 v.q, .string v.s, .int .i64 v.r] 25)).alloc (.cells #[.int .i64 0, .int .i64 0, .int .i64 0, .string ⟨#[]⟩, .int .i64 0, .slice none 0 0] 31)) := ⟨_, rfl⟩
  have HC0 : Hid (Ch [] w w0) := Lib.hid (by rw [hw0]; exact ((Ch.refl [] w).alloc _).alloc _)
  have HR0 : Hid (Blk 31 (w.heap.size + 1) #[.int .i64 0, .int .i64 0, .int .i64 0, .string ⟨#[]⟩, .int .i64 0, .slice none 0 0] w0) := Lib.hid (by rw [hw0]; exact Blk.new _ _ _ _ (by simp))
  have HB0 : Hid (Blk 25 w.heap.size #[.int .i64 3, .int .i64 v.p, .int .i64 v.q, .string v.s, .int .i64 v.r] w0) := Lib.hid (by rw [hw0]; exact (Blk.new w _ _ _ rfl).ch ((Ch.refl [] _).alloc _) (not_nil _))
  have QP : Hid (Calls Tryd.prog 26 #[.int .i64 lv, vt] w0 fun e w' => e = .returned (.tuple #[.agg #[.string x.n, .int .i64 x.l, .bool x.t], .bool true]) ∧ Ch [] w0 w') := Lib.hid (by
    have := position_any lv vt l w0 (h.below HC0.out) hl hlv
    rw [hpos] at this
    exact this)
  have QCl : Hid (∀ W, Ch [] w W → Calls Tryd.prog 29 #[vt] W fun e w' => (∃ p c, e = .returned (.slice p l.length c) ∧ RP W.heap.size (.slice p l.length c) l w') ∧ Ch [] W w') := Lib.hid fun W hW => by
    obtain ⟨_, _, _, _, hp⟩ := h.below hW
    refine (pclone_any vt l W hp hl).mono ?_
    rintro e w' ⟨⟨v', rfl, hr⟩, hb⟩
    obtain ⟨p, c, rfl⟩ := ownB_form hr
    exact ⟨⟨p, c, rfl, hr⟩, Ch.of_below hb⟩
  have HLX := Lib.hid hpos
  have QI : Hid (∀ W, Ch [] w W → Calls Tryd.prog 28 #[.int .i64 x.l] W fun e w' => e = .returned (.string (itB x.l)) ∧ Ch [] W w') := Lib.hid hit
  have QJ : Hid (∀ W, Calls Tryd.prog 27 #[.slice (some ⟨W.heap.size, 0, none⟩) 2 2] (W.alloc (.cells #[.string (itB x.l), .string ⟨#[58, 32]⟩] 9)) fun e w' => e = .returned (.string (preB x)) ∧ Ch [] W w') := Lib.hid (fun W => join2_any (itB x.l) (⟨#[58, 32]⟩ : ByteArray) W (by have : (⟨#[58, 32]⟩ : ByteArray).size = 2 := rfl; omega))
  have HSZ : Hid ((preB x).size ≤ 2000) := Lib.hid (by unfold preB; rw [ByteArray.size_append]; have : (⟨#[58, 32]⟩ : ByteArray).size = 2 := rfl; omega)
  have hw1 : IntKind.i64.wrap (((preB x).size : Int) + (v.s.size : Int)) = ((preB x).size : Int) + (v.s.size : Int) := IntWalk.i64_in _ (by have := HSZ.out; omega)
  have hw2 : ¬ ((preB x).size : Int) + (v.s.size : Int) ≤ 4096 := by omega
  clear hit hs hi hcm
  have HW := Lib.hid hw0
  clear hw0 h hl hlv hpos
  go_enter Tryd.func14, Tryd.ntmps14
  go_upto_region 1 with fail
  rw [← HW.out]
  have u0 : w0.cell? ⟨w.heap.size, 0, none⟩ = some (.int .i64 3) := HB0.out.cell 0
  have u1 : w0.cell? ⟨w.heap.size, 1, none⟩ = some (.int .i64 v.p) := HB0.out.cell 1
  have u2 : w0.cell? ⟨w.heap.size, 2, none⟩ = some (.int .i64 v.q) := HB0.out.cell 2
  have u3 : w0.cell? ⟨w.heap.size, 3, none⟩ = some (.string v.s) := HB0.out.cell 3
  have u4 : w0.cell? ⟨w.heap.size, 4, none⟩ = some (.int .i64 v.r) := HB0.out.cell 4
  have lu := HB0.out.lt
  have lR0 := HR0.out.lt
  go_upto_region 6 with (first | (go_at_call 26; (with_reducible refine (QP.out).mono ?_); rintro e w1 ⟨rfl, hc⟩; have HC1 := Lib.hid hc; have HA1 : Hid (Ch [] w0 (w1.alloc (.cells #[.string x.n, .int .i64 x.l, .bool x.t] 44))) := Lib.hid (hc.alloc _); have h0 : w1.cell? ⟨w.heap.size, 0, none⟩ = some (.int .i64 3) := (HB0.out.ch hc (not_nil _)).cell 0; have h1 : w1.cell? ⟨w.heap.size, 1, none⟩ = some (.int .i64 v.p) := (HB0.out.ch hc (not_nil _)).cell 1; have h2 : w1.cell? ⟨w.heap.size, 2, none⟩ = some (.int .i64 v.q) := (HB0.out.ch hc (not_nil _)).cell 2; have h3 : w1.cell? ⟨w.heap.size, 3, none⟩ = some (.string v.s) := (HB0.out.ch hc (not_nil _)).cell 3; have h4 : w1.cell? ⟨w.heap.size, 4, none⟩ = some (.int .i64 v.r) := (HB0.out.ch hc (not_nil _)).cell 4; have hl := (HB0.out.ch hc (not_nil _)).lt; clear hc) | (go_at_call 28; (with_reducible refine (QI.out _ (HC0.out.trans HA1.out)).mono ?_); rintro e w2 ⟨rfl, hc⟩; have HC2 : Hid (Ch [] w0 w2) := Lib.hid (HA1.out.trans hc); clear hc) | (go_at_call 27; (with_reducible refine (QJ.out _).mono ?_); rintro e w3 ⟨rfl, hc⟩; have HC3 : Hid (Ch [] w0 w3) := Lib.hid (HC2.out.trans hc); have y0 : w3.cell? ⟨w.heap.size, 0, none⟩ = some (.int .i64 3) := (HB0.out.ch HC3.out (not_nil _)).cell 0; have y1 : w3.cell? ⟨w.heap.size, 1, none⟩ = some (.int .i64 v.p) := (HB0.out.ch HC3.out (not_nil _)).cell 1; have y2 : w3.cell? ⟨w.heap.size, 2, none⟩ = some (.int .i64 v.q) := (HB0.out.ch HC3.out (not_nil _)).cell 2; have y3 : w3.cell? ⟨w.heap.size, 3, none⟩ = some (.string v.s) := (HB0.out.ch HC3.out (not_nil _)).cell 3; have y4 : w3.cell? ⟨w.heap.size, 4, none⟩ = some (.int .i64 v.r) := (HB0.out.ch HC3.out (not_nil _)).cell 4; have yl := (HB0.out.ch HC3.out (not_nil _)).lt; clear hc))
  have HCX : Hid (Ch [] w w3) := Lib.hid (HC0.out.trans HC3.out)
  have HBX : Hid (Blk 25 w.heap.size #[.int .i64 3, .int .i64 v.p, .int .i64 v.q, .string v.s, .int .i64 v.r] w3) := Lib.hid (HB0.out.ch HC3.out (not_nil _))
  have HRX : Hid (Blk 31 (w.heap.size + 1) #[.int .i64 0, .int .i64 0, .int .i64 0, .string ⟨#[]⟩, .int .i64 0, .slice none 0 0] w3) := Lib.hid (HR0.out.ch HC3.out (not_nil _))
  clear h0 h1 h2 h3 h4 y0 y1 y2 y3 y4 hl yl u0 u1 u2 u3 u4 lu lR0
  generalize w3 = WX at *
  have x0 : WX.cell? ⟨w.heap.size, 0, none⟩ = some (.int .i64 3) := HBX.out.cell 0
  have x1 : WX.cell? ⟨w.heap.size, 1, none⟩ = some (.int .i64 v.p) := HBX.out.cell 1
  have x2 : WX.cell? ⟨w.heap.size, 2, none⟩ = some (.int .i64 v.q) := HBX.out.cell 2
  have x3 : WX.cell? ⟨w.heap.size, 3, none⟩ = some (.string v.s) := HBX.out.cell 3
  have x4 : WX.cell? ⟨w.heap.size, 4, none⟩ = some (.int .i64 v.r) := HBX.out.cell 4
  have xl := HBX.out.lt
  have xR := HRX.out.lt
  have HD : Hid (Ch [] WX WX.drew) := Lib.hid (Ch.refl [] WX).drew
  go_region_law (go_simp; (go_at_call 29; (with_reducible refine (QCl.out _ (HCX.out.trans HD.out)).mono ?_); rintro e w9 ⟨⟨p9, c9, rfl, hr9⟩, hc0⟩; have hc : Ch [] WX w9 := HD.out.trans hc0; have HR9 : Hid (RP WX.heap.size (.slice p9 l.length c9) l w9) := Lib.hid (by simpa using hr9); have HC9 := Lib.hid hc; have KB := Lib.hid (HRX.out.ch hc (not_nil _)); have g0 : w9.cell? ⟨w.heap.size, 0, none⟩ = some (.int .i64 3) := (HBX.out.ch hc (not_nil _)).cell 0; have g1 : w9.cell? ⟨w.heap.size, 1, none⟩ = some (.int .i64 v.p) := (HBX.out.ch hc (not_nil _)).cell 1; have g2 : w9.cell? ⟨w.heap.size, 2, none⟩ = some (.int .i64 v.q) := (HBX.out.ch hc (not_nil _)).cell 2; have g3 : w9.cell? ⟨w.heap.size, 3, none⟩ = some (.string v.s) := (HBX.out.ch hc (not_nil _)).cell 3; have g4 : w9.cell? ⟨w.heap.size, 4, none⟩ = some (.int .i64 v.r) := (HBX.out.ch hc (not_nil _)).cell 4; have gl := (HBX.out.ch hc (not_nil _)).lt; have d0 : w9.cell? ⟨(w.heap.size + 1), 0, none⟩ = some (.int .i64 0) := KB.out.cell 0; have d1 : w9.cell? ⟨(w.heap.size + 1), 1, none⟩ = some (.int .i64 0) := KB.out.cell 1; have d2 : w9.cell? ⟨(w.heap.size + 1), 2, none⟩ = some (.int .i64 0) := KB.out.cell 2; have d3 : w9.cell? ⟨(w.heap.size + 1), 3, none⟩ = some (.string ⟨#[]⟩) := KB.out.cell 3; have d4 : w9.cell? ⟨(w.heap.size + 1), 4, none⟩ = some (.int .i64 0) := KB.out.cell 4; have d5 : w9.cell? ⟨(w.heap.size + 1), 5, none⟩ = some (.slice none 0 0) := KB.out.cell 5; have f0 : w9.frozen? ⟨(w.heap.size + 1), 0, none⟩ = false := KB.out.fz 0; have f1 : w9.frozen? ⟨(w.heap.size + 1), 1, none⟩ = false := KB.out.fz 1; have f2 : w9.frozen? ⟨(w.heap.size + 1), 2, none⟩ = false := KB.out.fz 2; have f3 : w9.frozen? ⟨(w.heap.size + 1), 3, none⟩ = false := KB.out.fz 3; have f4 : w9.frozen? ⟨(w.heap.size + 1), 4, none⟩ = false := KB.out.fz 4; have f5 : w9.frozen? ⟨(w.heap.size + 1), 5, none⟩ = false := KB.out.fz 5; have lR := KB.out.lt; clear hr9 hc0 hc))
  all_goals (
    go_wp2
    clear d0 f0 d1 f1 d2 f2 d3 f3 d4 f4 d5 f5
    show bodyPost _ _ _ Exit.ret _ (st6 w9 (w.heap.size + 1) (.int .i64 3) (.int .i64 v.p) (.int .i64 v.q) (.string v.s) (.int .i64 v.r) (.slice p9 l.length c9))
    have hI : Blk 31 (w.heap.size + 1) #[.int .i64 3, .int .i64 v.p, .int .i64 v.q, .string v.s, .int .i64 v.r, .slice p9 l.length c9] (st6 w9 (w.heap.size + 1) (.int .i64 3) (.int .i64 v.p) (.int .i64 v.q) (.string v.s) (.int .i64 v.r) (.slice p9 l.length c9)) := st6_blk KB.out
    have hS : Ch [(w.heap.size + 1)] w9 (st6 w9 (w.heap.size + 1) (.int .i64 3) (.int .i64 v.p) (.int .i64 v.q) (.string v.s) (.int .i64 v.r) (.slice p9 l.length c9)) := st6_ch (Ch.refl [(w.heap.size + 1)] w9) (.inl (by simp))
    generalize (st6 w9 (w.heap.size + 1) (.int .i64 3) (.int .i64 v.p) (.int .i64 v.q) (.string v.s) (.int .i64 v.r) (.slice p9 l.length c9)) = W9 at *
    have d0 : W9.cell? ⟨(w.heap.size + 1), 0, none⟩ = some (.int .i64 3) := hI.cell 0
    have d1 : W9.cell? ⟨(w.heap.size + 1), 1, none⟩ = some (.int .i64 v.p) := hI.cell 1
    have d2 : W9.cell? ⟨(w.heap.size + 1), 2, none⟩ = some (.int .i64 v.q) := hI.cell 2
    have d3 : W9.cell? ⟨(w.heap.size + 1), 3, none⟩ = some (.string v.s) := hI.cell 3
    have d4 : W9.cell? ⟨(w.heap.size + 1), 4, none⟩ = some (.int .i64 v.r) := hI.cell 4
    have d5 : W9.cell? ⟨(w.heap.size + 1), 5, none⟩ = some (.slice p9 l.length c9) := hI.cell 5
    refine bodyPost_ret (v := .agg #[.int .i64 3, .int .i64 v.p, .int .i64 v.q, .string v.s, .int .i64 v.r, .slice p9 l.length c9]) (by simp [results, Tryd.results14, go_sem, d0, d1, d2, d3, d4, d5]) rfl ⟨_, rfl, (HR9.out.mono (by omega)).ch hS (HR9.out.off (by omega)), (HCX.out.trans HC9.out).fresh (fun g hg => by simp at hg; omega) hS⟩)
set_option maxHeartbeats 4000000 in
theorem raise_ok (v : V5) (lv : Int) (vt : Value) (l : List Pl) (w : World) (h : PA w vt l) (hl : l.length ≤ 1000000) (hlv : (Lit.int .i64 lv).wf = true) (x : Pl) (hpos : posI lv l = some x) (hit : It w x.l) (hs : v.s.size ≤ 1000000000000000) (hi : (itB x.l).size ≤ 1000) (hcm : (preB x).size + v.s.size ≤ 4096) :
    Calls Tryd.prog 14 #[.agg #[.int .i64 3, .int .i64 v.p, .int .i64 v.q, .string v.s, .int .i64 v.r], .int .i64 lv, vt] w fun e w' => ∃ vt', e = .returned (.agg #[.int .i64 3, .int .i64 v.p, .int .i64 v.q, .string (preB x ++ v.s), .int .i64 v.r, vt']) ∧ RP w.heap.size vt' l w' ∧ Ch [] w w' := by
  obtain ⟨w0, hw0⟩ : ∃ w0, w0 = ((w.alloc (.cells #[.int .i64 3, .int .i64 v.p, .int .i64 v.q, .string v.s, .int .i64 v.r] 25)).alloc (.cells #[.int .i64 0, .int .i64 0, .int .i64 0, .string ⟨#[]⟩, .int .i64 0, .slice none 0 0] 31)) := ⟨_, rfl⟩
  have HC0 : Hid (Ch [] w w0) := Lib.hid (by rw [hw0]; exact ((Ch.refl [] w).alloc _).alloc _)
  have HR0 : Hid (Blk 31 (w.heap.size + 1) #[.int .i64 0, .int .i64 0, .int .i64 0, .string ⟨#[]⟩, .int .i64 0, .slice none 0 0] w0) := Lib.hid (by rw [hw0]; exact Blk.new _ _ _ _ (by simp))
  have HB0 : Hid (Blk 25 w.heap.size #[.int .i64 3, .int .i64 v.p, .int .i64 v.q, .string v.s, .int .i64 v.r] w0) := Lib.hid (by rw [hw0]; exact (Blk.new w _ _ _ rfl).ch ((Ch.refl [] _).alloc _) (not_nil _))
  have QP : Hid (Calls Tryd.prog 26 #[.int .i64 lv, vt] w0 fun e w' => e = .returned (.tuple #[.agg #[.string x.n, .int .i64 x.l, .bool x.t], .bool true]) ∧ Ch [] w0 w') := Lib.hid (by
    have := position_any lv vt l w0 (h.below HC0.out) hl hlv
    rw [hpos] at this
    exact this)
  have QCl : Hid (∀ W, Ch [] w W → Calls Tryd.prog 29 #[vt] W fun e w' => (∃ p c, e = .returned (.slice p l.length c) ∧ RP W.heap.size (.slice p l.length c) l w') ∧ Ch [] W w') := Lib.hid fun W hW => by
    obtain ⟨_, _, _, _, hp⟩ := h.below hW
    refine (pclone_any vt l W hp hl).mono ?_
    rintro e w' ⟨⟨v', rfl, hr⟩, hb⟩
    obtain ⟨p, c, rfl⟩ := ownB_form hr
    exact ⟨⟨p, c, rfl, hr⟩, Ch.of_below hb⟩
  have HLX := Lib.hid hpos
  have QI : Hid (∀ W, Ch [] w W → Calls Tryd.prog 28 #[.int .i64 x.l] W fun e w' => e = .returned (.string (itB x.l)) ∧ Ch [] W w') := Lib.hid hit
  have QJ : Hid (∀ W, Calls Tryd.prog 27 #[.slice (some ⟨W.heap.size, 0, none⟩) 2 2] (W.alloc (.cells #[.string (itB x.l), .string ⟨#[58, 32]⟩] 9)) fun e w' => e = .returned (.string (preB x)) ∧ Ch [] W w') := Lib.hid (fun W => join2_any (itB x.l) (⟨#[58, 32]⟩ : ByteArray) W (by have : (⟨#[58, 32]⟩ : ByteArray).size = 2 := rfl; omega))
  have HSZ : Hid ((preB x).size ≤ 2000) := Lib.hid (by unfold preB; rw [ByteArray.size_append]; have : (⟨#[58, 32]⟩ : ByteArray).size = 2 := rfl; omega)
  have hw1 : IntKind.i64.wrap (((preB x).size : Int) + (v.s.size : Int)) = ((preB x).size : Int) + (v.s.size : Int) := IntWalk.i64_in _ (by have := HSZ.out; omega)
  have hw2 : ((preB x).size : Int) + (v.s.size : Int) ≤ 4096 := by omega
  have QK : Hid (∀ W, Calls Tryd.prog 27 #[.slice (some ⟨W.heap.size, 0, none⟩) 2 2] (W.alloc (.cells #[.string (preB x), .string v.s] 9)) fun e w' => e = .returned (.string (preB x ++ v.s)) ∧ Ch [] W w') := Lib.hid (fun W => join2_any (preB x) v.s W (by omega))
  clear hit hs hi hcm
  have HW := Lib.hid hw0
  clear hw0 h hl hlv hpos
  go_enter Tryd.func14, Tryd.ntmps14
  go_upto_region 1 with fail
  rw [← HW.out]
  have u0 : w0.cell? ⟨w.heap.size, 0, none⟩ = some (.int .i64 3) := HB0.out.cell 0
  have u1 : w0.cell? ⟨w.heap.size, 1, none⟩ = some (.int .i64 v.p) := HB0.out.cell 1
  have u2 : w0.cell? ⟨w.heap.size, 2, none⟩ = some (.int .i64 v.q) := HB0.out.cell 2
  have u3 : w0.cell? ⟨w.heap.size, 3, none⟩ = some (.string v.s) := HB0.out.cell 3
  have u4 : w0.cell? ⟨w.heap.size, 4, none⟩ = some (.int .i64 v.r) := HB0.out.cell 4
  have lu := HB0.out.lt
  have lR0 := HR0.out.lt
  go_upto_region 6 with (first | (go_at_call 26; (with_reducible refine (QP.out).mono ?_); rintro e w1 ⟨rfl, hc⟩; have HC1 := Lib.hid hc; have HA1 : Hid (Ch [] w0 (w1.alloc (.cells #[.string x.n, .int .i64 x.l, .bool x.t] 44))) := Lib.hid (hc.alloc _); have h0 : w1.cell? ⟨w.heap.size, 0, none⟩ = some (.int .i64 3) := (HB0.out.ch hc (not_nil _)).cell 0; have h1 : w1.cell? ⟨w.heap.size, 1, none⟩ = some (.int .i64 v.p) := (HB0.out.ch hc (not_nil _)).cell 1; have h2 : w1.cell? ⟨w.heap.size, 2, none⟩ = some (.int .i64 v.q) := (HB0.out.ch hc (not_nil _)).cell 2; have h3 : w1.cell? ⟨w.heap.size, 3, none⟩ = some (.string v.s) := (HB0.out.ch hc (not_nil _)).cell 3; have h4 : w1.cell? ⟨w.heap.size, 4, none⟩ = some (.int .i64 v.r) := (HB0.out.ch hc (not_nil _)).cell 4; have hl := (HB0.out.ch hc (not_nil _)).lt; clear hc) | (go_at_call 28; (with_reducible refine (QI.out _ (HC0.out.trans HA1.out)).mono ?_); rintro e w2 ⟨rfl, hc⟩; have HC2 : Hid (Ch [] w0 w2) := Lib.hid (HA1.out.trans hc); clear hc) | (go_at_call 27; (with_reducible refine (QJ.out _).mono ?_); rintro e w3 ⟨rfl, hc⟩; have HC3 : Hid (Ch [] w0 w3) := Lib.hid (HC2.out.trans hc); have y0 : w3.cell? ⟨w.heap.size, 0, none⟩ = some (.int .i64 3) := (HB0.out.ch HC3.out (not_nil _)).cell 0; have y1 : w3.cell? ⟨w.heap.size, 1, none⟩ = some (.int .i64 v.p) := (HB0.out.ch HC3.out (not_nil _)).cell 1; have y2 : w3.cell? ⟨w.heap.size, 2, none⟩ = some (.int .i64 v.q) := (HB0.out.ch HC3.out (not_nil _)).cell 2; have y3 : w3.cell? ⟨w.heap.size, 3, none⟩ = some (.string v.s) := (HB0.out.ch HC3.out (not_nil _)).cell 3; have y4 : w3.cell? ⟨w.heap.size, 4, none⟩ = some (.int .i64 v.r) := (HB0.out.ch HC3.out (not_nil _)).cell 4; have yl := (HB0.out.ch HC3.out (not_nil _)).lt; clear hc) | (go_at_call 27; (with_reducible refine (QK.out _).mono ?_); rintro e w4 ⟨rfl, hc⟩; have HC4 : Hid (Ch [] w0 w4) := Lib.hid (HC3.out.trans hc); have KB4 := Lib.hid (HB0.out.ch HC4.out (not_nil _)); have q0 : w4.cell? ⟨w.heap.size, 0, none⟩ = some (.int .i64 3) := (HB0.out.ch HC4.out (not_nil _)).cell 0; have q1 : w4.cell? ⟨w.heap.size, 1, none⟩ = some (.int .i64 v.p) := (HB0.out.ch HC4.out (not_nil _)).cell 1; have q2 : w4.cell? ⟨w.heap.size, 2, none⟩ = some (.int .i64 v.q) := (HB0.out.ch HC4.out (not_nil _)).cell 2; have q3 : w4.cell? ⟨w.heap.size, 3, none⟩ = some (.string v.s) := (HB0.out.ch HC4.out (not_nil _)).cell 3; have q4 : w4.cell? ⟨w.heap.size, 4, none⟩ = some (.int .i64 v.r) := (HB0.out.ch HC4.out (not_nil _)).cell 4; have ql := (HB0.out.ch HC4.out (not_nil _)).lt; have qf := KB4.out.fz 3; clear hc))
  have HCX : Hid (Ch [] w (w4.setCell ⟨w.heap.size, 3, none⟩ (.string (preB x ++ v.s)))) := Lib.hid ((HC0.out.trans HC4.out).fresh (L := [w.heap.size]) (fun g hg => by simp at hg; omega) ((Ch.refl _ w4).set _ _ _ (.inl (by simp))))
  have HBX : Hid (Blk 25 w.heap.size #[.int .i64 3, .int .i64 v.p, .int .i64 v.q, .string (preB x ++ v.s), .int .i64 v.r] (w4.setCell ⟨w.heap.size, 3, none⟩ (.string (preB x ++ v.s)))) := Lib.hid (KB4.out.set 3 _)
  have HRX : Hid (Blk 31 (w.heap.size + 1) #[.int .i64 0, .int .i64 0, .int .i64 0, .string ⟨#[]⟩, .int .i64 0, .slice none 0 0] (w4.setCell ⟨w.heap.size, 3, none⟩ (.string (preB x ++ v.s)))) := Lib.hid ((HR0.out.ch HC4.out (not_nil _)).ch (S := [w.heap.size]) ((Ch.refl _ w4).set _ _ _ (.inl (by simp))) (by simp))
  clear h0 h1 h2 h3 h4 y0 y1 y2 y3 y4 q0 q1 q2 q3 q4 hl yl ql qf u0 u1 u2 u3 u4 lu lR0
  generalize (w4.setCell ⟨w.heap.size, 3, none⟩ (.string (preB x ++ v.s))) = WX at *
  have x0 : WX.cell? ⟨w.heap.size, 0, none⟩ = some (.int .i64 3) := HBX.out.cell 0
  have x1 : WX.cell? ⟨w.heap.size, 1, none⟩ = some (.int .i64 v.p) := HBX.out.cell 1
  have x2 : WX.cell? ⟨w.heap.size, 2, none⟩ = some (.int .i64 v.q) := HBX.out.cell 2
  have x3 : WX.cell? ⟨w.heap.size, 3, none⟩ = some (.string (preB x ++ v.s)) := HBX.out.cell 3
  have x4 : WX.cell? ⟨w.heap.size, 4, none⟩ = some (.int .i64 v.r) := HBX.out.cell 4
  have xl := HBX.out.lt
  have xR := HRX.out.lt
  have HD : Hid (Ch [] WX WX.drew) := Lib.hid (Ch.refl [] WX).drew
  go_region_law (go_simp; (go_at_call 29; (with_reducible refine (QCl.out _ (HCX.out.trans HD.out)).mono ?_); rintro e w9 ⟨⟨p9, c9, rfl, hr9⟩, hc0⟩; have hc : Ch [] WX w9 := HD.out.trans hc0; have HR9 : Hid (RP WX.heap.size (.slice p9 l.length c9) l w9) := Lib.hid (by simpa using hr9); have HC9 := Lib.hid hc; have KB := Lib.hid (HRX.out.ch hc (not_nil _)); have g0 : w9.cell? ⟨w.heap.size, 0, none⟩ = some (.int .i64 3) := (HBX.out.ch hc (not_nil _)).cell 0; have g1 : w9.cell? ⟨w.heap.size, 1, none⟩ = some (.int .i64 v.p) := (HBX.out.ch hc (not_nil _)).cell 1; have g2 : w9.cell? ⟨w.heap.size, 2, none⟩ = some (.int .i64 v.q) := (HBX.out.ch hc (not_nil _)).cell 2; have g3 : w9.cell? ⟨w.heap.size, 3, none⟩ = some (.string (preB x ++ v.s)) := (HBX.out.ch hc (not_nil _)).cell 3; have g4 : w9.cell? ⟨w.heap.size, 4, none⟩ = some (.int .i64 v.r) := (HBX.out.ch hc (not_nil _)).cell 4; have gl := (HBX.out.ch hc (not_nil _)).lt; have d0 : w9.cell? ⟨(w.heap.size + 1), 0, none⟩ = some (.int .i64 0) := KB.out.cell 0; have d1 : w9.cell? ⟨(w.heap.size + 1), 1, none⟩ = some (.int .i64 0) := KB.out.cell 1; have d2 : w9.cell? ⟨(w.heap.size + 1), 2, none⟩ = some (.int .i64 0) := KB.out.cell 2; have d3 : w9.cell? ⟨(w.heap.size + 1), 3, none⟩ = some (.string ⟨#[]⟩) := KB.out.cell 3; have d4 : w9.cell? ⟨(w.heap.size + 1), 4, none⟩ = some (.int .i64 0) := KB.out.cell 4; have d5 : w9.cell? ⟨(w.heap.size + 1), 5, none⟩ = some (.slice none 0 0) := KB.out.cell 5; have f0 : w9.frozen? ⟨(w.heap.size + 1), 0, none⟩ = false := KB.out.fz 0; have f1 : w9.frozen? ⟨(w.heap.size + 1), 1, none⟩ = false := KB.out.fz 1; have f2 : w9.frozen? ⟨(w.heap.size + 1), 2, none⟩ = false := KB.out.fz 2; have f3 : w9.frozen? ⟨(w.heap.size + 1), 3, none⟩ = false := KB.out.fz 3; have f4 : w9.frozen? ⟨(w.heap.size + 1), 4, none⟩ = false := KB.out.fz 4; have f5 : w9.frozen? ⟨(w.heap.size + 1), 5, none⟩ = false := KB.out.fz 5; have lR := KB.out.lt; clear hr9 hc0 hc))
  all_goals (
    go_wp2
    clear d0 f0 d1 f1 d2 f2 d3 f3 d4 f4 d5 f5
    show bodyPost _ _ _ Exit.ret _ (st6 w9 (w.heap.size + 1) (.int .i64 3) (.int .i64 v.p) (.int .i64 v.q) (.string (preB x ++ v.s)) (.int .i64 v.r) (.slice p9 l.length c9))
    have hI : Blk 31 (w.heap.size + 1) #[.int .i64 3, .int .i64 v.p, .int .i64 v.q, .string (preB x ++ v.s), .int .i64 v.r, .slice p9 l.length c9] (st6 w9 (w.heap.size + 1) (.int .i64 3) (.int .i64 v.p) (.int .i64 v.q) (.string (preB x ++ v.s)) (.int .i64 v.r) (.slice p9 l.length c9)) := st6_blk KB.out
    have hS : Ch [(w.heap.size + 1)] w9 (st6 w9 (w.heap.size + 1) (.int .i64 3) (.int .i64 v.p) (.int .i64 v.q) (.string (preB x ++ v.s)) (.int .i64 v.r) (.slice p9 l.length c9)) := st6_ch (Ch.refl [(w.heap.size + 1)] w9) (.inl (by simp))
    generalize (st6 w9 (w.heap.size + 1) (.int .i64 3) (.int .i64 v.p) (.int .i64 v.q) (.string (preB x ++ v.s)) (.int .i64 v.r) (.slice p9 l.length c9)) = W9 at *
    have d0 : W9.cell? ⟨(w.heap.size + 1), 0, none⟩ = some (.int .i64 3) := hI.cell 0
    have d1 : W9.cell? ⟨(w.heap.size + 1), 1, none⟩ = some (.int .i64 v.p) := hI.cell 1
    have d2 : W9.cell? ⟨(w.heap.size + 1), 2, none⟩ = some (.int .i64 v.q) := hI.cell 2
    have d3 : W9.cell? ⟨(w.heap.size + 1), 3, none⟩ = some (.string (preB x ++ v.s)) := hI.cell 3
    have d4 : W9.cell? ⟨(w.heap.size + 1), 4, none⟩ = some (.int .i64 v.r) := hI.cell 4
    have d5 : W9.cell? ⟨(w.heap.size + 1), 5, none⟩ = some (.slice p9 l.length c9) := hI.cell 5
    refine bodyPost_ret (v := .agg #[.int .i64 3, .int .i64 v.p, .int .i64 v.q, .string (preB x ++ v.s), .int .i64 v.r, .slice p9 l.length c9]) (by simp [results, Tryd.results14, go_sem, d0, d1, d2, d3, d4, d5]) rfl ⟨_, rfl, (HR9.out.mono (by omega)).ch hS (HR9.out.off (by omega)), (HCX.out.trans HC9.out).fresh (fun g hg => by simp at hg; omega) hS⟩)
end Go.Proofs.YtimblnhigoggpaaDoor
