/- Contracts of layer 9: directives. -/
import Derived.Test.YtbdcmnhfmkefdaaGreatDoorFmtB
import Derived.RegionTactic
import Derived.BigRegion
namespace Go.Proofs.YtbdcmnhfmkefdaaGreatDoor
open Go.RowKit M1 M2 M9
set_option linter.unusedVariables false
/-- A part under construction in a block. -/
def DQ (w : World) (v : Int) (mi ze pl : Bool) (wd pc : Int) (wr : World) : Prop := Blk 31 w.heap.size #[.string ⟨#[]⟩, .int .u8 v, .bool mi, .bool ze, .bool pl, .int .i64 wd, .int .i64 pc] wr ∧ Below w.heap.size w wr
theorem DQ.cells {w : World} {v : Int} {mi ze pl : Bool} {wd pc : Int} {wr : World} (h : DQ w v mi ze pl wd pc wr) : wr.cell? ⟨w.heap.size, 0, none⟩ = some (.string ⟨#[]⟩) ∧ wr.cell? ⟨w.heap.size, 1, none⟩ = some (.int .u8 v) ∧ wr.cell? ⟨w.heap.size, 2, none⟩ = some (.bool mi) ∧ wr.cell? ⟨w.heap.size, 3, none⟩ = some (.bool ze) ∧ wr.cell? ⟨w.heap.size, 4, none⟩ = some (.bool pl) ∧ wr.cell? ⟨w.heap.size, 5, none⟩ = some (.int .i64 wd) ∧ wr.cell? ⟨w.heap.size, 6, none⟩ = some (.int .i64 pc) :=
  ⟨h.1.cell 0, h.1.cell 1, h.1.cell 2, h.1.cell 3, h.1.cell 4, h.1.cell 5, h.1.cell 6⟩
theorem DQ.lt {w : World} {v : Int} {mi ze pl : Bool} {wd pc : Int} {wr : World} (h : DQ w v mi ze pl wd pc wr) : w.heap.size < wr.heap.size := h.1.lt
theorem DQ.below {w : World} {v : Int} {mi ze pl : Bool} {wd pc : Int} {wr W : World} (h : DQ w v mi ze pl wd pc wr) (hb : Below wr.heap.size wr W) : DQ w v mi ze pl wd pc W := ⟨h.1.below hb, h.2.trans (hb.mono h.2.size)⟩
theorem DQ.drewN {w : World} {v : Int} {mi ze pl : Bool} {wd pc : Int} {wr : World} (h : DQ w v mi ze pl wd pc wr) (n : Nat) : DQ w v mi ze pl wd pc (wr.drewN n) := h.below (below_drewN (Below.refl _ _) _)
theorem DQ.set1 {w : World} {v : Int} {mi ze pl : Bool} {wd pc : Int} {wr : World} (h : DQ w v mi ze pl wd pc wr) (x : Int) : DQ w x mi ze pl wd pc (wr.setCell ⟨w.heap.size, 1, none⟩ (.int .u8 x)) := ⟨h.1.set 1 _, h.2.setCell (p := ⟨w.heap.size, 1, none⟩) (Nat.le_refl _) _⟩
theorem DQ.set5 {w : World} {v : Int} {mi ze pl : Bool} {wd pc : Int} {wr : World} (h : DQ w v mi ze pl wd pc wr) (x : Int) : DQ w v mi ze pl x pc (wr.setCell ⟨w.heap.size, 5, none⟩ (.int .i64 x)) := ⟨h.1.set 5 _, h.2.setCell (p := ⟨w.heap.size, 5, none⟩) (Nat.le_refl _) _⟩
theorem DQ.set6 {w : World} {v : Int} {mi ze pl : Bool} {wd pc : Int} {wr : World} (h : DQ w v mi ze pl wd pc wr) (x : Int) : DQ w v mi ze pl wd x (wr.setCell ⟨w.heap.size, 6, none⟩ (.int .i64 x)) := ⟨h.1.set 6 _, h.2.setCell (p := ⟨w.heap.size, 6, none⟩) (Nat.le_refl _) _⟩
/-- Seven stores: a part is stored whole. -/
def st7 (W : World) (R : Nat) (a0 a1 a2 a3 a4 a5 a6 : Value) : World := ((((((W.setCell ⟨R, 0, none⟩ a0).setCell ⟨R, 1, none⟩ a1).setCell ⟨R, 2, none⟩ a2).setCell ⟨R, 3, none⟩ a3).setCell ⟨R, 4, none⟩ a4).setCell ⟨R, 5, none⟩ a5).setCell ⟨R, 6, none⟩ a6
theorem st7_blk {W : World} {R : Nat} {T : TypeId} {c0 c1 c2 c3 c4 c5 c6 a0 a1 a2 a3 a4 a5 a6 : Value} (h : Blk T R #[c0, c1, c2, c3, c4, c5, c6] W) : Blk T R #[a0, a1, a2, a3, a4, a5, a6] (st7 W R a0 a1 a2 a3 a4 a5 a6) := by
  have h0 : Blk T R #[a0, c1, c2, c3, c4, c5, c6] _ := h.set 0 a0
  have h1 : Blk T R #[a0, a1, c2, c3, c4, c5, c6] _ := h0.set 1 a1
  have h2 : Blk T R #[a0, a1, a2, c3, c4, c5, c6] _ := h1.set 2 a2
  have h3 : Blk T R #[a0, a1, a2, a3, c4, c5, c6] _ := h2.set 3 a3
  have h4 : Blk T R #[a0, a1, a2, a3, a4, c5, c6] _ := h3.set 4 a4
  have h5 : Blk T R #[a0, a1, a2, a3, a4, a5, c6] _ := h4.set 5 a5
  have h6 : Blk T R #[a0, a1, a2, a3, a4, a5, a6] _ := h5.set 6 a6
  exact h6
theorem st7_below {w W : World} {R : Nat} {a0 a1 a2 a3 a4 a5 a6 : Value} (h : Below w.heap.size w W) (l : w.heap.size ≤ R) : Below w.heap.size w (st7 W R a0 a1 a2 a3 a4 a5 a6) :=
  ((((((h.setCell (p := ⟨R, 0, none⟩) l _).setCell (p := ⟨R, 1, none⟩) l _).setCell (p := ⟨R, 2, none⟩) l _).setCell (p := ⟨R, 3, none⟩) l _).setCell (p := ⟨R, 4, none⟩) l _).setCell (p := ⟨R, 5, none⟩) l _).setCell (p := ⟨R, 6, none⟩) l _
theorem st7_dq {w W : World} {v : Int} {mi ze pl : Bool} {wd pc : Int} {v' : Int} {mi' ze' pl' : Bool} {wd' pc' : Int} (h : DQ w v mi ze pl wd pc W) : DQ w v' mi' ze' pl' wd' pc' (st7 W w.heap.size (.string ⟨#[]⟩) (.int .u8 v') (.bool mi') (.bool ze') (.bool pl') (.int .i64 wd') (.int .i64 pc')) :=
  ⟨st7_blk h.1, st7_below h.2 (Nat.le_refl _)⟩
def DirSaid (r : Option (Pc × List UInt8)) (e : Ending) : Prop := match r with
  | none => e = .returned (.tuple #[.agg #[.string ⟨#[]⟩, .int .u8 0, .bool false, .bool false, .bool false, .int .i64 0, .int .i64 0], .string ⟨#[]⟩, .bool false])
  | some (p, t) => e = .returned (.tuple #[.agg (pcC p).toArray, .string (bq t), .bool true])
theorem dirSaid_none {r : Option (Pc × List UInt8)} (h : r = none) : DirSaid r (.returned (.tuple #[.agg #[.string ⟨#[]⟩, .int .u8 0, .bool false, .bool false, .bool false, .int .i64 0, .int .i64 0], .string ⟨#[]⟩, .bool false])) := by subst h; rfl
theorem dirSaid_some {r : Option (Pc × List UInt8)} {c : UInt8} {mi ze pl : Bool} {wd : Nat} {pc : Int} {t : List UInt8} {x : ByteArray} (h : r = some (⟨[], c.toNat, mi, ze, pl, wd, pc⟩, t)) (hx : x = bq t) : DirSaid r (.returned (.tuple #[.agg #[.string ⟨#[]⟩, .int .u8 (c.toNat : Int), .bool mi, .bool ze, .bool pl, .int .i64 (wd : Int), .int .i64 pc], .string x, .bool true])) := by subst h hx; rfl
theorem vbF_nil (mi ze pl : Bool) (w : Nat) (pc : Int) : vbF mi ze pl w pc [] = none := rfl
theorem vbF_no {mi ze pl : Bool} {w : Nat} {pc : Int} {c : UInt8} {r : List UInt8} (h : isVerb c = false) : vbF mi ze pl w pc (c :: r) = none := by rw [vbF, if_neg (by simp [h])]
theorem vbF_yes {mi ze pl : Bool} {w : Nat} {pc : Int} {c : UInt8} {r : List UInt8} (h : isVerb c = true) : vbF mi ze pl w pc (c :: r) = some (⟨[], c.toNat, mi, ze, pl, w, pc⟩, r) := by rw [vbF, if_pos h]
theorem head46 {l : List UInt8} (h : Lib.hasPrefix l [46] = true) : l.head? = some 46 := by
  cases l with
  | nil => cases h
  | cons c r => simp [Lib.hasPrefix] at h; simp [h]
theorem head46_no {l : List UInt8} (h : Lib.hasPrefix l [46] = false) : l.head? ≠ some 46 := by
  cases l with
  | nil => simp
  | cons c r =>
    intro e; simp at e; subst e; simp [Lib.hasPrefix] at h
theorem trimp46 {l : List UInt8} (h : Lib.hasPrefix l [46] = true) : Lib.trimPrefix l [46] = l.drop 1 := by unfold Lib.trimPrefix; rw [if_pos h]; rfl
theorem numF_len (l : List UInt8) : (numF l).2.length ≤ l.length := numN_len 2 0 l
theorem bq_cons {c : UInt8} {r : List UInt8} : (bq (c :: r)).size = r.length + 1 := by rw [bq_size]; rfl

set_option maxHeartbeats 16000000 in
set_option maxRecDepth 100000 in
theorem dir_any (s : ByteArray) (w : World) (he : E9 w) (hs : s.size ≤ 1000000) :
    Calls Tryz.prog 32 #[.string s] w fun e w' => DirSaid (dirF s.data.toList) e ∧ Below w.heap.size w w' := by
  have hll : s.data.toList.length = s.size := by simp
  have hdl : (s.data.toList.dropWhile isFlag).length ≤ s.size := by rw [← hll]; exact (List.dropWhile_sublist _).length_le
  have HD : Hid (dirF s.data.toList = ptF ((s.data.toList.takeWhile isFlag).contains 45) ((s.data.toList.takeWhile isFlag).contains 48) ((s.data.toList.takeWhile isFlag).contains 43) (numF (s.data.toList.dropWhile isFlag)).1 (numF (s.data.toList.dropWhile isFlag)).2) := Lib.hid rfl
  have HF := Lib.hid fun W hp => flags_any s w.heap.size (textPc []) W (by omega) hp
  have HFc : Hid (pcC (flagsPc (textPc []) (s.data.toList.takeWhile isFlag)) = [.string ⟨#[]⟩, .int .u8 0, .bool ((s.data.toList.takeWhile isFlag).contains 45), .bool ((s.data.toList.takeWhile isFlag).contains 48), .bool ((s.data.toList.takeWhile isFlag).contains 43), .int .i64 0, .int .i64 0]) := Lib.hid (by simp [flagsPc, textPc, pcC, bq])
  have Q1 : Hid (∀ W, DQ w 0 false false false 0 0 W → Calls Tryz.prog 51 #[.pointer (some ⟨w.heap.size, 0, none⟩), .string s] W fun e w' => e = .returned (.string (bq (s.data.toList.dropWhile isFlag))) ∧ DQ w 0 ((s.data.toList.takeWhile isFlag).contains 45) ((s.data.toList.takeWhile isFlag).contains 48) ((s.data.toList.takeWhile isFlag).contains 43) 0 0 w') := Lib.hid fun W hq => (HF.out W hq.1).mono fun e w' ⟨h1, h2, h3⟩ => ⟨h1, by
    unfold PcAt at h2
    rw [HFc.out] at h2
    refine ⟨h2, ?_⟩
    have h4 := h3
    exact ⟨h3.os.trans hq.2.os, h3.tape.trans hq.2.tape, h3.output.trans hq.2.output, Nat.le_trans hq.2.size h3.size, fun g hg => (h3.block g (by have := hq.lt; omega) (by simp; omega)).trans (hq.2.block g hg)⟩⟩
  generalize dirF s.data.toList = R at *
  generalize (s.data.toList.takeWhile isFlag).contains 45 = mi at *
  generalize (s.data.toList.takeWhile isFlag).contains 48 = ze at *
  generalize (s.data.toList.takeWhile isFlag).contains 43 = pl at *
  generalize s.data.toList.dropWhile isFlag = r0 at *
  have hn0 := numF_len r0
  have hw0 := numF_val r0
  have Q2 := Lib.hid fun W => number9_any (bq r0) W (by rw [bq_size]; omega)
  unfold NumSaid at Q2
  rw [bq_list] at Q2
  generalize (numF r0).1 = wd at *
  generalize (numF r0).2 = r1 at *
  have hr1 : r1.length ≤ 1000000 := by omega
  have QC : Hid (∀ W, Calls Tryz.prog 30 #[.string (bq r1), .string ⟨#[46]⟩] W fun e w' => e = .returned (.tuple #[.string (bq (Lib.trimPrefix r1 [46])), .bool (Lib.hasPrefix r1 [46])]) ∧ W = w') := Lib.hid fun W => by
    have := cutp_any (bq r1) ⟨#[46]⟩ W
    rw [bq_list, show (⟨#[46]⟩ : ByteArray).data.toList = [46] from rfl] at this
    exact this
  clear HF HFc hll hdl hn0
  go_enter Tryz.func32, Tryz.ntmps32
  go_upto_region 1 with fail
  have HQ0 : Hid (DQ w 0 false false false 0 0 (w.alloc (.cells #[.string ⟨#[]⟩, .int .u8 0, .bool false, .bool false, .bool false, .int .i64 0, .int .i64 0] 31))) := Lib.hid ⟨Blk.new _ _ _ _ rfl, (Below.refl _ _).alloc (Nat.le_refl _) _⟩
  generalize w.alloc (.cells #[.string ⟨#[]⟩, .int .u8 0, .bool false, .bool false, .bool false, .int .i64 0, .int .i64 0] 31) = W0 at *
  go_upto_region 2 with (go_at_call 51; (with_reducible refine (Q1.out _ HQ0.out).mono ?_); rintro e w1 ⟨rfl, hq1⟩)
  obtain ⟨b0, b1, b2, b3, b4, b5, b6⟩ := hq1.cells
  have f5 := hq1.1.fz 5
  have HQ1 := Lib.hid hq1
  clear hq1 HQ0 Q1
  go_upto_region 3 with (go_at_call 52; (with_reducible refine (Q2.out _).mono ?_); rintro e w2 ⟨rfl, n2, rfl⟩)
  have HQ2 := Lib.hid ((HQ1.out.drewN n2).set5 (wd : Int))
  clear b0 b1 b2 b3 b4 b5 b6 f5 HQ1 Q2
  generalize (w1.drewN n2).setCell ⟨w.heap.size, 5, none⟩ (.int .i64 (wd : Int)) = w2 at *
  obtain ⟨b0, b1, b2, b3, b4, b5, b6⟩ := HQ2.out.cells
  have f6 := HQ2.out.1.fz 6
  go_upto_region 4 with fail
  have HQ3 := Lib.hid (HQ2.out.set6 (-1))
  clear b0 b1 b2 b3 b4 b5 b6 f6 HQ2
  generalize w2.setCell ⟨w.heap.size, 6, none⟩ (.int .i64 (-1)) = w3 at *
  cases hp : Lib.hasPrefix r1 [46] with
  | false =>
    rw [hp] at QC
    have HT : Hid (R = vbF mi ze pl wd (-1) (bq r1).data.toList) := Lib.hid (by
      rw [HD.out, bq_list]; unfold ptF; rw [if_neg (head46_no hp)])
    have hr2 : (bq r1).size ≤ 1000000 := by rw [bq_size]; exact hr1
    go_upto_region 9 with (go_at_call 30; (with_reducible refine (QC.out _).mono ?_); rintro e w' ⟨rfl, rfl⟩)
    have HQ := HQ3
    clear HQ3 QC HD hp
    generalize bq r1 = x at *
    by_cases hx0 : x.size = 0
    · have HX : Hid (R = none) := Lib.hid (by rw [HT.out, nil_of hx0]; rfl)
      obtain rfl := nil_of hx0
      clear hx0
      obtain ⟨b0, b1, b2, b3, b4, b5, b6⟩ := HQ.out.cells
      have f0 := HQ.out.1.fz 0
      have f1 := HQ.out.1.fz 1
      have f2 := HQ.out.1.fz 2
      have f3 := HQ.out.1.fz 3
      have f4 := HQ.out.1.fz 4
      have f5 := HQ.out.1.fz 5
      have f6 := HQ.out.1.fz 6
      go_wp2
      show bodyPost _ _ _ Exit.ret _ (st7 w3 w.heap.size (.string ⟨#[]⟩) (.int .u8 0) (.bool false) (.bool false) (.bool false) (.int .i64 0) (.int .i64 0))
      have hI : DQ w 0 false false false 0 0 (st7 w3 w.heap.size (.string ⟨#[]⟩) (.int .u8 0) (.bool false) (.bool false) (.bool false) (.int .i64 0) (.int .i64 0)) := st7_dq HQ.out
      generalize st7 w3 w.heap.size (.string ⟨#[]⟩) (.int .u8 0) (.bool false) (.bool false) (.bool false) (.int .i64 0) (.int .i64 0) = W9 at *
      obtain ⟨d0, d1, d2, d3, d4, d5, d6⟩ := hI.cells
      refine bodyPost_ret (v := .tuple #[.agg #[.string ⟨#[]⟩, .int .u8 0, .bool false, .bool false, .bool false, .int .i64 0, .int .i64 0], .string ⟨#[]⟩, .bool false]) (by simp [results, Tryz.results32, go_sem, d0, d1, d2, d3, d4, d5, d6]) rfl ⟨dirSaid_none HX.out, hI.2⟩
    · have hx1 : 0 < x.size := by omega
      have hze := ne_empty hx1
      have HC := Lib.hid (cons_of x hx1)
      have hcb := byte_bd9 x[0]
      have QK := Lib.hid (known_any x[0] w3 (he.on HQ.out.2))
      have HNV := Lib.hid (fun h => (HT.out.trans (by rw [HC.out])).trans (vbF_no (c := x[0]) (r := (x.extract 1 x.size).data.toList) (mi := mi) (ze := ze) (pl := pl) (w := wd) (pc := (-1)) h))
      have HYV := Lib.hid (fun h => (HT.out.trans (by rw [HC.out])).trans (vbF_yes (c := x[0]) (r := (x.extract 1 x.size).data.toList) (mi := mi) (ze := ze) (pl := pl) (w := wd) (pc := (-1)) h))
      clear hx0
      obtain ⟨b0, b1, b2, b3, b4, b5, b6⟩ := HQ.out.cells
      cases hv : isVerb x[0] with
      | false =>
        rw [hv] at QK
        have HX := Lib.hid (HNV.out hv)
        clear hv HNV HYV HT
        go_upto_region 10 with (go_at_call 53; (with_reducible refine (QK.out).mono ?_); rintro e w8 ⟨rfl, hb8⟩)
        have HQ2 := Lib.hid (HQ.out.below hb8)
        clear b0 b1 b2 b3 b4 b5 b6 hb8 HQ
        have HQ := HQ2
        clear HQ2
        obtain ⟨b0, b1, b2, b3, b4, b5, b6⟩ := HQ.out.cells
        have f0 := HQ.out.1.fz 0
        have f1 := HQ.out.1.fz 1
        have f2 := HQ.out.1.fz 2
        have f3 := HQ.out.1.fz 3
        have f4 := HQ.out.1.fz 4
        have f5 := HQ.out.1.fz 5
        have f6 := HQ.out.1.fz 6
        go_wp2
        show bodyPost _ _ _ Exit.ret _ (st7 w8 w.heap.size (.string ⟨#[]⟩) (.int .u8 0) (.bool false) (.bool false) (.bool false) (.int .i64 0) (.int .i64 0))
        have hI : DQ w 0 false false false 0 0 (st7 w8 w.heap.size (.string ⟨#[]⟩) (.int .u8 0) (.bool false) (.bool false) (.bool false) (.int .i64 0) (.int .i64 0)) := st7_dq HQ.out
        generalize st7 w8 w.heap.size (.string ⟨#[]⟩) (.int .u8 0) (.bool false) (.bool false) (.bool false) (.int .i64 0) (.int .i64 0) = W9 at *
        obtain ⟨d0, d1, d2, d3, d4, d5, d6⟩ := hI.cells
        refine bodyPost_ret (v := .tuple #[.agg #[.string ⟨#[]⟩, .int .u8 0, .bool false, .bool false, .bool false, .int .i64 0, .int .i64 0], .string ⟨#[]⟩, .bool false]) (by simp [results, Tryz.results32, go_sem, d0, d1, d2, d3, d4, d5, d6]) rfl ⟨dirSaid_none HX.out, hI.2⟩
      | true =>
        rw [hv] at QK
        have HX := Lib.hid (HYV.out hv)
        clear hv HNV HYV HT
        go_upto_region 11 with (go_at_call 53; (with_reducible refine (QK.out).mono ?_); rintro e w8 ⟨rfl, hb8⟩)
        have HQ2 := Lib.hid (HQ.out.below hb8)
        clear b0 b1 b2 b3 b4 b5 b6 hb8 HQ
        obtain ⟨b0, b1, b2, b3, b4, b5, b6⟩ := HQ2.out.cells
        have f0 := HQ2.out.1.fz 0
        have f1 := HQ2.out.1.fz 1
        have f2 := HQ2.out.1.fz 2
        have f3 := HQ2.out.1.fz 3
        have f4 := HQ2.out.1.fz 4
        have f5 := HQ2.out.1.fz 5
        have f6 := HQ2.out.1.fz 6
        go_upto_region 12 with fail
        have HQ3 := Lib.hid (HQ2.out.set1 (x[0].toNat : Int))
        clear b0 b1 b2 b3 b4 b5 b6 f0 f1 f2 f3 f4 f5 f6 HQ2
        generalize w8.setCell ⟨w.heap.size, 1, none⟩ (.int .u8 (x[0].toNat : Int)) = w9 at *
        obtain ⟨b0, b1, b2, b3, b4, b5, b6⟩ := HQ3.out.cells
        have f0 := HQ3.out.1.fz 0
        have f1 := HQ3.out.1.fz 1
        have f2 := HQ3.out.1.fz 2
        have f3 := HQ3.out.1.fz 3
        have f4 := HQ3.out.1.fz 4
        have f5 := HQ3.out.1.fz 5
        have f6 := HQ3.out.1.fz 6
        go_region
        all_goals (
          go_wp2
          show bodyPost _ _ _ Exit.ret _ (st7 w9 w.heap.size (.string ⟨#[]⟩) (.int .u8 (x[0].toNat : Int)) (.bool mi) (.bool ze) (.bool pl) (.int .i64 (wd : Int)) (.int .i64 (-1))).drew
          have hI : DQ w (x[0].toNat : Int) mi ze pl wd (-1) (st7 w9 w.heap.size (.string ⟨#[]⟩) (.int .u8 (x[0].toNat : Int)) (.bool mi) (.bool ze) (.bool pl) (.int .i64 (wd : Int)) (.int .i64 (-1))).drew := (st7_dq HQ3.out).drewN 1
          generalize (st7 w9 w.heap.size (.string ⟨#[]⟩) (.int .u8 (x[0].toNat : Int)) (.bool mi) (.bool ze) (.bool pl) (.int .i64 (wd : Int)) (.int .i64 (-1))).drew = W9 at *
          obtain ⟨d0, d1, d2, d3, d4, d5, d6⟩ := hI.cells
          refine bodyPost_ret (v := .tuple #[.agg #[.string ⟨#[]⟩, .int .u8 (x[0].toNat : Int), .bool mi, .bool ze, .bool pl, .int .i64 (wd : Int), .int .i64 (-1)], .string (x.extract 1 x.size), .bool true]) (by simp [results, Tryz.results32, go_sem, d0, d1, d2, d3, d4, d5, d6]) rfl ⟨dirSaid_some HX.out (bq_eta _).symm, hI.2⟩)
  | true =>
    rw [hp, trimp46 hp] at QC
    have hd2 := head46 hp
    have hdl : (r1.drop 1).length ≤ 1000000 := by rw [List.length_drop]; omega
    unfold ptF at HD
    rw [if_pos hd2] at HD
    have Q4 := Lib.hid fun W => number9_any (bq (r1.drop 1)) W (by rw [bq_size]; omega)
    have hn4 := numF_len (r1.drop 1)
    have hv4 := numF_val (r1.drop 1)
    unfold NumSaid at Q4
    rw [bq_list] at Q4
    generalize r1.drop 1 = r2 at *
    generalize (numF r2).1 = pn at *
    generalize (numF r2).2 = r3 at *
    clear hd2 hp
    go_upto_region 6 with (go_at_call 30; (with_reducible refine (QC.out _).mono ?_); rintro e w' ⟨rfl, rfl⟩)
    obtain ⟨b0, b1, b2, b3, b4, b5, b6⟩ := HQ3.out.cells
    have f6 := HQ3.out.1.fz 6
    go_upto_region 7 with (go_at_call 52; (with_reducible refine (Q4.out _).mono ?_); rintro e w4 ⟨rfl, n4, rfl⟩)
    have HQ4 := Lib.hid ((HQ3.out.drewN n4).set6 (pn : Int))
    clear b0 b1 b2 b3 b4 b5 b6 f6 HQ3 Q4 QC
    generalize (w3.drewN n4).setCell ⟨w.heap.size, 6, none⟩ (.int .i64 (pn : Int)) = w5 at *
    have hs2 := bq_size r2
    have hs3 := bq_size r3
    have hl3 := bq_list r3
    have hr3 : (bq r3).size ≤ 1000000 := by omega
    rw [← hs2, ← hs3, ← hl3] at HD
    rw [← hs2] at hdl
    clear hs2 hs3 hl3 hn4
    generalize bq r3 = x at *
    generalize bq r2 = y at *
    have HQ := HQ4
    clear HQ4
    obtain ⟨b0, b1, b2, b3, b4, b5, b6⟩ := HQ.out.cells
    by_cases hxy : x.size = y.size
    · have HX : Hid (R = none) := Lib.hid (by rw [HD.out, if_pos (.inl hxy)])
      have e1 : ((x.size : Int) == (y.size : Int)) = true := by simp; omega
      have f0 := HQ.out.1.fz 0
      have f1 := HQ.out.1.fz 1
      have f2 := HQ.out.1.fz 2
      have f3 := HQ.out.1.fz 3
      have f4 := HQ.out.1.fz 4
      have f5 := HQ.out.1.fz 5
      have f6 := HQ.out.1.fz 6
      clear hxy HD
      go_wp2
      show bodyPost _ _ _ Exit.ret _ (st7 w5 w.heap.size (.string ⟨#[]⟩) (.int .u8 0) (.bool false) (.bool false) (.bool false) (.int .i64 0) (.int .i64 0))
      have hI : DQ w 0 false false false 0 0 (st7 w5 w.heap.size (.string ⟨#[]⟩) (.int .u8 0) (.bool false) (.bool false) (.bool false) (.int .i64 0) (.int .i64 0)) := st7_dq HQ.out
      generalize st7 w5 w.heap.size (.string ⟨#[]⟩) (.int .u8 0) (.bool false) (.bool false) (.bool false) (.int .i64 0) (.int .i64 0) = W9 at *
      obtain ⟨d0, d1, d2, d3, d4, d5, d6⟩ := hI.cells
      refine bodyPost_ret (v := .tuple #[.agg #[.string ⟨#[]⟩, .int .u8 0, .bool false, .bool false, .bool false, .int .i64 0, .int .i64 0], .string ⟨#[]⟩, .bool false]) (by simp [results, Tryz.results32, go_sem, d0, d1, d2, d3, d4, d5, d6]) rfl ⟨dirSaid_none HX.out, hI.2⟩
    · have e1 : ((x.size : Int) == (y.size : Int)) = false := by simp; omega
      by_cases h12 : 12 < pn
      · have HX : Hid (R = none) := Lib.hid (by rw [HD.out, if_pos (.inr h12)])
        have e2 : (12 : Int) < (pn : Int) := by omega
        have f0 := HQ.out.1.fz 0
        have f1 := HQ.out.1.fz 1
        have f2 := HQ.out.1.fz 2
        have f3 := HQ.out.1.fz 3
        have f4 := HQ.out.1.fz 4
        have f5 := HQ.out.1.fz 5
        have f6 := HQ.out.1.fz 6
        clear hxy HD h12
        go_wp2
        show bodyPost _ _ _ Exit.ret _ (st7 w5 w.heap.size (.string ⟨#[]⟩) (.int .u8 0) (.bool false) (.bool false) (.bool false) (.int .i64 0) (.int .i64 0))
        have hI : DQ w 0 false false false 0 0 (st7 w5 w.heap.size (.string ⟨#[]⟩) (.int .u8 0) (.bool false) (.bool false) (.bool false) (.int .i64 0) (.int .i64 0)) := st7_dq HQ.out
        generalize st7 w5 w.heap.size (.string ⟨#[]⟩) (.int .u8 0) (.bool false) (.bool false) (.bool false) (.int .i64 0) (.int .i64 0) = W9 at *
        obtain ⟨d0, d1, d2, d3, d4, d5, d6⟩ := hI.cells
        refine bodyPost_ret (v := .tuple #[.agg #[.string ⟨#[]⟩, .int .u8 0, .bool false, .bool false, .bool false, .int .i64 0, .int .i64 0], .string ⟨#[]⟩, .bool false]) (by simp [results, Tryz.results32, go_sem, d0, d1, d2, d3, d4, d5, d6]) rfl ⟨dirSaid_none HX.out, hI.2⟩
      · have HT : Hid (R = vbF mi ze pl wd (pn : Int) x.data.toList) := Lib.hid (by rw [HD.out, if_neg (fun h => h.elim hxy h12)])
        have e2 : ¬ (12 : Int) < (pn : Int) := by omega
        clear HD hxy h12
        go_upto_region 9 with fail
        clear e1 e2 b0 b1 b2 b3 b4 b5 b6
        by_cases hx0 : x.size = 0
        · have HX : Hid (R = none) := Lib.hid (by rw [HT.out, nil_of hx0]; rfl)
          obtain rfl := nil_of hx0
          clear hx0
          obtain ⟨b0, b1, b2, b3, b4, b5, b6⟩ := HQ.out.cells
          have f0 := HQ.out.1.fz 0
          have f1 := HQ.out.1.fz 1
          have f2 := HQ.out.1.fz 2
          have f3 := HQ.out.1.fz 3
          have f4 := HQ.out.1.fz 4
          have f5 := HQ.out.1.fz 5
          have f6 := HQ.out.1.fz 6
          go_wp2
          show bodyPost _ _ _ Exit.ret _ (st7 w5 w.heap.size (.string ⟨#[]⟩) (.int .u8 0) (.bool false) (.bool false) (.bool false) (.int .i64 0) (.int .i64 0))
          have hI : DQ w 0 false false false 0 0 (st7 w5 w.heap.size (.string ⟨#[]⟩) (.int .u8 0) (.bool false) (.bool false) (.bool false) (.int .i64 0) (.int .i64 0)) := st7_dq HQ.out
          generalize st7 w5 w.heap.size (.string ⟨#[]⟩) (.int .u8 0) (.bool false) (.bool false) (.bool false) (.int .i64 0) (.int .i64 0) = W9 at *
          obtain ⟨d0, d1, d2, d3, d4, d5, d6⟩ := hI.cells
          refine bodyPost_ret (v := .tuple #[.agg #[.string ⟨#[]⟩, .int .u8 0, .bool false, .bool false, .bool false, .int .i64 0, .int .i64 0], .string ⟨#[]⟩, .bool false]) (by simp [results, Tryz.results32, go_sem, d0, d1, d2, d3, d4, d5, d6]) rfl ⟨dirSaid_none HX.out, hI.2⟩
        · have hx1 : 0 < x.size := by omega
          have hze := ne_empty hx1
          have HC := Lib.hid (cons_of x hx1)
          have hcb := byte_bd9 x[0]
          have QK := Lib.hid (known_any x[0] w5 (he.on HQ.out.2))
          have HNV := Lib.hid (fun h => (HT.out.trans (by rw [HC.out])).trans (vbF_no (c := x[0]) (r := (x.extract 1 x.size).data.toList) (mi := mi) (ze := ze) (pl := pl) (w := wd) (pc := (pn : Int)) h))
          have HYV := Lib.hid (fun h => (HT.out.trans (by rw [HC.out])).trans (vbF_yes (c := x[0]) (r := (x.extract 1 x.size).data.toList) (mi := mi) (ze := ze) (pl := pl) (w := wd) (pc := (pn : Int)) h))
          clear hx0
          obtain ⟨b0, b1, b2, b3, b4, b5, b6⟩ := HQ.out.cells
          cases hv : isVerb x[0] with
          | false =>
            rw [hv] at QK
            have HX := Lib.hid (HNV.out hv)
            clear hv HNV HYV HT
            go_upto_region 10 with (go_at_call 53; (with_reducible refine (QK.out).mono ?_); rintro e w8 ⟨rfl, hb8⟩)
            have HQ2 := Lib.hid (HQ.out.below hb8)
            clear b0 b1 b2 b3 b4 b5 b6 hb8 HQ
            have HQ := HQ2
            clear HQ2
            obtain ⟨b0, b1, b2, b3, b4, b5, b6⟩ := HQ.out.cells
            have f0 := HQ.out.1.fz 0
            have f1 := HQ.out.1.fz 1
            have f2 := HQ.out.1.fz 2
            have f3 := HQ.out.1.fz 3
            have f4 := HQ.out.1.fz 4
            have f5 := HQ.out.1.fz 5
            have f6 := HQ.out.1.fz 6
            go_wp2
            show bodyPost _ _ _ Exit.ret _ (st7 w8 w.heap.size (.string ⟨#[]⟩) (.int .u8 0) (.bool false) (.bool false) (.bool false) (.int .i64 0) (.int .i64 0))
            have hI : DQ w 0 false false false 0 0 (st7 w8 w.heap.size (.string ⟨#[]⟩) (.int .u8 0) (.bool false) (.bool false) (.bool false) (.int .i64 0) (.int .i64 0)) := st7_dq HQ.out
            generalize st7 w8 w.heap.size (.string ⟨#[]⟩) (.int .u8 0) (.bool false) (.bool false) (.bool false) (.int .i64 0) (.int .i64 0) = W9 at *
            obtain ⟨d0, d1, d2, d3, d4, d5, d6⟩ := hI.cells
            refine bodyPost_ret (v := .tuple #[.agg #[.string ⟨#[]⟩, .int .u8 0, .bool false, .bool false, .bool false, .int .i64 0, .int .i64 0], .string ⟨#[]⟩, .bool false]) (by simp [results, Tryz.results32, go_sem, d0, d1, d2, d3, d4, d5, d6]) rfl ⟨dirSaid_none HX.out, hI.2⟩
          | true =>
            rw [hv] at QK
            have HX := Lib.hid (HYV.out hv)
            clear hv HNV HYV HT
            go_upto_region 11 with (go_at_call 53; (with_reducible refine (QK.out).mono ?_); rintro e w8 ⟨rfl, hb8⟩)
            have HQ2 := Lib.hid (HQ.out.below hb8)
            clear b0 b1 b2 b3 b4 b5 b6 hb8 HQ
            obtain ⟨b0, b1, b2, b3, b4, b5, b6⟩ := HQ2.out.cells
            have f0 := HQ2.out.1.fz 0
            have f1 := HQ2.out.1.fz 1
            have f2 := HQ2.out.1.fz 2
            have f3 := HQ2.out.1.fz 3
            have f4 := HQ2.out.1.fz 4
            have f5 := HQ2.out.1.fz 5
            have f6 := HQ2.out.1.fz 6
            go_upto_region 12 with fail
            have HQ3 := Lib.hid (HQ2.out.set1 (x[0].toNat : Int))
            clear b0 b1 b2 b3 b4 b5 b6 f0 f1 f2 f3 f4 f5 f6 HQ2
            generalize w8.setCell ⟨w.heap.size, 1, none⟩ (.int .u8 (x[0].toNat : Int)) = w9 at *
            obtain ⟨b0, b1, b2, b3, b4, b5, b6⟩ := HQ3.out.cells
            have f0 := HQ3.out.1.fz 0
            have f1 := HQ3.out.1.fz 1
            have f2 := HQ3.out.1.fz 2
            have f3 := HQ3.out.1.fz 3
            have f4 := HQ3.out.1.fz 4
            have f5 := HQ3.out.1.fz 5
            have f6 := HQ3.out.1.fz 6
            go_region
            all_goals (
              go_wp2
              show bodyPost _ _ _ Exit.ret _ (st7 w9 w.heap.size (.string ⟨#[]⟩) (.int .u8 (x[0].toNat : Int)) (.bool mi) (.bool ze) (.bool pl) (.int .i64 (wd : Int)) (.int .i64 (pn : Int))).drew
              have hI : DQ w (x[0].toNat : Int) mi ze pl wd (pn : Int) (st7 w9 w.heap.size (.string ⟨#[]⟩) (.int .u8 (x[0].toNat : Int)) (.bool mi) (.bool ze) (.bool pl) (.int .i64 (wd : Int)) (.int .i64 (pn : Int))).drew := (st7_dq HQ3.out).drewN 1
              generalize (st7 w9 w.heap.size (.string ⟨#[]⟩) (.int .u8 (x[0].toNat : Int)) (.bool mi) (.bool ze) (.bool pl) (.int .i64 (wd : Int)) (.int .i64 (pn : Int))).drew = W9 at *
              obtain ⟨d0, d1, d2, d3, d4, d5, d6⟩ := hI.cells
              refine bodyPost_ret (v := .tuple #[.agg #[.string ⟨#[]⟩, .int .u8 (x[0].toNat : Int), .bool mi, .bool ze, .bool pl, .int .i64 (wd : Int), .int .i64 (pn : Int)], .string (x.extract 1 x.size), .bool true]) (by simp [results, Tryz.results32, go_sem, d0, d1, d2, d3, d4, d5, d6]) rfl ⟨dirSaid_some HX.out (bq_eta _).symm, hI.2⟩)
end Go.Proofs.YtbdcmnhfmkefdaaGreatDoor
