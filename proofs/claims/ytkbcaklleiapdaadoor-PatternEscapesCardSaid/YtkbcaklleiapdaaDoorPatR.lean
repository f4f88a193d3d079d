/- Contracts of layer 4: a pattern is read. -/
import Derived.Test.YtkbcaklleiapdaaDoorPatLf
import Derived.Test.YtkbcaklleiapdaaDoorPatQ
namespace Go.Proofs.YtkbcaklleiapdaaDoor
open Go.RowKit M4
set_option linter.unusedVariables false
theorem info_item : (Tryd.prog.info? 88).map (fun i => (i.zero, i.size, i.bytes)) = some (some (.agg #[.int .i64 0, .nilFunc, .int .u8 0, .int .u8 0, .int .u8 0, .int .i64 0]), 6, 32) := by kernel_rfl
/-- A pattern that was read, in memory. -/
structure Its (its : List Itm) (vs : List Value) (iv : Value) (w : World) : Prop where
  own : w.ownsRow 0 88 6 iv its.length (cellsI its vs)
  len : vs.length = its.length
  tv : ∀ (j : Nat) (it : Itm) (v : Value), its[j]? = some it → vs[j]? = some v → it.kind = 0 ∨ it.kind = 5 → ∃ lo hi, TV lo hi w v it.P
theorem RdInv.its {w : World} {R O b : Nat} {p : ByteArray} {start : Bool} {k : Nat} {sts opn : List Nat} {its : List Itm} {vs : List Value} {iv st op : Value} {wr : World} (h : RdInv w R O b p start k sts opn its vs iv st op wr) : Its its vs iv wr :=
  ⟨h.own, h.len, fun j it v h1 h2 h3 => by obtain ⟨lo, hi, h4, _⟩ := h.tv j it v h1 h2 h3; exact ⟨lo, hi, h4⟩⟩
theorem Its.below {its : List Itm} {vs : List Value} {iv : Value} {w W : World} (h : Its its vs iv w) (hb : Below w.heap.size w W) : Its its vs iv W :=
  ⟨(Ch.of_below (S := []) hb).own h.own (by simp), h.len, fun j it v h1 h2 h3 => by
    obtain ⟨lo, hi, h4⟩ := h.tv j it v h1 h2 h3
    obtain ⟨hhi, _⟩ := h4.ex
    exact ⟨lo, hi, h4.kept (Kp.below hb hhi)⟩⟩
/-- What reading a pattern leaves. -/
def ReadSaid (p : ByteArray) (e : Ending) (w' : World) : Prop := match readF p.data.toList with
  | .ok g => ∃ iv vs, e = .returned (.tuple #[.agg #[.bool g.start, .bool g.fin, iv, .int .i64 (g.caps : Int)], .int .i64 0]) ∧ Its g.its vs iv w'
  | .error c => e = .returned (.tuple #[.agg #[.bool false, .bool false, .slice none 0 0, .int .i64 0], .int .i64 (c : Int)])
/-- The beginning. -/
theorem RdInv.first {w w4 W : World} {p : ByteArray} {k : Nat} {start : Bool} (h4 : Rd (w.heap.size + 1 + 1) p k (.slice none 0 0) (.slice none 0 0) w4) (hk : k ≤ p.size)
    (hc : Ch [w.heap.size + 1 + 1] (((w.alloc (.cells #[.bool false, .bool false, .slice none 0 0, .int .i64 0] 49)).alloc (.cells #[.bool false, .bool false, .slice none 0 0, .int .i64 0] 49)).alloc (.cells #[.string p, .int .i64 0, .slice none 0 0, .slice none 0 0] 86)) w4)
    (hW : w4.setCell ⟨w.heap.size + 1, 0, none⟩ (.bool start) = W) : RdInv w w.heap.size (w.heap.size + 1) (w.heap.size + 1 + 1) p start k [] [] [] [] (.slice none 0 0) (.slice none 0 0) (.slice none 0 0) W := by
  have hcO : Ch [w.heap.size + 1] w4 W := by rw [← hW]; exact (Ch.refl _ w4).set _ 0 _ (Or.inl (by simp))
  have hz := hc.size
  simp at hz
  have ob0 : ∀ g, g ∉ ob (Value.slice none 0 0) := fun g hg => by rw [mem_ob] at hg; cases hg
  have hO : w4.heap[w.heap.size + 1]? = some (.cells #[.bool false, .bool false, .slice none 0 0, .int .i64 0] 49 (0, 0)) := by
    rw [hc.block _ (by simp) (by simp), Below.heap_alloc _ _ _ (by simp)]; exact blk_new4 _ _ _ (by simp)
  have hR : w4.heap[w.heap.size]? = some (.cells #[.bool false, .bool false, .slice none 0 0, .int .i64 0] 49 (0, 0)) := by
    rw [hc.block _ (by simp; omega) (by simp; omega), Below.heap_alloc _ _ _ (by simp; omega), Below.heap_alloc _ _ _ (by simp)]; exact blk_new4 _ _ _ rfl
  refine ⟨⟨h4.ch hcO (by simp), World.ownsRow_nil _ _ _ _, World.ownsRow_nil _ _ _ _, ob0 _, ob0 _, fun g hg => absurd hg (ob0 g)⟩, Rok.nil, ?_, ?_, World.ownsRow_nil _ _ _ _, rfl, fun j it v hj => by simp at hj, by omega, by omega, Nat.le_refl _, by have := hcO.size; omega, fun g hg => absurd hg (by simp [ob0]), fun g hg => absurd hg (ob0 g), ?_, hk⟩
  · rw [← hW]; exact set_same w4 _ 0 _ _ _ hO
  · rw [hcO.block _ (by omega) (by simp)]; exact hR
  · have h1 : Ch [] w w4 := Ch.new ((((Ch.refl [] w).alloc _).alloc _).alloc _) (show w.heap.size ≤ w.heap.size + 1 + 1 by omega) hc
    exact (Ch.new h1 (show w.heap.size ≤ w.heap.size + 1 by omega) hcO).below
theorem RdInv.itsW {w : World} {R O b : Nat} {p : ByteArray} {start : Bool} {k : Nat} {sts opn : List Nat} {its : List Itm} {vs : List Value} {iv st op : Value} {wr W : World} (h : RdInv w R O b p start k sts opn its vs iv st op wr) (hc : Ch [R, O] wr W) : Its its vs iv W := by
  have ne1 := h.ne1
  have ne2 := h.ne2
  refine ⟨hc.own h.own (fun g hg e => by have := h.st1 g (Or.inr (Or.inr hg)); simp at e; omega), h.len, fun j it v h1 h2 h3 => ?_⟩
  obtain ⟨lo, hi, h4, h5, h6, _⟩ := h.tv j it v h1 h2 h3
  obtain ⟨hhi, _⟩ := h4.ex
  exact ⟨lo, hi, h4.kept (hc.kp hhi (by intro g hg; simp at hg; rcases hg with e | e <;> (subst e; assumption)))⟩
theorem RdInv.bel {w : World} {R O b : Nat} {p : ByteArray} {start : Bool} {k : Nat} {sts opn : List Nat} {its : List Itm} {vs : List Value} {iv st op : Value} {wr W : World} {S : List Nat} (h : RdInv w R O b p start k sts opn its vs iv st op wr) (hc : Ch S wr W) (hS : ∀ g ∈ S, R ≤ g) : Below w.heap.size w W := by
  have hb := h.be
  have hn := h.new
  have hz := hb.size
  have hz2 := hc.size
  exact ⟨hc.os.trans hb.os, hc.tape.trans hb.tape, hc.output.trans hb.output, by omega, fun g hg => (hc.block g (by omega) (fun e => by have := hS g e; omega)).trans (hb.block g hg)⟩
theorem item_code {l : List UInt8} {k : Nat} {sts opn : List Nat} {e : Nat} (h : itemF l k sts opn = .error e) : e = 3 ∨ e = 4 := by
  have sg : ∀ e, singleF l k = .error e → e = 4 := fun e h => by
    unfold singleF at h
    split at h
    · cases h; rfl
    · cases h
  unfold itemF at h
  split at h
  · split at h
    · cases h; exact Or.inl rfl
    · split at h <;> cases h
  · split at h
    · split at h
      · cases h; exact Or.inr rfl
      · cases h
    · split at h
      · split at h
        · cases h; exact Or.inr rfl
        · cases h
      · split at h
        · split at h
          · split at h
            · cases h; exact Or.inr rfl
            · cases h
          · cases h; exact Or.inr rfl
        · split at h
          · split at h
            · cases h
            · cases h; exact Or.inr rfl
          · split at h
            · rename_i e' he
              cases h; exact Or.inr (sg _ he)
            · cases h
/-- A block with a program. -/
def Pgb (R : Nat) (cs : Array Value) (w : World) : Prop := w.heap[R]? = some (.cells cs 49 (0, 0))
theorem Pgb.cell {R : Nat} {cs : Array Value} {w : World} (h : Pgb R cs w) (i : Nat) : w.cell? ⟨R, i, none⟩ = cs[i]? := by unfold Pgb at h; simp [World.cell?, h]
theorem Pgb.fz {R : Nat} {cs : Array Value} {w : World} (h : Pgb R cs w) (i : Nat) : w.frozen? ⟨R, i, none⟩ = false := by unfold Pgb at h; simp [World.frozen?, h]
theorem Pgb.lt {R : Nat} {cs : Array Value} {w : World} (h : Pgb R cs w) : R < w.heap.size := (Array.getElem?_eq_some_iff.1 h).1
theorem Pgb.ch {R : Nat} {cs : Array Value} {w w' : World} {S : List Nat} (h : Pgb R cs w) (hg : Ch S w w') (hr : R ∉ S) : Pgb R cs w' := by
  have := h.lt; unfold Pgb at *; rw [hg.block R this hr]; exact h
theorem Pgb.set {R : Nat} {cs : Array Value} {w : World} (h : Pgb R cs w) (i : Nat) (v : Value) : Pgb R (cs.setIfInBounds i v) (w.setCell ⟨R, i, none⟩ v) := set_same w R i cs _ v h
/-- Four stores: a program is stored whole. -/
def st4 (W : World) (R : Nat) (a0 a1 a2 a3 : Value) : World := (((W.setCell ⟨R, 0, none⟩ a0).setCell ⟨R, 1, none⟩ a1).setCell ⟨R, 2, none⟩ a2).setCell ⟨R, 3, none⟩ a3
theorem st4_pg {W : World} {R : Nat} {c0 c1 c2 c3 a0 a1 a2 a3 : Value} (h : Pgb R #[c0, c1, c2, c3] W) : Pgb R #[a0, a1, a2, a3] (st4 W R a0 a1 a2 a3) := (((h.set 0 a0).set 1 a1).set 2 a2).set 3 a3
theorem st4_ch {W : World} {R : Nat} {a0 a1 a2 a3 : Value} : Ch [R] W (st4 W R a0 a1 a2 a3) := by
  have m : R ∈ [R] := by simp
  exact (((Ch.set (Ch.refl [R] W) R 0 a0 (Or.inl m)).set R 1 a1 (Or.inl m)).set R 2 a2 (Or.inl m)).set R 3 a3 (Or.inl m)

set_option maxHeartbeats 8000000 in
set_option maxRecDepth 100000 in
theorem read_any (p : ByteArray) (w : World) (hp : p.size ≤ 1000000) :
    Calls Tryd.prog 23 #[.string p] w fun e w' => ReadSaid p e w' ∧ Below w.heap.size w w' := by
  obtain ⟨i0, hi, jz0, jz1, jz2⟩ := info_parts info_item
  have hll : p.data.toList.length = p.size := Array.length_toList
  have hrd : Rd (w.heap.size + 1 + 1) p 0 (.slice none 0 0) (.slice none 0 0) (((w.alloc (.cells #[.bool false, .bool false, .slice none 0 0, .int .i64 0] 49)).alloc (.cells #[.bool false, .bool false, .slice none 0 0, .int .i64 0] 49)).alloc (.cells #[.string p, .int .i64 0, .slice none 0 0, .slice none 0 0] 86)) := by
    unfold Rd; exact blk_new4 _ _ _ (by simp)
  have S0 := skip4_lit _ p 0 _ _ 94 94 rfl _ hp (by omega) hrd
  obtain ⟨start, hst⟩ : ∃ s, decide (p.data.toList[0]? = some 94) = s := ⟨_, rfl⟩
  obtain ⟨k0, hk0⟩ : ∃ k, (if p.data.toList[0]? = some 94 then 0 + 1 else 0) = k := ⟨_, rfl⟩
  have hk0l : k0 ≤ p.size := by
    rw [← hk0]; split
    · have := getElem?_lt ‹_›; omega
    · omega
  have HRF : Hid (readF p.data.toList = loopF p.data.toList start (p.data.toList.length + 1) k0 [] [] []) := Lib.hid (by
    unfold readF; rw [hst, ← hk0])
  rw [hst, hk0] at S0
  have S1 := Lib.hid S0
  clear S0 hrd hst hk0
  go_enter Tryd.func23, Tryd.ntmps23
  go_upto_region 3 with fail
  have o0 : ((((w.alloc (.cells #[.bool false, .bool false, .slice none 0 0, .int .i64 0] 49)).alloc (.cells #[.bool false, .bool false, .slice none 0 0, .int .i64 0] 49)).alloc (.cells #[.string p, .int .i64 0, .slice none 0 0, .slice none 0 0] 86))).heap[w.heap.size + 1]? = some (.cells #[.bool false, .bool false, .slice none 0 0, .int .i64 0] 49 (0, 0)) := by
    rw [Below.heap_alloc _ _ _ (by simp)]; exact blk_new4 _ _ _ (by simp)
  have O0 := Lib.hid o0
  clear o0
  go_wp2_with (go_at_call 43; (with_reducible refine (S1.out).mono ?_); rintro e w4 ⟨rfl, h4, hg4⟩; have o4 := cells_ch O0.out (Ch.of_grown hg4 (S := [w.heap.size + 1 + 1]) (by simp)) (by simp); have oc0 := Joins.cell_of_block o4 0; have of0 := Joins.unfrozen_of_block o4 0; simp at oc0; have O4 := Lib.hid o4; clear o4)
  go_name_world W1 hW1
  have HI0 : Hid (RdInv w w.heap.size (w.heap.size + 1) (w.heap.size + 1 + 1) p start k0 [] [] [] [] (.slice none 0 0) (.slice none 0 0) (.slice none 0 0) W1) := Lib.hid (RdInv.first h4 hk0l (Ch.of_grown hg4 (by simp)) hW1)
  obtain ⟨R, hRe⟩ : ∃ R, w.heap.size = R := ⟨_, rfl⟩
  obtain ⟨O, hOe⟩ : ∃ O, R + 1 = O := ⟨_, rfl⟩
  obtain ⟨b, hbe⟩ : ∃ b, O + 1 = b := ⟨_, rfl⟩
  rw [hRe, hOe, hbe] at HI0
  (try simp only [hRe, hOe, hbe])
  have HRE := Lib.hid hRe
  clear h4 hg4 hW1 O0 O4 S1 oc0 of0 hRe hOe hbe
  go_loopw [7] (fun _ wr => ∃ (k : Nat) (sts opn : List Nat) (its : List Itm) (vs : List Value) (iv st op : Value), Hid (RdInv w R O b p start k sts opn its vs iv st op wr) ∧ Hid (its.length ≤ k) ∧ Hid (readF p.data.toList = loopF p.data.toList start (p.data.toList.length + 1) k sts opn its)) (fun _ wr => p.size - atOf4 b wr)
  case atStart => exact ⟨k0, _, _, _, _, _, _, _, HI0, Lib.hid (by simp), HRF⟩
  case round =>
    obtain ⟨k, sts, opn, its, vs, iv, st, op, HI, HLE, HF⟩ := hrel
    rename World => W0
    clear HI0
    have hkp := HI.out.kle
    have m0 := HI.out.rs.rd.c0
    have m1 := HI.out.rs.rd.c1
    have HAT := Lib.hid HI.out.rs.rd.atOf
    have hile := HLE.out
    by_cases hks : k < p.size
    · have hks' : (k : Int) < (p.size : Int) := by omega
      have hk0 : 0 ≤ (k : Int) := by omega
      have hge := get_some p k hks
      have hsz1 : IntKind.i64.wrap ((p.size : Int) - 1) = (p.size : Int) - 1 := i64w _ (by omega)
      by_cases hd : p.data.toList[k]? = some 36 ∧ k + 1 = p.data.toList.length
      · have HDN := Lib.hid hd
        have x36 : ((p[k].toNat : Int) == 36) = true := by
          have := hd.1; rw [hge] at this; rw [Option.some.inj this]; rfl
        have xl : ((k : Int) == (p.size : Int) - 1) = true := by rw [beq_iff_eq]; have := hd.2; omega
        clear hd hge
        obtain ⟨np, nc, hop⟩ := own_form HI.out.rs.o
        obtain ⟨sp, sc, hsp⟩ := own_form HI.out.rs.s
        obtain ⟨ip, ic, hip⟩ := own_form HI.out.own
        have m2 := HI.out.rs.rd.c2
        have m3 := HI.out.rs.rd.c3
        rw [hsp] at m2
        rw [hop] at m3
        have HRP0 : Hid (Pgb R #[.bool false, .bool false, .slice none 0 0, .int .i64 0] W0) := Lib.hid HI.out.res
        have HOP0 : Hid (Pgb O #[.bool start, .bool false, .slice ip its.length ic, .int .i64 0] W0) := Lib.hid (by have := HI.out.out; rw [hip] at this; exact this)
        have HIP := Lib.hid hip
        have HNE1 := Lib.hid HI.out.ne1
        have HNE2 := Lib.hid HI.out.ne2
        have hRO := HI.out.ne1
        have hOb := HI.out.ne2
        have HFE : Hid (readF p.data.toList = endF sts opn its start true) := Lib.hid (by rw [HF.out]; exact loopF_fin (by omega) HDN.out)
        clear hop hsp hip
        have oc0 := HOP0.out.cell 0
        have oc1 := HOP0.out.cell 1
        have oc2 := HOP0.out.cell 2
        have oc3 := HOP0.out.cell 3
        simp at oc0 oc1 oc2 oc3
        have of0 := HOP0.out.fz 0
        have of1 := HOP0.out.fz 1
        have of2 := HOP0.out.fz 2
        have of3 := HOP0.out.fz 3
        have rc0 := HRP0.out.cell 0
        have rc1 := HRP0.out.cell 1
        have rc2 := HRP0.out.cell 2
        have rc3 := HRP0.out.cell 3
        simp at rc0 rc1 rc2 rc3
        have rf0 := HRP0.out.fz 0
        have rf1 := HRP0.out.fz 1
        have rf2 := HRP0.out.fz 2
        have rf3 := HRP0.out.fz 3
        by_cases hopn : opn = []
        · have HFE2 : Hid (readF p.data.toList = .ok ⟨start, true, its, sts.length⟩) := Lib.hid (by rw [HFE.out]; unfold endF; rw [if_pos hopn])
          have hol : opn.length = 0 := by rw [hopn]; rfl
          rw [hol] at m3
          clear hopn hol
          go_wp2
          have HRP : Hid (Pgb R #[.bool false, .bool false, .slice none 0 0, .int .i64 0] ((W0.setCell ⟨O, 1, none⟩ (.bool true)).setCell ⟨O, 3, none⟩ (.int .i64 (sts.length : Int)))) := Lib.hid (HRP0.out.ch (((Ch.refl [O] W0).set O 1 _ (Or.inl (by simp))).set O 3 _ (Or.inl (by simp))) (by simp; omega))
          show bodyPost _ _ _ Exit.ret _ (st4 ((W0.setCell ⟨O, 1, none⟩ (.bool true)).setCell ⟨O, 3, none⟩ (.int .i64 (sts.length : Int))) R (.bool start) (.bool true) (.slice ip its.length ic) (.int .i64 (sts.length : Int)))
          have hI : Pgb R #[.bool start, .bool true, .slice ip its.length ic, .int .i64 (sts.length : Int)] (st4 ((W0.setCell ⟨O, 1, none⟩ (.bool true)).setCell ⟨O, 3, none⟩ (.int .i64 (sts.length : Int))) R (.bool start) (.bool true) (.slice ip its.length ic) (.int .i64 (sts.length : Int))) := st4_pg HRP.out
          have hS : Ch [R] ((W0.setCell ⟨O, 1, none⟩ (.bool true)).setCell ⟨O, 3, none⟩ (.int .i64 (sts.length : Int))) (st4 ((W0.setCell ⟨O, 1, none⟩ (.bool true)).setCell ⟨O, 3, none⟩ (.int .i64 (sts.length : Int))) R (.bool start) (.bool true) (.slice ip its.length ic) (.int .i64 (sts.length : Int))) := st4_ch
          have hC9 : Ch [R, O] W0 (st4 ((W0.setCell ⟨O, 1, none⟩ (.bool true)).setCell ⟨O, 3, none⟩ (.int .i64 (sts.length : Int))) R (.bool start) (.bool true) (.slice ip its.length ic) (.int .i64 (sts.length : Int))) := (((((Ch.refl [O] W0).set O 1 (.bool true) (Or.inl (by simp))).set O 3 (.int .i64 (sts.length : Int)) (Or.inl (by simp)))).mono (by simp)).trans (hS.mono (by simp))
          have d0 := hI.cell 0
          have d1 := hI.cell 1
          have d2 := hI.cell 2
          have d3 := hI.cell 3
          simp at d0 d1 d2 d3
          generalize (st4 ((W0.setCell ⟨O, 1, none⟩ (.bool true)).setCell ⟨O, 3, none⟩ (.int .i64 (sts.length : Int))) R (.bool start) (.bool true) (.slice ip its.length ic) (.int .i64 (sts.length : Int))) = W9 at *
          refine bodyPost_ret (v := .tuple #[.agg #[.bool start, .bool true, .slice ip its.length ic, .int .i64 (sts.length : Int)], .int .i64 0]) ?_ rfl ⟨(by unfold ReadSaid; rw [HFE2.out]; exact ⟨_, vs, rfl, by have := HI.out.itsW hC9; rw [HIP.out] at this; exact this⟩), HI.out.bel hC9 (by intro g hg; simp at hg; omega)⟩
          simp [results, Tryd.results23, go_sem, d0, d1, d2, d3]
        · have HFE2 : Hid (readF p.data.toList = .error 4) := Lib.hid (by rw [HFE.out]; unfold endF; rw [if_neg hopn])
          have hol : (0 : Int) < (opn.length : Int) := by have := List.length_pos_iff.2 hopn; omega
          have hol2 : 0 < opn.length := by omega
          clear hopn
          go_wp2
          have HRP : Hid (Pgb R #[.bool false, .bool false, .slice none 0 0, .int .i64 0] (W0.setCell ⟨O, 1, none⟩ (.bool true))) := Lib.hid (HRP0.out.ch ((Ch.refl [O] W0).set O 1 _ (Or.inl (by simp))) (by simp; omega))
          show bodyPost _ _ _ Exit.ret _ (st4 (W0.setCell ⟨O, 1, none⟩ (.bool true)) R (.bool false) (.bool false) (.slice none 0 0) (.int .i64 0))
          have hI : Pgb R #[.bool false, .bool false, .slice none 0 0, .int .i64 0] (st4 (W0.setCell ⟨O, 1, none⟩ (.bool true)) R (.bool false) (.bool false) (.slice none 0 0) (.int .i64 0)) := st4_pg HRP.out
          have hS : Ch [R] (W0.setCell ⟨O, 1, none⟩ (.bool true)) (st4 (W0.setCell ⟨O, 1, none⟩ (.bool true)) R (.bool false) (.bool false) (.slice none 0 0) (.int .i64 0)) := st4_ch
          have hC9 : Ch [R, O] W0 (st4 (W0.setCell ⟨O, 1, none⟩ (.bool true)) R (.bool false) (.bool false) (.slice none 0 0) (.int .i64 0)) := (((Ch.refl [O] W0).set O 1 (.bool true) (Or.inl (by simp))).mono (by simp)).trans (hS.mono (by simp))
          have d0 := hI.cell 0
          have d1 := hI.cell 1
          have d2 := hI.cell 2
          have d3 := hI.cell 3
          simp at d0 d1 d2 d3
          generalize (st4 (W0.setCell ⟨O, 1, none⟩ (.bool true)) R (.bool false) (.bool false) (.slice none 0 0) (.int .i64 0)) = W9 at *
          refine bodyPost_ret (v := .tuple #[.agg #[.bool false, .bool false, .slice none 0 0, .int .i64 0], .int .i64 4]) ?_ rfl ⟨(by unfold ReadSaid; rw [HFE2.out]; rfl), HI.out.bel hC9 (by intro g hg; simp at hg; omega)⟩
          simp [results, Tryd.results23, go_sem, d0, d1, d2, d3]
      · have HDN := Lib.hid hd
        have HG : Hid (((p[k].toNat : Int) == 36) = false ∨ (((p[k].toNat : Int) == 36) = true ∧ ((k : Int) == (p.size : Int) - 1) = false)) := Lib.hid (by
          cases hx : ((p[k].toNat : Int) == 36) with
          | false => exact Or.inl rfl
          | true =>
            right
            refine ⟨rfl, ?_⟩
            rw [beq_eq_false_iff_ne]
            intro e
            apply hd
            refine ⟨by rw [hge]; exact congrArg some (UInt8.toNat_inj.1 (by have := beq_iff_eq.1 hx; simp; omega)), by omega⟩)
        clear hd hge
        rcases HG.out with x36 | ⟨x36, xl⟩
        · cases hit : itemF p.data.toList k sts opn with
          | error c =>
            have I2 := Lib.hid ((item_any b p k st op sts opn its W0 hp hks HI.out.ok HI.out.rs).mono fun e w' (h : ItSaid b p _ st op W0 e w') => (by
              rw [hit] at h
              exact ⟨h.1, h.2⟩ : e = .returned (.tuple #[.agg #[.int .i64 0, .nilFunc, .int .u8 0, .int .u8 0, .int .u8 0, .int .i64 0], .int .i64 (c : Int)]) ∧ Ch (b :: (ob st ++ ob op)) W0 w'))
            have hc0 : ((c : Int) != 0) = true := by rw [bne_iff_ne]; have := item_code hit; omega
            have hc0n : (c != 0) = true := by rw [bne_iff_ne]; have := item_code hit; omega
            have HFE : Hid (readF p.data.toList = .error c) := Lib.hid (by rw [HF.out]; exact loopF_err (by omega) (by omega) HDN.out hit)
            have HRn : Hid (R ∉ b :: (ob st ++ ob op)) := Lib.hid (by
              have h1 := HI.out.ne1
              have h2 := HI.out.ne2
              intro e; simp at e
              rcases e with e | e | e
              · omega
              · have := HI.out.st1 R (Or.inl e); omega
              · have := HI.out.st1 R (Or.inr (Or.inl e)); omega)
            have HSn : Hid (∀ g ∈ b :: (ob st ++ ob op), R ≤ g) := Lib.hid (by
              have h1 := HI.out.ne1
              have h2 := HI.out.ne2
              intro g e; simp at e
              rcases e with e | e | e
              · omega
              · have := HI.out.st1 g (Or.inl e); omega
              · have := HI.out.st1 g (Or.inr (Or.inl e)); omega)
            clear hit
            go_upto_region 9 with (go_at_call 44; (with_reducible refine (I2.out).mono ?_); rintro e w2 ⟨rfl, hc2⟩)
            go_name_world V hV
            have hcV : Ch (b :: (ob st ++ ob op)) W0 V := by rw [← hV]; exact hc2.alloc _
            have HCV := Lib.hid hcV
            have HRP : Hid (Pgb R #[.bool false, .bool false, .slice none 0 0, .int .i64 0] V) := Lib.hid ((show Pgb R _ W0 from HI.out.res).ch hcV HRn.out)
            clear hV hcV hc2
            have rc0 := HRP.out.cell 0
            have rc1 := HRP.out.cell 1
            have rc2 := HRP.out.cell 2
            have rc3 := HRP.out.cell 3
            simp at rc0 rc1 rc2 rc3
            have rf0 := HRP.out.fz 0
            have rf1 := HRP.out.fz 1
            have rf2 := HRP.out.fz 2
            have rf3 := HRP.out.fz 3
            go_wp2
            show bodyPost _ _ _ Exit.ret _ (st4 V R (.bool false) (.bool false) (.slice none 0 0) (.int .i64 0))
            have hI : Pgb R #[.bool false, .bool false, .slice none 0 0, .int .i64 0] (st4 V R (.bool false) (.bool false) (.slice none 0 0) (.int .i64 0)) := st4_pg HRP.out
            have hS : Ch [R] V (st4 V R (.bool false) (.bool false) (.slice none 0 0) (.int .i64 0)) := st4_ch
            have hC9 : Ch (R :: b :: (ob st ++ ob op)) W0 (st4 V R (.bool false) (.bool false) (.slice none 0 0) (.int .i64 0)) := (HCV.out.mono (by intro g hg; simp at hg ⊢; rcases hg with e | e | e <;> simp [e])).trans (hS.mono (by simp))
            have d0 := hI.cell 0
            have d1 := hI.cell 1
            have d2 := hI.cell 2
            have d3 := hI.cell 3
            simp at d0 d1 d2 d3
            generalize (st4 V R (.bool false) (.bool false) (.slice none 0 0) (.int .i64 0)) = W9 at *
            refine bodyPost_ret (v := .tuple #[.agg #[.bool false, .bool false, .slice none 0 0, .int .i64 0], .int .i64 (c : Int)]) ?_ rfl ⟨(by unfold ReadSaid; rw [HFE.out]), HI.out.bel hC9 (by intro g hg; simp at hg; rcases hg with e | e | e | e; omega; exact HSn.out g (by simp [e]); exact HSn.out g (by simp [e]); exact HSn.out g (by simp [e]))⟩
            simp [results, Tryd.results23, go_sem, d0, d1, d2, d3]
          | ok r =>
            by_cases hkd : r.1.kind = 0 ∨ r.1.kind = 5
            · skip
              have I2 := Lib.hid ((item_any b p k st op sts opn its W0 hp hks HI.out.ok HI.out.rs).mono fun e w' (h : ItSaid b p _ st op W0 e w') => (by
                rw [hit] at h
                obtain ⟨⟨v, st', op', h1, h2, h3, h4, h5⟩, h6⟩ := h
                exact ⟨v, st', op', h1, h2, h3, h4, h5, h6⟩ : ∃ v st' op', e = .returned (.tuple #[.agg (itC r.1 v), .int .i64 0]) ∧ RdS b p r.2.1 r.2.2.1 r.2.2.2 st' op' w' ∧ NewO W0 st st' ∧ NewO W0 op op' ∧ TVi W0 w' r.1 v st st' op op' ∧ Ch (b :: (ob st ++ ob op)) W0 w'))
              have HIT := Lib.hid hit
              have HKD := Lib.hid hkd
              have HFN : Hid (readF p.data.toList = loopF p.data.toList start (p.data.toList.length + 1) r.2.1 r.2.2.1 r.2.2.2 (its ++ [r.1])) := Lib.hid (by rw [HF.out]; exact loopF_step (by omega) (by omega) HDN.out hit)
              have HLN : Hid ((its ++ [r.1]).length ≤ r.2.1) := Lib.hid (by have := (item_lt hit).1; rw [List.length_append, List.length_singleton]; omega)
              have HLP : Hid (k < r.2.1 ∧ r.2.1 ≤ p.size) := Lib.hid (by have := item_lt hit; omega)
              obtain ⟨ip, ic, hip⟩ := own_form HI.out.own
              have HIP := Lib.hid hip
              have HOn : Hid (O ∉ b :: (ob st ++ ob op)) := Lib.hid (by
                have h2 := HI.out.ne2
                intro e; simp at e
                rcases e with e | e | e
                · omega
                · have := HI.out.st1 O (Or.inl e); omega
                · have := HI.out.st1 O (Or.inr (Or.inl e)); omega)
              have HIn : Hid (∀ g ∈ ob iv, g ∉ b :: (ob st ++ ob op)) := Lib.hid (by
                intro g hg e; simp at e
                rcases e with e | e | e
                · have := HI.out.st1 g (Or.inr (Or.inr hg)); omega
                · exact (HI.out.dis g hg).1 e
                · exact (HI.out.dis g hg).2 e)
              clear hit hip
              go_upto_region 10 with (go_at_call 44; (with_reducible refine (I2.out).mono ?_); rintro e w2 ⟨v, st', op', he, hrs, n1, n2, ht, hc2⟩; obtain ⟨_, F, fst, caps, hv, _⟩ := (ht.tv hkd).ex; subst hv; unfold itC at he; subst he; have HRS := Lib.hid hrs; have HN1 := Lib.hid n1; have HN2 := Lib.hid n2; have HT := Lib.hid ht; have HC2 := Lib.hid hc2; clear hrs n1 n2 ht hc2)
              obtain ⟨X, hX⟩ : ∃ X, w2.heap.size = X := ⟨_, rfl⟩
              (try simp only [hX])
              have HX := Lib.hid hX
              go_name_world V hV
              have ha2 : Ch [] w2 V := by rw [← hV]; exact (Ch.refl [] w2).alloc _
              have hitb : Itb X #[.int .i64 (r.1.kind : Int), .func (.func F) fst caps, .int .u8 (r.1.q.toNat : Int), .int .u8 (r.1.x.toNat : Int), .int .u8 (r.1.y.toNat : Int), .int .i64 (r.1.cap : Int)] V := by rw [← hV]; exact itb_new w2 _ _ hX.symm
              have HA2 := Lib.hid ha2
              have hcV : Ch (b :: (ob st ++ ob op)) W0 V := HC2.out.trans (ha2.mono (by simp))
              have HCV := Lib.hid hcV
              have HPO : Hid (Pgb O #[.bool start, .bool false, .slice ip its.length ic, .int .i64 0] V) := Lib.hid (by
                have := (show Pgb O _ W0 from HI.out.out).ch hcV HOn.out
                rw [HIP.out] at this; exact this)
              have HOWN : Hid (V.ownsRow 0 88 6 (.slice ip its.length ic) its.length (cellsI its vs)) := Lib.hid (by rw [← HIP.out]; exact hcV.own HI.out.own HIn.out)
              have i0c := hitb.cell 0
              have i1c := hitb.cell 1
              have i2c := hitb.cell 2
              have i3c := hitb.cell 3
              have i4c := hitb.cell 4
              have i5c := hitb.cell 5
              simp at i0c i1c i2c i3c i4c i5c
              have HITB := Lib.hid hitb
              clear hV ha2 hitb hcV hX
              have oc0 := HPO.out.cell 0
              have oc1 := HPO.out.cell 1
              have oc2 := HPO.out.cell 2
              have oc3 := HPO.out.cell 3
              simp at oc0 oc1 oc2 oc3
              have of0 := HPO.out.fz 0
              have of1 := HPO.out.fz 1
              have of2 := HPO.out.fz 2
              have of3 := HPO.out.fz 3
              go_wp2_with (at_builtin; refine wpList_append_own_at _ rfl _ _ 47 rfl 0 88 i0 (.agg #[.int .i64 0, .nilFunc, .int .u8 0, .int .u8 0, .int .u8 0, .int .i64 0]) 6 32 Tryd.underlying47 hi jz0 jz1 jz2 rfl (by decide) _ _ _ rfl (HOWN.out.alloc _) ⟨V.heap.size, 0, none⟩ 1 1 [.int .i64 (r.1.kind : Int), .func (.func F) fst caps, .int .u8 (r.1.q.toNat : Int), .int .u8 (r.1.x.toNat : Int), .int .u8 (r.1.y.toNat : Int), .int .i64 (r.1.cap : Int)] rfl rfl (by intro j u' hj; match j, hj with | 0, hj => (simp at hj; subst hj; simp [Addr.add]) | 1, hj => (simp at hj; subst hj; simp [Addr.add]) | 2, hj => (simp at hj; subst hj; simp [Addr.add]) | 3, hj => (simp at hj; subst hj; simp [Addr.add]) | 4, hj => (simp at hj; subst hj; simp [Addr.add]) | 5, hj => (simp at hj; subst hj; simp [Addr.add])) (by intro u' hu'; simp at hu'; rcases hu' with rfl | rfl | rfl | rfl | rfl | rfl <;> rfl) (by unfold maxLen; omega) (by omega) (by omega) ?_)
              intro v3 w3 ho3 hg3 _ hat3
              obtain ⟨p3, c3, hv3⟩ := own_form ho3
              subst hv3
              have hob : ∀ g, (Value.slice ip its.length ic).ownBlock = some g → g ∈ ob iv := fun g e => mem_ob.2 (by rw [HIP.out]; exact e)
              have hn3 : ∀ g ∈ ob (Value.slice p3 (its.length + 1) c3), g ∈ ob iv ∨ V.heap.size ≤ g := fun g hg => by
                rw [mem_ob] at hg
                rcases hat3 with h | h
                · left; exact hob g (by rw [← h]; exact hg)
                · right; rw [h] at hg; cases hg; simp
              have hg4 : Ch (ob iv) V w3 := Ch.trans ((Ch.refl _ V).alloc _) (Ch.of_grown hg3 hob)
              have HPO3 : Hid (Pgb O #[.bool start, .bool false, .slice ip its.length ic, .int .i64 0] w3) := Lib.hid (HPO.out.ch hg4 (fun e => by have := HI.out.st1 O (Or.inr (Or.inr e)); have := HI.out.ne2; omega))
              have HNX := Lib.hid (fun W hW => HI.out.next HIT.out HRS.out HN1.out HN2.out HT.out HC2.out HA2.out hg4 ho3 hn3 (W := W) hW)
              clear hob hn3 hg4 ho3 hg3 hat3 oc0 oc1 oc2 oc3 of0 of1 of2 of3 i0c i1c i2c i3c i4c i5c
              have oc0 := HPO3.out.cell 0
              have oc1 := HPO3.out.cell 1
              have oc2 := HPO3.out.cell 2
              have oc3 := HPO3.out.cell 3
              simp at oc0 oc1 oc2 oc3
              have of0 := HPO3.out.fz 0
              have of1 := HPO3.out.fz 1
              have of2 := HPO3.out.fz 2
              have of3 := HPO3.out.fz 3
              go_wp2
              have HIW := Lib.hid (HNX.out _ rfl)
              go_roundw
              case rel => exact ⟨_, _, _, _, _, _, _, _, HIW, HLN, HFN⟩
              case measure => rw [HIW.out.rs.rd.atOf, HAT.out]; have := HLP.out; omega
            · skip
              have I2 := Lib.hid ((item_any b p k st op sts opn its W0 hp hks HI.out.ok HI.out.rs).mono fun e w' (h : ItSaid b p _ st op W0 e w') => (by
                rw [hit] at h
                obtain ⟨⟨v, st', op', h1, h2, h3, h4, h5⟩, h6⟩ := h
                exact ⟨v, st', op', h1, h2, h3, h4, h5, h6⟩ : ∃ v st' op', e = .returned (.tuple #[.agg (itC r.1 v), .int .i64 0]) ∧ RdS b p r.2.1 r.2.2.1 r.2.2.2 st' op' w' ∧ NewO W0 st st' ∧ NewO W0 op op' ∧ TVi W0 w' r.1 v st st' op op' ∧ Ch (b :: (ob st ++ ob op)) W0 w'))
              have HIT := Lib.hid hit
              have HKD := Lib.hid hkd
              have HFN : Hid (readF p.data.toList = loopF p.data.toList start (p.data.toList.length + 1) r.2.1 r.2.2.1 r.2.2.2 (its ++ [r.1])) := Lib.hid (by rw [HF.out]; exact loopF_step (by omega) (by omega) HDN.out hit)
              have HLN : Hid ((its ++ [r.1]).length ≤ r.2.1) := Lib.hid (by have := (item_lt hit).1; rw [List.length_append, List.length_singleton]; omega)
              have HLP : Hid (k < r.2.1 ∧ r.2.1 ≤ p.size) := Lib.hid (by have := item_lt hit; omega)
              obtain ⟨ip, ic, hip⟩ := own_form HI.out.own
              have HIP := Lib.hid hip
              have HOn : Hid (O ∉ b :: (ob st ++ ob op)) := Lib.hid (by
                have h2 := HI.out.ne2
                intro e; simp at e
                rcases e with e | e | e
                · omega
                · have := HI.out.st1 O (Or.inl e); omega
                · have := HI.out.st1 O (Or.inr (Or.inl e)); omega)
              have HIn : Hid (∀ g ∈ ob iv, g ∉ b :: (ob st ++ ob op)) := Lib.hid (by
                intro g hg e; simp at e
                rcases e with e | e | e
                · have := HI.out.st1 g (Or.inr (Or.inr hg)); omega
                · exact (HI.out.dis g hg).1 e
                · exact (HI.out.dis g hg).2 e)
              clear hit hip
              go_upto_region 10 with (go_at_call 44; (with_reducible refine (I2.out).mono ?_); rintro e w2 ⟨v, st', op', he, hrs, n1, n2, ht, hc2⟩; have hv := ht.nil hkd; subst hv; unfold itC at he; subst he; have HRS := Lib.hid hrs; have HN1 := Lib.hid n1; have HN2 := Lib.hid n2; have HT := Lib.hid ht; have HC2 := Lib.hid hc2; clear hrs n1 n2 ht hc2)
              obtain ⟨X, hX⟩ : ∃ X, w2.heap.size = X := ⟨_, rfl⟩
              (try simp only [hX])
              have HX := Lib.hid hX
              go_name_world V hV
              have ha2 : Ch [] w2 V := by rw [← hV]; exact (Ch.refl [] w2).alloc _
              have hitb : Itb X #[.int .i64 (r.1.kind : Int), .nilFunc, .int .u8 (r.1.q.toNat : Int), .int .u8 (r.1.x.toNat : Int), .int .u8 (r.1.y.toNat : Int), .int .i64 (r.1.cap : Int)] V := by rw [← hV]; exact itb_new w2 _ _ hX.symm
              have HA2 := Lib.hid ha2
              have hcV : Ch (b :: (ob st ++ ob op)) W0 V := HC2.out.trans (ha2.mono (by simp))
              have HCV := Lib.hid hcV
              have HPO : Hid (Pgb O #[.bool start, .bool false, .slice ip its.length ic, .int .i64 0] V) := Lib.hid (by
                have := (show Pgb O _ W0 from HI.out.out).ch hcV HOn.out
                rw [HIP.out] at this; exact this)
              have HOWN : Hid (V.ownsRow 0 88 6 (.slice ip its.length ic) its.length (cellsI its vs)) := Lib.hid (by rw [← HIP.out]; exact hcV.own HI.out.own HIn.out)
              have i0c := hitb.cell 0
              have i1c := hitb.cell 1
              have i2c := hitb.cell 2
              have i3c := hitb.cell 3
              have i4c := hitb.cell 4
              have i5c := hitb.cell 5
              simp at i0c i1c i2c i3c i4c i5c
              have HITB := Lib.hid hitb
              clear hV ha2 hitb hcV hX
              have oc0 := HPO.out.cell 0
              have oc1 := HPO.out.cell 1
              have oc2 := HPO.out.cell 2
              have oc3 := HPO.out.cell 3
              simp at oc0 oc1 oc2 oc3
              have of0 := HPO.out.fz 0
              have of1 := HPO.out.fz 1
              have of2 := HPO.out.fz 2
              have of3 := HPO.out.fz 3
              go_wp2_with (at_builtin; refine wpList_append_own_at _ rfl _ _ 47 rfl 0 88 i0 (.agg #[.int .i64 0, .nilFunc, .int .u8 0, .int .u8 0, .int .u8 0, .int .i64 0]) 6 32 Tryd.underlying47 hi jz0 jz1 jz2 rfl (by decide) _ _ _ rfl (HOWN.out.alloc _) ⟨V.heap.size, 0, none⟩ 1 1 [.int .i64 (r.1.kind : Int), .nilFunc, .int .u8 (r.1.q.toNat : Int), .int .u8 (r.1.x.toNat : Int), .int .u8 (r.1.y.toNat : Int), .int .i64 (r.1.cap : Int)] rfl rfl (by intro j u' hj; match j, hj with | 0, hj => (simp at hj; subst hj; simp [Addr.add]) | 1, hj => (simp at hj; subst hj; simp [Addr.add]) | 2, hj => (simp at hj; subst hj; simp [Addr.add]) | 3, hj => (simp at hj; subst hj; simp [Addr.add]) | 4, hj => (simp at hj; subst hj; simp [Addr.add]) | 5, hj => (simp at hj; subst hj; simp [Addr.add])) (by intro u' hu'; simp at hu'; rcases hu' with rfl | rfl | rfl | rfl | rfl | rfl <;> rfl) (by unfold maxLen; omega) (by omega) (by omega) ?_)
              intro v3 w3 ho3 hg3 _ hat3
              obtain ⟨p3, c3, hv3⟩ := own_form ho3
              subst hv3
              have hob : ∀ g, (Value.slice ip its.length ic).ownBlock = some g → g ∈ ob iv := fun g e => mem_ob.2 (by rw [HIP.out]; exact e)
              have hn3 : ∀ g ∈ ob (Value.slice p3 (its.length + 1) c3), g ∈ ob iv ∨ V.heap.size ≤ g := fun g hg => by
                rw [mem_ob] at hg
                rcases hat3 with h | h
                · left; exact hob g (by rw [← h]; exact hg)
                · right; rw [h] at hg; cases hg; simp
              have hg4 : Ch (ob iv) V w3 := Ch.trans ((Ch.refl _ V).alloc _) (Ch.of_grown hg3 hob)
              have HPO3 : Hid (Pgb O #[.bool start, .bool false, .slice ip its.length ic, .int .i64 0] w3) := Lib.hid (HPO.out.ch hg4 (fun e => by have := HI.out.st1 O (Or.inr (Or.inr e)); have := HI.out.ne2; omega))
              have HNX := Lib.hid (fun W hW => HI.out.next HIT.out HRS.out HN1.out HN2.out HT.out HC2.out HA2.out hg4 ho3 hn3 (W := W) hW)
              clear hob hn3 hg4 ho3 hg3 hat3 oc0 oc1 oc2 oc3 of0 of1 of2 of3 i0c i1c i2c i3c i4c i5c
              have oc0 := HPO3.out.cell 0
              have oc1 := HPO3.out.cell 1
              have oc2 := HPO3.out.cell 2
              have oc3 := HPO3.out.cell 3
              simp at oc0 oc1 oc2 oc3
              have of0 := HPO3.out.fz 0
              have of1 := HPO3.out.fz 1
              have of2 := HPO3.out.fz 2
              have of3 := HPO3.out.fz 3
              go_wp2
              have HIW := Lib.hid (HNX.out _ rfl)
              go_roundw
              case rel => exact ⟨_, _, _, _, _, _, _, _, HIW, HLN, HFN⟩
              case measure => rw [HIW.out.rs.rd.atOf, HAT.out]; have := HLP.out; omega
        · cases hit : itemF p.data.toList k sts opn with
          | error c =>
            have I2 := Lib.hid ((item_any b p k st op sts opn its W0 hp hks HI.out.ok HI.out.rs).mono fun e w' (h : ItSaid b p _ st op W0 e w') => (by
              rw [hit] at h
              exact ⟨h.1, h.2⟩ : e = .returned (.tuple #[.agg #[.int .i64 0, .nilFunc, .int .u8 0, .int .u8 0, .int .u8 0, .int .i64 0], .int .i64 (c : Int)]) ∧ Ch (b :: (ob st ++ ob op)) W0 w'))
            have hc0 : ((c : Int) != 0) = true := by rw [bne_iff_ne]; have := item_code hit; omega
            have hc0n : (c != 0) = true := by rw [bne_iff_ne]; have := item_code hit; omega
            have HFE : Hid (readF p.data.toList = .error c) := Lib.hid (by rw [HF.out]; exact loopF_err (by omega) (by omega) HDN.out hit)
            have HRn : Hid (R ∉ b :: (ob st ++ ob op)) := Lib.hid (by
              have h1 := HI.out.ne1
              have h2 := HI.out.ne2
              intro e; simp at e
              rcases e with e | e | e
              · omega
              · have := HI.out.st1 R (Or.inl e); omega
              · have := HI.out.st1 R (Or.inr (Or.inl e)); omega)
            have HSn : Hid (∀ g ∈ b :: (ob st ++ ob op), R ≤ g) := Lib.hid (by
              have h1 := HI.out.ne1
              have h2 := HI.out.ne2
              intro g e; simp at e
              rcases e with e | e | e
              · omega
              · have := HI.out.st1 g (Or.inl e); omega
              · have := HI.out.st1 g (Or.inr (Or.inl e)); omega)
            clear hit
            go_upto_region 9 with (go_at_call 44; (with_reducible refine (I2.out).mono ?_); rintro e w2 ⟨rfl, hc2⟩)
            go_name_world V hV
            have hcV : Ch (b :: (ob st ++ ob op)) W0 V := by rw [← hV]; exact hc2.alloc _
            have HCV := Lib.hid hcV
            have HRP : Hid (Pgb R #[.bool false, .bool false, .slice none 0 0, .int .i64 0] V) := Lib.hid ((show Pgb R _ W0 from HI.out.res).ch hcV HRn.out)
            clear hV hcV hc2
            have rc0 := HRP.out.cell 0
            have rc1 := HRP.out.cell 1
            have rc2 := HRP.out.cell 2
            have rc3 := HRP.out.cell 3
            simp at rc0 rc1 rc2 rc3
            have rf0 := HRP.out.fz 0
            have rf1 := HRP.out.fz 1
            have rf2 := HRP.out.fz 2
            have rf3 := HRP.out.fz 3
            go_wp2
            show bodyPost _ _ _ Exit.ret _ (st4 V R (.bool false) (.bool false) (.slice none 0 0) (.int .i64 0))
            have hI : Pgb R #[.bool false, .bool false, .slice none 0 0, .int .i64 0] (st4 V R (.bool false) (.bool false) (.slice none 0 0) (.int .i64 0)) := st4_pg HRP.out
            have hS : Ch [R] V (st4 V R (.bool false) (.bool false) (.slice none 0 0) (.int .i64 0)) := st4_ch
            have hC9 : Ch (R :: b :: (ob st ++ ob op)) W0 (st4 V R (.bool false) (.bool false) (.slice none 0 0) (.int .i64 0)) := (HCV.out.mono (by intro g hg; simp at hg ⊢; rcases hg with e | e | e <;> simp [e])).trans (hS.mono (by simp))
            have d0 := hI.cell 0
            have d1 := hI.cell 1
            have d2 := hI.cell 2
            have d3 := hI.cell 3
            simp at d0 d1 d2 d3
            generalize (st4 V R (.bool false) (.bool false) (.slice none 0 0) (.int .i64 0)) = W9 at *
            refine bodyPost_ret (v := .tuple #[.agg #[.bool false, .bool false, .slice none 0 0, .int .i64 0], .int .i64 (c : Int)]) ?_ rfl ⟨(by unfold ReadSaid; rw [HFE.out]), HI.out.bel hC9 (by intro g hg; simp at hg; rcases hg with e | e | e | e; omega; exact HSn.out g (by simp [e]); exact HSn.out g (by simp [e]); exact HSn.out g (by simp [e]))⟩
            simp [results, Tryd.results23, go_sem, d0, d1, d2, d3]
          | ok r =>
            by_cases hkd : r.1.kind = 0 ∨ r.1.kind = 5
            · skip
              have I2 := Lib.hid ((item_any b p k st op sts opn its W0 hp hks HI.out.ok HI.out.rs).mono fun e w' (h : ItSaid b p _ st op W0 e w') => (by
                rw [hit] at h
                obtain ⟨⟨v, st', op', h1, h2, h3, h4, h5⟩, h6⟩ := h
                exact ⟨v, st', op', h1, h2, h3, h4, h5, h6⟩ : ∃ v st' op', e = .returned (.tuple #[.agg (itC r.1 v), .int .i64 0]) ∧ RdS b p r.2.1 r.2.2.1 r.2.2.2 st' op' w' ∧ NewO W0 st st' ∧ NewO W0 op op' ∧ TVi W0 w' r.1 v st st' op op' ∧ Ch (b :: (ob st ++ ob op)) W0 w'))
              have HIT := Lib.hid hit
              have HKD := Lib.hid hkd
              have HFN : Hid (readF p.data.toList = loopF p.data.toList start (p.data.toList.length + 1) r.2.1 r.2.2.1 r.2.2.2 (its ++ [r.1])) := Lib.hid (by rw [HF.out]; exact loopF_step (by omega) (by omega) HDN.out hit)
              have HLN : Hid ((its ++ [r.1]).length ≤ r.2.1) := Lib.hid (by have := (item_lt hit).1; rw [List.length_append, List.length_singleton]; omega)
              have HLP : Hid (k < r.2.1 ∧ r.2.1 ≤ p.size) := Lib.hid (by have := item_lt hit; omega)
              obtain ⟨ip, ic, hip⟩ := own_form HI.out.own
              have HIP := Lib.hid hip
              have HOn : Hid (O ∉ b :: (ob st ++ ob op)) := Lib.hid (by
                have h2 := HI.out.ne2
                intro e; simp at e
                rcases e with e | e | e
                · omega
                · have := HI.out.st1 O (Or.inl e); omega
                · have := HI.out.st1 O (Or.inr (Or.inl e)); omega)
              have HIn : Hid (∀ g ∈ ob iv, g ∉ b :: (ob st ++ ob op)) := Lib.hid (by
                intro g hg e; simp at e
                rcases e with e | e | e
                · have := HI.out.st1 g (Or.inr (Or.inr hg)); omega
                · exact (HI.out.dis g hg).1 e
                · exact (HI.out.dis g hg).2 e)
              clear hit hip
              go_upto_region 10 with (go_at_call 44; (with_reducible refine (I2.out).mono ?_); rintro e w2 ⟨v, st', op', he, hrs, n1, n2, ht, hc2⟩; obtain ⟨_, F, fst, caps, hv, _⟩ := (ht.tv hkd).ex; subst hv; unfold itC at he; subst he; have HRS := Lib.hid hrs; have HN1 := Lib.hid n1; have HN2 := Lib.hid n2; have HT := Lib.hid ht; have HC2 := Lib.hid hc2; clear hrs n1 n2 ht hc2)
              obtain ⟨X, hX⟩ : ∃ X, w2.heap.size = X := ⟨_, rfl⟩
              (try simp only [hX])
              have HX := Lib.hid hX
              go_name_world V hV
              have ha2 : Ch [] w2 V := by rw [← hV]; exact (Ch.refl [] w2).alloc _
              have hitb : Itb X #[.int .i64 (r.1.kind : Int), .func (.func F) fst caps, .int .u8 (r.1.q.toNat : Int), .int .u8 (r.1.x.toNat : Int), .int .u8 (r.1.y.toNat : Int), .int .i64 (r.1.cap : Int)] V := by rw [← hV]; exact itb_new w2 _ _ hX.symm
              have HA2 := Lib.hid ha2
              have hcV : Ch (b :: (ob st ++ ob op)) W0 V := HC2.out.trans (ha2.mono (by simp))
              have HCV := Lib.hid hcV
              have HPO : Hid (Pgb O #[.bool start, .bool false, .slice ip its.length ic, .int .i64 0] V) := Lib.hid (by
                have := (show Pgb O _ W0 from HI.out.out).ch hcV HOn.out
                rw [HIP.out] at this; exact this)
              have HOWN : Hid (V.ownsRow 0 88 6 (.slice ip its.length ic) its.length (cellsI its vs)) := Lib.hid (by rw [← HIP.out]; exact hcV.own HI.out.own HIn.out)
              have i0c := hitb.cell 0
              have i1c := hitb.cell 1
              have i2c := hitb.cell 2
              have i3c := hitb.cell 3
              have i4c := hitb.cell 4
              have i5c := hitb.cell 5
              simp at i0c i1c i2c i3c i4c i5c
              have HITB := Lib.hid hitb
              clear hV ha2 hitb hcV hX
              have oc0 := HPO.out.cell 0
              have oc1 := HPO.out.cell 1
              have oc2 := HPO.out.cell 2
              have oc3 := HPO.out.cell 3
              simp at oc0 oc1 oc2 oc3
              have of0 := HPO.out.fz 0
              have of1 := HPO.out.fz 1
              have of2 := HPO.out.fz 2
              have of3 := HPO.out.fz 3
              go_wp2_with (at_builtin; refine wpList_append_own_at _ rfl _ _ 47 rfl 0 88 i0 (.agg #[.int .i64 0, .nilFunc, .int .u8 0, .int .u8 0, .int .u8 0, .int .i64 0]) 6 32 Tryd.underlying47 hi jz0 jz1 jz2 rfl (by decide) _ _ _ rfl (HOWN.out.alloc _) ⟨V.heap.size, 0, none⟩ 1 1 [.int .i64 (r.1.kind : Int), .func (.func F) fst caps, .int .u8 (r.1.q.toNat : Int), .int .u8 (r.1.x.toNat : Int), .int .u8 (r.1.y.toNat : Int), .int .i64 (r.1.cap : Int)] rfl rfl (by intro j u' hj; match j, hj with | 0, hj => (simp at hj; subst hj; simp [Addr.add]) | 1, hj => (simp at hj; subst hj; simp [Addr.add]) | 2, hj => (simp at hj; subst hj; simp [Addr.add]) | 3, hj => (simp at hj; subst hj; simp [Addr.add]) | 4, hj => (simp at hj; subst hj; simp [Addr.add]) | 5, hj => (simp at hj; subst hj; simp [Addr.add])) (by intro u' hu'; simp at hu'; rcases hu' with rfl | rfl | rfl | rfl | rfl | rfl <;> rfl) (by unfold maxLen; omega) (by omega) (by omega) ?_)
              intro v3 w3 ho3 hg3 _ hat3
              obtain ⟨p3, c3, hv3⟩ := own_form ho3
              subst hv3
              have hob : ∀ g, (Value.slice ip its.length ic).ownBlock = some g → g ∈ ob iv := fun g e => mem_ob.2 (by rw [HIP.out]; exact e)
              have hn3 : ∀ g ∈ ob (Value.slice p3 (its.length + 1) c3), g ∈ ob iv ∨ V.heap.size ≤ g := fun g hg => by
                rw [mem_ob] at hg
                rcases hat3 with h | h
                · left; exact hob g (by rw [← h]; exact hg)
                · right; rw [h] at hg; cases hg; simp
              have hg4 : Ch (ob iv) V w3 := Ch.trans ((Ch.refl _ V).alloc _) (Ch.of_grown hg3 hob)
              have HPO3 : Hid (Pgb O #[.bool start, .bool false, .slice ip its.length ic, .int .i64 0] w3) := Lib.hid (HPO.out.ch hg4 (fun e => by have := HI.out.st1 O (Or.inr (Or.inr e)); have := HI.out.ne2; omega))
              have HNX := Lib.hid (fun W hW => HI.out.next HIT.out HRS.out HN1.out HN2.out HT.out HC2.out HA2.out hg4 ho3 hn3 (W := W) hW)
              clear hob hn3 hg4 ho3 hg3 hat3 oc0 oc1 oc2 oc3 of0 of1 of2 of3 i0c i1c i2c i3c i4c i5c
              have oc0 := HPO3.out.cell 0
              have oc1 := HPO3.out.cell 1
              have oc2 := HPO3.out.cell 2
              have oc3 := HPO3.out.cell 3
              simp at oc0 oc1 oc2 oc3
              have of0 := HPO3.out.fz 0
              have of1 := HPO3.out.fz 1
              have of2 := HPO3.out.fz 2
              have of3 := HPO3.out.fz 3
              go_wp2
              have HIW := Lib.hid (HNX.out _ rfl)
              go_roundw
              case rel => exact ⟨_, _, _, _, _, _, _, _, HIW, HLN, HFN⟩
              case measure => rw [HIW.out.rs.rd.atOf, HAT.out]; have := HLP.out; omega
            · skip
              have I2 := Lib.hid ((item_any b p k st op sts opn its W0 hp hks HI.out.ok HI.out.rs).mono fun e w' (h : ItSaid b p _ st op W0 e w') => (by
                rw [hit] at h
                obtain ⟨⟨v, st', op', h1, h2, h3, h4, h5⟩, h6⟩ := h
                exact ⟨v, st', op', h1, h2, h3, h4, h5, h6⟩ : ∃ v st' op', e = .returned (.tuple #[.agg (itC r.1 v), .int .i64 0]) ∧ RdS b p r.2.1 r.2.2.1 r.2.2.2 st' op' w' ∧ NewO W0 st st' ∧ NewO W0 op op' ∧ TVi W0 w' r.1 v st st' op op' ∧ Ch (b :: (ob st ++ ob op)) W0 w'))
              have HIT := Lib.hid hit
              have HKD := Lib.hid hkd
              have HFN : Hid (readF p.data.toList = loopF p.data.toList start (p.data.toList.length + 1) r.2.1 r.2.2.1 r.2.2.2 (its ++ [r.1])) := Lib.hid (by rw [HF.out]; exact loopF_step (by omega) (by omega) HDN.out hit)
              have HLN : Hid ((its ++ [r.1]).length ≤ r.2.1) := Lib.hid (by have := (item_lt hit).1; rw [List.length_append, List.length_singleton]; omega)
              have HLP : Hid (k < r.2.1 ∧ r.2.1 ≤ p.size) := Lib.hid (by have := item_lt hit; omega)
              obtain ⟨ip, ic, hip⟩ := own_form HI.out.own
              have HIP := Lib.hid hip
              have HOn : Hid (O ∉ b :: (ob st ++ ob op)) := Lib.hid (by
                have h2 := HI.out.ne2
                intro e; simp at e
                rcases e with e | e | e
                · omega
                · have := HI.out.st1 O (Or.inl e); omega
                · have := HI.out.st1 O (Or.inr (Or.inl e)); omega)
              have HIn : Hid (∀ g ∈ ob iv, g ∉ b :: (ob st ++ ob op)) := Lib.hid (by
                intro g hg e; simp at e
                rcases e with e | e | e
                · have := HI.out.st1 g (Or.inr (Or.inr hg)); omega
                · exact (HI.out.dis g hg).1 e
                · exact (HI.out.dis g hg).2 e)
              clear hit hip
              go_upto_region 10 with (go_at_call 44; (with_reducible refine (I2.out).mono ?_); rintro e w2 ⟨v, st', op', he, hrs, n1, n2, ht, hc2⟩; have hv := ht.nil hkd; subst hv; unfold itC at he; subst he; have HRS := Lib.hid hrs; have HN1 := Lib.hid n1; have HN2 := Lib.hid n2; have HT := Lib.hid ht; have HC2 := Lib.hid hc2; clear hrs n1 n2 ht hc2)
              obtain ⟨X, hX⟩ : ∃ X, w2.heap.size = X := ⟨_, rfl⟩
              (try simp only [hX])
              have HX := Lib.hid hX
              go_name_world V hV
              have ha2 : Ch [] w2 V := by rw [← hV]; exact (Ch.refl [] w2).alloc _
              have hitb : Itb X #[.int .i64 (r.1.kind : Int), .nilFunc, .int .u8 (r.1.q.toNat : Int), .int .u8 (r.1.x.toNat : Int), .int .u8 (r.1.y.toNat : Int), .int .i64 (r.1.cap : Int)] V := by rw [← hV]; exact itb_new w2 _ _ hX.symm
              have HA2 := Lib.hid ha2
              have hcV : Ch (b :: (ob st ++ ob op)) W0 V := HC2.out.trans (ha2.mono (by simp))
              have HCV := Lib.hid hcV
              have HPO : Hid (Pgb O #[.bool start, .bool false, .slice ip its.length ic, .int .i64 0] V) := Lib.hid (by
                have := (show Pgb O _ W0 from HI.out.out).ch hcV HOn.out
                rw [HIP.out] at this; exact this)
              have HOWN : Hid (V.ownsRow 0 88 6 (.slice ip its.length ic) its.length (cellsI its vs)) := Lib.hid (by rw [← HIP.out]; exact hcV.own HI.out.own HIn.out)
              have i0c := hitb.cell 0
              have i1c := hitb.cell 1
              have i2c := hitb.cell 2
              have i3c := hitb.cell 3
              have i4c := hitb.cell 4
              have i5c := hitb.cell 5
              simp at i0c i1c i2c i3c i4c i5c
              have HITB := Lib.hid hitb
              clear hV ha2 hitb hcV hX
              have oc0 := HPO.out.cell 0
              have oc1 := HPO.out.cell 1
              have oc2 := HPO.out.cell 2
              have oc3 := HPO.out.cell 3
              simp at oc0 oc1 oc2 oc3
              have of0 := HPO.out.fz 0
              have of1 := HPO.out.fz 1
              have of2 := HPO.out.fz 2
              have of3 := HPO.out.fz 3
              go_wp2_with (at_builtin; refine wpList_append_own_at _ rfl _ _ 47 rfl 0 88 i0 (.agg #[.int .i64 0, .nilFunc, .int .u8 0, .int .u8 0, .int .u8 0, .int .i64 0]) 6 32 Tryd.underlying47 hi jz0 jz1 jz2 rfl (by decide) _ _ _ rfl (HOWN.out.alloc _) ⟨V.heap.size, 0, none⟩ 1 1 [.int .i64 (r.1.kind : Int), .nilFunc, .int .u8 (r.1.q.toNat : Int), .int .u8 (r.1.x.toNat : Int), .int .u8 (r.1.y.toNat : Int), .int .i64 (r.1.cap : Int)] rfl rfl (by intro j u' hj; match j, hj with | 0, hj => (simp at hj; subst hj; simp [Addr.add]) | 1, hj => (simp at hj; subst hj; simp [Addr.add]) | 2, hj => (simp at hj; subst hj; simp [Addr.add]) | 3, hj => (simp at hj; subst hj; simp [Addr.add]) | 4, hj => (simp at hj; subst hj; simp [Addr.add]) | 5, hj => (simp at hj; subst hj; simp [Addr.add])) (by intro u' hu'; simp at hu'; rcases hu' with rfl | rfl | rfl | rfl | rfl | rfl <;> rfl) (by unfold maxLen; omega) (by omega) (by omega) ?_)
              intro v3 w3 ho3 hg3 _ hat3
              obtain ⟨p3, c3, hv3⟩ := own_form ho3
              subst hv3
              have hob : ∀ g, (Value.slice ip its.length ic).ownBlock = some g → g ∈ ob iv := fun g e => mem_ob.2 (by rw [HIP.out]; exact e)
              have hn3 : ∀ g ∈ ob (Value.slice p3 (its.length + 1) c3), g ∈ ob iv ∨ V.heap.size ≤ g := fun g hg => by
                rw [mem_ob] at hg
                rcases hat3 with h | h
                · left; exact hob g (by rw [← h]; exact hg)
                · right; rw [h] at hg; cases hg; simp
              have hg4 : Ch (ob iv) V w3 := Ch.trans ((Ch.refl _ V).alloc _) (Ch.of_grown hg3 hob)
              have HPO3 : Hid (Pgb O #[.bool start, .bool false, .slice ip its.length ic, .int .i64 0] w3) := Lib.hid (HPO.out.ch hg4 (fun e => by have := HI.out.st1 O (Or.inr (Or.inr e)); have := HI.out.ne2; omega))
              have HNX := Lib.hid (fun W hW => HI.out.next HIT.out HRS.out HN1.out HN2.out HT.out HC2.out HA2.out hg4 ho3 hn3 (W := W) hW)
              clear hob hn3 hg4 ho3 hg3 hat3 oc0 oc1 oc2 oc3 of0 of1 of2 of3 i0c i1c i2c i3c i4c i5c
              have oc0 := HPO3.out.cell 0
              have oc1 := HPO3.out.cell 1
              have oc2 := HPO3.out.cell 2
              have oc3 := HPO3.out.cell 3
              simp at oc0 oc1 oc2 oc3
              have of0 := HPO3.out.fz 0
              have of1 := HPO3.out.fz 1
              have of2 := HPO3.out.fz 2
              have of3 := HPO3.out.fz 3
              go_wp2
              have HIW := Lib.hid (HNX.out _ rfl)
              go_roundw
              case rel => exact ⟨_, _, _, _, _, _, _, _, HIW, HLN, HFN⟩
              case measure => rw [HIW.out.rs.rd.atOf, HAT.out]; have := HLP.out; omega
    · have hks' : ¬ (k : Int) < (p.size : Int) := by omega
      have HKN : Hid (¬ k < p.data.toList.length) := Lib.hid (by omega)
      obtain ⟨np, nc, hop⟩ := own_form HI.out.rs.o
      obtain ⟨sp, sc, hsp⟩ := own_form HI.out.rs.s
      obtain ⟨ip, ic, hip⟩ := own_form HI.out.own
      have m2 := HI.out.rs.rd.c2
      have m3 := HI.out.rs.rd.c3
      rw [hsp] at m2
      rw [hop] at m3
      have HRP0 : Hid (Pgb R #[.bool false, .bool false, .slice none 0 0, .int .i64 0] W0) := Lib.hid HI.out.res
      have HOP0 : Hid (Pgb O #[.bool start, .bool false, .slice ip its.length ic, .int .i64 0] W0) := Lib.hid (by have := HI.out.out; rw [hip] at this; exact this)
      have HIP := Lib.hid hip
      have HNE1 := Lib.hid HI.out.ne1
      have HNE2 := Lib.hid HI.out.ne2
      have hRO := HI.out.ne1
      have hOb := HI.out.ne2
      have HFE : Hid (readF p.data.toList = endF sts opn its start false) := Lib.hid (by rw [HF.out]; exact loopF_end (by omega) HKN.out)
      clear hop hsp hip
      have oc0 := HOP0.out.cell 0
      have oc1 := HOP0.out.cell 1
      have oc2 := HOP0.out.cell 2
      have oc3 := HOP0.out.cell 3
      simp at oc0 oc1 oc2 oc3
      have of0 := HOP0.out.fz 0
      have of1 := HOP0.out.fz 1
      have of2 := HOP0.out.fz 2
      have of3 := HOP0.out.fz 3
      have rc0 := HRP0.out.cell 0
      have rc1 := HRP0.out.cell 1
      have rc2 := HRP0.out.cell 2
      have rc3 := HRP0.out.cell 3
      simp at rc0 rc1 rc2 rc3
      have rf0 := HRP0.out.fz 0
      have rf1 := HRP0.out.fz 1
      have rf2 := HRP0.out.fz 2
      have rf3 := HRP0.out.fz 3
      by_cases hopn : opn = []
      · have HFE2 : Hid (readF p.data.toList = .ok ⟨start, false, its, sts.length⟩) := Lib.hid (by rw [HFE.out]; unfold endF; rw [if_pos hopn])
        have hol : opn.length = 0 := by rw [hopn]; rfl
        rw [hol] at m3
        clear hopn hol
        go_wp2
        have HRP : Hid (Pgb R #[.bool false, .bool false, .slice none 0 0, .int .i64 0] (W0.setCell ⟨O, 3, none⟩ (.int .i64 (sts.length : Int)))) := Lib.hid (HRP0.out.ch ((Ch.refl [O] W0).set O 3 _ (Or.inl (by simp))) (by simp; omega))
        show bodyPost _ _ _ Exit.ret _ (st4 (W0.setCell ⟨O, 3, none⟩ (.int .i64 (sts.length : Int))) R (.bool start) (.bool false) (.slice ip its.length ic) (.int .i64 (sts.length : Int)))
        have hI : Pgb R #[.bool start, .bool false, .slice ip its.length ic, .int .i64 (sts.length : Int)] (st4 (W0.setCell ⟨O, 3, none⟩ (.int .i64 (sts.length : Int))) R (.bool start) (.bool false) (.slice ip its.length ic) (.int .i64 (sts.length : Int))) := st4_pg HRP.out
        have hS : Ch [R] (W0.setCell ⟨O, 3, none⟩ (.int .i64 (sts.length : Int))) (st4 (W0.setCell ⟨O, 3, none⟩ (.int .i64 (sts.length : Int))) R (.bool start) (.bool false) (.slice ip its.length ic) (.int .i64 (sts.length : Int))) := st4_ch
        have hC9 : Ch [R, O] W0 (st4 (W0.setCell ⟨O, 3, none⟩ (.int .i64 (sts.length : Int))) R (.bool start) (.bool false) (.slice ip its.length ic) (.int .i64 (sts.length : Int))) := ((((Ch.refl [O] W0).set O 3 (.int .i64 (sts.length : Int)) (Or.inl (by simp)))).mono (by simp)).trans (hS.mono (by simp))
        have d0 := hI.cell 0
        have d1 := hI.cell 1
        have d2 := hI.cell 2
        have d3 := hI.cell 3
        simp at d0 d1 d2 d3
        generalize (st4 (W0.setCell ⟨O, 3, none⟩ (.int .i64 (sts.length : Int))) R (.bool start) (.bool false) (.slice ip its.length ic) (.int .i64 (sts.length : Int))) = W9 at *
        refine bodyPost_ret (v := .tuple #[.agg #[.bool start, .bool false, .slice ip its.length ic, .int .i64 (sts.length : Int)], .int .i64 0]) ?_ rfl ⟨(by unfold ReadSaid; rw [HFE2.out]; exact ⟨_, vs, rfl, by have := HI.out.itsW hC9; rw [HIP.out] at this; exact this⟩), HI.out.bel hC9 (by intro g hg; simp at hg; omega)⟩
        simp [results, Tryd.results23, go_sem, d0, d1, d2, d3]
      · have HFE2 : Hid (readF p.data.toList = .error 4) := Lib.hid (by rw [HFE.out]; unfold endF; rw [if_neg hopn])
        have hol : (0 : Int) < (opn.length : Int) := by have := List.length_pos_iff.2 hopn; omega
        have hol2 : 0 < opn.length := by omega
        clear hopn
        go_wp2
        have HRP : Hid (Pgb R #[.bool false, .bool false, .slice none 0 0, .int .i64 0] W0) := Lib.hid (HRP0.out)
        show bodyPost _ _ _ Exit.ret _ (st4 W0 R (.bool false) (.bool false) (.slice none 0 0) (.int .i64 0))
        have hI : Pgb R #[.bool false, .bool false, .slice none 0 0, .int .i64 0] (st4 W0 R (.bool false) (.bool false) (.slice none 0 0) (.int .i64 0)) := st4_pg HRP.out
        have hS : Ch [R] W0 (st4 W0 R (.bool false) (.bool false) (.slice none 0 0) (.int .i64 0)) := st4_ch
        have hC9 : Ch [R, O] W0 (st4 W0 R (.bool false) (.bool false) (.slice none 0 0) (.int .i64 0)) := ((Ch.refl [O] W0).mono (by simp)).trans (hS.mono (by simp))
        have d0 := hI.cell 0
        have d1 := hI.cell 1
        have d2 := hI.cell 2
        have d3 := hI.cell 3
        simp at d0 d1 d2 d3
        generalize (st4 W0 R (.bool false) (.bool false) (.slice none 0 0) (.int .i64 0)) = W9 at *
        refine bodyPost_ret (v := .tuple #[.agg #[.bool false, .bool false, .slice none 0 0, .int .i64 0], .int .i64 4]) ?_ rfl ⟨(by unfold ReadSaid; rw [HFE2.out]; rfl), HI.out.bel hC9 (by intro g hg; simp at hg; omega)⟩
        simp [results, Tryd.results23, go_sem, d0, d1, d2, d3]
end Go.Proofs.YtkbcaklleiapdaaDoor
