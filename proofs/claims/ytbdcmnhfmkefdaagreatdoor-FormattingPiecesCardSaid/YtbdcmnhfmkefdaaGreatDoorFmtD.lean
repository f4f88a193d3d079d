/- Contracts of layer 9: the reader's text, a strings.Builder in a field. -/
import Derived.Test.YtbdcmnhfmkefdaaGreatDoorFmtC
import Derived.Lib.Builder
import Derived.Lib.AppendStr
import Derived.Laws.Externs
import Derived.Lib.OwnKind
import Derived.Lib.UnsafeStr
namespace Go.Proofs.YtbdcmnhfmkefdaaGreatDoor
open Go.RowKit Go.Joins M1 M2 M9
set_option linter.unusedVariables false
/-- A reader: the parts that are complete, the text that is not. -/
structure Rdr (B b : Nat) (ps : List Pc) (acc : List UInt8) (p vl vb : Value) (w : World) : Prop where
  blk : Blk 63 b #[vl, p, vb] w
  lo : B ≤ b
  hp : p = .pointer none ∨ p = .pointer (some ⟨b, 1, none⟩)
  ol : w.ownsRow B 31 7 vl ps.length (ps.flatMap pcC)
  ob : w.ownsRow B 5 1 vb acc.length (Lib.byteCells acc)
theorem Rdr.nl {B b : Nat} {ps : List Pc} {acc : List UInt8} {p vl vb : Value} {w : World} (h : Rdr B b ps acc p vl vb w) : ∀ g ∈ Go.Proofs.YtbdcmnhfmkefdaaGreatDoor.ob vl, g ≠ b := ob_blk h.ol h.blk (by decide)
theorem Rdr.nb {B b : Nat} {ps : List Pc} {acc : List UInt8} {p vl vb : Value} {w : World} (h : Rdr B b ps acc p vl vb w) : ∀ g ∈ Go.Proofs.YtbdcmnhfmkefdaaGreatDoor.ob vb, g ≠ b := ob_blk h.ob h.blk (by decide)
theorem Rdr.lb {B b : Nat} {ps : List Pc} {acc : List UInt8} {p vl vb : Value} {w : World} (h : Rdr B b ps acc p vl vb w) : ∀ g ∈ Go.Proofs.YtbdcmnhfmkefdaaGreatDoor.ob vl, g ∉ Go.Proofs.YtbdcmnhfmkefdaaGreatDoor.ob vb := ob_ob h.ol h.ob (by decide)
/-- The blocks of a reader. -/
def rdB (b : Nat) (vl vb : Value) : List Nat := b :: (Go.Proofs.YtbdcmnhfmkefdaaGreatDoor.ob vl ++ Go.Proofs.YtbdcmnhfmkefdaaGreatDoor.ob vb)
theorem Rdr.ch {B b : Nat} {ps : List Pc} {acc : List UInt8} {p vl vb : Value} {w W : World} {S : List Nat} (h : Rdr B b ps acc p vl vb w) (hc : Ch S w W) (hS : ∀ g ∈ rdB b vl vb, g ∉ S) : Rdr B b ps acc p vl vb W :=
  ⟨h.blk.ch hc (hS b (by simp [rdB])), h.lo, h.hp, hc.ownB h.ol (fun g hg => hS g (by simp [rdB, hg])), hc.ownB h.ob (fun g hg => hS g (by simp [rdB, hg]))⟩
theorem Rdr.keep {B b : Nat} {ps : List Pc} {acc : List UInt8} {p vl vb : Value} {w W : World} (h : Rdr B b ps acc p vl vb w) (hc : Ch [] w W) : Rdr B b ps acc p vl vb W := h.ch hc (by simp)
theorem rdB_lo {B b : Nat} {ps : List Pc} {acc : List UInt8} {p vl vb : Value} {w : World} (h : Rdr B b ps acc p vl vb w) : ∀ g ∈ rdB b vl vb, B ≤ g ∧ g < w.heap.size := by
  intro g hg
  unfold rdB at hg
  rcases List.mem_cons.1 hg with rfl | hg
  · exact ⟨h.lo, h.blk.lt⟩
  · rcases List.mem_append.1 hg with hg | hg
    · exact own_lo h.ol hg
    · exact own_lo h.ob hg
theorem Rdr.cells {B b : Nat} {ps : List Pc} {acc : List UInt8} {p vl vb : Value} {w : World} (h : Rdr B b ps acc p vl vb w) : w.cell? ⟨b, 0, none⟩ = some vl ∧ w.cell? ⟨b, 1, none⟩ = some p ∧ w.cell? ⟨b, 2, none⟩ = some vb ∧ w.frozen? ⟨b, 0, none⟩ = false ∧ w.frozen? ⟨b, 1, none⟩ = false ∧ w.frozen? ⟨b, 2, none⟩ = false :=
  ⟨h.blk.cell 0, h.blk.cell 1, h.blk.cell 2, h.blk.fz 0, h.blk.fz 1, h.blk.fz 2⟩
theorem rd_size : (Tryz.prog.info? 61).map (·.size) = some 2 := by kernel_rfl
theorem rd_lies : liesAt Tryz.prog Tryz.prog.depth 63 (3 / Tryz.prog.cellsOf 63) 1 61 1 = true := by kernel_rfl
theorem rd_byte : (Tryz.prog.info? 5).map (fun i => (i.zero, i.size, i.bytes)) = some (some (.int .u8 0), 1, 1) := by kernel_rfl
theorem rcheck_used (b : Nat) (w : World) (h0 : w.cell? ⟨b, 1, none⟩ = some (.pointer (some ⟨b, 1, none⟩))) :
    Calls Tryz.prog 48 #[.pointer (some ⟨b, 1, none⟩)] w fun e w' => e = .returned (.tuple #[]) ∧ w' = w := by
  obtain ⟨j, hj, _⟩ := Option.map_eq_some_iff.1 rd_size
  have hne := Lib.run_neq_ptr_same (P := Tryz.prog) w ⟨b, 1, none⟩ Tryz.underlying59 hj
  go_enter Tryz.func48, Tryz.ntmps48
  go_wp2
  try rw [hne]
  try go_wp2
  go_end0
  exact ⟨rfl, rfl⟩
theorem rcheck_fresh (b : Nat) (w : World) (h0 : w.cell? ⟨b, 1, none⟩ = some (.pointer none)) (hsh : w.shape? b = some (63, 3)) (hfz : w.frozen? ⟨b, 1, none⟩ = false) :
    Calls Tryz.prog 48 #[.pointer (some ⟨b, 1, none⟩)] w fun e w' => e = .returned (.tuple #[]) ∧ w' = w.setCell ⟨b, 1, none⟩ (.pointer (some ⟨b, 1, none⟩)) := by
  obtain ⟨j, hj, hjs⟩ := Option.map_eq_some_iff.1 rd_size
  have e1 := Lib.run_to_unsafe (P := Tryz.prog) w ⟨b, 1, none⟩ Tryz.underlying59 Tryz.underlying124 hj (by rw [hjs]; decide) hsh (show 1 < 3 by omega)
  have e2 := run_callFunc_extern (P := Tryz.prog) Tryz.func79 (by kernel_rfl) (by kernel_rfl) (by kernel_rfl) (e := Extern.AbiNoEscape.same) (by kernel_rfl) #[.pointer (some ⟨b, 1, none⟩)] w
  rw [Lib.run_noEscape] at e2
  have e3 := Lib.run_from_unsafe (P := Tryz.prog) w ⟨b, 1, none⟩ Tryz.underlying124 Tryz.underlying59 hj hsh rd_lies
  go_enter Tryz.func48, Tryz.ntmps48
  go_wp2
  go_end0
  exact ⟨rfl, rfl⟩
theorem rcheck_any {B b : Nat} {ps : List Pc} {acc : List UInt8} {p vl vb : Value} {w : World} (h : Rdr B b ps acc p vl vb w) :
    Calls Tryz.prog 48 #[.pointer (some ⟨b, 1, none⟩)] w fun e w' => e = .returned (.tuple #[]) ∧ Rdr B b ps acc (.pointer (some ⟨b, 1, none⟩)) vl vb w' ∧ Ch [b] w w' := by
  have hp := h.hp
  rcases hp with hp | hp
  · subst hp
    refine (rcheck_fresh b w (h.blk.cell 1) h.blk.shape (h.blk.fz 1)).mono fun e w' ⟨g1, g2⟩ => ⟨g1, ?_, ?_⟩
    · subst g2
      have hc : Ch [b] w (w.setCell ⟨b, 1, none⟩ (.pointer (some ⟨b, 1, none⟩))) := (Ch.refl _ _).set b 1 _ (.inl (by simp))
      exact ⟨h.blk.set 1 _, h.lo, .inr rfl, hc.ownB h.ol (fun g hg => by simpa using h.nl g hg), hc.ownB h.ob (fun g hg => by simpa using h.nb g hg)⟩
    · subst g2; exact (Ch.refl _ _).set b 1 _ (.inl (by simp))
  · subst hp
    refine (rcheck_used b w (h.blk.cell 1)).mono fun e w' ⟨g1, g2⟩ => ⟨g1, ?_, ?_⟩
    · subst g2; exact h
    · subst g2; exact Ch.refl _ _
/-- A new text. -/
theorem Rdr.put {B b : Nat} {ps : List Pc} {acc acc' : List UInt8} {p vl vb vb' : Value} {w w' : World} (h : Rdr B b ps acc p vl vb w) (hc : Ch (Go.Proofs.YtbdcmnhfmkefdaaGreatDoor.ob vb) w w') (ho : w'.ownsRow B 5 1 vb' acc'.length (Lib.byteCells acc')) :
    Rdr B b ps acc' p vl vb' (w'.setCell ⟨b, 2, none⟩ vb') ∧ Ch (rdB b vl vb) w (w'.setCell ⟨b, 2, none⟩ vb') := by
  have h1 : Blk 63 b #[vl, p, vb] w' := h.blk.ch hc (fun e => h.nb b e rfl)
  have hs : Ch [b] w' (w'.setCell ⟨b, 2, none⟩ vb') := (Ch.refl _ _).set b 2 _ (.inl (by simp))
  refine ⟨⟨h1.set 2 _, h.lo, h.hp, ?_, ?_⟩, ?_⟩
  · exact hs.ownB (hc.ownB h.ol h.lb) (fun g hg => by simpa using h.nl g hg)
  · exact hs.ownB ho (fun g hg => by simpa using ob_blk ho h1 (by decide) g hg)
  · exact (hc.mono (fun g hg => by simp [rdB, hg])).trans (hs.mono (fun g hg => by simp at hg; simp [rdB, hg]))
set_option maxHeartbeats 1000000 in
theorem rbyte_any (B b : Nat) (ps : List Pc) (acc : List UInt8) (c : UInt8) (n : Int) (hn : (c.toNat : Int) = n) (p vl vb : Value) (w : World) (h : Rdr B b ps acc p vl vb w) (hlen : acc.length + 1 ≤ 100000000) (hBw : B ≤ w.heap.size) :
    Calls Tryz.prog 31 #[.pointer (some ⟨b, 1, none⟩), .int .u8 n] w fun e w' => e = .returned .nilIface ∧ (∃ p' vb', Rdr B b ps (acc ++ [c]) p' vl vb' w') ∧ Ch (rdB b vl vb) w w' := by
  subst hn
  obtain ⟨i0, hi, hz0, hz1, hz2⟩ := info_parts rd_byte
  have C1 := Lib.hid (rcheck_any h)
  clear h
  go_enter Tryz.func31, Tryz.ntmps31
  go_upto_region 2 with (go_at_call 48; (with_reducible refine (C1.out).mono ?_); rintro e w1 ⟨rfl, h1, hc1⟩)
  have hlt := h1.blk.lt
  have hw1 := hc1.size
  obtain ⟨c0, c1, c2, f0, f1, f2⟩ := h1.cells
  have H1 := Lib.hid h1
  have HC1 := Lib.hid hc1
  have HOA := Lib.hid fun o => ((Ch.refl [] w1).alloc o).ownB h1.ob (by simp)
  clear h1 hc1
  go_wp2_with (at_builtin; refine wpList_append_own _ rfl _ _ 56 rfl B 5 i0 (.int .u8 0) 1 1 Tryz.underlying56 hi hz0 hz1 hz2 rfl (by decide) _ _ _ rfl (HOA.out _) ⟨w1.heap.size, 0, none⟩ 1 1 [.int .u8 (c.toNat : Int)] rfl rfl (by intro j u' hj; match j, hj with | 0, hj => (simp at hj; subst hj; simp [Addr.add])) (by intro u' hu'; simp at hu'; subst hu'; rfl) (by unfold maxLen; omega) (by omega) (by simp; omega) ?_)
  intro v2 w2 hown2 hgrow _
  obtain ⟨g, cap, rfl⟩ := ownsRow_form hown2 (by omega)
  have hcg : Ch (Go.Proofs.YtbdcmnhfmkefdaaGreatDoor.ob vb) w1 w2 := ((Ch.refl _ w1).alloc _).trans (Ch.of_grown hgrow (fun b e => mem_ob.2 e))
  have HP := Lib.hid (H1.out.put (acc' := acc ++ [c]) (vb' := .slice (some ⟨g, 0, none⟩) (acc.length + 1) cap) hcg (by simpa [Lib.byteCells] using hown2))
  have HB2 := H1.out.blk.ch hcg (fun e => H1.out.nb b e rfl)
  have d2 : w2.cell? ⟨b, 2, none⟩ = some vb := HB2.cell 2
  have e2 : w2.frozen? ⟨b, 2, none⟩ = false := HB2.fz 2
  clear hgrow hown2 HB2 hcg
  go_wp2
  go_ret
  exact ⟨rfl, ⟨_, _, HP.out.1⟩, (HC1.out.mono (by simp [rdB])).trans HP.out.2⟩
set_option maxHeartbeats 1000000 in
theorem rstr_any (B b : Nat) (ps : List Pc) (acc : List UInt8) (s : ByteArray) (p vl vb : Value) (w : World) (h : Rdr B b ps acc p vl vb w) (hlen : acc.length + s.size ≤ 100000000) (hBw : B ≤ w.heap.size) :
    Calls Tryz.prog 28 #[.pointer (some ⟨b, 1, none⟩), .string s] w fun e w' => e = .returned (.tuple #[.int .i64 s.size, .nilIface]) ∧ (∃ p' vb', Rdr B b ps (acc ++ s.data.toList) p' vl vb' w') ∧ Ch (rdB b vl vb) w w' := by
  obtain ⟨i0, hi, hz0, hz1, hz2⟩ := info_parts rd_byte
  have C1 := Lib.hid (rcheck_any h)
  clear h
  go_enter Tryz.func28, Tryz.ntmps28
  go_upto_region 2 with (go_at_call 48; (with_reducible refine (C1.out).mono ?_); rintro e w1 ⟨rfl, h1, hc1⟩)
  have hlt := h1.blk.lt
  have hw1 := hc1.size
  obtain ⟨c0, c1, c2, f0, f1, f2⟩ := h1.cells
  have H1 := Lib.hid h1
  have HC1 := Lib.hid hc1
  have HOA := Lib.hid h1.ob
  clear h1 hc1
  go_wp2_with (at_builtin; refine Lib.wpList_append_own_string _ rfl _ _ 56 9 rfl B 5 i0 Tryz.underlying56 Tryz.underlying9 hi hz0 hz1 hz2 _ _ _ rfl HOA.out s rfl (by unfold maxLen; omega) (by omega) (by omega) ?_)
  intro v2 w2 hown2 hgrow _
  obtain ⟨q, cap, rfl⟩ := ownB_form hown2
  have hcg : Ch (Go.Proofs.YtbdcmnhfmkefdaaGreatDoor.ob vb) w1 w2 := Ch.of_grown hgrow (fun b e => mem_ob.2 e)
  have HP := Lib.hid (H1.out.put (acc' := acc ++ s.data.toList) (vb' := .slice q (acc.length + s.size) cap) hcg (by
    have e : Lib.byteCells (acc ++ s.data.toList) = Lib.byteCells acc ++ Lib.strCells s := by simp [Lib.byteCells, Lib.strCells]
    rw [e]
    simpa using hown2))
  have HB2 := H1.out.blk.ch hcg (fun e => H1.out.nb b e rfl)
  have d2 : w2.cell? ⟨b, 2, none⟩ = some vb := HB2.cell 2
  have e2 : w2.frozen? ⟨b, 2, none⟩ = false := HB2.fz 2
  clear hgrow hown2 HB2 hcg
  go_wp2
  go_ret2
  exact ⟨rfl, ⟨_, _, HP.out.1⟩, (HC1.out.mono (by simp [rdB])).trans HP.out.2⟩
theorem rlen_any (B b : Nat) (ps : List Pc) (acc : List UInt8) (p vl vb : Value) (w : World) (h : Rdr B b ps acc p vl vb w) :
    Calls Tryz.prog 35 #[.pointer (some ⟨b, 1, none⟩)] w fun e w' => e = .returned (.int .i64 (acc.length : Int)) ∧ w = w' := by
  obtain ⟨q, cap, rfl⟩ := ownB_form h.ob
  obtain ⟨c0, c1, c2, f0, f1, f2⟩ := h.cells
  clear h
  go_enter Tryz.func35, Tryz.ntmps35
  go_wp2
  go_ret
  exact ⟨rfl, rfl⟩
end Go.Proofs.YtbdcmnhfmkefdaaGreatDoor
