/- Contracts of layer 9: the reader's text is completed. -/
import Derived.Test.YtbdcmnhfmkefdaaGreatDoorFmtD
import Derived.RegionTactic
import Derived.Deep.RegionLaw
import Derived.Deep.AppendLies
namespace Go.Proofs.YtbdcmnhfmkefdaaGreatDoor
open Go.RowKit Go.Joins M1 M2 M9
set_option linter.unusedVariables false
theorem Ch.freeze {S : List Nat} {w W : World} (h : Ch S w W) (g n : Nat) (hg : g ∈ S) : Ch S w (W.freeze ⟨g, 0, none⟩ n) := by
  refine h.trans ?_
  unfold World.freeze
  split
  · exact Ch.refl S W
  · refine ⟨rfl, rfl, rfl, by simp, fun k hk hn => ?_⟩
    simp only [Array.getElem?_modify]
    split
    · rename_i e; exact absurd (e ▸ hg) hn
    · rfl
/-- A reader whose text has been read. -/
structure Rds (B b : Nat) (ps : List Pc) (p vl vb : Value) (w W : World) : Prop where
  blk : Blk 63 b #[vl, p, vb] W
  ol : W.ownsRow B 31 7 vl ps.length (ps.flatMap pcC)
  ch : Ch (Go.Proofs.YtbdcmnhfmkefdaaGreatDoor.ob vb) w W
theorem rd_cellsByte : Tryz.prog.cellsOf 5 = 1 := by kernel_rfl
set_option maxHeartbeats 1000000 in
theorem rstring_any (B b : Nat) (ps : List Pc) (acc : List UInt8) (p vl vb : Value) (w : World) (h : Rdr B b ps acc p vl vb w) (h0 : acc ≠ []) :
    Calls Tryz.prog 36 #[.pointer (some ⟨b, 1, none⟩)] w fun e w' => e = .returned (.string (bq acc)) ∧ Rds B b ps p vl vb w w' := by
  have hl0 : acc.length ≠ 0 := by simpa using h0
  obtain ⟨g, cap, cur, rfl, hbg, hg, hnc, hcm, hcs, htake⟩ : ∃ g cap cur, vb = .slice (some ⟨g, 0, none⟩) acc.length cap ∧ B ≤ g ∧ w.heap[g]? = some (.cells cur 5 (0, 0)) ∧ acc.length ≤ cap ∧ cap ≤ maxLen ∧ cur.size = cap * 1 ∧ cur.toList.take (acc.length * 1) = Lib.byteCells acc := by
    rcases h.ob.2 with ⟨_, hz⟩ | ⟨g, cap, cur, hv, r⟩
    · exact absurd hz hl0
    · exact ⟨g, cap, cur, hv, r⟩
  have c2 : w.drew.cell? ⟨b, 2, none⟩ = some (.slice (some ⟨g, 0, none⟩) acc.length cap) := h.blk.cell 2
  have hSD : (Builtin.unsafeSliceData_ #[56] 102 #[.slice (some ⟨g, 0, none⟩) acc.length cap]).run Tryz.prog w.drew = .ok (.pointer (some ⟨g, 0, none⟩)) w.drew :=
    Lib.run_unsafeSliceData_row _ _ _ _ _ _ (by omega)
  have hUS : (Builtin.unsafeString_ #[102, 3] 9 #[.pointer (some ⟨g, 0, none⟩), .int .i64 acc.length]).run Tryz.prog w.drew = .ok (.string (bq acc)) (w.drew.freeze ⟨g, 0, none⟩ acc.length) := by
    refine Lib.run_unsafeString_row w.drew 102 3 9 5 Tryz.underlying102 rd_cellsByte g cur.size (by have hg' : w.drew.heap[g]? = some (.cells cur 5 (0, 0)) := hg; simp [World.shape?, hg']) acc h0 (by omega) (by unfold maxLen at hcm; omega) ?_
    intro j x hx
    have := h.ob.cells (g := g) rfl j (.int .u8 x.toNat) (by simp [Lib.byteCells, hx])
    exact this
  have hc : Ch (Go.Proofs.YtbdcmnhfmkefdaaGreatDoor.ob (.slice (some ⟨g, 0, none⟩) acc.length cap)) w (w.drew.freeze ⟨g, 0, none⟩ acc.length) := (Ch.refl _ w).drew.freeze g _ (mem_ob.2 rfl)
  have HR : Hid (Rds B b ps p vl (.slice (some ⟨g, 0, none⟩) acc.length cap) w (w.drew.freeze ⟨g, 0, none⟩ acc.length)) := Lib.hid ⟨h.blk.ch hc (fun e => h.nb b e rfl), hc.ownB h.ol h.lb, hc⟩
  clear h hg htake hcs hc hl0 h0
  go_enter Tryz.func36, Tryz.ntmps36
  go_wp2
  go_region
  all_goals (go_wp2; go_ret; exact ⟨rfl, HR.out⟩)
theorem rreset_any (b : Nat) (v0 v1 v2 : Value) (w : World) (h : Blk 63 b #[v0, v1, v2] w) :
    Calls Tryz.prog 49 #[.pointer (some ⟨b, 1, none⟩)] w fun e w' => e = .returned (.tuple #[]) ∧ Blk 63 b #[v0, .pointer none, .slice none 0 0] w' ∧ Ch [b] w w' := by
  have HP : Hid (Blk 63 b #[v0, .pointer none, .slice none 0 0] ((w.setCell ⟨b, 1, none⟩ (.pointer none)).setCell ⟨b, 2, none⟩ (.slice none 0 0)) ∧ Ch [b] w ((w.setCell ⟨b, 1, none⟩ (.pointer none)).setCell ⟨b, 2, none⟩ (.slice none 0 0))) := Lib.hid ⟨(h.set 1 _).set 2 _, ((Ch.refl [b] w).set b 1 _ (.inl (by simp))).set b 2 _ (.inl (by simp))⟩
  have c1 := h.cell 1
  have c2 := h.cell 2
  have f1 := h.fz 1
  have f2 := h.fz 2
  simp at c1 c2
  clear h
  go_enter Tryz.func49, Tryz.ntmps49
  go_wp2
  go_end0
  exact ⟨rfl, HP.out⟩
def endT (ps : List Pc) (acc : List UInt8) : List Pc := if acc = [] then ps else ps ++ [textPc acc]
theorem info_piece : (Tryz.prog.info? 31).map (fun i => (i.zero, i.size, i.bytes)) = some (some (.agg #[.string ⟨#[]⟩, .int .u8 0, .bool false, .bool false, .bool false, .int .i64 0, .int .i64 0]), 7, 40) := by kernel_rfl
theorem news_alloc (w : World) (cs : Array Value) (T : TypeId) (n : Nat) (hn : n = w.heap.size) : ∀ j u, cs.toList[j]? = some u → (w.alloc (.cells cs T)).cell? ((⟨n, 0, none⟩ : Addr).add j) = some u := by
  subst hn
  intro j u hu
  have ha : (⟨w.heap.size, 0, none⟩ : Addr).add j = ⟨w.heap.size, j, none⟩ := by cases j <;> simp [Addr.add]
  rw [ha, Blk.cell (Blk.new w T cs _ rfl)]
  simpa using hu
def ptx (acc : List UInt8) : List Value := [.string (bq acc), .int .u8 0, .bool false, .bool false, .bool false, .int .i64 0, .int .i64 0]
/-- A new list. -/
theorem Rds.put {B b : Nat} {ps : List Pc} {p vl vb vl' : Value} {acc : List UInt8} {w W w' : World} (h : Rds B b ps p vl vb w W) (hw : Rdr B b ps acc p vl vb w) (hc : Ch (Go.Proofs.YtbdcmnhfmkefdaaGreatDoor.ob vl) W w') (ho : w'.ownsRow B 31 7 vl' (ps.length + 1) (ps.flatMap pcC ++ ptx acc)) :
    Blk 63 b #[vl', p, vb] (w'.setCell ⟨b, 0, none⟩ vl') ∧ (w'.setCell ⟨b, 0, none⟩ vl').ownsRow B 31 7 vl' (ps ++ [textPc acc]).length ((ps ++ [textPc acc]).flatMap pcC) ∧ Ch (rdB b vl vb) w (w'.setCell ⟨b, 0, none⟩ vl') := by
  have h1 : Blk 63 b #[vl, p, vb] w' := h.blk.ch hc (fun e => hw.nl b e rfl)
  have hs : Ch [b] w' (w'.setCell ⟨b, 0, none⟩ vl') := (Ch.refl _ _).set b 0 _ (.inl (by simp))
  refine ⟨h1.set 0 _, ?_, ?_⟩
  · have e1 : (ps ++ [textPc acc]).length = ps.length + 1 := by simp
    have e2 : (ps ++ [textPc acc]).flatMap pcC = ps.flatMap pcC ++ ptx acc := by rw [List.flatMap_append]; simp [ptx, pcC, textPc]
    rw [e1, e2]
    exact hs.ownB ho (fun g hg => by simpa using ob_blk ho h1 (by decide) g hg)
  · exact ((h.ch.mono (fun g hg => by simp [rdB, hg])).trans (hc.mono (fun g hg => by simp [rdB, hg]))).trans (hs.mono (fun g hg => by simp at hg; simp [rdB, hg]))
set_option maxHeartbeats 4000000 in
set_option maxRecDepth 100000 in
theorem endText_any (B b : Nat) (ps : List Pc) (acc : List UInt8) (p vl vb : Value) (w : World) (h : Rdr B b ps acc p vl vb w) (hps : ps.length ≤ 1000000) (hBw : B ≤ w.heap.size) :
    Calls Tryz.prog 29 #[.pointer (some ⟨b, 0, none⟩)] w fun e w' => e = .returned (.tuple #[]) ∧ (∃ p' vl' vb', Rdr B b (endT ps acc) [] p' vl' vb' w') ∧ Ch (rdB b vl vb) w w' := by
  have QL := Lib.hid (rlen_any B b ps acc p vl vb w h)
  have H := Lib.hid h
  by_cases h0 : acc = []
  · subst h0
    clear h
    go_enter Tryz.func29, Tryz.ntmps29
    go_wp2_with (go_at_call 35; (with_reducible refine (QL.out).mono ?_); rintro e w' ⟨rfl, rfl⟩)
    go_end0
    exact ⟨rfl, ⟨_, _, _, H.out⟩, Ch.refl _ _⟩
  · have hl : 0 < acc.length := List.length_pos_iff.2 h0
    have hl2 : (0 : Int) < (acc.length : Int) := by omega
    have QS := Lib.hid (rstring_any B b ps acc p vl vb w.drew (h.keep (Ch.refl [] w).drew) h0)
    have HD := Lib.hid (h.keep (Ch.refl [] w).drew)
    have HOA : Hid (∀ W1, Rds B b ps p vl vb w.drew W1 → ∀ o, (W1.alloc o).ownsRow B 31 7 vl ps.length (ps.flatMap pcC)) := Lib.hid fun W1 hr o => ((Ch.refl [] W1).alloc o).ownB hr.ol (by simp)
    have HE : Hid (endT ps acc = ps ++ [textPc acc]) := Lib.hid (if_neg h0)
    obtain ⟨i0, hi0, jz0, jz1, jz2⟩ := info_parts info_piece
    obtain ⟨c0, c1, c2, f0, f1, f2⟩ := h.cells
    have hlt := h.blk.lt
    clear h h0
    go_enter Tryz.func29, Tryz.ntmps29
    go_upto_region 1 with (go_at_call 35; (with_reducible refine (QL.out).mono ?_); rintro e w' ⟨rfl, rfl⟩)
    go_region_law (first | (go_simp; go_at_call 36; (with_reducible refine (QS.out).mono ?_); rintro e w1 ⟨rfl, hr1⟩; have HR1 := Lib.hid hr1; have k0 : w1.cell? ⟨b, 0, none⟩ = some vl := hr1.blk.cell 0; have k0f := hr1.blk.fz 0; have kz : w.heap.size ≤ w1.heap.size := hr1.ch.size; have kl := hr1.blk.lt; clear hr1) | (refine step_append_lies _ (by rfl) _ _ 23 (by rfl) B 31 i0 (.agg #[.string ⟨#[]⟩, .int .u8 0, .bool false, .bool false, .bool false, .int .i64 0, .int .i64 0]) 7 40 Tryz.underlying23 hi0 jz0 jz1 jz2 rfl (by decide) _ ps.length (ps.flatMap pcC) (by rfl) (HOA.out _ HR1.out _) ⟨w1.heap.size, 0, none⟩ 1 1 (ptx acc) (by rfl) (by rfl) (news_alloc w1 (ptx acc).toArray _ _ rfl) (by intro u' hu'; simp [ptx] at hu'; rcases hu' with rfl | rfl | rfl | rfl <;> rfl) (by decide) (by unfold maxLen; omega) (by omega) (by simp; omega) _ (by rfl) ?_; intro g1 cap w2 hown1 hgrow hat hlt1; have hcg : Ch (Go.Proofs.YtbdcmnhfmkefdaaGreatDoor.ob vl) w1 w2 := ((Ch.refl _ w1).alloc _).trans (Ch.of_grown hgrow (fun b e => mem_ob.2 e)); have HP := Lib.hid (HR1.out.put HD.out hcg hown1); have hb2 := HR1.out.blk.ch hcg (fun e => HD.out.nl b e rfl); have k2 : w2.cell? ⟨b, 0, none⟩ = some vl := hb2.cell 0; have k2f := hb2.fz 0; clear hgrow hown1 hat hcg hb2))
    all_goals (
      have QR := Lib.hid (rreset_any b _ _ _ _ HP.out.1)
      go_wp2_with (go_at_call 49; (with_reducible refine (QR.out).mono ?_); rintro e w4 ⟨rfl, hb4, hc4⟩)
      go_end0
      refine ⟨rfl, ⟨.pointer none, .slice (some ⟨g1, 0, none⟩) (ps.length + 1) cap, .slice none 0 0, ?_⟩, ?_⟩
      · rw [HE.out]
        exact ⟨hb4, H.out.lo, .inl rfl, hc4.ownB HP.out.2.1 (fun g hg => by simpa using ob_blk HP.out.2.1 HP.out.1 (by decide) g hg), World.ownsRow_nil _ _ _ _⟩
      · exact ((Ch.refl _ w).drew.trans HP.out.2.2).trans (hc4.mono (by simp [rdB])))
end Go.Proofs.YtbdcmnhfmkefdaaGreatDoor
