/- Contracts of layer 3: a strings.Builder of the call's own. -/
import Derived.Test.YtbcbddglgfakpaaDoorLexE
import Derived.Lib.Builder
import Derived.Lib.AppendStr
import Derived.Laws.Externs
import Derived.Lib.SmallJoins
import Derived.Lib.OthersKept
import Derived.Lib.OwnKind
namespace Go.Proofs.YtbcbddglgfakpaaDoor
open Go.RowKit Go.Joins M3
set_option linter.unusedVariables false
abbrev BAt (B b : Nat) (p : Value) (l : List Value) (w : World) : Prop := Lib.BuilderAt 44 5 B b p l w
abbrev BIs (B b : Nat) (l : List Value) (w : World) : Prop := Lib.IsBuilder 44 5 B b l w
theorem bsize : (Tryd.prog.info? 44).map (·.size) = some 2 := by kernel_rfl
theorem blies : liesAt Tryd.prog Tryd.prog.depth 44 (2 / Tryd.prog.cellsOf 44) 0 44 1 = true := by kernel_rfl
theorem bbyte : (Tryd.prog.info? 5).map (fun i => (i.zero, i.size, i.bytes)) = some (some (.int .u8 0), 1, 1) := by kernel_rfl
theorem bcheck_used (b : Nat) (w : World) (h0 : w.cell? ⟨b, 0, none⟩ = some (.pointer (some ⟨b, 0, none⟩))) :
    Calls Tryd.prog 44 #[(.pointer (some ⟨b, 0, none⟩))] w fun e w' => e = .returned (.tuple #[]) ∧ w' = w := by
  obtain ⟨j, hj, _⟩ := Option.map_eq_some_iff.1 bsize
  have hne := Lib.run_neq_ptr_same (P := Tryd.prog) w ⟨b, 0, none⟩ Tryd.underlying41 hj
  go_enter Tryd.func44, Tryd.ntmps44
  go_wp2
  try rw [hne]
  try go_wp2
  go_end0
  exact ⟨rfl, rfl⟩
theorem bcheck_fresh (b : Nat) (w : World) (h0 : w.cell? ⟨b, 0, none⟩ = some (.pointer none)) (hsh : w.shape? b = some (44, 2)) (hfz : w.frozen? ⟨b, 0, none⟩ = false) :
    Calls Tryd.prog 44 #[(.pointer (some ⟨b, 0, none⟩))] w fun e w' => e = .returned (.tuple #[]) ∧ w' = w.setCell ⟨b, 0, none⟩ (.pointer (some ⟨b, 0, none⟩)) := by
  obtain ⟨j, hj, hjs⟩ := Option.map_eq_some_iff.1 bsize
  have e1 := Lib.run_to_unsafe (P := Tryd.prog) w ⟨b, 0, none⟩ Tryd.underlying41 Tryd.underlying73 hj (by rw [hjs]; decide) hsh (Nat.zero_lt_succ 1)
  have e2 := run_callFunc_extern (P := Tryd.prog) Tryd.func54 (by kernel_rfl) (by kernel_rfl) (by kernel_rfl) (e := Extern.AbiNoEscape.same) (by kernel_rfl) #[(.pointer (some ⟨b, 0, none⟩))] w
  rw [Lib.run_noEscape] at e2
  have e3 := Lib.run_from_unsafe (P := Tryd.prog) w ⟨b, 0, none⟩ Tryd.underlying73 Tryd.underlying41 hj hsh blies
  go_enter Tryd.func44, Tryd.ntmps44
  go_wp2
  go_end0
  exact ⟨rfl, rfl⟩
theorem bcheck_any (B b : Nat) (l : List Value) (w : World) (h : BIs B b l w) :
    Calls Tryd.prog 44 #[(.pointer (some ⟨b, 0, none⟩))] w fun e w' => e = .returned (.tuple #[]) ∧ BAt B b (.pointer (some ⟨b, 0, none⟩)) l w' ∧ Below B w w' ∧ Lib.OthersKept 5 (some b) w w' := by
  cases h with
  | inl h =>
    refine (bcheck_fresh b w h.cell0 h.shape h.frozen0).mono fun e w' ⟨g1, g2⟩ => ⟨g1, ?_, ?_, ?_⟩
    · rw [g2]; exact h.used _
    · rw [g2]; exact (Below.refl B w).setCell (p := ⟨b, 0, none⟩) h.1 _
    · rw [g2]; exact (Lib.OthersKept.refl _ _ w).setCell ⟨b, 0, none⟩ rfl _
  | inr h =>
    refine (bcheck_used b w h.cell0).mono fun e w' ⟨g1, g2⟩ => ⟨g1, ?_, ?_, ?_⟩
    · rw [g2]; exact h
    · rw [g2]; exact Below.refl B w
    · rw [g2]; exact Lib.OthersKept.refl _ _ w
theorem bne : 44 ≠ 5 := by decide
set_option maxHeartbeats 1000000 in
theorem bbyte_any (B b : Nat) (l : List Value) (c : Int) (w : World) (h : BIs B b l w) (hlen : l.length + 1 ≤ 140737488355328) (hBw : B ≤ w.heap.size) :
    Calls Tryd.prog 36 #[(.pointer (some ⟨b, 0, none⟩)), .int .u8 c] w fun e w' => e = .returned .nilIface ∧ BAt B b (.pointer (some ⟨b, 0, none⟩)) (l ++ [.int .u8 c]) w' ∧ Below B w w' ∧ Lib.OthersKept 5 (some b) w w' := by
  obtain ⟨i0, hi, hz0, hz1, hz2⟩ := info_parts bbyte
  have C1 := Lib.hid (bcheck_any B b l w h)
  clear h
  go_enter Tryd.func36, Tryd.ntmps36
  go_upto_region 2 with (go_at_call 44; (with_reducible refine (C1.out).mono ?_); rintro e w1 ⟨rfl, h1, hb1, hk1⟩)
  obtain ⟨hB, v, hbk, hown, hne⟩ := h1
  have hlt : b < w1.heap.size := (Array.getElem?_eq_some_iff.1 hbk).1
  have hw1 := hb1.size
  have c1 : w1.cell? ⟨b, 1, none⟩ = some v := by simp [World.cell?, hbk]
  have HB := Lib.hid hbk
  have HB1 := Lib.hid hb1
  have HK1 := Lib.hid hk1
  have HN := Lib.hid hne
  have HOW := Lib.hid hown
  clear hbk hb1 hne hown hk1
  go_wp2_with (at_builtin; refine wpList_append_own _ rfl _ _ 42 rfl B 5 i0 (.int .u8 0) 1 1 Tryd.underlying42 hi hz0 hz1 hz2 rfl (by decide) _ _ _ rfl (HOW.out.alloc _) ⟨w1.heap.size, 0, none⟩ 1 1 [.int .u8 c] rfl rfl (by intro j u' hj; match j, hj with | 0, hj => (simp at hj; subst hj; simp [Addr.add])) (by intro u' hu'; simp at hu'; subst hu'; rfl) (by unfold maxLen; omega) (by omega) (by simp; omega) ?_)
  intro v2 w2 hown2 hgrow _
  have hb2 : w2.heap[b]? = some (.cells #[(.pointer (some ⟨b, 0, none⟩)), v] 44 (0, 0)) := by
    rw [hgrow.block b (by simp; omega) (fun e => HN.out e.symm), RowKit.Below.heap_alloc w1 _ b hlt]; exact HB.out
  have d1 : w2.cell? ⟨b, 1, none⟩ = some v := by simp [World.cell?, hb2]
  have f1 : w2.frozen? ⟨b, 1, none⟩ = false := by simp [World.frozen?, hb2]
  obtain ⟨g, cap, rfl⟩ := ownsRow_form hown2 (by omega)
  have HP := Lib.hid (Lib.BuilderAt.put hB hb2 (show w2.ownsRow B 5 1 _ (l ++ [Value.int .u8 c]).length _ by simpa using hown2) bne)
  have HE := Lib.hid (((HB1.out.alloc (by omega) _).grown hgrow (by simp; omega) (fun k e => (World.ownsRow.lt HOW.out k e).1)).setCell (p := ⟨b, 1, none⟩) hB (.slice (some ⟨g, 0, none⟩) (l.length + 1) cap))
  have HQ := Lib.hid (((HK1.out.alloc _).grown hgrow (Lib.ownsRow_kind (HOW.out.alloc _))).setCell ⟨b, 1, none⟩ rfl (.slice (some ⟨g, 0, none⟩) (l.length + 1) cap))
  clear hb2 hown2 hgrow
  go_wp2
  go_ret
  exact ⟨rfl, HP.out, HE.out, HQ.out⟩
set_option maxHeartbeats 1000000 in
theorem bstr_any (B b : Nat) (l : List Value) (s : ByteArray) (w : World) (h : BIs B b l w) (hlen : l.length + s.size ≤ 140737488355328) (hBw : B ≤ w.heap.size) :
    Calls Tryd.prog 26 #[(.pointer (some ⟨b, 0, none⟩)), .string s] w fun e w' => e = .returned (.tuple #[.int .i64 s.size, .nilIface]) ∧ BAt B b (.pointer (some ⟨b, 0, none⟩)) (l ++ Lib.strCells s) w' ∧ Below B w w' ∧ Lib.OthersKept 5 (some b) w w' := by
  obtain ⟨i0, hi, hz0, hz1, hz2⟩ := info_parts bbyte
  have C1 := Lib.hid (bcheck_any B b l w h)
  clear h
  go_enter Tryd.func26, Tryd.ntmps26
  go_upto_region 2 with (go_at_call 44; (with_reducible refine (C1.out).mono ?_); rintro e w1 ⟨rfl, h1, hb1, hk1⟩)
  obtain ⟨hB, v, hbk, hown, hne⟩ := h1
  have hlt : b < w1.heap.size := (Array.getElem?_eq_some_iff.1 hbk).1
  have hw1 := hb1.size
  have c1 : w1.cell? ⟨b, 1, none⟩ = some v := by simp [World.cell?, hbk]
  have HB := Lib.hid hbk
  have HB1 := Lib.hid hb1
  have HK1 := Lib.hid hk1
  have HN := Lib.hid hne
  have HOW := Lib.hid hown
  clear hbk hb1 hne hown hk1
  go_wp2_with (at_builtin; refine Lib.wpList_append_own_string _ rfl _ _ 42 9 rfl B 5 i0 Tryd.underlying42 Tryd.underlying9 hi hz0 hz1 hz2 _ _ _ rfl HOW.out s rfl (by unfold maxLen; omega) (by omega) (by omega) ?_)
  intro v2 w2 hown2 hgrow _
  have hb2 : w2.heap[b]? = some (.cells #[(.pointer (some ⟨b, 0, none⟩)), v] 44 (0, 0)) := by
    rw [hgrow.block b hlt (fun e => HN.out e.symm)]; exact HB.out
  have d1 : w2.cell? ⟨b, 1, none⟩ = some v := by simp [World.cell?, hb2]
  have f1 : w2.frozen? ⟨b, 1, none⟩ = false := by simp [World.frozen?, hb2]
  have hsl : ∃ a n cap, v2 = .slice a n cap := by
    rcases ownsRow_forms hown2 with ⟨e, _⟩ | ⟨g, cap, e⟩
    · exact ⟨_, _, _, e⟩
    · exact ⟨_, _, _, e⟩
  obtain ⟨a, n, cap, rfl⟩ := hsl
  have HP := Lib.hid (Lib.BuilderAt.put hB hb2 (show w2.ownsRow B 5 1 _ (l ++ Lib.strCells s).length _ by simpa [Lib.strCells_length] using hown2) bne)
  have HE := Lib.hid ((HB1.out.grown hgrow (by omega) (fun k e => (World.ownsRow.lt HOW.out k e).1)).setCell (p := ⟨b, 1, none⟩) hB (.slice a n cap))
  have HQ := Lib.hid ((HK1.out.grown hgrow (Lib.ownsRow_kind HOW.out)).setCell ⟨b, 1, none⟩ rfl (.slice a n cap))
  clear hb2 hown2 hgrow
  go_wp2
  go_ret2
  exact ⟨rfl, HP.out, HE.out, HQ.out⟩
end Go.Proofs.YtbcbddglgfakpaaDoor
