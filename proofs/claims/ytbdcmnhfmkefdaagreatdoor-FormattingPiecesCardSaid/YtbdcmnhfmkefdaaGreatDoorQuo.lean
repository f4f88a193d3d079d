/- Contracts: a strings.Builder of the call's own; literals of strings (lexer.Quote). -/
import Derived.Test.YtbdcmnhfmkefdaaGreatDoorCh
import Derived.Test.YtbdcmnhfmkefdaaGreatDoorLexM
import Derived.Test.YtbdcmnhfmkefdaaGreatDoorShelf
import Derived.Lib.Builder
import Derived.Lib.AppendStr
import Derived.Laws.Externs
import Derived.Lib.SmallJoins
import Derived.Lib.OthersKept
import Derived.Lib.OwnKind
import Derived.Lib.UnsafeStr
import Derived.Deep.RegionHeld3
import Derived.Deep.DeepCutAuto
namespace Go.Proofs.YtbdcmnhfmkefdaaGreatDoor
open Go.RowKit Go.Joins M3
set_option linter.unusedVariables false
theorem byte_bd3 (c : UInt8) : 0 ≤ (c.toNat : Int) ∧ (c.toNat : Int) ≤ 255 := by have := c.toNat_lt; omega
abbrev BAt (B b : Nat) (p : Value) (l : List Value) (w : World) : Prop := Lib.BuilderAt 61 5 B b p l w
abbrev BIs (B b : Nat) (l : List Value) (w : World) : Prop := Lib.IsBuilder 61 5 B b l w
theorem bsize : (Tryz.prog.info? 61).map (·.size) = some 2 := by kernel_rfl
theorem blies : liesAt Tryz.prog Tryz.prog.depth 61 (2 / Tryz.prog.cellsOf 61) 0 61 1 = true := by kernel_rfl
theorem bbyte : (Tryz.prog.info? 5).map (fun i => (i.zero, i.size, i.bytes)) = some (some (.int .u8 0), 1, 1) := by kernel_rfl
theorem bcheck_used (b : Nat) (w : World) (h0 : w.cell? ⟨b, 0, none⟩ = some (.pointer (some ⟨b, 0, none⟩))) :
    Calls Tryz.prog 48 #[(.pointer (some ⟨b, 0, none⟩))] w fun e w' => e = .returned (.tuple #[]) ∧ w' = w := by
  obtain ⟨j, hj, _⟩ := Option.map_eq_some_iff.1 bsize
  have hne := Lib.run_neq_ptr_same (P := Tryz.prog) w ⟨b, 0, none⟩ Tryz.underlying59 hj
  go_enter Tryz.func48, Tryz.ntmps48
  go_wp2
  try rw [hne]
  try go_wp2
  go_end0
  exact ⟨rfl, rfl⟩
theorem bcheck_fresh (b : Nat) (w : World) (h0 : w.cell? ⟨b, 0, none⟩ = some (.pointer none)) (hsh : w.shape? b = some (61, 2)) (hfz : w.frozen? ⟨b, 0, none⟩ = false) :
    Calls Tryz.prog 48 #[(.pointer (some ⟨b, 0, none⟩))] w fun e w' => e = .returned (.tuple #[]) ∧ w' = w.setCell ⟨b, 0, none⟩ (.pointer (some ⟨b, 0, none⟩)) := by
  obtain ⟨j, hj, hjs⟩ := Option.map_eq_some_iff.1 bsize
  have e1 := Lib.run_to_unsafe (P := Tryz.prog) w ⟨b, 0, none⟩ Tryz.underlying59 Tryz.underlying124 hj (by rw [hjs]; decide) hsh (Nat.zero_lt_succ 1)
  have e2 := run_callFunc_extern (P := Tryz.prog) Tryz.func79 (by kernel_rfl) (by kernel_rfl) (by kernel_rfl) (e := Extern.AbiNoEscape.same) (by kernel_rfl) #[(.pointer (some ⟨b, 0, none⟩))] w
  rw [Lib.run_noEscape] at e2
  have e3 := Lib.run_from_unsafe (P := Tryz.prog) w ⟨b, 0, none⟩ Tryz.underlying124 Tryz.underlying59 hj hsh blies
  go_enter Tryz.func48, Tryz.ntmps48
  go_wp2
  go_end0
  exact ⟨rfl, rfl⟩
theorem bcheck_any (B b : Nat) (l : List Value) (w : World) (h : BIs B b l w) :
    Calls Tryz.prog 48 #[(.pointer (some ⟨b, 0, none⟩))] w fun e w' => e = .returned (.tuple #[]) ∧ BAt B b (.pointer (some ⟨b, 0, none⟩)) l w' ∧ Below B w w' ∧ Lib.OthersKept 5 (some b) w w' := by
  cases h with
  | inl h =>
    refine (bcheck_fresh b w h.cell0 h.shape h.frozen0).mono fun e w' ⟨g1, g2⟩ => ⟨g1, ?_, ?_, ?_⟩
    · rw [g2]; exact h.used _
    · rw [g2]; exact (Below.refl B w).setCell (p := ⟨b, 0, none⟩) h.1 _
    · rw [g2]; exact (Lib.OthersKept.refl _ _ w).setCell ⟨b, 0, none⟩ rfl _
  | inr h =>
    refine (bcheck_used b w h.cell0).mono fun e w' ⟨g1, g2⟩ => ⟨g1, ?_, ?_, ?_⟩
    · rw [g2]; exact h
    · rw [g2]; exact Below.refl B w
    · rw [g2]; exact Lib.OthersKept.refl _ _ w
theorem bne : 61 ≠ 5 := by decide
set_option maxHeartbeats 1000000 in
theorem bbyte_any (B b : Nat) (l : List Value) (c : Int) (w : World) (h : BIs B b l w) (hlen : l.length + 1 ≤ 140737488355328) (hBw : B ≤ w.heap.size) :
    Calls Tryz.prog 31 #[(.pointer (some ⟨b, 0, none⟩)), .int .u8 c] w fun e w' => e = .returned .nilIface ∧ BAt B b (.pointer (some ⟨b, 0, none⟩)) (l ++ [.int .u8 c]) w' ∧ Below B w w' ∧ Lib.OthersKept 5 (some b) w w' := by
  obtain ⟨i0, hi, hz0, hz1, hz2⟩ := info_parts bbyte
  have C1 := Lib.hid (bcheck_any B b l w h)
  clear h
  go_enter Tryz.func31, Tryz.ntmps31
  go_upto_region 2 with (go_at_call 48; (with_reducible refine (C1.out).mono ?_); rintro e w1 ⟨rfl, h1, hb1, hk1⟩)
  obtain ⟨hB, v, hbk, hown, hne⟩ := h1
  have hlt : b < w1.heap.size := (Array.getElem?_eq_some_iff.1 hbk).1
  have hw1 := hb1.size
  have c1 : w1.cell? ⟨b, 1, none⟩ = some v := by simp [World.cell?, hbk]
  have HB := Lib.hid hbk
  have HB1 := Lib.hid hb1
  have HK1 := Lib.hid hk1
  have HN := Lib.hid hne
  have HOW := Lib.hid hown
  clear hbk hb1 hne hown hk1
  go_wp2_with (at_builtin; refine wpList_append_own _ rfl _ _ 56 rfl B 5 i0 (.int .u8 0) 1 1 Tryz.underlying56 hi hz0 hz1 hz2 rfl (by decide) _ _ _ rfl (HOW.out.alloc _) ⟨w1.heap.size, 0, none⟩ 1 1 [.int .u8 c] rfl rfl (by intro j u' hj; match j, hj with | 0, hj => (simp at hj; subst hj; simp [Addr.add])) (by intro u' hu'; simp at hu'; subst hu'; rfl) (by unfold maxLen; omega) (by omega) (by simp; omega) ?_)
  intro v2 w2 hown2 hgrow _
  have hb2 : w2.heap[b]? = some (.cells #[(.pointer (some ⟨b, 0, none⟩)), v] 61 (0, 0)) := by
    rw [hgrow.block b (by simp; omega) (fun e => HN.out e.symm), RowKit.Below.heap_alloc w1 _ b hlt]; exact HB.out
  have d1 : w2.cell? ⟨b, 1, none⟩ = some v := by simp [World.cell?, hb2]
  have f1 : w2.frozen? ⟨b, 1, none⟩ = false := by simp [World.frozen?, hb2]
  obtain ⟨g, cap, rfl⟩ := ownsRow_form hown2 (by omega)
  have HP := Lib.hid (Lib.BuilderAt.put hB hb2 (show w2.ownsRow B 5 1 _ (l ++ [Value.int .u8 c]).length _ by simpa using hown2) bne)
  have HE := Lib.hid (((HB1.out.alloc (by omega) _).grown hgrow (by simp; omega) (fun k e => (World.ownsRow.lt HOW.out k e).1)).setCell (p := ⟨b, 1, none⟩) hB (.slice (some ⟨g, 0, none⟩) (l.length + 1) cap))
  have HQ := Lib.hid (((HK1.out.alloc _).grown hgrow (Lib.ownsRow_kind (HOW.out.alloc _))).setCell ⟨b, 1, none⟩ rfl (.slice (some ⟨g, 0, none⟩) (l.length + 1) cap))
  clear hb2 hown2 hgrow
  go_wp2
  go_ret
  exact ⟨rfl, HP.out, HE.out, HQ.out⟩
set_option maxHeartbeats 1000000 in
theorem bstr_any (B b : Nat) (l : List Value) (s : ByteArray) (w : World) (h : BIs B b l w) (hlen : l.length + s.size ≤ 140737488355328) (hBw : B ≤ w.heap.size) :
    Calls Tryz.prog 28 #[(.pointer (some ⟨b, 0, none⟩)), .string s] w fun e w' => e = .returned (.tuple #[.int .i64 s.size, .nilIface]) ∧ BAt B b (.pointer (some ⟨b, 0, none⟩)) (l ++ Lib.strCells s) w' ∧ Below B w w' ∧ Lib.OthersKept 5 (some b) w w' := by
  obtain ⟨i0, hi, hz0, hz1, hz2⟩ := info_parts bbyte
  have C1 := Lib.hid (bcheck_any B b l w h)
  clear h
  go_enter Tryz.func28, Tryz.ntmps28
  go_upto_region 2 with (go_at_call 48; (with_reducible refine (C1.out).mono ?_); rintro e w1 ⟨rfl, h1, hb1, hk1⟩)
  obtain ⟨hB, v, hbk, hown, hne⟩ := h1
  have hlt : b < w1.heap.size := (Array.getElem?_eq_some_iff.1 hbk).1
  have hw1 := hb1.size
  have c1 : w1.cell? ⟨b, 1, none⟩ = some v := by simp [World.cell?, hbk]
  have HB := Lib.hid hbk
  have HB1 := Lib.hid hb1
  have HK1 := Lib.hid hk1
  have HN := Lib.hid hne
  have HOW := Lib.hid hown
  clear hbk hb1 hne hown hk1
  go_wp2_with (at_builtin; refine Lib.wpList_append_own_string _ rfl _ _ 56 9 rfl B 5 i0 Tryz.underlying56 Tryz.underlying9 hi hz0 hz1 hz2 _ _ _ rfl HOW.out s rfl (by unfold maxLen; omega) (by omega) (by omega) ?_)
  intro v2 w2 hown2 hgrow _
  have hb2 : w2.heap[b]? = some (.cells #[(.pointer (some ⟨b, 0, none⟩)), v] 61 (0, 0)) := by
    rw [hgrow.block b hlt (fun e => HN.out e.symm)]; exact HB.out
  have d1 : w2.cell? ⟨b, 1, none⟩ = some v := by simp [World.cell?, hb2]
  have f1 : w2.frozen? ⟨b, 1, none⟩ = false := by simp [World.frozen?, hb2]
  have hsl : ∃ a n cap, v2 = .slice a n cap := by
    rcases ownsRow_forms hown2 with ⟨e, _⟩ | ⟨g, cap, e⟩
    · exact ⟨_, _, _, e⟩
    · exact ⟨_, _, _, e⟩
  obtain ⟨a, n, cap, rfl⟩ := hsl
  have HP := Lib.hid (Lib.BuilderAt.put hB hb2 (show w2.ownsRow B 5 1 _ (l ++ Lib.strCells s).length _ by simpa [Lib.strCells_length] using hown2) bne)
  have HE := Lib.hid ((HB1.out.grown hgrow (by omega) (fun k e => (World.ownsRow.lt HOW.out k e).1)).setCell (p := ⟨b, 1, none⟩) hB (.slice a n cap))
  have HQ := Lib.hid ((HK1.out.grown hgrow (Lib.ownsRow_kind HOW.out)).setCell ⟨b, 1, none⟩ rfl (.slice a n cap))
  clear hb2 hown2 hgrow
  go_wp2
  go_ret2
  exact ⟨rfl, HP.out, HE.out, HQ.out⟩
/-- A builder that holds bytes. -/
abbrev Bl (B b : Nat) (l : List UInt8) (w : World) : Prop := BIs B b (Lib.byteCells l) w
theorem blb (B b : Nat) (l : List UInt8) (x : UInt8) (v : Int) (hv : (x.toNat : Int) = v) (w : World) (h : Bl B b l w) (hl : l.length ≤ 100000000) (hB : B ≤ w.heap.size) :
    Calls Tryz.prog 31 #[(.pointer (some ⟨b, 0, none⟩)), .int .u8 v] w fun e w' => e = .returned .nilIface ∧ Bl B b (l ++ [x]) w' ∧ Below B w w' := by
  subst hv
  refine (bbyte_any B b (Lib.byteCells l) (x.toNat : Int) w h (by rw [Lib.byteCells_length]; omega) hB).mono fun e w' ⟨h1, h2, h3, _⟩ => ⟨h1, .inr ?_, h3⟩
  rw [show Lib.byteCells (l ++ [x]) = Lib.byteCells l ++ [.int .u8 (x.toNat : Int)] by simp [Lib.byteCells]]
  exact h2
theorem bls (B b : Nat) (l : List UInt8) (y : ByteArray) (w : World) (h : Bl B b l w) (hl : l.length ≤ 100000000) (hy : y.size ≤ 100000000) (hB : B ≤ w.heap.size) :
    Calls Tryz.prog 28 #[(.pointer (some ⟨b, 0, none⟩)), .string y] w fun e w' => e = .returned (.tuple #[.int .i64 y.size, .nilIface]) ∧ Bl B b (l ++ y.data.toList) w' ∧ Below B w w' := by
  refine (bstr_any B b (Lib.byteCells l) y w h (by rw [Lib.byteCells_length]; omega) hB).mono fun e w' ⟨h1, h2, h3, _⟩ => ⟨h1, .inr ?_, h3⟩
  rw [show Lib.byteCells (l ++ y.data.toList) = Lib.byteCells l ++ Lib.strCells y by simp [Lib.byteCells, Lib.strCells]]
  exact h2
theorem dq1 (x : UInt8) : ((48 + x / 100).toNat : Int) = 48 + (x.toNat : Int) / 100 := by
  have := x.toNat_lt
  simp [UInt8.toNat_add, UInt8.toNat_div]; omega
theorem dq2 (x : UInt8) : ((48 + x / 10 % 10).toNat : Int) = 48 + (x.toNat : Int) / 10 % 10 := by
  have := x.toNat_lt
  simp [UInt8.toNat_add, UInt8.toNat_div, UInt8.toNat_mod]; omega
theorem dq3 (x : UInt8) : ((48 + x % 10).toNat : Int) = 48 + (x.toNat : Int) % 10 := by
  have := x.toNat_lt
  simp [UInt8.toNat_add, UInt8.toNat_mod]; omega
theorem u8_lit (x : UInt8) (n : Nat) (hn : n < 256) (h : x.toNat = n) : x = UInt8.ofNat n := UInt8.toNat_inj.1 (by rw [h]; simp; omega)

set_option maxHeartbeats 2000000 in
theorem quoteByte_any (B b : Nat) (l : List UInt8) (x : UInt8) (w : World) (h0 : Bl B b l w) (hl : l.length ≤ 1000000) (hB : B ≤ w.heap.size) :
    Calls Tryz.prog 104 #[(.pointer (some ⟨b, 0, none⟩)), .int .u8 (x.toNat : Int)] w fun e w' => e = .returned (.tuple #[]) ∧ Bl B b (l ++ qb x) w' ∧ Below B w w' := by
  have hcb := byte_bd3 x
  by_cases c10 : x.toNat = 10
  · have HX : Hid (qb x = [92, 110]) := Lib.hid (by rw [u8_lit x 10 (by omega) c10]; rfl)
    have q10 : ((x.toNat : Int) == 10) = true := by first | (rw [beq_iff_eq]; omega) | (rw [beq_eq_false_iff_ne]; omega)
    go_enter Tryz.func104, Tryz.ntmps104
    go_wp2_with fail
    refine (bls B b _ ⟨#[92, 110]⟩ _ h0 (by omega) (by decide) (by omega)).mono ?_
    rintro e w1 ⟨rfl, h1, hb1⟩
    have hz1 := hb1.size
    go_wp2
    first | go_end0 | (refine bodyPost_ret (results_none rfl _ _ _) rfl ?_)
    refine ⟨rfl, ?_, hb1⟩
    rw [HX.out]
    simpa [List.append_assoc] using h1
  by_cases c9 : x.toNat = 9
  · have HX : Hid (qb x = [92, 116]) := Lib.hid (by rw [u8_lit x 9 (by omega) c9]; rfl)
    have q10 : ((x.toNat : Int) == 10) = false := by first | (rw [beq_iff_eq]; omega) | (rw [beq_eq_false_iff_ne]; omega)
    have q9 : ((x.toNat : Int) == 9) = true := by first | (rw [beq_iff_eq]; omega) | (rw [beq_eq_false_iff_ne]; omega)
    go_enter Tryz.func104, Tryz.ntmps104
    go_wp2_with fail
    refine (bls B b _ ⟨#[92, 116]⟩ _ h0 (by omega) (by decide) (by omega)).mono ?_
    rintro e w1 ⟨rfl, h1, hb1⟩
    have hz1 := hb1.size
    go_wp2
    first | go_end0 | (refine bodyPost_ret (results_none rfl _ _ _) rfl ?_)
    refine ⟨rfl, ?_, hb1⟩
    rw [HX.out]
    simpa [List.append_assoc] using h1
  have d10 : ((x.toNat : Int) == 10) = false := by rw [beq_eq_false_iff_ne]; omega
  have d9 : ((x.toNat : Int) == 9) = false := by rw [beq_eq_false_iff_ne]; omega
  have e10 : x ≠ 10 := fun h => c10 (by rw [h]; rfl)
  have e9 : x ≠ 9 := fun h => c9 (by rw [h]; rfl)
  by_cases c92 : x.toNat = 92 ∨ x.toNat = 34
  · have HX : Hid (qb x = [92, x]) := Lib.hid (by
      unfold qb; rw [if_neg e10, if_neg e9, if_pos]
      rcases c92 with h | h
      · exact .inl (u8_lit x 92 (by omega) h)
      · exact .inr (u8_lit x 34 (by omega) h))
    rcases c92 with c92 | c92
    · have q92 : ((x.toNat : Int) == 92) = true := by first | (rw [beq_iff_eq]; omega) | (rw [beq_eq_false_iff_ne]; omega)
      clear c92 e10 e9 c10 c9
      go_enter Tryz.func104, Tryz.ntmps104
      go_wp2_with fail
      refine (blb B b _ (92) (92) rfl _ h0 (by first | omega | (simp; omega)) (by omega)).mono ?_
      rintro e w1 ⟨rfl, h1, hb1⟩
      have hz1 := hb1.size
      go_wp2_with fail
      refine (blb B b _ (x) ((x.toNat : Int)) rfl _ h1 (by first | omega | (simp; omega)) (by omega)).mono ?_
      rintro e w2 ⟨rfl, h2, hb2⟩
      have hz2 := hb2.size
      go_wp2
      first | go_end0 | (refine bodyPost_ret (results_none rfl _ _ _) rfl ?_)
      refine ⟨rfl, ?_, (hb1.trans hb2)⟩
      rw [HX.out]
      simpa [List.append_assoc] using h2
    · have q92 : ((x.toNat : Int) == 92) = false := by first | (rw [beq_iff_eq]; omega) | (rw [beq_eq_false_iff_ne]; omega)
      have q34 : ((x.toNat : Int) == 34) = true := by first | (rw [beq_iff_eq]; omega) | (rw [beq_eq_false_iff_ne]; omega)
      clear c92 e10 e9 c10 c9
      go_enter Tryz.func104, Tryz.ntmps104
      go_wp2_with fail
      refine (blb B b _ (92) (92) rfl _ h0 (by first | omega | (simp; omega)) (by omega)).mono ?_
      rintro e w1 ⟨rfl, h1, hb1⟩
      have hz1 := hb1.size
      go_wp2_with fail
      refine (blb B b _ (x) ((x.toNat : Int)) rfl _ h1 (by first | omega | (simp; omega)) (by omega)).mono ?_
      rintro e w2 ⟨rfl, h2, hb2⟩
      have hz2 := hb2.size
      go_wp2
      first | go_end0 | (refine bodyPost_ret (results_none rfl _ _ _) rfl ?_)
      refine ⟨rfl, ?_, (hb1.trans hb2)⟩
      rw [HX.out]
      simpa [List.append_assoc] using h2
  have d92 : ((x.toNat : Int) == 92) = false := by rw [beq_eq_false_iff_ne]; omega
  have d34 : ((x.toNat : Int) == 34) = false := by rw [beq_eq_false_iff_ne]; omega
  have e92 : ¬ (x = 92 ∨ x = 34) := fun h => c92 (by rcases h with h | h <;> rw [h] <;> decide)
  by_cases c32 : x.toNat < 32 ∨ 126 < x.toNat
  · have HX : Hid (qb x = [92, 48 + x / 100, 48 + x / 10 % 10, 48 + x % 10]) := Lib.hid (by unfold qb; rw [if_neg e10, if_neg e9, if_neg e92, if_pos c32])
    rcases c32 with c32 | c32
    · have g1 : (x.toNat : Int) < 32 := by omega
      go_enter Tryz.func104, Tryz.ntmps104
      go_wp2_with fail
      refine (blb B b _ (92) (92) rfl _ h0 (by first | omega | (simp; omega)) (by omega)).mono ?_
      rintro e w1 ⟨rfl, h1, hb1⟩
      have hz1 := hb1.size
      go_wp2_with fail
      refine (blb B b _ (48 + x / 100) (48 + (x.toNat : Int) / 100) (dq1 x) _ h1 (by first | omega | (simp; omega)) (by omega)).mono ?_
      rintro e w2 ⟨rfl, h2, hb2⟩
      have hz2 := hb2.size
      go_wp2_with fail
      refine (blb B b _ (48 + x / 10 % 10) (48 + (x.toNat : Int) / 10 % 10) (dq2 x) _ h2 (by first | omega | (simp; omega)) (by omega)).mono ?_
      rintro e w3 ⟨rfl, h3, hb3⟩
      have hz3 := hb3.size
      go_wp2_with fail
      refine (blb B b _ (48 + x % 10) (48 + (x.toNat : Int) % 10) (dq3 x) _ h3 (by first | omega | (simp; omega)) (by omega)).mono ?_
      rintro e w4 ⟨rfl, h4, hb4⟩
      have hz4 := hb4.size
      go_wp2
      first | go_end0 | (refine bodyPost_ret (results_none rfl _ _ _) rfl ?_)
      refine ⟨rfl, ?_, (((hb1.trans hb2).trans hb3).trans hb4)⟩
      rw [HX.out]
      simpa [List.append_assoc] using h4
    · have g1 : ¬ (x.toNat : Int) < 32 := by omega
      have g2 : 126 < (x.toNat : Int) := by omega
      go_enter Tryz.func104, Tryz.ntmps104
      go_wp2_with fail
      refine (blb B b _ (92) (92) rfl _ h0 (by first | omega | (simp; omega)) (by omega)).mono ?_
      rintro e w1 ⟨rfl, h1, hb1⟩
      have hz1 := hb1.size
      go_wp2_with fail
      refine (blb B b _ (48 + x / 100) (48 + (x.toNat : Int) / 100) (dq1 x) _ h1 (by first | omega | (simp; omega)) (by omega)).mono ?_
      rintro e w2 ⟨rfl, h2, hb2⟩
      have hz2 := hb2.size
      go_wp2_with fail
      refine (blb B b _ (48 + x / 10 % 10) (48 + (x.toNat : Int) / 10 % 10) (dq2 x) _ h2 (by first | omega | (simp; omega)) (by omega)).mono ?_
      rintro e w3 ⟨rfl, h3, hb3⟩
      have hz3 := hb3.size
      go_wp2_with fail
      refine (blb B b _ (48 + x % 10) (48 + (x.toNat : Int) % 10) (dq3 x) _ h3 (by first | omega | (simp; omega)) (by omega)).mono ?_
      rintro e w4 ⟨rfl, h4, hb4⟩
      have hz4 := hb4.size
      go_wp2
      first | go_end0 | (refine bodyPost_ret (results_none rfl _ _ _) rfl ?_)
      refine ⟨rfl, ?_, (((hb1.trans hb2).trans hb3).trans hb4)⟩
      rw [HX.out]
      simpa [List.append_assoc] using h4
  · have HX : Hid (qb x = [x]) := Lib.hid (by unfold qb; rw [if_neg e10, if_neg e9, if_neg e92, if_neg c32])
    have g1 : ¬ (x.toNat : Int) < 32 := by omega
    have g2 : ¬ 126 < (x.toNat : Int) := by omega
    go_enter Tryz.func104, Tryz.ntmps104
    go_wp2_with fail
    refine (blb B b _ (x) ((x.toNat : Int)) rfl _ h0 (by first | omega | (simp; omega)) (by omega)).mono ?_
    rintro e w1 ⟨rfl, h1, hb1⟩
    have hz1 := hb1.size
    go_wp2
    first | go_end0 | (refine bodyPost_ret (results_none rfl _ _ _) rfl ?_)
    refine ⟨rfl, ?_, hb1⟩
    rw [HX.out]
    simpa [List.append_assoc] using h1
theorem bl_new (w : World) : Bl w.heap.size w.heap.size [] (w.alloc (.cells #[.pointer none, .slice none 0 0] 61)) :=
  .inl ⟨Nat.le_refl _, .slice none 0 0, heap_alloc_new w _, World.ownsRow_nil _ _ _ _, by simp [Value.ownBlock]⟩
theorem blS (B b : Nat) (l : List UInt8) (w : World) (h : Bl B b l w) (hB : B ≤ w.heap.size) :
    Calls Tryz.prog 36 #[(.pointer (some ⟨b, 0, none⟩))] w fun e w' => e = .returned (.string (bs l)) ∧ Below B w w' := Tryz.Builder_String_any B b l w h hB
theorem flat_len (l : List UInt8) (k : Nat) : ((l.take k).flatMap qb).length ≤ 4 * k := by
  have h := qt_len (l.take k)
  rw [List.length_take] at h
  omega
theorem flat_step {l : List UInt8} {k : Nat} (hk : k < l.length) : (l.take (k + 1)).flatMap qb = (l.take k).flatMap qb ++ qb l[k] := by
  rw [List.take_succ_eq_append_getElem hk, List.flatMap_append]; simp
set_option maxHeartbeats 2000000 in
theorem quote_any (s : ByteArray) (w : World) (hs : s.size ≤ 100000) :
    Calls Tryz.prog 81 #[.string s] w fun e w' => e = .returned (.string (bs (qt s.data.toList))) ∧ Below w.heap.size w w' := by
  have hll : s.data.toList.length = s.size := by simp
  have h0 := bl_new w
  have hb0 : Below w.heap.size w (w.alloc (.cells #[.pointer none, .slice none 0 0] 61)) := (Below.refl _ _).alloc (Nat.le_refl _) _
  go_enter Tryz.func81, Tryz.ntmps81
  go_wp2_with fail
  refine (blb w.heap.size w.heap.size [] 34 34 rfl _ h0 (by simp) hb0.size).mono ?_
  rintro e w1 ⟨rfl, h1, hb1⟩
  have HB1 := Lib.hid (hb0.trans hb1)
  have H1 := Lib.hid h1
  have hz1 := (hb0.trans hb1).size
  clear h0 hb0 h1 hb1
  go_wp2
  go_loopw [8] (fun v8 wr => ∃ k : Nat, k ≤ s.size ∧ v8 = .int .i64 (k : Int) ∧ Hid (Bl w.heap.size w.heap.size (34 :: (s.data.toList.take k).flatMap qb) wr) ∧ Hid (Below w.heap.size w wr)) (fun v8 _ => s.size - (intOf v8).toNat)
  case atStart => exact ⟨0, Nat.zero_le _, rfl, Lib.hid (by simpa using H1.out), HB1⟩
  case round =>
    obtain ⟨k, hk, rfl, HK, HB⟩ := hrel
    rename World => W0
    have hz0 := HB.out.size
    have hfl := flat_len s.data.toList k
    by_cases hlt : k < s.size
    · have hlt' : (k : Int) < (s.size : Int) := by omega
      have hcb := byte_bd3 s[k]
      have Q1 := Lib.hid (quoteByte_any w.heap.size w.heap.size _ s[k] W0 HK.out (by simp only [List.length_cons]; omega) hz0)
      have HST : Hid ((34 : UInt8) :: (s.data.toList.take (k + 1)).flatMap qb = (34 :: (s.data.toList.take k).flatMap qb) ++ qb s[k]) := Lib.hid (by
        rw [flat_step (by omega)]; simp; rfl)
      clear hfl
      go_wp2_with (go_at_call 104; (with_reducible refine (Q1.out).mono ?_); rintro e w2 ⟨rfl, h2, hb2⟩)
      go_roundw
      case rel => exact ⟨k + 1, by omega, by go_num, Lib.hid (by rw [HST.out]; exact h2), Lib.hid (HB.out.trans hb2)⟩
      case measure => simp [intOf]; omega
    · have hk2 : k = s.size := by omega
      have hlt' : ¬ (k : Int) < (s.size : Int) := by omega
      have H5 : Hid (Bl w.heap.size w.heap.size (34 :: s.data.toList.flatMap qb) W0) := Lib.hid (by have := HK.out; rw [hk2, ← hll, List.take_length] at this; exact this)
      have hfl2 := qt_len s.data.toList
      have W1 := Lib.hid (blb w.heap.size w.heap.size (34 :: s.data.toList.flatMap qb) 34 34 rfl W0 H5.out (by simp only [List.length_cons]; omega) hz0)
      clear hk2 hfl hfl2
      go_wp2_with fail
      refine (W1.out).mono ?_
      rintro e w2 ⟨rfl, h2, hb2⟩
      have hz2 := hb2.size
      go_wp2_with fail
      refine (blS w.heap.size w.heap.size _ w2 h2 (by omega)).mono ?_
      rintro e w3 ⟨rfl, hb3⟩
      go_wp2
      go_ret
      exact ⟨rfl, HB.out.trans (hb2.trans hb3)⟩
theorem bl_ch {B b : Nat} {l : List UInt8} {S : List Nat} {w W : World} (h : Bl B b l w) (hc : Ch S w W) (hb : b ∉ S) (hS : ∀ g ∈ S, ∀ c fz, w.heap[g]? ≠ some (.cells c 5 fz)) : Bl B b l W := by
  have key : ∀ p, BAt B b p (Lib.byteCells l) w → BAt B b p (Lib.byteCells l) W := fun p h => by
    obtain ⟨h1, v, h2, h3, h4⟩ := h
    refine ⟨h1, v, ?_, ⟨h3.1, ?_⟩, h4⟩
    · rw [hc.block b (Array.getElem?_eq_some_iff.1 h2).1 hb]; exact h2
    · rcases h3.2 with h0 | ⟨g, cap, cur, rfl, hg, hh, r⟩
      · exact .inl h0
      · refine .inr ⟨g, cap, cur, rfl, hg, ?_, r⟩
        rw [hc.block g (Array.getElem?_eq_some_iff.1 hh).1 (fun e => hS g e _ _ hh)]; exact hh
  rcases h with h | h
  · exact .inl (key _ h)
  · exact .inr (key _ h)
theorem bll (B b : Nat) (l : List UInt8) (w : World) (h : Bl B b l w) :
    Calls Tryz.prog 35 #[.pointer (some ⟨b, 0, none⟩)] w fun e w' => e = .returned (.int .i64 (l.length : Int)) ∧ w = w' := by
  refine (Tryz.Builder_Len B b _ w h).mono ?_
  rintro e w' ⟨rfl, rfl⟩
  exact ⟨by rw [Lib.byteCells_length], rfl⟩
theorem bls2 (B b : Nat) (l : List UInt8) (y : ByteArray) (w : World) (h : Bl B b l w) (hl : l.length ≤ 100000000) (hy : y.size ≤ 100000000) (hB : B ≤ w.heap.size) :
    Calls Tryz.prog 28 #[(.pointer (some ⟨b, 0, none⟩)), .string y] w fun e w' => e = .returned (.tuple #[.int .i64 y.size, .nilIface]) ∧ Bl B b (l ++ y.data.toList) w' ∧ Below B w w' ∧ Lib.OthersKept 5 (some b) w w' := by
  refine (bstr_any B b (Lib.byteCells l) y w h (by rw [Lib.byteCells_length]; omega) hB).mono fun e w' ⟨h1, h2, h3, h4⟩ => ⟨h1, .inr ?_, h3, h4⟩
  rw [show Lib.byteCells (l ++ y.data.toList) = Lib.byteCells l ++ Lib.strCells y by simp [Lib.byteCells, Lib.strCells]]
  exact h2
end Go.Proofs.YtbdcmnhfmkefdaaGreatDoor
