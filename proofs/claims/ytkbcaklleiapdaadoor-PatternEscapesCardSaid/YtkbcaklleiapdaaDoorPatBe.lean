/- Mathematics of layer 4: replacements. -/
import Derived.Test.YtkbcaklleiapdaaDoorPatP
import Derived.Lib.ItoaNum
import Derived.Lib.IndexLaws
import Derived.Test.YtkbcaklleiapdaaDoorPatK
import Derived.Lib.Builder
import Derived.Lib.AppendStr
import Derived.Laws.Externs
import Derived.Lib.SmallJoins
import Derived.Lib.OthersKept
import Derived.Lib.OwnKind
import Derived.Test.YtkbcaklleiapdaaDoorShelf
import Derived.Lib.UnsafeStr
import Derived.BigQuiet
import Derived.Lib.AppendIntMem
import Derived.Test.YtkbcaklleiapdaaDoorPatAa
import Derived.Deep.RegionHeld3
import Derived.Lib.ItoaLen
namespace Go.Proofs.YtkbcaklleiapdaaDoor.M4
def cutF (s : List UInt8) (a b : Nat) : List UInt8 := (s.drop a).take (b - a)
/-- A capture lies in a string of n bytes. -/
def capB (n : Int) (c : Int × Int) : Bool := decide (0 ≤ c.1) && decide (c.1 ≤ (if c.2 = -1 then c.1 else c.2)) && decide ((if c.2 = -1 then c.1 else c.2) ≤ n)
def liesB (n fr tt : Int) (m : Caps) : Bool := decide (0 ≤ fr) && decide (fr ≤ tt) && decide (tt ≤ n) && m.all (capB n)
/-- What takes the place of % and a byte; none: an error of form. -/
def insF (s : List UInt8) (fr tt : Nat) (m : Caps) (x : UInt8) : Option (List UInt8) :=
  if x = 37 then some [37]
  else if x = 48 ∨ (x = 49 ∧ m.length = 0) then some (cutF s fr tt)
  else if x.toNat < 49 ∨ 57 < x.toNat then none
  else match m[x.toNat - 49]? with
    | some c => if c.2 = -1 then some (Lib.itoa (c.1 + 1)) else some (cutF s c.1.toNat c.2.toNat)
    | none => none
/-- The text of a replacement; none: an error of form. -/
def fillL (I : UInt8 → Option (List UInt8)) : List UInt8 → Option (List UInt8)
  | [] => some []
  | [c] => if c = 37 then none else some [c]
  | c :: x :: r => if c = 37 then (I x).bind fun t => (fillL I r).map fun q => t ++ q else (fillL I (x :: r)).map fun q => c :: q
theorem fillL_cons (I : UInt8 → Option (List UInt8)) {c : UInt8} (hc : c ≠ 37) (l : List UInt8) : fillL I (c :: l) = (fillL I l).map fun q => c :: q := by
  cases l with
  | nil => simp [fillL, hc]
  | cons x r => rw [fillL, if_neg hc]
theorem fillL_plain (I : UInt8 → Option (List UInt8)) : ∀ (a b : List UInt8), (∀ c ∈ a, c ≠ 37) → fillL I (a ++ b) = (fillL I b).map fun q => a ++ q
  | [], b, _ => by simp
  | c :: a, b, h => by
    rw [List.cons_append, fillL_cons I (h c (by simp)), fillL_plain I a b (fun d hd => h d (by simp [hd])), Option.map_map]; rfl
theorem fillL_all (I : UInt8 → Option (List UInt8)) (a : List UInt8) (h : ∀ c ∈ a, c ≠ 37) : fillL I a = some a := by
  have := fillL_plain I a [] h
  simpa [fillL] using this
theorem plain_none {l : List UInt8} (h : Lib.indexByte l 37 = -1) : ∀ c ∈ l, c ≠ 37 := fun c hc e => by
  obtain ⟨k, hk, rfl⟩ := List.mem_iff_getElem.1 hc
  exact Lib.indexByte_none h k (by rw [List.getElem?_eq_getElem hk, e])
theorem plain_some {l : List UInt8} {i : Nat} (h : Lib.indexByte l 37 = i) : i < l.length ∧ l = l.take i ++ 37 :: l.drop (i + 1) ∧ ∀ c ∈ l.take i, c ≠ 37 := by
  obtain ⟨h1, h2⟩ := Lib.indexByte_some h
  obtain ⟨hi, he⟩ := List.getElem?_eq_some_iff.1 h1
  refine ⟨hi, ?_, fun c hc e => ?_⟩
  · rw [← he, ← List.drop_eq_getElem_cons hi, List.take_append_drop]
  · obtain ⟨k, hk, hke⟩ := List.mem_iff_getElem.1 hc
    rw [List.length_take] at hk
    rw [List.getElem_take] at hke
    exact h2 k (by omega) (by rw [List.getElem?_eq_getElem (by omega), hke, e])
theorem fill_last (I : UInt8 → Option (List UInt8)) (a : List UInt8) (h : ∀ c ∈ a, c ≠ 37) : fillL I (a ++ [37]) = none := by
  rw [fillL_plain I a _ h]; simp [fillL]
theorem fill_pair (I : UInt8 → Option (List UInt8)) (a : List UInt8) (x : UInt8) (r : List UInt8) (h : ∀ c ∈ a, c ≠ 37) : fillL I (a ++ 37 :: x :: r) = (I x).bind fun t => (fillL I r).map fun q => a ++ t ++ q := by
  rw [fillL_plain I a _ h, fillL, if_pos rfl]
  cases I x with
  | none => rfl
  | some t => simp only [Option.bind_some, Option.map_map]; congr 1; funext q; simp
/-- Fill's answer: the text, or the error. -/
def fillE (I : UInt8 → Option (List UInt8)) (repl : List UInt8) : Except Nat (List UInt8) := match fillL I repl with
  | none => .error 4
  | some t => if 4096 < t.length then .error 14 else .ok t
def replE (s repl : List UInt8) : List Mt → Nat → List UInt8 → Except Nat (List UInt8)
  | [], a, acc => if 4096 < (acc ++ s.drop a).length then .error 14 else .ok (acc ++ s.drop a)
  | m :: ms, a, acc => match fillE (insF s m.fr m.to m.caps) repl with
    | .error e => .error e
    | .ok t => if 4096 < (acc ++ cutF s a m.fr ++ t).length then .error 14 else replE s repl ms m.to (acc ++ cutF s a m.fr ++ t)
theorem take_cut (s : List UInt8) (a b : Nat) (h : a ≤ b) : s.take a ++ cutF s a b = s.take b := by
  unfold cutF
  rw [show b = a + (b - a) by omega, List.take_add]; simp
theorem fill_zero (s : List UInt8) (fr tt : Nat) (m : Caps) : fillL (insF s fr tt m) [37, 48] = some (cutF s fr tt) := by
  simp [fillL, insF]
theorem repl_keeps (s : List UInt8) (g : Pg) (hg : Gok g) (h4 : s.length ≤ 4096) : ∀ (ms : List Mt) (last : Option Nat) (a : Nat), Asc s g last a ms → a ≤ s.length → replE s [37, 48] ms a (s.take a) = .ok s
  | [], last, a, _, _ => by
    rw [replE, List.take_append_drop, if_neg (by omega)]
  | m :: ms, last, a, h, ha => by
    obtain ⟨h1, h2, h3, h5, h6, h7⟩ := h
    have hm := atM_ok hg h6 h3
    have l1 := hm.le
    have l2 := hm.hi
    simp only [] at l1 l2
    have e1 := take_cut s a m.fr h1
    have e2 := take_cut s m.fr m.to l1
    have h8 : (cutF s m.fr m.to).length ≤ s.length := by unfold cutF; rw [List.length_take, List.length_drop]; omega
    unfold replE fillE
    rw [fill_zero]
    simp only []
    rw [if_neg (by omega)]
    simp only []
    rw [e1, e2, if_neg (by rw [List.length_take]; omega)]
    exact repl_keeps s g hg h4 ms (some m.to) m.to h7 l2
end Go.Proofs.YtkbcaklleiapdaaDoor.M4
namespace Go.Proofs.YtkbcaklleiapdaaDoor
open Go.RowKit Go.Joins M4
set_option linter.unusedVariables false
abbrev BAt (B b : Nat) (p : Value) (l : List Value) (w : World) : Prop := Lib.BuilderAt 59 5 B b p l w
abbrev BIs (B b : Nat) (l : List Value) (w : World) : Prop := Lib.IsBuilder 59 5 B b l w
theorem bsize : (Tryd.prog.info? 59).map (·.size) = some 2 := by kernel_rfl
theorem blies : liesAt Tryd.prog Tryd.prog.depth 59 (2 / Tryd.prog.cellsOf 59) 0 59 1 = true := by kernel_rfl
theorem bbyte : (Tryd.prog.info? 5).map (fun i => (i.zero, i.size, i.bytes)) = some (some (.int .u8 0), 1, 1) := by kernel_rfl
theorem bcheck_used (b : Nat) (w : World) (h0 : w.cell? ⟨b, 0, none⟩ = some (.pointer (some ⟨b, 0, none⟩))) :
    Calls Tryd.prog 47 #[(.pointer (some ⟨b, 0, none⟩))] w fun e w' => e = .returned (.tuple #[]) ∧ w' = w := by
  obtain ⟨j, hj, _⟩ := Option.map_eq_some_iff.1 bsize
  have hne := Lib.run_neq_ptr_same (P := Tryd.prog) w ⟨b, 0, none⟩ Tryd.underlying56 hj
  go_enter Tryd.func47, Tryd.ntmps47
  go_wp2
  try rw [hne]
  try go_wp2
  go_end0
  exact ⟨rfl, rfl⟩
theorem bcheck_fresh (b : Nat) (w : World) (h0 : w.cell? ⟨b, 0, none⟩ = some (.pointer none)) (hsh : w.shape? b = some (59, 2)) (hfz : w.frozen? ⟨b, 0, none⟩ = false) :
    Calls Tryd.prog 47 #[(.pointer (some ⟨b, 0, none⟩))] w fun e w' => e = .returned (.tuple #[]) ∧ w' = w.setCell ⟨b, 0, none⟩ (.pointer (some ⟨b, 0, none⟩)) := by
  obtain ⟨j, hj, hjs⟩ := Option.map_eq_some_iff.1 bsize
  have e1 := Lib.run_to_unsafe (P := Tryd.prog) w ⟨b, 0, none⟩ Tryd.underlying56 Tryd.underlying112 hj (by rw [hjs]; decide) hsh (Nat.zero_lt_succ 1)
  have e2 := run_callFunc_extern (P := Tryd.prog) Tryd.func64 (by kernel_rfl) (by kernel_rfl) (by kernel_rfl) (e := Extern.AbiNoEscape.same) (by kernel_rfl) #[(.pointer (some ⟨b, 0, none⟩))] w
  rw [Lib.run_noEscape] at e2
  have e3 := Lib.run_from_unsafe (P := Tryd.prog) w ⟨b, 0, none⟩ Tryd.underlying112 Tryd.underlying56 hj hsh blies
  go_enter Tryd.func47, Tryd.ntmps47
  go_wp2
  go_end0
  exact ⟨rfl, rfl⟩
theorem bcheck_any (B b : Nat) (l : List Value) (w : World) (h : BIs B b l w) :
    Calls Tryd.prog 47 #[(.pointer (some ⟨b, 0, none⟩))] w fun e w' => e = .returned (.tuple #[]) ∧ BAt B b (.pointer (some ⟨b, 0, none⟩)) l w' ∧ Below B w w' ∧ Lib.OthersKept 5 (some b) w w' := by
  cases h with
  | inl h =>
    refine (bcheck_fresh b w h.cell0 h.shape h.frozen0).mono fun e w' ⟨g1, g2⟩ => ⟨g1, ?_, ?_, ?_⟩
    · rw [g2]; exact h.used _
    · rw [g2]; exact (Below.refl B w).setCell (p := ⟨b, 0, none⟩) h.1 _
    · rw [g2]; exact (Lib.OthersKept.refl _ _ w).setCell ⟨b, 0, none⟩ rfl _
  | inr h =>
    refine (bcheck_used b w h.cell0).mono fun e w' ⟨g1, g2⟩ => ⟨g1, ?_, ?_, ?_⟩
    · rw [g2]; exact h
    · rw [g2]; exact Below.refl B w
    · rw [g2]; exact Lib.OthersKept.refl _ _ w
theorem bne : 59 ≠ 5 := by decide
set_option maxHeartbeats 1000000 in
theorem bbyte_any (B b : Nat) (l : List Value) (c : Int) (w : World) (h : BIs B b l w) (hlen : l.length + 1 ≤ 140737488355328) (hBw : B ≤ w.heap.size) :
    Calls Tryd.prog 36 #[(.pointer (some ⟨b, 0, none⟩)), .int .u8 c] w fun e w' => e = .returned .nilIface ∧ BAt B b (.pointer (some ⟨b, 0, none⟩)) (l ++ [.int .u8 c]) w' ∧ Below B w w' ∧ Lib.OthersKept 5 (some b) w w' := by
  obtain ⟨i0, hi, hz0, hz1, hz2⟩ := info_parts bbyte
  have C1 := Lib.hid (bcheck_any B b l w h)
  clear h
  go_enter Tryd.func36, Tryd.ntmps36
  go_upto_region 2 with (go_at_call 47; (with_reducible refine (C1.out).mono ?_); rintro e w1 ⟨rfl, h1, hb1, hk1⟩)
  obtain ⟨hB, v, hbk, hown, hne⟩ := h1
  have hlt : b < w1.heap.size := (Array.getElem?_eq_some_iff.1 hbk).1
  have hw1 := hb1.size
  have c1 : w1.cell? ⟨b, 1, none⟩ = some v := by simp [World.cell?, hbk]
  have HB := Lib.hid hbk
  have HB1 := Lib.hid hb1
  have HK1 := Lib.hid hk1
  have HN := Lib.hid hne
  have HOW := Lib.hid hown
  clear hbk hb1 hne hown hk1
  go_wp2_with (at_builtin; refine wpList_append_own _ rfl _ _ 57 rfl B 5 i0 (.int .u8 0) 1 1 Tryd.underlying57 hi hz0 hz1 hz2 rfl (by decide) _ _ _ rfl (HOW.out.alloc _) ⟨w1.heap.size, 0, none⟩ 1 1 [.int .u8 c] rfl rfl (by intro j u' hj; match j, hj with | 0, hj => (simp at hj; subst hj; simp [Addr.add])) (by intro u' hu'; simp at hu'; subst hu'; rfl) (by unfold maxLen; omega) (by omega) (by simp; omega) ?_)
  intro v2 w2 hown2 hgrow _
  have hb2 : w2.heap[b]? = some (.cells #[(.pointer (some ⟨b, 0, none⟩)), v] 59 (0, 0)) := by
    rw [hgrow.block b (by simp; omega) (fun e => HN.out e.symm), RowKit.Below.heap_alloc w1 _ b hlt]; exact HB.out
  have d1 : w2.cell? ⟨b, 1, none⟩ = some v := by simp [World.cell?, hb2]
  have f1 : w2.frozen? ⟨b, 1, none⟩ = false := by simp [World.frozen?, hb2]
  obtain ⟨g, cap, rfl⟩ := ownsRow_form hown2 (by omega)
  have HP := Lib.hid (Lib.BuilderAt.put hB hb2 (show w2.ownsRow B 5 1 _ (l ++ [Value.int .u8 c]).length _ by simpa using hown2) bne)
  have HE := Lib.hid (((HB1.out.alloc (by omega) _).grown hgrow (by simp; omega) (fun k e => (World.ownsRow.lt HOW.out k e).1)).setCell (p := ⟨b, 1, none⟩) hB (.slice (some ⟨g, 0, none⟩) (l.length + 1) cap))
  have HQ := Lib.hid (((HK1.out.alloc _).grown hgrow (Lib.ownsRow_kind (HOW.out.alloc _))).setCell ⟨b, 1, none⟩ rfl (.slice (some ⟨g, 0, none⟩) (l.length + 1) cap))
  clear hb2 hown2 hgrow
  go_wp2
  go_ret
  exact ⟨rfl, HP.out, HE.out, HQ.out⟩
set_option maxHeartbeats 1000000 in
theorem bstr_any (B b : Nat) (l : List Value) (s : ByteArray) (w : World) (h : BIs B b l w) (hlen : l.length + s.size ≤ 140737488355328) (hBw : B ≤ w.heap.size) :
    Calls Tryd.prog 28 #[(.pointer (some ⟨b, 0, none⟩)), .string s] w fun e w' => e = .returned (.tuple #[.int .i64 s.size, .nilIface]) ∧ BAt B b (.pointer (some ⟨b, 0, none⟩)) (l ++ Lib.strCells s) w' ∧ Below B w w' ∧ Lib.OthersKept 5 (some b) w w' := by
  obtain ⟨i0, hi, hz0, hz1, hz2⟩ := info_parts bbyte
  have C1 := Lib.hid (bcheck_any B b l w h)
  clear h
  go_enter Tryd.func28, Tryd.ntmps28
  go_upto_region 2 with (go_at_call 47; (with_reducible refine (C1.out).mono ?_); rintro e w1 ⟨rfl, h1, hb1, hk1⟩)
  obtain ⟨hB, v, hbk, hown, hne⟩ := h1
  have hlt : b < w1.heap.size := (Array.getElem?_eq_some_iff.1 hbk).1
  have hw1 := hb1.size
  have c1 : w1.cell? ⟨b, 1, none⟩ = some v := by simp [World.cell?, hbk]
  have HB := Lib.hid hbk
  have HB1 := Lib.hid hb1
  have HK1 := Lib.hid hk1
  have HN := Lib.hid hne
  have HOW := Lib.hid hown
  clear hbk hb1 hne hown hk1
  go_wp2_with (at_builtin; refine Lib.wpList_append_own_string _ rfl _ _ 57 9 rfl B 5 i0 Tryd.underlying57 Tryd.underlying9 hi hz0 hz1 hz2 _ _ _ rfl HOW.out s rfl (by unfold maxLen; omega) (by omega) (by omega) ?_)
  intro v2 w2 hown2 hgrow _
  have hb2 : w2.heap[b]? = some (.cells #[(.pointer (some ⟨b, 0, none⟩)), v] 59 (0, 0)) := by
    rw [hgrow.block b hlt (fun e => HN.out e.symm)]; exact HB.out
  have d1 : w2.cell? ⟨b, 1, none⟩ = some v := by simp [World.cell?, hb2]
  have f1 : w2.frozen? ⟨b, 1, none⟩ = false := by simp [World.frozen?, hb2]
  have hsl : ∃ a n cap, v2 = .slice a n cap := by
    rcases ownsRow_forms hown2 with ⟨e, _⟩ | ⟨g, cap, e⟩
    · exact ⟨_, _, _, e⟩
    · exact ⟨_, _, _, e⟩
  obtain ⟨a, n, cap, rfl⟩ := hsl
  have HP := Lib.hid (Lib.BuilderAt.put hB hb2 (show w2.ownsRow B 5 1 _ (l ++ Lib.strCells s).length _ by simpa [Lib.strCells_length] using hown2) bne)
  have HE := Lib.hid ((HB1.out.grown hgrow (by omega) (fun k e => (World.ownsRow.lt HOW.out k e).1)).setCell (p := ⟨b, 1, none⟩) hB (.slice a n cap))
  have HQ := Lib.hid ((HK1.out.grown hgrow (Lib.ownsRow_kind HOW.out)).setCell ⟨b, 1, none⟩ rfl (.slice a n cap))
  clear hb2 hown2 hgrow
  go_wp2
  go_ret2
  exact ⟨rfl, HP.out, HE.out, HQ.out⟩
end Go.Proofs.YtkbcaklleiapdaaDoor
namespace Go.Proofs.YtkbcaklleiapdaaDoor
open Go.RowKit Go.Joins M4
set_option linter.unusedVariables false
def bs (l : List UInt8) : ByteArray := ⟨l.toArray⟩
/-- A builder that holds bytes. -/
abbrev Bl (B b : Nat) (l : List UInt8) (w : World) : Prop := BIs B b (Lib.byteCells l) w
theorem blb (B b : Nat) (l : List UInt8) (x : UInt8) (v : Int) (hv : (x.toNat : Int) = v) (w : World) (h : Bl B b l w) (hl : l.length ≤ 100000000) (hB : B ≤ w.heap.size) :
    Calls Tryd.prog 36 #[(.pointer (some ⟨b, 0, none⟩)), .int .u8 v] w fun e w' => e = .returned .nilIface ∧ Bl B b (l ++ [x]) w' ∧ Below B w w' := by
  subst hv
  refine (bbyte_any B b (Lib.byteCells l) (x.toNat : Int) w h (by rw [Lib.byteCells_length]; omega) hB).mono fun e w' ⟨h1, h2, h3, _⟩ => ⟨h1, .inr ?_, h3⟩
  rw [show Lib.byteCells (l ++ [x]) = Lib.byteCells l ++ [.int .u8 (x.toNat : Int)] by simp [Lib.byteCells]]
  exact h2
theorem bls (B b : Nat) (l : List UInt8) (y : ByteArray) (w : World) (h : Bl B b l w) (hl : l.length ≤ 100000000) (hy : y.size ≤ 100000000) (hB : B ≤ w.heap.size) :
    Calls Tryd.prog 28 #[(.pointer (some ⟨b, 0, none⟩)), .string y] w fun e w' => e = .returned (.tuple #[.int .i64 y.size, .nilIface]) ∧ Bl B b (l ++ y.data.toList) w' ∧ Below B w w' := by
  refine (bstr_any B b (Lib.byteCells l) y w h (by rw [Lib.byteCells_length]; omega) hB).mono fun e w' ⟨h1, h2, h3, _⟩ => ⟨h1, .inr ?_, h3⟩
  rw [show Lib.byteCells (l ++ y.data.toList) = Lib.byteCells l ++ Lib.strCells y by simp [Lib.byteCells, Lib.strCells]]
  exact h2
theorem bl_new (w : World) : Bl w.heap.size w.heap.size [] (w.alloc (.cells #[.pointer none, .slice none 0 0] 59)) :=
  .inl ⟨Nat.le_refl _, .slice none 0 0, heap_alloc_new w _, World.ownsRow_nil _ _ _ _, by simp [Value.ownBlock]⟩
theorem blS (B b : Nat) (l : List UInt8) (w : World) (h : Bl B b l w) (hB : B ≤ w.heap.size) :
    Calls Tryd.prog 31 #[(.pointer (some ⟨b, 0, none⟩))] w fun e w' => e = .returned (.string (bs l)) ∧ Below B w w' := Tryd.Builder_String_any B b l w h hB
end Go.Proofs.YtkbcaklleiapdaaDoor
namespace Go.Proofs.YtkbcaklleiapdaaDoor
open Go.RowKit M4
set_option linter.unusedVariables false
/-- Captures in memory, on. -/
def CapR (w : World) (v : Value) (m : Caps) : Prop := ∃ p n c, v = .slice p n c ∧ n = m.length ∧ (0 < n → ∃ g o, p = some ⟨g, o, none⟩ ∧ g < w.heap.size ∧ ∀ k c, m[k]? = some c → w.cell? ⟨g, o + k * 2, none⟩ = some (.int .i64 c.1) ∧ w.cell? ⟨g, o + k * 2 + 1, none⟩ = some (.int .i64 c.2))
theorem CapR.below {w W : World} {v : Value} {m : Caps} (h : CapR w v m) (hb : Below w.heap.size w W) : CapR W v m := by
  obtain ⟨p, n, c, h1, h2, h3⟩ := h
  refine ⟨p, n, c, h1, h2, fun hn => ?_⟩
  obtain ⟨g, o, h4, h5, h6⟩ := h3 hn
  exact ⟨g, o, h4, Nat.lt_of_lt_of_le h5 hb.size, fun k c hk => by rw [hb.cell h5, hb.cell h5]; exact h6 k c hk⟩
theorem capB_yes {n a b : Int} (h : capB n (a, b) = true) : 0 ≤ a ∧ a ≤ (if b = -1 then a else b) ∧ (if b = -1 then a else b) ≤ n := by
  unfold capB at h; simpa [and_assoc] using h
theorem capB_no {n a b : Int} (h : capB n (a, b) = false) : a < 0 ∨ (0 ≤ a ∧ (if b = -1 then a else b) < a) ∨ (0 ≤ a ∧ a ≤ (if b = -1 then a else b) ∧ n < (if b = -1 then a else b)) := by
  by_cases h1 : a < 0
  · exact .inl h1
  by_cases h2 : (if b = -1 then a else b) < a
  · exact .inr (.inl ⟨by omega, h2⟩)
  by_cases h3 : n < (if b = -1 then a else b)
  · exact .inr (.inr ⟨by omega, by omega, h3⟩)
  · have : capB n (a, b) = true := by unfold capB; simp [and_assoc]; omega
    rw [this] at h; cases h
theorem liesB_all {n fr tt : Int} {m : Caps} (h0 : 0 ≤ fr) (h1 : fr ≤ tt) (h2 : tt ≤ n) (h : ∀ j c, j < m.length → m[j]? = some c → capB n c = true) : liesB n fr tt m = true := by
  unfold liesB
  rw [decide_eq_true h0, decide_eq_true h1, decide_eq_true h2, Bool.true_and, Bool.true_and, Bool.true_and, List.all_eq_true]
  intro c hc
  obtain ⟨k, hk, rfl⟩ := List.mem_iff_getElem.1 hc
  exact h k _ hk (List.getElem?_eq_getElem hk)
theorem liesB_bad {n fr tt : Int} {m : Caps} {k : Nat} {c : Int × Int} (hk : m[k]? = some c) (h : capB n c = false) : liesB n fr tt m = false := by
  unfold liesB
  rw [Bool.and_eq_false_iff]; right
  rw [← Bool.not_eq_true, List.all_eq_true]
  intro h2
  have := h2 c (List.mem_of_getElem? hk)
  rw [h] at this; cases this
theorem liesB_head {n fr tt : Int} {m : Caps} (h : fr < 0 ∨ tt < fr ∨ n < tt) : liesB n fr tt m = false := by
  unfold liesB
  rcases h with h | h | h
  · rw [decide_eq_false (by omega : ¬ 0 ≤ fr)]; simp
  · rw [decide_eq_false (by omega : ¬ fr ≤ tt)]; simp
  · rw [decide_eq_false (by omega : ¬ tt ≤ n)]; simp
set_option maxHeartbeats 4000000 in
set_option maxRecDepth 100000 in
theorem lies_any (s : ByteArray) (fr tt : Int) (v : Value) (m : Caps) (w : World) (h : CapR w v m) (hl : m.length ≤ 1000000) :
    Calls Tryd.prog 25 #[.string s, .agg #[.int .i64 fr, .int .i64 tt, v]] w fun e w' => e = .returned (.bool (liesB s.size fr tt m)) ∧ Below w.heap.size w w' := by
  obtain ⟨p, n, c, rfl, hn, hR⟩ := h
  have hn6 : n ≤ 1000000 := by omega
  obtain ⟨q, hq⟩ : ∃ q, liesB s.size fr tt m = q := ⟨_, rfl⟩
  rw [hq]
  have HQ := Lib.hid hq
  have HR := Lib.hid hR
  have HN := Lib.hid hn
  clear hR hn hq
  by_cases hd1 : fr < 0
  · go_enter Tryd.func25, Tryd.ntmps25
    go_wp2
    go_ret
    obtain rfl : q = false := by rw [← HQ.out]; exact liesB_head (.inl hd1)
    exact ⟨rfl, (Below.refl _ _).alloc (Nat.le_refl _) _⟩
  by_cases hd2 : tt < fr
  · go_enter Tryd.func25, Tryd.ntmps25
    go_wp2
    go_ret
    obtain rfl : q = false := by rw [← HQ.out]; exact liesB_head (.inr (.inl hd2))
    exact ⟨rfl, (Below.refl _ _).alloc (Nat.le_refl _) _⟩
  by_cases hd3 : (s.size : Int) < tt
  · go_enter Tryd.func25, Tryd.ntmps25
    go_wp2
    go_ret
    obtain rfl : q = false := by rw [← HQ.out]; exact liesB_head (.inr (.inr hd3))
    exact ⟨rfl, (Below.refl _ _).alloc (Nat.le_refl _) _⟩
  have HT : Hid ((∀ j c, j < m.length → m[j]? = some c → capB s.size c = true) → q = true) := Lib.hid fun h => by rw [← HQ.out]; exact liesB_all (by omega) (by omega) (by omega) h
  have HF : Hid (∀ (k : Nat) (c : Int × Int), m[k]? = some c → capB s.size c = false → q = false) := Lib.hid fun k c h1 h2 => by rw [← HQ.out]; exact liesB_bad h1 h2
  clear HQ
  go_enter Tryd.func25, Tryd.ntmps25
  go_wp2
  go_loopw [28] (fun v28 wr => ∃ k : Nat, k ≤ n ∧ v28 = .int .i64 (k : Int) ∧ Hid (Below w.heap.size w wr) ∧ Hid (∀ j c, j < k → m[j]? = some c → capB s.size c = true)) (fun v28 _ => n - (intOf v28).toNat)
  case atStart => exact ⟨0, Nat.zero_le _, rfl, Lib.hid ((Below.refl _ _).alloc (Nat.le_refl _) _), Lib.hid fun j c hj => absurd hj (by omega)⟩
  case round =>
    obtain ⟨k, hk, rfl, HB, HC⟩ := hrel
    rename World => W0
    have hz0 := HB.out.size
    have hk1 := i64w ((k : Int) + 1) (by omega)
    by_cases hlt : k < n
    · have hlt' : (k : Int) < (n : Int) := by omega
      obtain ⟨x, hx⟩ : ∃ c, m[k]? = some c := ⟨m[k]'(by have := HN.out; omega), List.getElem?_eq_getElem _⟩
      obtain ⟨g, o, rfl, hg, hcell⟩ := HR.out (by omega)
      obtain ⟨x1, x2⟩ := hcell k x hx
      have c0 : W0.cell? ⟨g, o + k * 2, none⟩ = some (.int .i64 x.1) := by rw [HB.out.cell hg]; exact x1
      have c1 : W0.cell? ⟨g, o + k * 2 + 1, none⟩ = some (.int .i64 x.2) := by rw [HB.out.cell hg]; exact x2
      have HX := Lib.hid hx
      clear x1 x2 hcell hx HR
      obtain ⟨a, b⟩ := x
      simp only [] at c0 c1
      have HE : Hid (Below w.heap.size w (W0.alloc (.cells #[.int .i64 a, .int .i64 b] 43))) := Lib.hid (HB.out.alloc hz0 _)
      cases hcap : capB s.size (a, b) with
      | true =>
        have HC2 : Hid (∀ j c, j < k + 1 → m[j]? = some c → capB s.size c = true) := Lib.hid fun j c h1 h2 => by
          by_cases e : j = k
          · rw [e, HX.out] at h2; cases h2; exact hcap
          · exact HC.out j c (by omega) h2
        obtain ⟨y1, y2, y3⟩ := capB_yes hcap
        clear hcap HX
        by_cases hb1 : b = -1
        · subst hb1
          rw [if_pos rfl] at y2 y3
          clear y2
          go_upto_region 6 with fail
          go_wp2
          go_roundw
          case rel => exact ⟨k + 1, by omega, by go_num, HE, HC2⟩
          case measure => simp [intOf]; omega
        · rw [if_neg hb1] at y2 y3
          have hb2 : (b == -1) = false := by simpa using hb1
          go_upto_region 6 with fail
          go_wp2
          go_roundw
          case rel => exact ⟨k + 1, by omega, by go_num, HE, HC2⟩
          case measure => simp [intOf]; omega
      | false =>
        obtain rfl : q = false := HF.out k _ HX.out hcap
        have hno := capB_no hcap
        clear hcap HX
        by_cases hb1 : b = -1
        · subst hb1
          rw [if_pos rfl] at hno
          rcases hno with y1 | ⟨y1, y2⟩ | ⟨y1, y2, y3⟩
          · go_upto_region 6 with fail
            go_wp2
            go_ret
            exact ⟨rfl, HE.out⟩
          · omega
          · clear y2
            go_upto_region 6 with fail
            go_wp2
            go_ret
            exact ⟨rfl, HE.out⟩
        · rw [if_neg hb1] at hno
          have hb2 : (b == -1) = false := by simpa using hb1
          rcases hno with y1 | ⟨y1, y2⟩ | ⟨y1, y2, y3⟩
          all_goals (
            go_upto_region 6 with fail
            go_wp2
            go_ret
            exact ⟨rfl, HE.out⟩)
    · have hlt' : ¬ (k : Int) < (n : Int) := by omega
      go_wp2
      go_ret
      obtain rfl : q = true := HT.out fun j c h1 h2 => HC.out j c (by have := HN.out; omega) h2
      exact ⟨rfl, HB.out⟩
end Go.Proofs.YtkbcaklleiapdaaDoor
namespace Go.Proofs.YtkbcaklleiapdaaDoor
open Go.RowKit Go.Joins M4
set_option linter.unusedVariables false
abbrev Tab (w : World) : Prop := Lib.TabIs Tryd.prog w "internal/strconv.uint64pow10" .u64 Lib.pow10Tab
theorem tab_below {w W : World} (h : Tab w) (hb : Below w.heap.size w W) : Tab W := tab_stays (show Tryd.prog.globalNamed "internal/strconv.uint64pow10" = some 1 by kernel_rfl) h hb (Nat.le_refl _)
theorem bs_toList (l : List UInt8) : (bs l).data.toList = l := by simp [bs]
theorem bs_of (s : ByteArray) : bs s.data.toList = s := by simp [bs]
theorem ext_bs (s : ByteArray) (a b : Nat) : s.extract a b = bs (cutF s.data.toList a b) := by
  apply ByteArray.ext
  apply Array.ext'
  rw [ByteArray.data_extract, Array.toList_extract]
  simp [bs, cutF, List.extract_eq_take_drop]
def InsSaid (r : Option (List UInt8)) (e : Ending) : Prop := match r with
  | some t => e = .returned (.tuple #[.string (bs t), .int .i64 0])
  | none => e = .returned (.tuple #[.string ⟨#[]⟩, .int .i64 4])
theorem insSaid_some {r : Option (List UInt8)} {t : List UInt8} (h : r = some t) {y : ByteArray} (hy : y = bs t) : InsSaid r (.returned (.tuple #[.string y, .int .i64 0])) := by subst h hy; rfl
theorem insSaid_none {r : Option (List UInt8)} (h : r = none) : InsSaid r (.returned (.tuple #[.string ⟨#[]⟩, .int .i64 4])) := by subst h; rfl
theorem insF_38 (s : List UInt8) (fr tt : Nat) (m : Caps) (x : UInt8) (h : x.toNat = 37) : insF s fr tt m x = some [37] := by
  have : x = 37 := UInt8.toNat_inj.1 h
  subst this; rfl
theorem ne_of {x : UInt8} {n : Nat} {y : UInt8} (hy : y.toNat = n) (h : x.toNat ≠ n) : x ≠ y := fun e => h (by rw [e, hy])
theorem insF_48 (s : List UInt8) (fr tt : Nat) (m : Caps) (x : UInt8) (h : x.toNat = 48 ∨ (x.toNat = 49 ∧ m.length = 0)) : insF s fr tt m x = some (cutF s fr tt) := by
  rcases h with h | ⟨h, h2⟩
  · have : x = 48 := UInt8.toNat_inj.1 h
    subst this; rfl
  · have : x = 49 := UInt8.toNat_inj.1 h
    subst this; unfold insF; rw [if_neg (by decide), if_pos (.inr ⟨rfl, h2⟩)]
theorem insF_out (s : List UInt8) (fr tt : Nat) (m : Caps) (x : UInt8) (h : x.toNat ≠ 37) (h1 : x.toNat ≠ 48) (h2 : x.toNat < 49 ∨ 57 < x.toNat ∨ (x.toNat ≠ 49 ∧ m.length ≤ x.toNat - 49)) : insF s fr tt m x = none := by
  unfold insF
  rw [if_neg (ne_of rfl h), if_neg (by
    rintro (e | ⟨e, _⟩)
    · exact h1 (by rw [e]; rfl)
    · subst e; simp at h2)]
  by_cases h3 : x.toNat < 49 ∨ 57 < x.toNat
  · rw [if_pos h3]
  · rw [if_neg h3, List.getElem?_eq_none (by omega)]
theorem insF_in (s : List UInt8) (fr tt : Nat) (m : Caps) (x : UInt8) (h : 49 ≤ x.toNat) (h1 : x.toNat ≤ 57) (c : Int × Int) (hc : m[x.toNat - 49]? = some c) : insF s fr tt m x = if c.2 = -1 then some (Lib.itoa (c.1 + 1)) else some (cutF s c.1.toNat c.2.toNat) := by
  have hl := (List.getElem?_eq_some_iff.1 hc).1
  unfold insF
  rw [if_neg (ne_of (n := 37) rfl (by omega)), if_neg (by
    rintro (e | ⟨e, h3⟩)
    · rw [e] at h; revert h; decide
    · omega), if_neg (by omega), hc]
theorem liesB_fr {n fr tt : Int} {m : Caps} (h : liesB n fr tt m = true) : 0 ≤ fr ∧ fr ≤ tt ∧ tt ≤ n ∧ ∀ (k : Nat) (c : Int × Int), m[k]? = some c → capB n c = true := by
  unfold liesB at h
  simp only [Bool.and_eq_true, decide_eq_true_eq, List.all_eq_true] at h
  exact ⟨h.1.1.1, h.1.1.2, h.1.2, fun k c hk => h.2 c (List.mem_of_getElem? hk)⟩
theorem itoa_any (n : Int) (w : World) (h0 : -9223372036854775808 ≤ n) (h1 : n ≤ 9223372036854775807) (hT : Tab w) :
    Calls Tryd.prog 49 #[.int .i64 n] w fun e w' => e = .returned (.string (bs (Lib.itoa n))) ∧ Below w.heap.size w w' := by
  refine (Tryd.strconv_Itoa n h0 h1 w hT).mono ?_
  rintro e w' ⟨rfl, k, os, rfl⟩
  exact ⟨rfl, Lib.below_grow _ _ (Nat.le_refl _) _ _⟩
set_option maxHeartbeats 4000000 in
set_option maxRecDepth 100000 in
theorem insert_any (s : ByteArray) (x : UInt8) (fr tt : Nat) (v : Value) (m : Caps) (w : World) (h : CapR w v m) (hT : Tab w) (hs : s.size ≤ 1000000) (hl : m.length ≤ 1000000) (hB : liesB s.size fr tt m = true) :
    Calls Tryd.prog 30 #[.string s, .int .u8 (x.toNat : Int), .agg #[.int .i64 (fr : Int), .int .i64 (tt : Int), v]] w fun e w' => InsSaid (insF s.data.toList fr tt m x) e ∧ Below w.heap.size w w' := by
  obtain ⟨p, n, c, rfl, hn, hR⟩ := h
  have hn6 : n ≤ 1000000 := by omega
  obtain ⟨-, b1, b2, hcap⟩ := liesB_fr hB
  have b3 : (0 : Int) ≤ (fr : Int) := by omega
  have b4 : (0 : Int) ≤ (tt : Int) := by omega
  have hx := x.toNat_lt
  have r38 := Lib.hid (insF_38 s.data.toList fr tt m x)
  have r48 := Lib.hid (insF_48 s.data.toList fr tt m x)
  have rout := Lib.hid (insF_out s.data.toList fr tt m x)
  have rin := Lib.hid (insF_in s.data.toList fr tt m x)
  generalize insF s.data.toList fr tt m x = r at *
  have hx2 : x.toNat < 256 := hx
  generalize x.toNat = y at *
  have HR := Lib.hid hR
  have HN := Lib.hid hn
  have HC := Lib.hid hcap
  have HT := Lib.hid hT
  have HE := Lib.hid (ext_bs s fr tt)
  clear hR hn hcap hT hB hx
  by_cases h37 : y = 37
  · have R := Lib.hid (r38.out h37)
    subst h37
    go_enter Tryd.func30, Tryd.ntmps30
    go_wp2
    go_ret2
    exact ⟨insSaid_some R.out rfl, (Below.refl _ _).alloc (Nat.le_refl _) _⟩
  have e37 : ((y : Int) == 37) = false := by simp; omega
  by_cases h48 : y = 48
  · have R := Lib.hid (r48.out (.inl h48))
    subst h48
    go_enter Tryd.func30, Tryd.ntmps30
    go_wp2
    go_ret2
    exact ⟨insSaid_some R.out HE.out, (Below.refl _ _).alloc (Nat.le_refl _) _⟩
  have e48 : ((y : Int) == 48) = false := by simp; omega
  by_cases h49 : y = 49 ∧ n = 0
  · have R := Lib.hid (r48.out (.inr ⟨h49.1, by rw [← HN.out]; exact h49.2⟩))
    obtain ⟨rfl, rfl⟩ := h49
    go_enter Tryd.func30, Tryd.ntmps30
    go_wp2
    go_ret2
    exact ⟨insSaid_some R.out HE.out, (Below.refl _ _).alloc (Nat.le_refl _) _⟩
  by_cases hlo : y < 49
  · have R := Lib.hid (rout.out h37 h48 (.inl hlo))
    have e49 : ((y : Int) == 49) = false := by simp; omega
    have l1 : (y : Int) < 49 := by omega
    have l2 : (y : Int) - 49 < 0 := by omega
    go_enter Tryd.func30, Tryd.ntmps30
    go_wp2
    go_ret2
    exact ⟨insSaid_none R.out, (Below.refl _ _).alloc (Nat.le_refl _) _⟩
  obtain ⟨j, hj⟩ : ∃ j, y = 49 + j := ⟨y - 49, by omega⟩
  have q1 : (y : Int) - 49 = (j : Int) := by omega
  have q2 : IntKind.i64.wrap ((y : Int) - 49) = (j : Int) := by rw [q1, i64w _ (by omega)]
  have q3 : IntKind.i64.wrap (y : Int) = (y : Int) := i64w _ (by omega)
  have q4 : ¬ (j : Int) < 0 := by omega
  by_cases hjo : 9 ≤ j ∨ n ≤ j
  · have hj1 : 1 ≤ j := by
      rcases Nat.eq_zero_or_pos j with e | e
      · exact absurd ⟨by omega, by omega⟩ h49
      · exact e
    have R := Lib.hid (rout.out h37 h48 (by have := HN.out; omega))
    have e49 : ((y : Int) == 49) = false := by simp; omega
    have g1 : min (9 : Int) (n : Int) ≤ (j : Int) := by omega
    clear hjo hj
    go_enter Tryd.func30, Tryd.ntmps30
    go_wp2
    go_ret2
    exact ⟨insSaid_none R.out, (Below.refl _ _).alloc (Nat.le_refl _) _⟩
  · have hj9 : j < 9 := by omega
    have hjn : j < n := by omega
    have g1 : (j : Int) < min (9 : Int) (n : Int) := by omega
    obtain ⟨x, hx⟩ : ∃ c, m[j]? = some c := ⟨m[j]'(by have := HN.out; omega), List.getElem?_eq_getElem _⟩
    have R0 := rin.out (by omega) (by omega) x (by rw [hj, Nat.add_sub_cancel_left]; exact hx)
    obtain ⟨g, o, rfl, hg, hcell⟩ := HR.out (by omega)
    obtain ⟨c0, c1⟩ := hcell j x hx
    have hcb := HC.out j x hx
    obtain ⟨a, b⟩ := x
    obtain ⟨y1, y2, y3⟩ := capB_yes hcb
    simp only [] at c0 c1 R0
    have hn0 : ((n : Int) == 0) = false := by simp; omega
    have T2 : Hid (∀ o1 o2, Tab ((w.alloc o1).alloc o2)) := Lib.hid fun o1 o2 => tab_below HT.out (((Below.refl _ _).alloc (Nat.le_refl _) _).alloc (by simp) _)
    have hB2 : Hid (∀ o1 o2, Below w.heap.size w ((w.alloc o1).alloc o2)) := Lib.hid fun o1 o2 => ((Below.refl _ _).alloc (Nat.le_refl _) _).alloc (by simp) _
    have hj' : (j : Int) < (n : Int) := by omega
    clear hjo HR hcell hx hcb HC rin rout r38 r48 h37 h48 hlo h49
    by_cases hb1 : b = -1
    · rw [if_pos hb1] at R0 y2 y3
      subst hb1
      have R := Lib.hid R0
      clear R0 y2
      have a1 := i64w (a + 1) (by omega)
      by_cases hj0 : j = 0
      · have e49 : ((y : Int) == 49) = true := by simp; omega
        clear hj hj0
        go_enter Tryd.func30, Tryd.ntmps30
        go_wp2_with (go_at_call 49; (with_reducible refine (itoa_any _ _ (by omega) (by omega) (T2.out _ _)).mono ?_); rintro e w1 ⟨rfl, hb⟩)
        go_ret2
        exact ⟨insSaid_some R.out rfl, (hB2.out _ _).trans (hb.mono (by simp; omega))⟩
      · have e49 : ((y : Int) == 49) = false := by simp; omega
        clear hj hj0
        go_enter Tryd.func30, Tryd.ntmps30
        go_wp2_with (go_at_call 49; (with_reducible refine (itoa_any _ _ (by omega) (by omega) (T2.out _ _)).mono ?_); rintro e w1 ⟨rfl, hb⟩)
        go_ret2
        exact ⟨insSaid_some R.out rfl, (hB2.out _ _).trans (hb.mono (by simp; omega))⟩
    · rw [if_neg hb1] at R0 y2 y3
      have hb2 : (b == -1) = false := by simpa using hb1
      obtain ⟨a, rfl⟩ := Int.eq_ofNat_of_zero_le y1
      obtain ⟨b, rfl⟩ := Int.eq_ofNat_of_zero_le (show 0 ≤ b by omega)
      have R := Lib.hid R0
      have HX := Lib.hid (ext_bs s a b)
      clear R0
      by_cases hj0 : j = 0
      · have e49 : ((y : Int) == 49) = true := by simp; omega
        clear hj hj0
        go_enter Tryd.func30, Tryd.ntmps30
        go_wp2
        go_ret2
        exact ⟨insSaid_some R.out HX.out, hB2.out _ _⟩
      · have e49 : ((y : Int) == 49) = false := by simp; omega
        clear hj hj0
        go_enter Tryd.func30, Tryd.ntmps30
        go_wp2
        go_ret2
        exact ⟨insSaid_some R.out HX.out, hB2.out _ _⟩
end Go.Proofs.YtkbcaklleiapdaaDoor
namespace Go.Proofs.YtkbcaklleiapdaaDoor
open Go.RowKit Go.Joins M4
set_option linter.unusedVariables false
theorem bl_ch {B b : Nat} {l : List UInt8} {S : List Nat} {w W : World} (h : Bl B b l w) (hc : Ch S w W) (hb : b ∉ S) (hS : ∀ g ∈ S, ∀ c fz, w.heap[g]? ≠ some (.cells c 5 fz)) : Bl B b l W := by
  have key : ∀ p, BAt B b p (Lib.byteCells l) w → BAt B b p (Lib.byteCells l) W := fun p h => by
    obtain ⟨h1, v, h2, h3, h4⟩ := h
    refine ⟨h1, v, ?_, ⟨h3.1, ?_⟩, h4⟩
    · rw [hc.block b (Array.getElem?_eq_some_iff.1 h2).1 hb]; exact h2
    · rcases h3.2 with h0 | ⟨g, cap, cur, rfl, hg, hh, r⟩
      · exact .inl h0
      · refine .inr ⟨g, cap, cur, rfl, hg, ?_, r⟩
        rw [hc.block g (Array.getElem?_eq_some_iff.1 hh).1 (fun e => hS g e _ _ hh)]; exact hh
  rcases h with h | h
  · exact .inl (key _ h)
  · exact .inr (key _ h)
theorem bll (B b : Nat) (l : List UInt8) (w : World) (h : Bl B b l w) :
    Calls Tryd.prog 27 #[.pointer (some ⟨b, 0, none⟩)] w fun e w' => e = .returned (.int .i64 (l.length : Int)) ∧ w = w' := by
  refine (Tryd.Builder_Len B b _ w h).mono ?_
  rintro e w' ⟨rfl, rfl⟩
  exact ⟨by rw [Lib.byteCells_length], rfl⟩
theorem bls2 (B b : Nat) (l : List UInt8) (y : ByteArray) (w : World) (h : Bl B b l w) (hl : l.length ≤ 100000000) (hy : y.size ≤ 100000000) (hB : B ≤ w.heap.size) :
    Calls Tryd.prog 28 #[(.pointer (some ⟨b, 0, none⟩)), .string y] w fun e w' => e = .returned (.tuple #[.int .i64 y.size, .nilIface]) ∧ Bl B b (l ++ y.data.toList) w' ∧ Below B w w' ∧ Lib.OthersKept 5 (some b) w w' := by
  refine (bstr_any B b (Lib.byteCells l) y w h (by rw [Lib.byteCells_length]; omega) hB).mono fun e w' ⟨h1, h2, h3, h4⟩ => ⟨h1, .inr ?_, h3, h4⟩
  rw [show Lib.byteCells (l ++ y.data.toList) = Lib.byteCells l ++ Lib.strCells y by simp [Lib.byteCells, Lib.strCells]]
  exact h2
/-- A builder and the mark that it would be too long. -/
structure FB (B b L : Nat) (l : List UInt8) (lg : Bool) (w : World) : Prop where
  bl : Bl B b l w
  hL : w.heap[L]? = some (.cells #[.bool lg] 4 (0, 0))
  ne : L ≠ b
  lo : B ≤ L
  hz : B ≤ w.heap.size
theorem FB.ch {B b L : Nat} {l : List UInt8} {lg : Bool} {w W : World} (h : FB B b L l lg w) (hc : Ch [] w W) : FB B b L l lg W :=
  ⟨bl_ch h.bl hc (by simp) (by simp), by rw [hc.block L (Array.getElem?_eq_some_iff.1 h.hL).1 (by simp)]; exact h.hL, h.ne, h.lo, Nat.le_trans h.hz hc.size⟩
theorem FB.c {B b L : Nat} {l : List UInt8} {lg : Bool} {w : World} (h : FB B b L l lg w) : w.cell? ⟨L, 0, none⟩ = some (.bool lg) ∧ w.frozen? ⟨L, 0, none⟩ = false := by
  have := h.hL
  constructor
  · simp [World.cell?, this]
  · simp [World.frozen?, this]
theorem FB.set {B b L : Nat} {l : List UInt8} {lg : Bool} {w : World} (h : FB B b L l lg w) (x : Bool) : FB B b L l x (w.setCell ⟨L, 0, none⟩ (.bool x)) :=
  ⟨bl_ch h.bl ((Ch.refl [L] w).set L 0 (.bool x) (.inl (by simp))) (by simp; exact fun e => h.ne e.symm) (fun g hg c fz => by
    obtain rfl : g = L := by simpa using hg
    rw [h.hL]; simp only [ne_eq, Option.some.injEq]
    intro e; injection e with _ e2; revert e2; decide), by
    rw [set_same w L 0 _ _ (.bool x) h.hL]; rfl, h.ne, h.lo, by simpa using h.hz⟩
theorem FB.low {B b L : Nat} {l : List UInt8} {lg : Bool} {w : World} (h : FB B b L l lg w) (x : Bool) : Below B w (w.setCell ⟨L, 0, none⟩ (.bool x)) := (Below.refl B w).setCell (p := ⟨L, 0, none⟩) h.lo _
theorem FB.add {B b L : Nat} {l l' : List UInt8} {lg : Bool} {w W : World} (h : FB B b L l lg w) (hb : Bl B b l' W) (hB : Below B w W) (hk : Lib.OthersKept 5 (some b) w W) : FB B b L l' lg W :=
  ⟨hb, hk L _ h.hL (by simp; exact h.ne) (fun c fz e => by injection e with _ e2; revert e2; decide), h.ne, h.lo, Nat.le_trans h.hz hB.size⟩
def addl (l t : List UInt8) (lg : Bool) : List UInt8 := if lg = true then l else if 4096 < l.length + t.length then l else l ++ t
def addb (l t : List UInt8) (lg : Bool) : Bool := lg || decide (4096 < l.length + t.length)
set_option maxHeartbeats 4000000 in
theorem add_any (B b L : Nat) (l : List UInt8) (lg : Bool) (t : ByteArray) (w : World) (h : FB B b L l lg w) (hl : l.length ≤ 4096) (ht : t.size ≤ 10000000) :
    Calls Tryd.prog 26 #[.string t, .pointer (some ⟨L, 0, none⟩), .pointer (some ⟨b, 0, none⟩)] w fun e w' => e = .returned (.tuple #[]) ∧ FB B b L (addl l t.data.toList lg) (addb l t.data.toList lg) w' ∧ Below B w w' := by
  have htl : t.data.toList.length = t.size := by simp
  have HTL := Lib.hid htl
  clear htl
  obtain ⟨c0, f0⟩ := h.c
  have H := Lib.hid h
  have H1 := Lib.hid (h.set true)
  have H2 := Lib.hid (h.set false)
  have B1 := Lib.hid (h.low true)
  have B2 := Lib.hid (h.low false)
  have QL := Lib.hid (bll B b l w h.bl)
  have QS := Lib.hid (bls2 B b l t _ (h.set false).bl (by omega) (by omega) (h.set false).hz)
  clear h
  cases lg with
  | true =>
    go_enter Tryd.func26, Tryd.ntmps26
    go_wp2
    go_end0
    exact ⟨rfl, H1.out, B1.out⟩
  | false =>
    by_cases hlong : 4096 < l.length + t.size
    · have E1 : Hid (addl l t.data.toList false = l) := Lib.hid (by unfold addl; rw [if_neg (by decide), HTL.out, if_pos hlong])
      have E2 : Hid (addb l t.data.toList false = true) := Lib.hid (by unfold addb; rw [HTL.out, decide_eq_true hlong]; rfl)
      have g1 : decide ((4096 : Int) < (l.length : Int) + (t.size : Int)) = true := decide_eq_true (by omega)
      have g2 := i64w ((l.length : Int) + (t.size : Int)) (by omega)
      go_enter Tryd.func26, Tryd.ntmps26
      go_wp2_with (go_at_call 27; (with_reducible refine (QL.out).mono ?_); rintro e w1 ⟨rfl, rfl⟩)
      go_end0
      exact ⟨rfl, by rw [E1.out, E2.out]; exact H1.out, B1.out⟩
    · have E1 : Hid (addl l t.data.toList false = l ++ t.data.toList) := Lib.hid (by unfold addl; rw [if_neg (by decide), HTL.out, if_neg hlong])
      have E2 : Hid (addb l t.data.toList false = false) := Lib.hid (by unfold addb; rw [HTL.out, decide_eq_false hlong]; rfl)
      have g1 : decide ((4096 : Int) < (l.length : Int) + (t.size : Int)) = false := decide_eq_false (by omega)
      have g2 := i64w ((l.length : Int) + (t.size : Int)) (by omega)
      go_enter Tryd.func26, Tryd.ntmps26
      go_wp2_with (first | (go_at_call 27; (with_reducible refine (QL.out).mono ?_); rintro e w1 ⟨rfl, rfl⟩) | (go_at_call 28; (with_reducible refine (QS.out).mono ?_); rintro e w2 ⟨rfl, h3, h4, h5⟩))
      go_end0
      exact ⟨rfl, by rw [E1.out, E2.out]; exact H2.out.add h3 h4 h5, B2.out.trans h4⟩
end Go.Proofs.YtkbcaklleiapdaaDoor
namespace Go.Proofs.YtkbcaklleiapdaaDoor
open Go.RowKit Go.Joins M4
set_option linter.unusedVariables false
theorem index_one (s : ByteArray) (c : UInt8) (k : Int) (w : World) (h : Lib.indexByte s.data.toList c = k) :
    Calls Tryd.prog 65 #[.string s, .string ⟨#[c]⟩] w fun e w' => e = .returned (.int .i64 k) ∧ w = w' := by
  refine (Tryd.stringslite_Index_one s c w).mono ?_
  rintro e w' ⟨rfl, rfl⟩
  exact ⟨by rw [h], rfl⟩
set_option maxHeartbeats 1000000 in
theorem cut1_no (s : ByteArray) (w : World) (h : Lib.indexByte s.data.toList 37 = -1) :
    Calls Tryd.prog 48 #[.string s, .string ⟨#[37]⟩] w fun e w' => e = .returned (.tuple #[.string s, .string ⟨#[]⟩, .bool false]) ∧ ∃ n, w' = w.drewN n := by
  have Q := Lib.hid (index_one s 37 (-1) w h)
  clear h
  go_enter Tryd.func48, Tryd.ntmps48
  go_wp2_with (go_at_call 65; (with_reducible refine (Q.out).mono ?_); rintro e w1 ⟨rfl, rfl⟩)
  go_ret3
  exact ⟨rfl, 0, rfl⟩
set_option maxHeartbeats 1000000 in
theorem cut1_yes (s : ByteArray) (i : Nat) (w : World) (h : Lib.indexByte s.data.toList 37 = i) (hi : i < s.size) (hs : s.size ≤ 10000000) :
    Calls Tryd.prog 48 #[.string s, .string ⟨#[37]⟩] w fun e w' => e = .returned (.tuple #[.string (s.extract 0 i), .string (s.extract (i + 1) s.size), .bool true]) ∧ ∃ n, w' = w.drewN n := by
  have Q := Lib.hid (index_one s 37 i w h)
  have c1 : (0 : Int) ≤ (i : Int) := by omega
  have c2 : (i : Int) ≤ (s.size : Int) := by omega
  have c3 : (0 : Int) ≤ (i : Int) + 1 := by omega
  have c4 : (i : Int) + 1 ≤ (s.size : Int) := by omega
  have c5 := i64w ((i : Int) + 1) (by omega)
  have c6 : ((i : Int) + 1).toNat = i + 1 := by omega
  clear h
  go_enter Tryd.func48, Tryd.ntmps48
  go_upto_region 3 with (go_at_call 65; (with_reducible refine (Q.out).mono ?_); rintro e w1 ⟨rfl, rfl⟩)
  go_region
  go_wp2
  go_ret3
  exact ⟨rfl, 1, rfl⟩
theorem cut_no (s : ByteArray) (w : World) (h : Lib.indexByte s.data.toList 37 = -1) :
    Calls Tryd.prog 29 #[.string s, .string ⟨#[37]⟩] w fun e w' => e = .returned (.tuple #[.string s, .string ⟨#[]⟩, .bool false]) ∧ ∃ n, w' = w.drewN n := by
  have Q := Lib.hid (cut1_no s w h)
  clear h
  go_enter Tryd.func29, Tryd.ntmps29
  go_wp2_with (go_at_call 48; (with_reducible refine (Q.out).mono ?_); rintro e w1 ⟨rfl, n, rfl⟩)
  go_ret3
  exact ⟨rfl, n, rfl⟩
theorem cut_yes (s : ByteArray) (i : Nat) (w : World) (h : Lib.indexByte s.data.toList 37 = i) (hi : i < s.size) (hs : s.size ≤ 10000000) :
    Calls Tryd.prog 29 #[.string s, .string ⟨#[37]⟩] w fun e w' => e = .returned (.tuple #[.string (s.extract 0 i), .string (s.extract (i + 1) s.size), .bool true]) ∧ ∃ n, w' = w.drewN n := by
  have Q := Lib.hid (cut1_yes s i w h hi hs)
  clear h
  go_enter Tryd.func29, Tryd.ntmps29
  go_wp2_with (go_at_call 48; (with_reducible refine (Q.out).mono ?_); rintro e w1 ⟨rfl, n, rfl⟩)
  go_ret3
  exact ⟨rfl, n, rfl⟩
end Go.Proofs.YtkbcaklleiapdaaDoor
namespace Go.Proofs.YtkbcaklleiapdaaDoor
open Go.RowKit Go.Joins M4
set_option linter.unusedVariables false
/-- What is added up: all of it; what the builder holds; whether it is too long. -/
def AddOk (acc l : List UInt8) (lg : Bool) : Prop := lg = decide (4096 < acc.length) ∧ (lg = false → l = acc) ∧ l.length ≤ 4096
theorem AddOk.nil : AddOk [] [] false := ⟨rfl, fun _ => rfl, by simp⟩
theorem AddOk.add {acc l : List UInt8} {lg : Bool} (h : AddOk acc l lg) (t : List UInt8) : AddOk (acc ++ t) (addl l t lg) (addb l t lg) := by
  obtain ⟨h1, h2, h3⟩ := h
  unfold AddOk addl addb
  cases lg with
  | true =>
    have : 4096 < acc.length := by simpa using h1.symm
    exact ⟨by rw [Bool.true_or, decide_eq_true (by rw [List.length_append]; omega)], fun e => by simp at e, by simpa using h3⟩
  | false =>
    obtain rfl := h2 rfl
    by_cases h4 : 4096 < l.length + t.length
    · rw [decide_eq_true h4, List.length_append, decide_eq_true h4]
      exact ⟨rfl, (fun e => by simp at e), by simpa [h4] using h3⟩
    · rw [decide_eq_false h4, List.length_append, decide_eq_false h4]
      exact ⟨rfl, (fun e => by simp [h4]), by simp [h4]; omega⟩
theorem itoa_len (a : Int) (h0 : 0 ≤ a) (h1 : a ≤ 10000000) : (Lib.itoa a).length ≤ 30 := by
  have := Lib.itoa_length_le a (by omega) (by omega)
  omega
theorem insF_len {s : List UInt8} {fr tt : Nat} {m : Caps} {x : UInt8} {t : List UInt8} (hB : liesB s.length fr tt m = true) (hs : s.length ≤ 1000000) (h : insF s fr tt m x = some t) : t.length ≤ 2000000 := by
  have hc : ∀ a b, (cutF s a b).length ≤ s.length := fun a b => by unfold cutF; rw [List.length_take, List.length_drop]; omega
  unfold insF at h
  split at h
  · cases h; simp
  · split at h
    · cases h; have := hc fr tt; omega
    · split at h
      · cases h
      · split at h
        · rename_i c hcm
          have hcb := (liesB_fr hB).2.2.2 _ c hcm
          obtain ⟨a, b⟩ := c
          obtain ⟨y1, y2, y3⟩ := capB_yes hcb
          split at h
          · cases h
            have := itoa_len (a + 1) (by omega) (by simp only [] at *; omega)
            simp only []; omega
          · cases h; have := hc a.toNat b.toNat; simp only []; omega
        · cases h
theorem bs_size (l : List UInt8) : (bs l).size = l.length := by show l.toArray.size = _; simp
def FillSaid (r : Except Nat (List UInt8)) (e : Ending) : Prop := match r with
  | .ok t => e = .returned (.tuple #[.string (bs t), .int .i64 0])
  | .error c => e = .returned (.tuple #[.string ⟨#[]⟩, .int .i64 (c : Int)])
theorem fill_bad (s repl : ByteArray) (fr tt : Int) (v : Value) (m : Caps) (w : World) (h : CapR w v m) (hl : m.length ≤ 1000000) (hB : liesB s.size fr tt m = false) :
    Calls Tryd.prog 13 #[.string s, .string repl, .agg #[.int .i64 fr, .int .i64 tt, v]] w fun e w' => FillSaid (.error 2) e ∧ Below w.heap.size w w' := by
  have hb1 : ∀ o, Below w.heap.size w (w.alloc o) := fun o => (Below.refl _ _).alloc (Nat.le_refl _) _
  have Q := Lib.hid fun o => lies_any s fr tt v m (w.alloc o) (h.below (hb1 o)) hl
  rw [hB] at Q
  have HB1 := Lib.hid hb1
  obtain ⟨p, n, c, rfl, -, -⟩ := h
  clear hB hb1
  go_enter Tryd.func13, Tryd.ntmps13
  go_wp2_with (go_at_call 25; (with_reducible refine (Q.out _).mono ?_); rintro e w1 ⟨rfl, hb⟩)
  go_ret2
  exact ⟨rfl, (HB1.out _).trans (hb.mono (by simp))⟩
/-- The world while a replacement is filled. -/
structure RW (w : World) (B : Nat) (cs : Array Value) (l : List UInt8) (lg : Bool) (wr : World) : Prop where
  fb : FB B B (B + 1) l lg wr
  bel : Below w.heap.size w wr
  box : Mtb w.heap.size cs wr
  lt : w.heap.size < B
theorem RW.ch {w : World} {B : Nat} {cs : Array Value} {l : List UInt8} {lg : Bool} {W W' : World} (h : RW w B cs l lg W) (hc : Ch [] W W') : RW w B cs l lg W' :=
  ⟨h.fb.ch hc, h.bel.trans (hc.below.mono h.bel.size), h.box.ch hc (by simp), h.lt⟩
theorem RW.add {w : World} {B : Nat} {cs : Array Value} {l l' : List UInt8} {lg lg' : Bool} {W W' : World} (h : RW w B cs l lg W) (hf : FB B B (B + 1) l' lg' W') (hb : Below B W W') : RW w B cs l' lg' W' :=
  ⟨hf, h.bel.trans (hb.mono (by have := h.lt; omega)), by
    have := h.box
    unfold Mtb at *
    rw [hb.block _ h.lt]; exact this, h.lt⟩
theorem fillE_long {I : UInt8 → Option (List UInt8)} {repl acc q : List UInt8} (h : fillL I repl = some q) (h2 : true = decide (4096 < q.length)) : fillE I repl = .error 14 := by
  unfold fillE; rw [h]; simp only []; rw [if_pos (by simpa using h2.symm)]
theorem fillE_short {I : UInt8 → Option (List UInt8)} {repl acc q : List UInt8} (h : fillL I repl = some q) (h2 : false = decide (4096 < q.length)) : fillE I repl = .ok q := by
  unfold fillE; rw [h]; simp only []; rw [if_neg (by simpa using h2.symm)]
theorem fillE_form {I : UInt8 → Option (List UInt8)} {repl : List UInt8} (h : fillL I repl = none) : fillE I repl = .error 4 := by
  unfold fillE; rw [h]
theorem RW.cells {w : World} {B : Nat} {cs : Array Value} {l : List UInt8} {lg : Bool} {W : World} {a b c : Value} (h : RW w B cs l lg W) (hcs : #[a, b, c] = cs) : W.cell? ⟨w.heap.size, 0, none⟩ = some a ∧ W.cell? ⟨w.heap.size, 1, none⟩ = some b ∧ W.cell? ⟨w.heap.size, 2, none⟩ = some c := by
  subst hcs
  exact ⟨h.box.cell 0, h.box.cell 1, h.box.cell 2⟩
theorem RW.still {w : World} {B : Nat} {cs : Array Value} {l : List UInt8} {lg : Bool} {W : World} {a b c : Value} (h : RW w B cs l lg W) (hcs : #[a, b, c] = cs) : W.cell? ⟨w.heap.size, 0, none⟩ = some a ∧ W.cell? ⟨w.heap.size, 1, none⟩ = some b ∧ W.cell? ⟨w.heap.size, 2, none⟩ = some c ∧ Hid (RW w B cs l lg W) :=
  ⟨(h.cells hcs).1, (h.cells hcs).2.1, (h.cells hcs).2.2, Lib.hid h⟩
theorem RW.after {w : World} {B : Nat} {cs : Array Value} {l : List UInt8} {lg : Bool} {W W' : World} {a b c : Value} (h : W.cell? ⟨w.heap.size, 0, none⟩ = some a ∧ W.cell? ⟨w.heap.size, 1, none⟩ = some b ∧ W.cell? ⟨w.heap.size, 2, none⟩ = some c ∧ Hid (RW w B cs l lg W)) (hcs : #[a, b, c] = cs) (hb : Below W.heap.size W W') : W'.cell? ⟨w.heap.size, 0, none⟩ = some a ∧ W'.cell? ⟨w.heap.size, 1, none⟩ = some b ∧ W'.cell? ⟨w.heap.size, 2, none⟩ = some c ∧ Hid (RW w B cs l lg W') :=
  (h.2.2.2.out.ch (Ch.of_below hb)).still hcs
def sizeV (v : Value) : Nat := match v with
  | .string r => r.size
  | _ => 0
theorem app3 (a b c : Value) : #[] ++ #[a] ++ #[b, c] = #[a, b, c] := rfl
set_option maxHeartbeats 8000000 in
set_option maxRecDepth 100000 in
theorem fill_any (s repl : ByteArray) (fr tt : Nat) (v : Value) (m : Caps) (w : World) (h : CapR w v m) (hT : Tab w) (hs : s.size ≤ 1000000) (hr : repl.size ≤ 1000000) (hl : m.length ≤ 1000000) (hB : liesB s.size fr tt m = true) :
    Calls Tryd.prog 13 #[.string s, .string repl, .agg #[.int .i64 (fr : Int), .int .i64 (tt : Int), v]] w fun e w' => FillSaid (fillE (insF s.data.toList fr tt m) repl.data.toList) e ∧ Below w.heap.size w w' := by
  have hb1 : ∀ o, Below w.heap.size w (w.alloc o) := fun o => (Below.refl _ _).alloc (Nat.le_refl _) _
  have hsl : s.data.toList.length = s.size := by simp
  have Q := Lib.hid fun o => lies_any s fr tt v m (w.alloc o) (h.below (hb1 o)) hl
  rw [hB] at Q
  have QI := Lib.hid fun (x : UInt8) W (hb : Below w.heap.size w W) => insert_any s x fr tt v m W (h.below hb) (tab_below hT hb) hs hl hB
  have QN := Lib.hid fun (x : UInt8) t (h : insF s.data.toList fr tt m x = some t) => insF_len (by rw [hsl]; exact hB) (by omega) h
  generalize insF s.data.toList fr tt m = I at *
  have HB1 := Lib.hid hb1
  obtain ⟨p, n, c, rfl, -, -⟩ := h
  clear hB hb1 hT hsl
  obtain ⟨cs, hcs⟩ : ∃ cs : Array Value, #[.int .i64 (fr : Int), .int .i64 (tt : Int), .slice p n c] = cs := ⟨_, rfl⟩
  have HCS := Lib.hid hcs
  clear hcs
  go_enter Tryd.func13, Tryd.ntmps13
  go_upto_region 3 with (go_at_call 25; (with_reducible refine (Q.out _).mono ?_); rintro e w1 ⟨rfl, hb⟩)
  have hM1 : Mtb w.heap.size cs w1 := by rw [← HCS.out]; exact (mtb_new w _ _ rfl).ch (Ch.of_below (S := []) hb) (by simp)
  have hbw1 : Below w.heap.size w w1 := (HB1.out _).trans (hb.mono (by have := (HB1.out (.cells #[.int .i64 (fr : Int), .int .i64 (tt : Int), .slice p n c] 29)).size; exact this))
  have hz1 := hb.size
  simp at hz1
  clear hb
  go_upto_region 5 with fail
  have hbl := bl_new w1
  obtain ⟨W1, hW1⟩ : ∃ W1, ((w1.alloc (.cells #[.pointer none, .slice none 0 0] 59)).alloc (.cells #[.bool false] 4)) = W1 := ⟨_, rfl⟩
  have hRW : RW w w1.heap.size cs [] false W1 := by
    subst hW1
    have c1 : Ch [] (w1.alloc (.cells #[.pointer none, .slice none 0 0] 59)) ((w1.alloc (.cells #[.pointer none, .slice none 0 0] 59)).alloc (.cells #[.bool false] 4)) := (Ch.refl _ _).alloc _
    have c2 : Ch [] w1 ((w1.alloc (.cells #[.pointer none, .slice none 0 0] 59)).alloc (.cells #[.bool false] 4)) := ((Ch.refl _ _).alloc _).alloc _
    refine ⟨⟨bl_ch hbl c1 (by simp) (by simp), ?_, by omega, by omega, by simp; omega⟩, hbw1.trans (c2.below.mono (by omega)), hM1.ch c2 (by simp), by omega⟩
    have := heap_alloc_new (w1.alloc (.cells #[.pointer none, .slice none 0 0] 59)) (.cells #[.bool false] 4)
    simpa using this
  rw [hW1]
  obtain ⟨B, hBe⟩ : ∃ B, w1.heap.size = B := ⟨_, rfl⟩
  rw [hBe] at hRW hz1
  simp only [hBe]
  have HRW := Lib.hid hRW
  clear hW1 hBe hRW hbl hM1 hbw1 Q HB1
  go_wp2
  go_loopw [1] (fun v1 wr => ∃ (r : ByteArray), r.size ≤ 1000000 ∧ Hid (∃ acc l lg, RW w B cs l lg wr ∧ AddOk acc l lg ∧ fillL I repl.data.toList = (fillL I r.data.toList).map fun q => acc ++ q) ∧ v1 = .string r) (fun v1 _ => sizeV v1)
  case atStart => exact ⟨repl, hr, Lib.hid ⟨[], [], false, HRW.out, AddOk.nil, by simp⟩, rfl⟩
  case round =>
    obtain ⟨r, hr6, HR, rfl⟩ := hrel
    rename World => W0
    obtain ⟨acc, l, lg, hw0, hao, hfl⟩ := HR.out
    have hrl : r.data.toList.length = r.size := by simp
    have hl4 : l.length ≤ 4096 := hao.2.2
    have HW0 := Lib.hid hw0
    have HAO := Lib.hid hao
    clear hw0 hao
    by_cases hix : Lib.indexByte r.data.toList 37 = -1
    · have QC := Lib.hid (cut_no r W0 hix)
      have HF : Hid (fillL I repl.data.toList = some (acc ++ r.data.toList)) := Lib.hid (by rw [hfl, fillL_all I _ (plain_none hix)]; rfl)
      clear hfl hix hrl
      go_upto_region 7 with (go_at_call 29; (with_reducible refine (QC.out).mono ?_); rintro e w2 ⟨rfl, k, rfl⟩)
      obtain ⟨W2, hW2⟩ : ∃ W2, W0.drewN k = W2 := ⟨_, rfl⟩
      have HW2 : Hid (RW w B cs l lg W2) := Lib.hid (by rw [← hW2]; exact HW0.out.ch ((Ch.refl _ _).drewN k))
      rw [hW2]
      clear hW2
      have QA := Lib.hid (add_any B B (B + 1) l lg r W2 HW2.out.fb hl4 (by omega))
      have HA := Lib.hid (HAO.out.add r.data.toList)
      generalize addl l r.data.toList lg = l3 at *
      generalize addb l r.data.toList lg = lg3 at *
      go_upto_region 8 with (go_at_call 26; (try rw [app3]); (with_reducible refine (QA.out).mono ?_); rintro e w3 ⟨rfl, hf3, hb3⟩)
      have HW3 := Lib.hid (HW2.out.add hf3 hb3)
      obtain ⟨d0, -⟩ := hf3.c
      clear hf3 hb3
      cases lg3 with
      | true =>
        go_wp2
        go_ret2
        exact ⟨by rw [fillE_long (acc := []) HF.out HA.out.1]; rfl, HW3.out.bel⟩
      | false =>
        have QS := Lib.hid (blS B B l3 w3 HW3.out.fb.bl HW3.out.fb.hz)
        go_wp2_with (go_at_call 31; (with_reducible refine (QS.out).mono ?_); rintro e w4 ⟨rfl, hb4⟩)
        go_ret2
        exact ⟨by rw [fillE_short (acc := []) HF.out HA.out.1, ← HA.out.2.1 rfl]; rfl, HW3.out.bel.trans (hb4.mono (by have := HW3.out.lt; omega))⟩
    · obtain ⟨i, hi⟩ : ∃ i : Nat, Lib.indexByte r.data.toList 37 = i := ⟨(Lib.indexByte r.data.toList 37).toNat, by have := Lib.indexByte_ge r.data.toList 37; omega⟩
      obtain ⟨hil, hcut, hplain⟩ := plain_some hi
      rw [hrl] at hil
      have QC := Lib.hid (cut_yes r i W0 hi hil (by omega))
      have hy1 : (r.extract 0 i).data.toList = r.data.toList.take i := by rw [ext_bs, bs_toList]; simp [cutF]
      have hz1' : (r.extract (i + 1) r.size).data.toList = r.data.toList.drop (i + 1) := by
        rw [ext_bs, bs_toList]; unfold cutF; rw [List.take_of_length_le (by rw [List.length_drop]; omega)]
      have hys : (r.extract 0 i).size ≤ r.size := by rw [ByteArray.size_extract]; omega
      have hzs : (r.extract (i + 1) r.size).size < r.size := by rw [ByteArray.size_extract]; omega
      rw [← hy1, ← hz1'] at hcut
      rw [← hy1] at hplain
      generalize r.extract 0 i = y at *
      generalize r.extract (i + 1) r.size = z at *
      rw [hcut] at hfl
      clear hix hi hrl hy1 hz1' hcut hil
      have HPL := Lib.hid hplain
      have HFL := Lib.hid hfl
      clear hplain hfl HR
      go_upto_region 7 with (go_at_call 29; (with_reducible refine (QC.out).mono ?_); rintro e w2 ⟨rfl, k, rfl⟩)
      obtain ⟨W2, hW2⟩ : ∃ W2, W0.drewN k = W2 := ⟨_, rfl⟩
      have HW2 : Hid (RW w B cs l lg W2) := Lib.hid (by rw [← hW2]; exact HW0.out.ch ((Ch.refl _ _).drewN k))
      rw [hW2]
      clear hW2 QC
      have QA := Lib.hid (add_any B B (B + 1) l lg y W2 HW2.out.fb hl4 (by omega))
      have HA := Lib.hid (HAO.out.add y.data.toList)
      generalize addl l y.data.toList lg = l3 at *
      generalize addb l y.data.toList lg = lg3 at *
      go_upto_region 8 with (go_at_call 26; (try rw [app3]); (with_reducible refine (QA.out).mono ?_); rintro e w3 ⟨rfl, hf3, hb3⟩)
      have HW3 := Lib.hid (HW2.out.add hf3 hb3)
      clear hf3 hb3 QA HW0
      by_cases hz0 : z.size = 0
      · obtain rfl : z = ⟨#[]⟩ := ByteArray.ext (Array.eq_empty_of_size_eq_zero hz0)
        have HF : Hid (fillL I repl.data.toList = none) := Lib.hid (by rw [HFL.out, show (⟨#[]⟩ : ByteArray).data.toList = [] from rfl, fill_last I _ HPL.out]; rfl)
        go_wp2
        go_ret2
        exact ⟨by rw [fillE_form HF.out]; rfl, HW3.out.bel⟩
      · have hz1 : 0 < z.size := by omega
        have hze : z.toList.isEmpty = false := by rw [Lib.toList_data, List.isEmpty_eq_false_iff]; exact fun e => hz0 (by have := congrArg List.length e; simpa using this)
        have hzl : z.data.toList = z[0] :: (z.extract 1 z.size).data.toList := by
          rw [ext_bs, bs_toList]; unfold cutF
          rw [List.take_of_length_le (by rw [List.length_drop]; simp)]
          have h2 := List.drop_eq_getElem_cons (l := z.data.toList) (i := 0) (by simpa using hz1)
          rw [List.drop_zero] at h2
          exact h2
        have hzx : (z.extract 1 z.size).size < r.size := by rw [ByteArray.size_extract]; omega
        have HF := Lib.hid (HFL.out.trans (by rw [hzl, fill_pair I _ _ _ HPL.out]))
        clear HFL HPL hzl
        cases hI : I z[0] with
        | none =>
          have HFN : Hid (fillL I repl.data.toList = none) := Lib.hid (by rw [HF.out, hI]; rfl)
          have QX : Hid (∀ W, Below w.heap.size w W → Calls Tryd.prog 30 #[.string s, .int .u8 (z[0].toNat : Int), .agg #[.int .i64 (fr : Int), .int .i64 (tt : Int), .slice p n c]] W fun e w' => e = .returned (.tuple #[.string ⟨#[]⟩, .int .i64 4]) ∧ Below W.heap.size W w') := Lib.hid fun W hb => (QI.out z[0] W hb).mono fun e w' ⟨he, hb'⟩ => ⟨by rw [hI] at he; exact he, hb'⟩
          clear hI HF QI QN
          go_upto_region 11 with fail
          obtain ⟨c0, c1, c2⟩ := HW3.out.cells HCS.out
          go_region_held3 (fun w' => w'.cell? ⟨w.heap.size, 0, none⟩ = some (.int .i64 (fr : Int)) ∧ w'.cell? ⟨w.heap.size, 1, none⟩ = some (.int .i64 (tt : Int)) ∧ w'.cell? ⟨w.heap.size, 2, none⟩ = some (.slice p n c) ∧ Hid (RW w B cs l3 lg3 w')) (first | assumption | exact (HW3.out.ch ((Ch.refl _ _).drewN 1)).still HCS.out | exact RW.after (by assumption) HCS.out hb4) ((go_at_call 30; have hE := (‹_ ∧ _ ∧ _ ∧ Hid _›).2.2.2; (with_reducible refine (QX.out _ hE.out.bel).mono ?_); clear hE; rintro e w4 ⟨rfl, hb4⟩))
          all_goals (
            have HW4 := (‹_ ∧ _ ∧ _ ∧ Hid (RW w B cs l3 lg3 _)›).2.2.2
            go_wp2
            go_ret2
            exact ⟨by rw [fillE_form HFN.out]; rfl, HW4.out.bel⟩)
        | some t =>
          have HFT : Hid (fillL I repl.data.toList = (fillL I (z.extract 1 z.size).data.toList).map fun q => (acc ++ y.data.toList ++ t) ++ q) := Lib.hid (by
            rw [HF.out, hI, Option.bind_some, Option.map_map]
            congr 1; funext q; simp)
          have QX : Hid (∀ W, Below w.heap.size w W → Calls Tryd.prog 30 #[.string s, .int .u8 (z[0].toNat : Int), .agg #[.int .i64 (fr : Int), .int .i64 (tt : Int), .slice p n c]] W fun e w' => e = .returned (.tuple #[.string (bs t), .int .i64 0]) ∧ Below W.heap.size W w') := Lib.hid fun W hb => (QI.out z[0] W hb).mono fun e w' ⟨he, hb'⟩ => ⟨by rw [hI] at he; exact he, hb'⟩
          have htl := QN.out _ _ hI
          have hts : (bs t).size ≤ 2000000 := by rw [bs_size]; exact htl
          have htd : (bs t).data.toList = t := bs_toList t
          generalize bs t = tb at *
          have QT := Lib.hid fun W (h : FB B B (B + 1) l3 lg3 W) => add_any B B (B + 1) l3 lg3 tb W h HA.out.2.2 (by omega)
          have HA2 := Lib.hid (HA.out.add tb.data.toList)
          rw [htd] at HA2 QT
          clear hI HF QI QN htl htd
          go_upto_region 11 with fail
          obtain ⟨c0, c1, c2⟩ := HW3.out.cells HCS.out
          go_region_held3 (fun w' => w'.cell? ⟨w.heap.size, 0, none⟩ = some (.int .i64 (fr : Int)) ∧ w'.cell? ⟨w.heap.size, 1, none⟩ = some (.int .i64 (tt : Int)) ∧ w'.cell? ⟨w.heap.size, 2, none⟩ = some (.slice p n c) ∧ Hid (RW w B cs l3 lg3 w')) (first | assumption | exact (HW3.out.ch ((Ch.refl _ _).drewN 1)).still HCS.out | exact RW.after (by assumption) HCS.out hb4) ((go_at_call 30; have hE := (‹_ ∧ _ ∧ _ ∧ Hid _›).2.2.2; (with_reducible refine (QX.out _ hE.out.bel).mono ?_); clear hE; rintro e w4 ⟨rfl, hb4⟩))
          all_goals (
            have HW4 := (‹_ ∧ _ ∧ _ ∧ Hid (RW w B cs l3 lg3 _)›).2.2.2
            have QT4 := Lib.hid (QT.out _ HW4.out.fb)
            go_wp2_with (go_at_call 26; (try rw [app3]); (with_reducible refine (QT4.out).mono ?_); rintro e w5 ⟨rfl, hf5, hb5⟩)
            have HW5 := Lib.hid (HW4.out.add hf5 hb5)
            clear hf5 hb5
            go_roundw
            case rel => exact ⟨z.extract 1 z.size, by omega, Lib.hid ⟨_, _, _, HW5.out, HA2.out, HFT.out⟩, rfl⟩
            case measure => exact hzx)
end Go.Proofs.YtkbcaklleiapdaaDoor
