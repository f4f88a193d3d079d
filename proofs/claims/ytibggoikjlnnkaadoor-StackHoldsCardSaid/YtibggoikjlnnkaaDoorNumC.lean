/- Contracts of layer 2: what the library gives; numerals that are recognised. -/
import Derived.Test.YtibggoikjlnnkaaDoorNumB
import Derived.Test.YtibggoikjlnnkaaDoorShelf
import Derived.WalkSpells
import Derived.Deep.RegionHeld3
namespace Go.Proofs.YtibggoikjlnnkaaDoor
open Go.RowKit M1 M2
set_option linter.unusedVariables false

theorem tab_lt {w : World} (h : Lib.TabIs Tryd.prog w "internal/strconv.uint64pow10" .u64 Lib.pow10Tab) : 0 < w.heap.size := by
  have hg : Tryd.prog.globalNamed "internal/strconv.uint64pow10" = some 0 := by kernel_rfl
  unfold Lib.TabIs World.var? at h
  simp only [hg, Option.bind_some] at h
  rcases Nat.lt_or_ge 0 w.heap.size with h' | h'
  · exact h'
  · rw [Array.getElem?_eq_none h'] at h; simp at h
structure Env (w : World) : Prop where
  tab : Lib.TabIs Tryd.prog w "internal/strconv.uint64pow10" .u64 Lib.pow10Tab
theorem Env.on {w w' : World} (h : Env w) (hb : Below w.heap.size w w') : Env w' := by
  exact ⟨var?_below hb (by kernel_rfl) (tab_lt h.tab) h.tab⟩
theorem Env.alloc {w : World} (h : Env w) (o : Obj) : Env (w.alloc o) := h.on ((Below.refl _ _).alloc (Nat.le_refl _) o)

/-- A string with these bytes. -/
def mkB (l : List UInt8) : ByteArray := ⟨l.toArray⟩
theorem mkB_list (l : List UInt8) : (mkB l).data.toList = l := by simp [mkB]
theorem mkB_size (l : List UInt8) : (mkB l).size = l.length := by simp [mkB, ByteArray.size]
theorem ext_mk (s : ByteArray) (a b : Nat) : s.extract a b = mkB ((s.data.toList.drop a).take (b - a)) := by
  apply ByteArray.ext
  rw [← Array.toList_inj, Lib.extract_data, mkB_list]
theorem list_size (s : ByteArray) : s.data.toList.length = s.size := by simp
theorem mkB_eta (s : ByteArray) : mkB s.data.toList = s := by
  apply ByteArray.ext; rw [← Array.toList_inj, mkB_list]
theorem ext_end (s : ByteArray) (a : Nat) : s.extract a s.size = mkB (s.data.toList.drop a) := by
  rw [ext_mk, List.take_of_length_le]; simp

theorem itoa_any (n : Int) (w : World) (h0 : -9223372036854775808 ≤ n) (h1 : n ≤ 9223372036854775807) (he : Env w) :
    Calls Tryd.prog 26 #[.int .i64 n] w fun e w' => e = .returned (.string (mkB (Lib.itoa n))) ∧ Below w.heap.size w w' := by
  refine (Tryd.strconv_Itoa n h0 h1 w he.tab).mono ?_
  rintro e w' ⟨rfl, k, os, rfl⟩
  refine ⟨rfl, rfl, rfl, rfl, ?_, fun i hi => ?_⟩
  · show w.heap.size ≤ (w.heap ++ os).size
    rw [Array.size_append]; omega
  · show ((w.drewN k).heap ++ os)[i]? = _
    rw [Array.getElem?_append_left (by show i < w.heap.size; omega)]
    rfl
/-- the beginning of a hexadecimal numeral -/
theorem pre2 (l : List UInt8) (a b : UInt8) : Lib.hasPrefix l [a, b] = true ↔ l[0]? = some a ∧ l[1]? = some b := by
  match l with
  | [] => simp [Lib.hasPrefix, List.isPrefixOf]
  | [x] => simp [Lib.hasPrefix, List.isPrefixOf]
  | x :: y :: t =>
    simp [Lib.hasPrefix, List.isPrefixOf, Bool.and_eq_true]
    constructor <;> (rintro ⟨h1, h2⟩; exact ⟨h1.symm, h2.symm⟩)
theorem hexp_iff (l : List UInt8) : hexp l = true ↔ (Lib.hasPrefix l [48, 120] = true ∨ Lib.hasPrefix l [48, 88] = true) ∧ 0 < cnt 16 (l.drop 2) := by
  rw [pre2, pre2]; unfold hexp; rw [decide_eq_true_iff]
  constructor
  · rintro ⟨h1, h2 | h2, h3⟩
    · exact ⟨.inl ⟨h1, h2⟩, h3⟩
    · exact ⟨.inr ⟨h1, h2⟩, h3⟩
  · rintro ⟨⟨h1, h2⟩ | ⟨h1, h2⟩, h3⟩
    · exact ⟨h1, .inl h2, h3⟩
    · exact ⟨h1, .inr h2, h3⟩
theorem pre2_len {l : List UInt8} {a b : UInt8} (h : Lib.hasPrefix l [a, b] = true) : 2 ≤ l.length := by
  have h1 := ((pre2 l a b).1 h).2
  rcases Nat.lt_or_ge 1 l.length with h2 | h2
  · exact h2
  · rw [List.getElem?_eq_none h2] at h1; cases h1
def msV (m : Ms) : Value := .agg #[.int .i64 m.B, .string (mkB m.whole), .string (mkB m.behind), .int .i64 (m.fin : Int)]
end Go.Proofs.YtibggoikjlnnkaaDoor
