/- The laws of layer 9: doubled percent signs. -/
import Derived.Test.YtbdcmnhfmkefdaaGreatDoorFmtY
import Derived.Lib.Replace
import Derived.Lib.CountLaws
import Derived.Lib.ReplaceLaws
import Derived.Lib.SplitLaws
namespace Go.Proofs.YtbdcmnhfmkefdaaGreatDoor
open Go.RowKit Go.Joins M1 M2 M9
set_option linter.unusedVariables false
def dbl (c : UInt8) : List UInt8 := if c = 37 then [37, 37] else [c]
theorem dbl_pieces : ∀ (l acc : List UInt8), pieces (l.flatMap dbl) acc = some (withText (acc ++ l) [])
  | [], acc => by simp [pieces_nil]
  | c :: l, acc => by
    rw [List.flatMap_cons]
    by_cases h : c = 37
    · subst h
      rw [show dbl 37 ++ l.flatMap dbl = 37 :: 37 :: l.flatMap dbl from rfl, pieces_pct, dbl_pieces l]; simp
    · rw [show dbl c = [c] from if_neg h, List.singleton_append, pieces_plain h, dbl_pieces l]; simp
theorem dbl_format (l : List UInt8) (h : l.length ≤ 4096) : formatF (l.flatMap dbl) [] = .ok l := by
  unfold formatF
  rw [dbl_pieces]
  simp only [List.nil_append]
  unfold withText
  split
  · rename_i e; subst e; rfl
  · rw [fmtF_text rfl, fmtF_nil, if_neg (by simp [textPc]; omega)]; simp [textPc]
theorem dbl_len : ∀ (l : List UInt8), (l.flatMap dbl).length ≤ 2 * l.length
  | [] => by simp
  | c :: l => by
    have := dbl_len l
    rw [List.flatMap_cons, List.length_append, List.length_cons]
    have : (dbl c).length ≤ 2 := by unfold dbl; split <;> simp
    omega
theorem dbl_none : ∀ (l : List UInt8), (∀ c ∈ l, c ≠ 37) → l.flatMap dbl = l
  | [], _ => rfl
  | c :: l, h => by
    rw [List.flatMap_cons, show dbl c = [c] from if_neg (h c (by simp)), dbl_none l (fun d hd => h d (by simp [hd]))]; rfl
theorem idx_no {l : List UInt8} (h : ∀ c ∈ l, c ≠ 37) : Lib.index l [37] = -1 := by
  refine Lib.index_none fun j hj => ?_
  by_cases hl : j < l.length
  · exact ne37 hl fun e => h 37 (List.mem_of_getElem? e) rfl
  · unfold Lib.occAt; rw [List.drop_eq_nil_of_le (by omega)]; rfl
theorem idx_some {a r : List UInt8} (h : ∀ c ∈ a, c ≠ 37) : Lib.index (a ++ 37 :: r) [37] = (a.length : Int) := by
  refine Lib.index_first (by simp) ?_ fun j hj => ne37 (by simp; omega) fun e => ?_
  · rw [occ37 (by simp), beq_iff_eq]; simp
  · rw [List.getElem?_append_left hj] at e
    exact h 37 (List.mem_of_getElem? e) rfl
theorem dbl_k : ∀ (k : Nat) (s : List UInt8), Lib.count s [37] ≤ k → Lib.replaceK [37] [37, 37] k s = s.flatMap dbl
  | k, s, h => by
    rcases pct_split s with hn | ⟨a, r, rfl, ha⟩
    · rw [dbl_none s hn]
      cases k with
      | zero => rfl
      | succ k => rw [Lib.replaceK, if_pos (by rw [idx_no hn]; rfl)]
    · have hc := Lib.count_hit (s := a ++ 37 :: r) (by simp) (idx_some (r := r) ha)
      rw [show (a ++ 37 :: r).drop (a.length + ([37] : List UInt8).length) = r by simp] at hc
      cases k with
      | zero => omega
      | succ k =>
        rw [Lib.replaceK_hit _ _ _ _ _ (idx_some ha), show (a ++ 37 :: r).drop (a.length + ([37] : List UInt8).length) = r by simp, dbl_k k r (by omega), List.flatMap_append, List.flatMap_cons, dbl_none a ha]
        simp [dbl]
theorem dbl_all (s : List UInt8) : Lib.replaceAll s [37] [37, 37] = s.flatMap dbl := by
  unfold Lib.replaceAll Lib.replace
  rw [if_neg (by decide)]
  unfold Lib.replaceNum
  rw [if_pos (.inl (by decide))]
  exact dbl_k _ s (Nat.le_refl _)
theorem rep_all (s : ByteArray) (w : World) (he : E9 w) (hs : s.size ≤ 100000) :
    Calls Tryz.prog 21 #[.string s, .string ⟨#[37]⟩, .string ⟨#[37, 37]⟩] w fun e w' => e = .returned (.string (bq (s.data.toList.flatMap dbl))) ∧ Below w.heap.size w w' := by
  obtain ⟨m, hm⟩ := he.env.ml
  have hc := Lib.countB_le ⟨#[37]⟩ (by decide) s.size s (Nat.le_refl _)
  have h1 := Tryz.strings_ReplaceAll s ⟨#[37]⟩ ⟨#[37, 37]⟩ m w (by omega) hm (by decide) (by show s.size + _ * 2 ≤ _; omega)
  rw [show (⟨#[37]⟩ : ByteArray).data.toList = [37] from rfl, show (⟨#[37, 37]⟩ : ByteArray).data.toList = [37, 37] from rfl, dbl_all] at h1
  exact h1
end Go.Proofs.YtbdcmnhfmkefdaaGreatDoor
