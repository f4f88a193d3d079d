/- Contracts of layer 3: tokens, other than strings, put together. -/
import Derived.Test.YtbcbddglgfakpaaDoorLexH
namespace Go.Proofs.YtbcbddglgfakpaaDoor
open Go.RowKit M1 M2 M3
set_option linter.unusedVariables false
structure TR where
  K : Int
  x : List UInt8
  E : Int
  nx : Nat
def namR (l : List UInt8) (a : Nat) : TR :=
  if 40 < cntP wrd (l.drop a) then ⟨1, [], 3, a + cntP wrd (l.drop a)⟩
  else ⟨if key ((l.drop a).take (cntP wrd (l.drop a))) = true then 2 else 1, (l.drop a).take (cntP wrd (l.drop a)), 0, a + cntP wrd (l.drop a)⟩
def symR (l : List UInt8) (a : Nat) : TR := ⟨5, (l.drop a).take (symN (l.drop a)), symE (l.drop a), a + symN (l.drop a)⟩
def nuR (l : List UInt8) (a : Nat) : TR := ⟨3, (numL l a).1, (numL l a).2.1, (numL l a).2.2⟩
/-- A token that begins with the byte c, which is no quote. -/
def tokP (l : List UInt8) (a : Nat) (c : UInt8) : TR := if dgt c = true then nuR l a else if wrd c = true then namR l a else symR l a
/-- What a call of token says. -/
def TokSaid (b : Nat) (s : ByteArray) (a ln : Nat) (t : TR) (w : World) : Prop :=
  Calls Tryd.prog 30 #[.pointer (some ⟨b, 0, none⟩)] w fun e w' => e = .returned (.tuple #[.agg #[.int .i64 t.K, .string (bs t.x), .int .i64 (ln : Int), .int .i64 (a : Int)], .int .i64 t.E]) ∧ Sc b s t.nx ln w' ∧ w.grownBy w' (some b)
theorem token_any (b : Nat) (s : ByteArray) (a ln : Nat) (w : World) (hs : s.size ≤ 4000000000) (ha : a < s.size) (hSc : Sc b s a ln w) (hq1 : s[a] ≠ 34) (hq2 : s[a] ≠ 39) :
    TokSaid b s a ln (tokP s.data.toList a s[a]) w := by
  have hD := fun w => digit3_any s[a] w
  have hW := fun w => word3_any s[a] w
  have hll : s.data.toList.length = s.size := by simp
  unfold TokSaid tokP
  cases hd : dgt s[a] with
  | true =>
    rw [hd] at hD
    rw [if_pos rfl]
    exact token_num b s (bs (numL s.data.toList a).1) a ln (numL s.data.toList a).2.2 (numL s.data.toList a).2.1 w hs ha hSc (Lib.hid hD) (Lib.hid fun w h => number3_any b s a ln w hs (by omega) h)
  | false =>
    rw [hd] at hD
    rw [if_neg (by simp)]
    have hle := cntP_le wrd (s.data.toList.drop a)
    rw [List.length_drop, hll] at hle
    cases hw : wrd s[a] with
    | true =>
      rw [hw] at hW
      rw [if_pos rfl]
      have T0 := fun w h => take_word b s a ln w hs (by omega) h
      unfold namR
      have hsz : (bs ((s.data.toList.drop a).take (cntP wrd (s.data.toList.drop a)))).size = cntP wrd (s.data.toList.drop a) := by
        rw [bs_size, List.length_take, List.length_drop, hll]; omega
      by_cases hb : 40 < cntP wrd (s.data.toList.drop a)
      · rw [if_pos hb]
        refine token_name b s (bs []) a ln (a + cntP wrd (s.data.toList.drop a)) 3 w hs ha hSc (Lib.hid hD) (Lib.hid hW) (Lib.hid fun w => ?_) (Lib.hid fun w h => name_big b s _ a ln _ w hsz hb (by omega) (Lib.hid (T0 w h)))
        have h := keyword_any (bs []) w
        rw [bs_list, show key [] = false by decide] at h
        exact h
      · rw [if_neg hb]
        have K0 := fun w => keyword_any (bs ((s.data.toList.drop a).take (cntP wrd (s.data.toList.drop a)))) w
        rw [bs_list] at K0
        cases hk : key ((s.data.toList.drop a).take (cntP wrd (s.data.toList.drop a))) with
        | true =>
          rw [hk] at K0
          exact token_key b s _ a ln (a + cntP wrd (s.data.toList.drop a)) 0 w hs ha hSc (Lib.hid hD) (Lib.hid hW) (Lib.hid K0) (Lib.hid fun w h => name_ok b s _ a ln _ w hsz (by omega) (by omega) (Lib.hid (T0 w h)))
        | false =>
          rw [hk] at K0
          exact token_name b s _ a ln (a + cntP wrd (s.data.toList.drop a)) 0 w hs ha hSc (Lib.hid hD) (Lib.hid hW) (Lib.hid K0) (Lib.hid fun w h => name_ok b s _ a ln _ w hsz (by omega) (by omega) (Lib.hid (T0 w h)))
    | false =>
      rw [hw] at hW
      rw [if_neg (by simp)]
      have e1 : ((s[a].toNat : Int) == 34) = false := by
        rw [beq_eq_false_iff_ne]; intro h; apply hq1; exact UInt8.toNat_inj.1 (by show s[a].toNat = 34; omega)
      have e2 : ((s[a].toNat : Int) == 39) = false := by
        rw [beq_eq_false_iff_ne]; intro h; apply hq2; exact UInt8.toNat_inj.1 (by show s[a].toNat = 39; omega)
      exact token_sym b s (bs ((s.data.toList.drop a).take (symN (s.data.toList.drop a)))) a ln (a + symN (s.data.toList.drop a)) (symE (s.data.toList.drop a)) w hs ha hSc (Lib.hid hD) (Lib.hid hW) e1 e2 (Lib.hid fun w h => symbol_any b s a ln w hs (by omega) h)
end Go.Proofs.YtbcbddglgfakpaaDoor
