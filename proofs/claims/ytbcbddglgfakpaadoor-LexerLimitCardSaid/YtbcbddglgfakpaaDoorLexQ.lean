/- Contracts of layer 3: the reference's literals that are written. -/
import Derived.Test.YtbcbddglgfakpaaDoorLexP
import Derived.Laws.IdiomStrings
namespace Go.Proofs.YtbcbddglgfakpaaDoor
open Go.RowKit Go.Joins M1 M2 M3
set_option linter.unusedVariables false
def eV (x : UInt8) : Value := .int .u8 (x.toNat : Int)
/-- A row of bytes of the call's own. -/
def Own (base : Nat) (w : World) (v : Value) (l : List UInt8) : Prop := w.ownsRow base 5 1 v l.length (l.map eV)
theorem Own.add {base : Nat} {w' : World} {v : Value} {l xs : List UInt8} {m : Nat} {news : List Value} (h : w'.ownsRow base 5 1 v (l.length + m) (l.map eV ++ news)) (hm : m = xs.length) (hn : news = xs.map eV) : Own base w' v (l ++ xs) := by
  subst hm hn
  unfold Own
  rw [List.length_append, List.map_append]
  exact h
theorem Own.kept {base : Nat} {w w' : World} {v : Value} {l : List UInt8} (h : Own base w v l) (hb : Below w.heap.size w w') : Own base w' v l :=
  World.ownsRow.kept h (grow_below hb none) (by cases e : v.ownBlock with | none => exact .inl rfl | some j => exact .inr (by simp))
theorem own_str {base : Nat} {w : World} {g cap n : Nat} {l : List UInt8} (h : Own base w (.slice (some ⟨g, 0, none⟩) n cap) l) (hn : n = l.length) : (convert 42 9 (.slice (some ⟨g, 0, none⟩) n cap)).run Tryd.prog w = .ok (.string (bs l)) w := by
  subst hn
  refine run_convert_bytes_back (P := Tryd.prog) w 42 9 5 ⟨g, 0, none⟩ cap l Tryd.underlying42 Tryd.underlying5 Tryd.underlying9 (fun j hj => ?_)
  exact World.ownsRow.cells h rfl j _ (by simp [eV, hj])

set_option maxHeartbeats 8000000 in
set_option maxRecDepth 100000 in
theorem rquote_any (s : ByteArray) (w : World) (hs : s.size ≤ 100000) :
    Calls Tryd.prog 18 #[.string s] w fun e w' => e = .returned (.string (bs (qt s.data.toList))) ∧ Below w.heap.size w w' := by
  obtain ⟨i0, hi, hz0, hz1, hz2⟩ := info_parts bbyte
  have hll : s.data.toList.length = s.size := by simp
  have h0 : Own w.heap.size (w.alloc (.cells #[.int .u8 34] 5)) (.slice (some ⟨w.heap.size, 0, none⟩) 1 1) [34] := World.ownsRow_lit w #[.int .u8 34] 1 (Nat.le_refl _) (by decide) rfl
  have hb0 : Below w.heap.size w (w.alloc (.cells #[.int .u8 34] 5)) := (Below.refl _ _).alloc (Nat.le_refl _) _
  go_enter Tryd.func18, Tryd.ntmps18
  go_wp2
  have H0 := Lib.hid h0
  have HB0 := Lib.hid hb0
  clear h0 hb0
  go_loopw [3, 4] (fun v3 v4 wr => ∃ k : Nat, k ≤ s.size ∧ v4 = .int .i64 (k : Int) ∧ Hid (Own w.heap.size wr v3 (34 :: (s.data.toList.take k).flatMap qb)) ∧ Hid (Below w.heap.size w wr)) (fun _ v4 _ => s.size - (intOf v4).toNat)
  case atStart => exact ⟨0, Nat.zero_le _, rfl, H0, HB0⟩
  case round =>
    obtain ⟨k, hk, rfl, HO, HB⟩ := hrel
    rename World => W0
    have hz0' := HB.out.size
    have hfl := flat_len s.data.toList k
    obtain ⟨l, hl⟩ : ∃ l, (34 : UInt8) :: (s.data.toList.take k).flatMap qb = l := ⟨_, rfl⟩
    have hlen : l.length ≤ 400001 := by rw [← hl, List.length_cons]; omega
    have HL := Lib.hid hl
    rw [hl] at HO
    have hown := HO.out
    unfold Own at hown
    have HOW := Lib.hid hown
    clear hl hfl hown
    by_cases hlt : k < s.size
    · have hlt' : (k : Int) < (s.size : Int) := by omega
      obtain ⟨x, hx⟩ : ∃ x, s[k] = x := ⟨_, rfl⟩
      have hcb := byte_bd3 x
      have HST : Hid ((34 : UInt8) :: (s.data.toList.take (k + 1)).flatMap qb = l ++ qb x) := Lib.hid (by
        rw [flat_step (by omega), ← HL.out, ← hx]; simp; rfl)
      have hsx : ((s[k]'hlt).toNat : Int) = (x.toNat : Int) := by rw [hx]
      by_cases c10 : x.toNat = 10
      · have q10 : ((x.toNat : Int) == 10) = true := by first | (rw [beq_iff_eq]; omega) | (rw [beq_eq_false_iff_ne]; omega)
        have HX : Hid (qb x = [92, 110]) := Lib.hid (by rw [u8_lit x 10 (by omega) c10]; rfl)
        clear c10
        go_wp2_with (at_builtin; refine wpList_append_own _ rfl _ _ 42 rfl w.heap.size 5 i0 (.int .u8 0) 1 1 Tryd.underlying42 hi hz0 hz1 hz2 rfl (by decide) _ _ _ rfl (HOW.out.alloc _) ⟨W0.heap.size, 0, none⟩ 2 2 [.int .u8 92, .int .u8 110] rfl rfl (by intro j u' hj; match j, hj with | 0, hj => (simp at hj; subst hj; simp [Addr.add]) | 1, hj => (simp at hj; subst hj; simp [Addr.add])) (by intro u' hu'; simp at hu'; rcases hu' with rfl | rfl <;> rfl) (by unfold maxLen; omega) (by omega) (by simp; omega) ?_)
        intro v1 W2 hown1 hgrow _
        have HO2 : Hid (Own w.heap.size W2 v1 (34 :: (s.data.toList.take (k + 1)).flatMap qb)) := Lib.hid (by
          rw [HST.out, HX.out]
          exact Own.add hown1 rfl rfl)
        have HB2 : Hid (Below w.heap.size w W2) := Lib.hid (Below.grown (HB.out.alloc (by omega) _) hgrow (by simp; omega) (fun i e => (World.ownsRow.lt HOW.out i e).1))
        clear hown1 hgrow
        go_wp2
        go_roundw
        case rel => exact ⟨k + 1, by omega, by go_num, HO2, HB2⟩
        case measure => simp [intOf]; omega
      by_cases c9 : x.toNat = 9
      · have q10 : ((x.toNat : Int) == 10) = false := by first | (rw [beq_iff_eq]; omega) | (rw [beq_eq_false_iff_ne]; omega)
        have q9 : ((x.toNat : Int) == 9) = true := by first | (rw [beq_iff_eq]; omega) | (rw [beq_eq_false_iff_ne]; omega)
        have HX : Hid (qb x = [92, 116]) := Lib.hid (by rw [u8_lit x 9 (by omega) c9]; rfl)
        clear c10 c9
        go_wp2_with (at_builtin; refine wpList_append_own _ rfl _ _ 42 rfl w.heap.size 5 i0 (.int .u8 0) 1 1 Tryd.underlying42 hi hz0 hz1 hz2 rfl (by decide) _ _ _ rfl (HOW.out.alloc _) ⟨W0.heap.size, 0, none⟩ 2 2 [.int .u8 92, .int .u8 116] rfl rfl (by intro j u' hj; match j, hj with | 0, hj => (simp at hj; subst hj; simp [Addr.add]) | 1, hj => (simp at hj; subst hj; simp [Addr.add])) (by intro u' hu'; simp at hu'; rcases hu' with rfl | rfl <;> rfl) (by unfold maxLen; omega) (by omega) (by simp; omega) ?_)
        intro v1 W2 hown1 hgrow _
        have HO2 : Hid (Own w.heap.size W2 v1 (34 :: (s.data.toList.take (k + 1)).flatMap qb)) := Lib.hid (by
          rw [HST.out, HX.out]
          exact Own.add hown1 rfl rfl)
        have HB2 : Hid (Below w.heap.size w W2) := Lib.hid (Below.grown (HB.out.alloc (by omega) _) hgrow (by simp; omega) (fun i e => (World.ownsRow.lt HOW.out i e).1))
        clear hown1 hgrow
        go_wp2
        go_roundw
        case rel => exact ⟨k + 1, by omega, by go_num, HO2, HB2⟩
        case measure => simp [intOf]; omega
      have e10 : x ≠ 10 := fun h => c10 (by rw [h]; rfl)
      have e9 : x ≠ 9 := fun h => c9 (by rw [h]; rfl)
      have d10 : ((x.toNat : Int) == 10) = false := by rw [beq_eq_false_iff_ne]; omega
      have d9 : ((x.toNat : Int) == 9) = false := by rw [beq_eq_false_iff_ne]; omega
      by_cases c92 : x.toNat = 92
      · have q92 : ((x.toNat : Int) == 92) = true := by first | (rw [beq_iff_eq]; omega) | (rw [beq_eq_false_iff_ne]; omega)
        have HX : Hid (qb x = [92, x]) := Lib.hid (by unfold qb; rw [if_neg e10, if_neg e9, if_pos (.inl (u8_lit x 92 (by omega) c92))])
        clear c10 c9 c92 e10 e9
        go_wp2_with (at_builtin; refine wpList_append_own _ rfl _ _ 42 rfl w.heap.size 5 i0 (.int .u8 0) 1 1 Tryd.underlying42 hi hz0 hz1 hz2 rfl (by decide) _ _ _ rfl (HOW.out.alloc _) ⟨W0.heap.size, 0, none⟩ 2 2 [.int .u8 92, .int .u8 (x.toNat : Int)] rfl rfl (by intro j u' hj; match j, hj with | 0, hj => (simp at hj; subst hj; simp [Addr.add]) | 1, hj => (simp at hj; subst hj; simp [Addr.add])) (by intro u' hu'; simp at hu'; rcases hu' with rfl | rfl <;> rfl) (by unfold maxLen; omega) (by omega) (by simp; omega) ?_)
        intro v1 W2 hown1 hgrow _
        have HO2 : Hid (Own w.heap.size W2 v1 (34 :: (s.data.toList.take (k + 1)).flatMap qb)) := Lib.hid (by
          rw [HST.out, HX.out]
          exact Own.add hown1 rfl rfl)
        have HB2 : Hid (Below w.heap.size w W2) := Lib.hid (Below.grown (HB.out.alloc (by omega) _) hgrow (by simp; omega) (fun i e => (World.ownsRow.lt HOW.out i e).1))
        clear hown1 hgrow
        go_wp2
        go_roundw
        case rel => exact ⟨k + 1, by omega, by go_num, HO2, HB2⟩
        case measure => simp [intOf]; omega
      have d92 : ((x.toNat : Int) == 92) = false := by rw [beq_eq_false_iff_ne]; omega
      by_cases c34 : x.toNat = 34
      · have q34 : ((x.toNat : Int) == 34) = true := by first | (rw [beq_iff_eq]; omega) | (rw [beq_eq_false_iff_ne]; omega)
        have HX : Hid (qb x = [92, x]) := Lib.hid (by unfold qb; rw [if_neg e10, if_neg e9, if_pos (.inr (u8_lit x 34 (by omega) c34))])
        clear c10 c9 c92 c34 e10 e9
        go_wp2_with (at_builtin; refine wpList_append_own _ rfl _ _ 42 rfl w.heap.size 5 i0 (.int .u8 0) 1 1 Tryd.underlying42 hi hz0 hz1 hz2 rfl (by decide) _ _ _ rfl (HOW.out.alloc _) ⟨W0.heap.size, 0, none⟩ 2 2 [.int .u8 92, .int .u8 (x.toNat : Int)] rfl rfl (by intro j u' hj; match j, hj with | 0, hj => (simp at hj; subst hj; simp [Addr.add]) | 1, hj => (simp at hj; subst hj; simp [Addr.add])) (by intro u' hu'; simp at hu'; rcases hu' with rfl | rfl <;> rfl) (by unfold maxLen; omega) (by omega) (by simp; omega) ?_)
        intro v1 W2 hown1 hgrow _
        have HO2 : Hid (Own w.heap.size W2 v1 (34 :: (s.data.toList.take (k + 1)).flatMap qb)) := Lib.hid (by
          rw [HST.out, HX.out]
          exact Own.add hown1 rfl rfl)
        have HB2 : Hid (Below w.heap.size w W2) := Lib.hid (Below.grown (HB.out.alloc (by omega) _) hgrow (by simp; omega) (fun i e => (World.ownsRow.lt HOW.out i e).1))
        clear hown1 hgrow
        go_wp2
        go_roundw
        case rel => exact ⟨k + 1, by omega, by go_num, HO2, HB2⟩
        case measure => simp [intOf]; omega
      have d34 : ((x.toNat : Int) == 34) = false := by rw [beq_eq_false_iff_ne]; omega
      have e92 : ¬ (x = 92 ∨ x = 34) := fun h => by rcases h with h | h <;> rw [h] at c92 c34 <;> first | exact c92 rfl | exact c34 rfl
      by_cases c32 : x.toNat < 32
      · have g1 : (x.toNat : Int) < 32 := by omega
        have HX : Hid (qb x = [92, 48 + x / 100, 48 + x / 10 % 10, 48 + x % 10]) := Lib.hid (by unfold qb; rw [if_neg e10, if_neg e9, if_neg e92, if_pos (.inl c32)])
        clear c10 c9 c92 c34 e10 e9 e92 c32
        go_wp2_with (at_builtin; refine wpList_append_own _ rfl _ _ 42 rfl w.heap.size 5 i0 (.int .u8 0) 1 1 Tryd.underlying42 hi hz0 hz1 hz2 rfl (by decide) _ _ _ rfl (HOW.out.alloc _) ⟨W0.heap.size, 0, none⟩ 4 4 [.int .u8 92, .int .u8 (48 + (x.toNat : Int) / 100), .int .u8 (48 + (x.toNat : Int) / 10 % 10), .int .u8 (48 + (x.toNat : Int) % 10)] rfl rfl (by intro j u' hj; match j, hj with | 0, hj => (simp at hj; subst hj; simp [Addr.add]) | 1, hj => (simp at hj; subst hj; simp [Addr.add]) | 2, hj => (simp at hj; subst hj; simp [Addr.add]) | 3, hj => (simp at hj; subst hj; simp [Addr.add])) (by intro u' hu'; simp at hu'; rcases hu' with rfl | rfl | rfl | rfl <;> rfl) (by unfold maxLen; omega) (by omega) (by simp; omega) ?_)
        intro v1 W2 hown1 hgrow _
        have HO2 : Hid (Own w.heap.size W2 v1 (34 :: (s.data.toList.take (k + 1)).flatMap qb)) := Lib.hid (by
          rw [HST.out, HX.out]
          exact Own.add hown1 rfl (by simp only [List.map_cons, List.map_nil, eV, dq1, dq2, dq3]; rfl))
        have HB2 : Hid (Below w.heap.size w W2) := Lib.hid (Below.grown (HB.out.alloc (by omega) _) hgrow (by simp; omega) (fun i e => (World.ownsRow.lt HOW.out i e).1))
        clear hown1 hgrow
        go_wp2
        go_roundw
        case rel => exact ⟨k + 1, by omega, by go_num, HO2, HB2⟩
        case measure => simp [intOf]; omega
      have g1 : ¬ (x.toNat : Int) < 32 := by omega
      by_cases c126 : 126 < x.toNat
      · have g2 : 126 < (x.toNat : Int) := by omega
        have HX : Hid (qb x = [92, 48 + x / 100, 48 + x / 10 % 10, 48 + x % 10]) := Lib.hid (by unfold qb; rw [if_neg e10, if_neg e9, if_neg e92, if_pos (.inr c126)])
        clear c10 c9 c92 c34 e10 e9 e92 c126
        go_wp2_with (at_builtin; refine wpList_append_own _ rfl _ _ 42 rfl w.heap.size 5 i0 (.int .u8 0) 1 1 Tryd.underlying42 hi hz0 hz1 hz2 rfl (by decide) _ _ _ rfl (HOW.out.alloc _) ⟨W0.heap.size, 0, none⟩ 4 4 [.int .u8 92, .int .u8 (48 + (x.toNat : Int) / 100), .int .u8 (48 + (x.toNat : Int) / 10 % 10), .int .u8 (48 + (x.toNat : Int) % 10)] rfl rfl (by intro j u' hj; match j, hj with | 0, hj => (simp at hj; subst hj; simp [Addr.add]) | 1, hj => (simp at hj; subst hj; simp [Addr.add]) | 2, hj => (simp at hj; subst hj; simp [Addr.add]) | 3, hj => (simp at hj; subst hj; simp [Addr.add])) (by intro u' hu'; simp at hu'; rcases hu' with rfl | rfl | rfl | rfl <;> rfl) (by unfold maxLen; omega) (by omega) (by simp; omega) ?_)
        intro v1 W2 hown1 hgrow _
        have HO2 : Hid (Own w.heap.size W2 v1 (34 :: (s.data.toList.take (k + 1)).flatMap qb)) := Lib.hid (by
          rw [HST.out, HX.out]
          exact Own.add hown1 rfl (by simp only [List.map_cons, List.map_nil, eV, dq1, dq2, dq3]; rfl))
        have HB2 : Hid (Below w.heap.size w W2) := Lib.hid (Below.grown (HB.out.alloc (by omega) _) hgrow (by simp; omega) (fun i e => (World.ownsRow.lt HOW.out i e).1))
        clear hown1 hgrow
        go_wp2
        go_roundw
        case rel => exact ⟨k + 1, by omega, by go_num, HO2, HB2⟩
        case measure => simp [intOf]; omega
      · have g2 : ¬ 126 < (x.toNat : Int) := by omega
        have HX : Hid (qb x = [x]) := Lib.hid (by unfold qb; rw [if_neg e10, if_neg e9, if_neg e92, if_neg (by omega)])
        clear c10 c9 c92 c34 e10 e9 e92 c126 c32
        go_wp2_with (at_builtin; refine wpList_append_own _ rfl _ _ 42 rfl w.heap.size 5 i0 (.int .u8 0) 1 1 Tryd.underlying42 hi hz0 hz1 hz2 rfl (by decide) _ _ _ rfl (HOW.out.alloc _) ⟨W0.heap.size, 0, none⟩ 1 1 [.int .u8 (x.toNat : Int)] rfl rfl (by intro j u' hj; match j, hj with | 0, hj => (simp at hj; subst hj; simp [Addr.add])) (by intro u' hu'; simp at hu'; subst hu'; rfl) (by unfold maxLen; omega) (by omega) (by simp; omega) ?_)
        intro v1 W2 hown1 hgrow _
        have HO2 : Hid (Own w.heap.size W2 v1 (34 :: (s.data.toList.take (k + 1)).flatMap qb)) := Lib.hid (by
          rw [HST.out, HX.out]
          exact Own.add hown1 rfl rfl)
        have HB2 : Hid (Below w.heap.size w W2) := Lib.hid (Below.grown (HB.out.alloc (by omega) _) hgrow (by simp; omega) (fun i e => (World.ownsRow.lt HOW.out i e).1))
        clear hown1 hgrow
        go_wp2
        go_roundw
        case rel => exact ⟨k + 1, by omega, by go_num, HO2, HB2⟩
        case measure => simp [intOf]; omega
    · have hk2 : k = s.size := by omega
      have hlt' : ¬ (k : Int) < (s.size : Int) := by omega
      have HQ : Hid (l ++ [34] = qt s.data.toList) := Lib.hid (by rw [← HL.out, hk2, ← hll, List.take_length]; rfl)
      clear hk2
      go_wp2_with (at_builtin; refine wpList_append_own _ rfl _ _ 42 rfl w.heap.size 5 i0 (.int .u8 0) 1 1 Tryd.underlying42 hi hz0 hz1 hz2 rfl (by decide) _ _ _ rfl (HOW.out.alloc _) ⟨W0.heap.size, 0, none⟩ 1 1 [.int .u8 34] rfl rfl (by intro j u' hj; match j, hj with | 0, hj => (simp at hj; subst hj; simp [Addr.add])) (by intro u' hu'; simp at hu'; subst hu'; rfl) (by unfold maxLen; omega) (by omega) (by simp; omega) ?_)
      intro v1 W2 hown1 hgrow _
      obtain ⟨g, cap, rfl⟩ := ownsRow_form hown1 (by omega)
      have HO2 : Hid (Own w.heap.size W2 (.slice (some ⟨g, 0, none⟩) (l.length + 1) cap) (l ++ [34])) := Lib.hid (Own.add hown1 rfl rfl)
      have hcv := own_str HO2.out (by simp)
      have HB2 : Hid (Below w.heap.size w W2) := Lib.hid (Below.grown (HB.out.alloc (by omega) _) hgrow (by simp; omega) (fun i e => (World.ownsRow.lt HOW.out i e).1))
      clear hown1 hgrow
      go_wp2
      go_ret
      exact ⟨by rw [← HQ.out]; rfl, HB2.out⟩
end Go.Proofs.YtbcbddglgfakpaaDoor
