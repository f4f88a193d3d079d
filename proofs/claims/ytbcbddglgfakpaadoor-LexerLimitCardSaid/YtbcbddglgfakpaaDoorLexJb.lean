/- Contracts of layer 3: the tokens of any text. -/
import Derived.Test.YtbcbddglgfakpaaDoorLexJ
import Derived.Test.YtbcbddglgfakpaaDoorLexHb
namespace Go.Proofs.YtbcbddglgfakpaaDoor
open Go.RowKit M1 M2 M3
set_option linter.unusedVariables false

set_option maxHeartbeats 8000000 in
set_option maxRecDepth 100000 in
theorem lscan2_any (s : ByteArray) (tk : Nat → TR) (w : World) (hs : s.size ≤ 65536)
    (hE : Vrs w) (hTok : ∀ b a ln W, (h : a < s.size) → Sc b s a ln W → Vrs W → TokSaid2 b s a ln (tk a) W)
    (hPr : ∀ a, a < s.size → (tk a).E = 0 → a < (tk a).nx ∧ (tk a).nx ≤ s.size) :
    Calls Tryd.prog 12 #[.string s] w fun e w' => ∃ v, e = .returned (.tuple #[v, .int .i64 ((scT tk s.data.toList).2.1 : Int), .int .i64 (scT tk s.data.toList).2.2]) ∧ OwnT (w.heap.size + 1) w' v (scT tk s.data.toList).1 ∧ Below w.heap.size w w' := by
  obtain ⟨i0, hi, hz0, hz1, hz2⟩ := info_parts infoTok
  have hs' : ¬ 65536 < (s.size : Int) := by omega
  have hll : s.data.toList.length = s.size := by simp
  have hk0 := sk_le s.data.toList
  rw [hll] at hk0
  have HT := Lib.hid hTok
  have HP := Lib.hid hPr
  clear hTok hPr
  have hSc : Sc w.heap.size s 0 1 (w.alloc (.cells #[.string s, .int .i64 0, .int .i64 1] 53)) := heap_alloc_new w _
  have K0 := skip_any w.heap.size s 0 1 _ (by omega) (by omega) (by omega) hSc
  rw [List.drop_zero, Nat.zero_add] at K0
  have K1 := Lib.hid K0
  clear K0 hSc
  obtain ⟨R, hR⟩ : ∃ R, scT tk s.data.toList = R := ⟨_, rfl⟩
  rw [hR]
  have HR0 : Hid (R = scF tk s.data.toList (s.size + 1) (sk s.data.toList).1 (1 + (sk s.data.toList).2) []) := Lib.hid (by rw [← hR]; unfold scT; rw [hll])
  clear hR
  go_enter Tryd.func12, Tryd.ntmps12
  go_wp2_with (go_at_call 29; (with_reducible refine (K1.out).mono ?_); rintro e w1 ⟨rfl, hs1, hg1⟩)
  have hbw : Below w.heap.size w w1 := Below.grown ((Below.refl _ _).alloc (Nat.le_refl _) _) hg1 (by simp) (fun k e => by cases e; exact Nat.le_refl _)
  have HSw := Lib.hid hs1
  have HBw := Lib.hid hbw
  have hsz1 := hbw.size
  have hsz2 := hg1.size
  clear hs1 hbw hg1
  go_loopw [5] (fun v5 wr => ∃ (a ln f : Nat) (ts : List Tok), a ≤ s.size ∧ ln ≤ a + 1 ∧ s.size - a < f ∧ ts.length ≤ a ∧ Hid (Sc w.heap.size s a ln wr) ∧ Hid (OwnT (w.heap.size + 1) wr v5 ts) ∧ Hid (Below w.heap.size w wr) ∧ Hid (R = scF tk s.data.toList f a ln ts)) (fun _ wr => s.size - atOf w.heap.size wr)
  case atStart => exact ⟨_, _, _, [], by omega, by omega, by omega, by simp, HSw, Lib.hid (World.ownsRow_nil _ _ _ _), HBw, HR0⟩
  case round =>
    obtain ⟨a, ln, f, ts, ha, hln, hf, hts, HS, HO, HB, HR⟩ := hrel
    rename World => W0
    have hat := HS.out.atOf
    have k1 := HS.out.c1
    by_cases hlt : a < s.size
    · have hlt' : (a : Int) < (s.size : Int) := by omega
      have T0 := HT.out w.heap.size a ln W0 hlt HS.out (hE.below HB.out hE.lt)
      have hpr := HP.out a hlt
      have HR1 : Hid (R = if (tk a).E = 0 then scF tk s.data.toList (f - 1) ((tk a).nx + (sk (s.data.toList.drop (tk a).nx)).1) (ln + (sk (s.data.toList.drop (tk a).nx)).2) (ts ++ [⟨(tk a).K, (tk a).x, ln, a⟩]) else ([], ln, (tk a).E)) := Lib.hid (by
        rw [HR.out]
        obtain ⟨g, rfl⟩ : ∃ g, f = g + 1 := ⟨f - 1, by omega⟩
        rw [scF, if_pos (by rw [hll]; exact hlt)]; rfl)
      unfold TokSaid2 at T0
      obtain ⟨t, ht⟩ : ∃ t, tk a = t := ⟨_, rfl⟩
      rw [ht] at T0 hpr HR1
      have T1 := Lib.hid T0
      clear T0 ht
      go_upto_region 9 with (go_at_call 30; (with_reducible refine (T1.out).mono ?_); rintro e w5 ⟨rfl, ⟨p, hp, hs5⟩, hg5⟩)
      go_name_world V hV
      have hb5 : w5.grownBy V none := by rw [← hV]; exact grow_below ((Below.refl _ _).alloc (Nat.le_refl _) _) _
      have hbV : Below w.heap.size w V := Below.grown (Below.grown HB.out hg5 (by have := HB.out.size; omega) (fun k e => by cases e; exact Nat.le_refl _)) hb5 (by have := HB.out.size; have := hg5.size; omega) (fun k e => by cases e)
      have HSV := Lib.hid (hs5.kept hb5 (by simp))
      have HOV := Lib.hid (OwnT.kept (OwnT.kept HO.out hg5 (fun j e => by cases e; omega)) hb5 (fun j e => by cases e))
      have HTV : Hid (Tk w5.heap.size t.K (bs t.x) (ln : Int) (a : Int) V) := Lib.hid (by rw [← hV]; exact heap_alloc_new w5 _)
      have HBV := Lib.hid hbV
      clear hs5 hg5 hb5 hbV hV k1
      have m1 := HSV.out.c1
      have m2 := HSV.out.c2
      have p0 := HTV.out.c0
      have p1 := HTV.out.c1
      have p2 := HTV.out.c2
      have p3 := HTV.out.c3
      by_cases hE5 : t.E = 0
      · have hE' : (t.E != 0) = false := by rw [bne_eq_false_iff_eq]; exact hE5
        obtain ⟨n1, n2⟩ := hpr hE5
        obtain rfl := hp hE5
        have HR2 : Hid (R = scF tk s.data.toList (f - 1) (t.nx + (sk (s.data.toList.drop t.nx)).1) (ln + (sk (s.data.toList.drop t.nx)).2) (ts ++ [⟨t.K, t.x, ln, a⟩])) := Lib.hid (by rw [HR1.out, if_pos hE5])
        have hsk := sk_le (s.data.toList.drop t.nx)
        rw [List.length_drop, hll] at hsk
        have S1 := Lib.hid fun W h => skip_any w.heap.size s t.nx ln W (by omega) n2 (by omega) h
        have hown := HOV.out
        unfold OwnT at hown
        have HOW := Lib.hid hown
        have hsV := HBV.out.size
        clear hown hpr hE5 HR1
        go_wp2_with (first | (at_builtin; refine wpList_append_own _ rfl _ _ 24 rfl (w.heap.size + 1) 29 i0 (.agg #[.int .i64 0, .string ⟨#[]⟩, .int .i64 0, .int .i64 0]) 4 40 Tryd.underlying24 hi hz0 hz1 hz2 rfl (by decide) _ _ _ rfl (HOW.out.alloc _) ⟨V.heap.size, 0, none⟩ 1 1 [.int .i64 t.K, .string (bs t.x), .int .i64 (ln : Int), .int .i64 (a : Int)] rfl rfl (by intro j u' hj; match j, hj with | 0, hj => (simp at hj; subst hj; simp [Addr.add]) | 1, hj => (simp at hj; subst hj; simp [Addr.add]) | 2, hj => (simp at hj; subst hj; simp [Addr.add]) | 3, hj => (simp at hj; subst hj; simp [Addr.add])) (by intro u' hu'; simp at hu'; rcases hu' with rfl | rfl | rfl | rfl <;> rfl) (by unfold maxLen; omega) (by omega) (by simp; omega) ?_))
        intro v1 W2 hown1 hgrow _
        have hO1 : OwnT (w.heap.size + 1) W2 v1 (ts ++ [⟨t.K, t.x, ln, a⟩]) := by
          unfold OwnT
          rw [List.length_append, List.flatMap_append, List.flatMap_cons, List.flatMap_nil, List.append_nil]
          exact hown1
        have hal := grow_below ((Below.refl _ V).alloc (Nat.le_refl _) (.cells #[.int .i64 t.K, .string (bs t.x), .int .i64 (ln : Int), .int .i64 (a : Int)] 29)) none
        have HS2 := Lib.hid ((HSV.out.kept hal (by simp)).kept hgrow (fun e => by have := (World.ownsRow.lt HOV.out _ e).1; omega))
        have HB2 : Hid (Below w.heap.size w W2) := Lib.hid (Below.grown (HBV.out.alloc (by omega) _) hgrow (by simp; omega) (fun k e => by have := (World.ownsRow.lt HOV.out k e).1; omega))
        have HO2 := Lib.hid hO1
        clear hown1 hgrow hO1 hal p0 p1 p2 p3 m1 m2
        go_wp2_with (go_at_call 29; (with_reducible refine (S1.out _ HS2.out).mono ?_); rintro e w6 ⟨rfl, hs6, hg6⟩)
        go_roundw
        case rel =>
          refine ⟨t.nx + (sk (s.data.toList.drop t.nx)).1, ln + (sk (s.data.toList.drop t.nx)).2, f - 1, ts ++ [⟨t.K, t.x, ln, a⟩], by omega, by omega, by omega, by simp; omega, Lib.hid hs6, Lib.hid (HO2.out.kept hg6 (fun j e => by cases e; omega)), Lib.hid (Below.grown HB2.out hg6 (by have := HB2.out.size; omega) (fun k e => by cases e; exact Nat.le_refl _)), HR2⟩
        case measure => rw [Sc.atOf hs6, hat]; omega
      · have hE' : (t.E != 0) = true := by rw [bne_iff_ne]; exact hE5
        have HR2 : Hid (R = ([], ln, t.E)) := Lib.hid (by rw [HR1.out, if_neg hE5])
        clear hpr hE5 HR1
        go_wp2
        go_quiet (fail)
        go_wp2
        refine bodyPost_ret (v := .tuple #[.slice none 0 0, .int .i64 (ln : Int), .int .i64 t.E]) (by simp [results, Tryd.results12, go_sem]) rfl ⟨.slice none 0 0, by rw [HR2.out], by rw [HR2.out]; exact World.ownsRow_nil _ _ _ _, below_drewN HBV.out _⟩
    · have hlt' : ¬ (a : Int) < (s.size : Int) := by omega
      have HR2 : Hid (R = (ts, 0, 0)) := Lib.hid (by
        rw [HR.out]
        obtain ⟨g, rfl⟩ : ∃ g, f = g + 1 := ⟨f - 1, by omega⟩
        rw [scF, if_neg (by rw [hll]; exact hlt)])
      go_wp2
      refine bodyPost_ret (v := .tuple #[u5, .int .i64 0, .int .i64 0]) (by simp [results, Tryd.results12, go_sem]) rfl ⟨u5, by rw [HR2.out]; rfl, by rw [HR2.out]; exact HO.out, HB.out⟩

theorem litF_nx (q : UInt8) (f : Nat) : ∀ (l acc : List UInt8) (k : Nat), (litF q f l acc k).2.2 = 0 → k < (litF q f l acc k).2.1 ∧ (litF q f l acc k).2.1 ≤ k + l.length := by
  induction f with
  | zero => intro l acc k h; exact absurd h (by show (4 : Int) ≠ 0; decide)
  | succ f ih =>
    intro l acc k h
    match l with
    | [] => exact absurd h (by show (4 : Int) ≠ 0; decide)
    | c :: t =>
      rw [litF_step] at h ⊢
      have hbd := (escR_bd t).2
      split at h
      · exact absurd h (by show (4 : Int) ≠ 0; decide)
      rename_i h1
      rw [if_neg h1]
      split at h
      · rename_i h2; rw [if_pos h2]; simp only [List.length_cons]; omega
      rename_i h2
      rw [if_neg h2]
      split at h
      · rename_i h3
        rw [if_pos h3]
        split at h
        · rename_i h4; exact absurd h h4
        rename_i h4
        rw [if_neg h4]
        split at h
        · exact absurd h (by show (3 : Int) ≠ 0; decide)
        rename_i h5
        rw [if_neg h5]
        have := ih _ _ _ h
        rw [List.length_drop] at this
        simp only [List.length_cons]
        omega
      · rename_i h3
        rw [if_neg h3]
        split at h
        · exact absurd h (by show (3 : Int) ≠ 0; decide)
        rename_i h5
        rw [if_neg h5]
        have := ih _ _ _ h
        simp only [List.length_cons]
        omega
end Go.Proofs.YtbcbddglgfakpaaDoor
