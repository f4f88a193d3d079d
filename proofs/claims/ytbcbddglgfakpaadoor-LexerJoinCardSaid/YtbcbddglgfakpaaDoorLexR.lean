/- Contracts of layer 3: the reference's text of tokens. -/
import Derived.Test.YtbcbddglgfakpaaDoorLexQ
import Derived.Laws.BytesArg
namespace Go.Proofs.YtbcbddglgfakpaaDoor
open Go.RowKit Go.Joins M1 M2 M3
set_option linter.unusedVariables false
theorem own_any_str {base : Nat} {w : World} {v : Value} {l : List UInt8} (h : Own base w v l) : (convert 42 9 v).run Tryd.prog w = .ok (.string (bs l)) w := by
  rcases ownsRow_forms h with ⟨e, h0⟩ | ⟨g, cap, e⟩
  · have hl : l = [] := List.length_eq_zero_iff.1 h0
    subst e hl
    exact run_convert_bytes_nil (P := Tryd.prog) w 42 5 Tryd.underlying42 Tryd.underlying5 0 0 9 Tryd.underlying9
  · subst e
    exact own_str h rfl
theorem Own.addS {base : Nat} {w' : World} {v : Value} {l : List UInt8} {y : ByteArray} (h : w'.ownsRow base 5 1 v (l.length + y.size) (l.map eV ++ Lib.strCells y)) : Own base w' v (l ++ y.data.toList) :=
  Own.add h (by simp) rfl

set_option maxHeartbeats 8000000 in
set_option maxRecDepth 100000 in
theorem rjoin_any (p : Option Addr) (g o cap : Nat) (ts : List TI) (w : World) (hp : 0 < ts.length → p = some ⟨g, o, none⟩) (hA : ArgT w g o ts) (hg' : 0 < ts.length → g < w.heap.size) (hn : ts.length ≤ 3000) (hx : ∀ t ∈ ts, t.x.size ≤ 5000) :
    Calls Tryd.prog 20 #[.slice p ts.length cap] w fun e w' => e = .returned (.string (bs (joinL ts))) ∧ Below w.heap.size w w' := by
  obtain ⟨i0, hi, hz0, hz1, hz2⟩ := info_parts bbyte
  go_enter Tryd.func20, Tryd.ntmps20
  go_wp2
  go_loopw [3, 4] (fun v3 v4 wr => ∃ k : Nat, k ≤ ts.length ∧ v4 = .int .i64 (k : Int) ∧ Hid ((joinL (ts.take k)).length ≤ k * 20010) ∧ Hid (Own w.heap.size wr v3 (joinL (ts.take k))) ∧ Hid (Below w.heap.size w wr)) (fun _ v4 _ => ts.length - (intOf v4).toNat)
  case atStart => exact ⟨0, Nat.zero_le _, rfl, Lib.hid (by simp [joinL]), Lib.hid (World.ownsRow_nil _ _ _ _), Lib.hid (Below.refl _ _)⟩
  case round =>
    obtain ⟨k, hk, rfl, HLn, HO, HB⟩ := hrel
    rename World => W0
    have hz0' := HB.out.size
    obtain ⟨L, hL⟩ : ∃ L, joinL (ts.take k) = L := ⟨_, rfl⟩
    have HL := Lib.hid hL
    have hln := HLn.out
    rw [hL] at HO hln
    clear hL HLn
    by_cases hlt : k < ts.length
    · have hlt' : (k : Int) < (ts.length : Int) := by omega
      have hpp := hp (by omega)
      have hg := hg' (by omega)
      subst hpp
      obtain ⟨t, ht⟩ : ∃ t, ts[k] = t := ⟨_, rfl⟩
      have hxk := hx _ (List.getElem_mem hlt)
      rw [ht] at hxk
      have hown := HO.out
      unfold Own at hown
      have HOW := Lib.hid hown
      clear hown
      by_cases hk00 : k = 0
      · by_cases hq : t.k = 4
        · have hk0' : ¬ 0 < (k : Int) := by omega
          have hq4 : (t.k == 4) = true := by rw [beq_iff_eq]; exact hq
          have HO1 : Hid (one t = qt t.x.data.toList) := Lib.hid (if_pos hq)
          have HJ : Hid (joinL (ts.take (k + 1)) = L ++ one t) := Lib.hid (by
            have hk00 : k = 0 := by omega
            rw [← HL.out]; subst hk00; rw [← ht]; exact join_first hlt)
          clear hq hk00
          have hA3 := hA.kept HB.out hg k hlt
          rw [ht] at hA3
          obtain ⟨a0, a1, a2, a3⟩ := hA3
          go_wp2_with fail
          refine (rquote_any t.x W0 (by omega)).mono ?_
          rintro e w3 ⟨rfl, hb3⟩
          have HO4 : Hid (Own w.heap.size w3 _ L) := Lib.hid (Own.kept HO.out hb3)
          have HB4 : Hid (Below w.heap.size w w3) := Lib.hid (HB.out.trans (hb3.mono (by omega)))
          have hz4 := HB4.out.size
          clear hb3
          have hys : (bs (qt t.x.data.toList)).size ≤ 20002 := by rw [bs_size]; have := one_len t; rw [HO1.out] at this; omega
          have hown := HO4.out
          unfold Own at hown
          have HOX := Lib.hid hown
          clear hown
          have hcl : L.length ≤ 70000000 := by omega
          go_wp2_with (at_builtin; refine Lib.wpList_append_own_string _ rfl _ _ 42 9 rfl w.heap.size 5 i0 Tryd.underlying42 Tryd.underlying9 hi hz0 hz1 hz2 _ _ _ rfl HOX.out (bs (qt t.x.data.toList)) rfl (by unfold maxLen; omega) (by omega) (by omega) ?_)
          intro v5 W5 hown5 hgrow5 _
          have HO6 : Hid (Own w.heap.size W5 v5 (joinL (ts.take (k + 1)))) := Lib.hid (by
            rw [HJ.out, HO1.out]
            have h := Own.addS hown5
            rw [bs_list] at h
            exact h)
          have HB6 : Hid (Below w.heap.size w W5) := Lib.hid (Below.grown HB4.out hgrow5 (by omega) (fun i e => (World.ownsRow.lt HOX.out i e).1))
          clear hown5 hgrow5 a0 a1 a2 a3
          go_wp2
          go_roundw
          case rel =>
            refine ⟨k + 1, by omega, by go_num, Lib.hid ?_, HO6, HB6⟩
            have := one_len t
            skip
            rw [HJ.out]; rw [List.length_append]; omega
          case measure => simp [intOf]; omega
        · have hk0' : ¬ 0 < (k : Int) := by omega
          have hq4 : (t.k == 4) = false := by rw [beq_eq_false_iff_ne]; exact hq
          have HO1 : Hid (one t = t.x.data.toList) := Lib.hid (if_neg hq)
          have HJ : Hid (joinL (ts.take (k + 1)) = L ++ one t) := Lib.hid (by
            have hk00 : k = 0 := by omega
            rw [← HL.out]; subst hk00; rw [← ht]; exact join_first hlt)
          clear hq hk00
          have hA3 := hA.kept HB.out hg k hlt
          rw [ht] at hA3
          obtain ⟨a0, a1, a2, a3⟩ := hA3
          have hown := HO.out
          unfold Own at hown
          have HOX := Lib.hid hown
          clear hown
          have hcl : L.length ≤ 70000000 := by omega
          go_wp2_with (at_builtin; refine Lib.wpList_append_own_string _ rfl _ _ 42 9 rfl w.heap.size 5 i0 Tryd.underlying42 Tryd.underlying9 hi hz0 hz1 hz2 _ _ _ rfl HOX.out t.x rfl (by unfold maxLen; omega) (by omega) (by omega) ?_)
          intro v5 W5 hown5 hgrow5 _
          have HO6 : Hid (Own w.heap.size W5 v5 (joinL (ts.take (k + 1)))) := Lib.hid (by
            rw [HJ.out, HO1.out]
            have h := Own.addS hown5
            skip
            exact h)
          have HB6 : Hid (Below w.heap.size w W5) := Lib.hid (Below.grown HB.out hgrow5 (by omega) (fun i e => (World.ownsRow.lt HOX.out i e).1))
          clear hown5 hgrow5 a0 a1 a2 a3
          go_wp2
          go_roundw
          case rel =>
            refine ⟨k + 1, by omega, by go_num, Lib.hid ?_, HO6, HB6⟩
            have := one_len t
            skip
            rw [HJ.out]; rw [List.length_append]; omega
          case measure => simp [intOf]; omega
      · by_cases hq : t.k = 4
        · have hk0' : 0 < (k : Int) := by omega
          have hq4 : (t.k == 4) = true := by rw [beq_iff_eq]; exact hq
          have HO1 : Hid (one t = qt t.x.data.toList) := Lib.hid (if_pos hq)
          have HJ : Hid (joinL (ts.take (k + 1)) = (L ++ [32]) ++ one t) := Lib.hid (by rw [← HL.out, ← ht]; exact join_step hlt (by omega))
          clear hq hk00
          go_wp2_with (at_builtin; refine wpList_append_own _ rfl _ _ 42 rfl w.heap.size 5 i0 (.int .u8 0) 1 1 Tryd.underlying42 hi hz0 hz1 hz2 rfl (by decide) _ _ _ rfl (HOW.out.alloc _) ⟨W0.heap.size, 0, none⟩ 1 1 [.int .u8 32] rfl rfl (by intro j u' hj; match j, hj with | 0, hj => (simp at hj; subst hj; simp [Addr.add])) (by intro u' hu'; simp at hu'; subst hu'; rfl) (by unfold maxLen; omega) (by omega) (by simp; omega) ?_)
          intro v1 W2 hown1 hgrow _
          have HO3 : Hid (Own w.heap.size W2 v1 (L ++ [32])) := Lib.hid (Own.add hown1 rfl rfl)
          have HB3 : Hid (Below w.heap.size w W2) := Lib.hid (Below.grown (HB.out.alloc (by omega) _) hgrow (by simp; omega) (fun i e => (World.ownsRow.lt HOW.out i e).1))
          have hz3 := HB3.out.size
          have hA3 := hA.kept HB3.out hg k hlt
          rw [ht] at hA3
          obtain ⟨a0, a1, a2, a3⟩ := hA3
          clear hown1 hgrow
          obtain ⟨L2, hL2⟩ : ∃ L2, L ++ [32] = L2 := ⟨_, rfl⟩
          have HL2 : Hid (L2.length = L.length + 1) := Lib.hid (by rw [← hL2]; simp)
          rw [hL2] at HJ HO3
          clear hL2
          go_wp2_with fail
          refine (rquote_any t.x W2 (by omega)).mono ?_
          rintro e w3 ⟨rfl, hb3⟩
          have HO4 : Hid (Own w.heap.size w3 _ L2) := Lib.hid (Own.kept HO3.out hb3)
          have HB4 : Hid (Below w.heap.size w w3) := Lib.hid (HB3.out.trans (hb3.mono (by omega)))
          have hz4 := HB4.out.size
          clear hb3
          have hys : (bs (qt t.x.data.toList)).size ≤ 20002 := by rw [bs_size]; have := one_len t; rw [HO1.out] at this; omega
          have hown := HO4.out
          unfold Own at hown
          have HOX := Lib.hid hown
          clear hown
          have hcl : L2.length ≤ 70000000 := by have := HL2.out; omega
          go_wp2_with (at_builtin; refine Lib.wpList_append_own_string _ rfl _ _ 42 9 rfl w.heap.size 5 i0 Tryd.underlying42 Tryd.underlying9 hi hz0 hz1 hz2 _ _ _ rfl HOX.out (bs (qt t.x.data.toList)) rfl (by unfold maxLen; omega) (by omega) (by omega) ?_)
          intro v5 W5 hown5 hgrow5 _
          have HO6 : Hid (Own w.heap.size W5 v5 (joinL (ts.take (k + 1)))) := Lib.hid (by
            rw [HJ.out, HO1.out]
            have h := Own.addS hown5
            rw [bs_list] at h
            exact h)
          have HB6 : Hid (Below w.heap.size w W5) := Lib.hid (Below.grown HB4.out hgrow5 (by omega) (fun i e => (World.ownsRow.lt HOX.out i e).1))
          clear hown5 hgrow5 a0 a1 a2 a3
          go_wp2
          go_roundw
          case rel =>
            refine ⟨k + 1, by omega, by go_num, Lib.hid ?_, HO6, HB6⟩
            have := one_len t
            have := HL2.out
            rw [HJ.out]; rw [List.length_append]; omega
          case measure => simp [intOf]; omega
        · have hk0' : 0 < (k : Int) := by omega
          have hq4 : (t.k == 4) = false := by rw [beq_eq_false_iff_ne]; exact hq
          have HO1 : Hid (one t = t.x.data.toList) := Lib.hid (if_neg hq)
          have HJ : Hid (joinL (ts.take (k + 1)) = (L ++ [32]) ++ one t) := Lib.hid (by rw [← HL.out, ← ht]; exact join_step hlt (by omega))
          clear hq hk00
          go_wp2_with (at_builtin; refine wpList_append_own _ rfl _ _ 42 rfl w.heap.size 5 i0 (.int .u8 0) 1 1 Tryd.underlying42 hi hz0 hz1 hz2 rfl (by decide) _ _ _ rfl (HOW.out.alloc _) ⟨W0.heap.size, 0, none⟩ 1 1 [.int .u8 32] rfl rfl (by intro j u' hj; match j, hj with | 0, hj => (simp at hj; subst hj; simp [Addr.add])) (by intro u' hu'; simp at hu'; subst hu'; rfl) (by unfold maxLen; omega) (by omega) (by simp; omega) ?_)
          intro v1 W2 hown1 hgrow _
          have HO3 : Hid (Own w.heap.size W2 v1 (L ++ [32])) := Lib.hid (Own.add hown1 rfl rfl)
          have HB3 : Hid (Below w.heap.size w W2) := Lib.hid (Below.grown (HB.out.alloc (by omega) _) hgrow (by simp; omega) (fun i e => (World.ownsRow.lt HOW.out i e).1))
          have hz3 := HB3.out.size
          have hA3 := hA.kept HB3.out hg k hlt
          rw [ht] at hA3
          obtain ⟨a0, a1, a2, a3⟩ := hA3
          clear hown1 hgrow
          obtain ⟨L2, hL2⟩ : ∃ L2, L ++ [32] = L2 := ⟨_, rfl⟩
          have HL2 : Hid (L2.length = L.length + 1) := Lib.hid (by rw [← hL2]; simp)
          rw [hL2] at HJ HO3
          clear hL2
          have hown := HO3.out
          unfold Own at hown
          have HOX := Lib.hid hown
          clear hown
          have hcl : L2.length ≤ 70000000 := by have := HL2.out; omega
          go_wp2_with (at_builtin; refine Lib.wpList_append_own_string _ rfl _ _ 42 9 rfl w.heap.size 5 i0 Tryd.underlying42 Tryd.underlying9 hi hz0 hz1 hz2 _ _ _ rfl HOX.out t.x rfl (by unfold maxLen; omega) (by omega) (by omega) ?_)
          intro v5 W5 hown5 hgrow5 _
          have HO6 : Hid (Own w.heap.size W5 v5 (joinL (ts.take (k + 1)))) := Lib.hid (by
            rw [HJ.out, HO1.out]
            have h := Own.addS hown5
            skip
            exact h)
          have HB6 : Hid (Below w.heap.size w W5) := Lib.hid (Below.grown HB3.out hgrow5 (by omega) (fun i e => (World.ownsRow.lt HOX.out i e).1))
          clear hown5 hgrow5 a0 a1 a2 a3
          go_wp2
          go_roundw
          case rel =>
            refine ⟨k + 1, by omega, by go_num, Lib.hid ?_, HO6, HB6⟩
            have := one_len t
            have := HL2.out
            rw [HJ.out]; rw [List.length_append]; omega
          case measure => simp [intOf]; omega
    · have hk2 : k = ts.length := by omega
      have hlt' : ¬ (k : Int) < (ts.length : Int) := by omega
      have hcv := own_any_str HO.out
      have HQ : Hid (L = joinL ts) := Lib.hid (by rw [← HL.out, hk2, List.take_length])
      clear hk2
      go_wp2
      go_ret
      exact ⟨by rw [← HQ.out]; rfl, HB.out⟩
end Go.Proofs.YtbcbddglgfakpaaDoor
