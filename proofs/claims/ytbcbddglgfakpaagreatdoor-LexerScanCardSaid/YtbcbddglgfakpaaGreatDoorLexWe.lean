/- The reference of layer 3: literals that are read. -/
import Derived.Test.YtbcbddglgfakpaaGreatDoorLexWd
import Derived.Laws.IdiomStrings
namespace Go.Proofs.YtbcbddglgfakpaaGreatDoor
open Go.RowKit Go.Joins M1 M2 M3
set_option linter.unusedVariables false
def eV (x : UInt8) : Value := .int .u8 (x.toNat : Int)
/-- A row of bytes of the call's own. -/
def Own (base : Nat) (w : World) (v : Value) (l : List UInt8) : Prop := w.ownsRow base 5 1 v l.length (l.map eV)
theorem Own.add1 {base : Nat} {w' : World} {v : Value} {l : List UInt8} {x : UInt8} {y : Int} (h : w'.ownsRow base 5 1 v (l.length + 1) (l.map eV ++ [.int .u8 y])) (hn : y = (x.toNat : Int)) : Own base w' v (l ++ [x]) := by
  subst hn
  unfold Own
  rw [List.length_append, List.map_append]
  exact h
theorem Own.drewN {base : Nat} {w : World} {v : Value} {l : List UInt8} (h : Own base w v l) (n : Nat) : Own base (w.drewN n) v l :=
  World.ownsRow.kept h (show w.grownBy (w.drewN n) none from grow_drewN (World.grownBy.refl _ _) n) (by cases e : v.ownBlock with | none => exact .inl rfl | some j => exact .inr (by simp))
theorem own_str {base : Nat} {w : World} {v : Value} {l : List UInt8} (h : Own base w v l) : (convert 53 9 v).run Tryz.prog w = .ok (.string (bs l)) w := by
  rcases ownsRow_forms h with ⟨e, h0⟩ | ⟨g, cap, rfl⟩
  · have := List.eq_nil_of_length_eq_zero h0
    subst this e
    rw [run_convert_bytes_string (P := Tryz.prog) w 53 9 5 none 0 0 Tryz.underlying53 Tryz.underlying5 Tryz.underlying9]
    rfl
  · refine run_convert_bytes_back (P := Tryz.prog) w 53 9 5 ⟨g, 0, none⟩ cap l Tryz.underlying53 Tryz.underlying5 Tryz.underlying9 (fun j hj => ?_)
    exact World.ownsRow.cells h rfl j _ (by simp [eV, hj])
theorem belowDz {B : Nat} {a w : World} (h : Below B a w) (n : Nat) : Below B a (w.drewN n) := h.trans ⟨rfl, rfl, rfl, Nat.le_refl _, fun _ _ => rfl⟩

set_option maxHeartbeats 16000000 in
set_option maxRecDepth 100000 in
theorem rliteral_any (s : ByteArray) (a : Nat) (w : World) (hs : s.size ≤ 70000) (ha : a < s.size) (q : UInt8) (hq : s[a] = q) (hq10 : q ≠ 10) :
    Calls Tryz.prog 29 #[.string s, .int .i64 (a : Int)] w fun e w' => e = .returned (.tuple #[.string (bs (litR s.data.toList a q).1), .int .i64 ((litR s.data.toList a q).2.1 : Int), .int .i64 (litR s.data.toList a q).2.2]) ∧ Below w.heap.size w w' := by
  obtain ⟨i0, hi, hz0, hz1, hz2⟩ := info_parts bbyte
  have hll : s.data.toList.length = s.size := by simp
  have hqi : (s[a].toNat : Int) = (q.toNat : Int) := by rw [hq]
  have ha' : (a : Int) < (s.size : Int) := by omega
  have ha0 : 0 ≤ (a : Int) := by omega
  obtain ⟨R, hR⟩ : ∃ R, litR s.data.toList a q = R := ⟨_, rfl⟩
  rw [hR]
  have HR0 : Hid (R = litF q (s.size + 1) (s.data.toList.drop (a + 1)) [] (a + 1)) := Lib.hid (by rw [← hR]; unfold litR; rw [hll])
  have hw1 : IntKind.i64.wrap ((a : Int) + 1) = ((a + 1 : Nat) : Int) := by simp only [IntKind.wrap]; simp [IntKind.signed, IntKind.bits]; omega
  clear hR hq
  go_enter Tryz.func29, Tryz.ntmps29
  go_wp2
  go_loopw [7, 8] (fun v7 v8 wr => ∃ (k f : Nat) (acc : List UInt8), a + 1 ≤ k ∧ k ≤ s.size ∧ s.size - k < f ∧ acc.length ≤ 4096 ∧ v8 = .int .i64 (k : Int) ∧ Hid (Own w.heap.size wr v7 acc) ∧ Hid (Below w.heap.size w wr) ∧ Hid (R = litF q f (s.data.toList.drop k) acc k)) (fun _ v8 _ => s.size - (intOf v8).toNat)
  case atStart => exact ⟨a + 1, s.size + 1, [], Nat.le_refl _, by omega, by omega, by simp, by first | rfl | go_num, Lib.hid (World.ownsRow_nil _ _ _ _), Lib.hid (Below.refl _ _), HR0⟩
  case round =>
    obtain ⟨k, f, acc, hak, hks, hkf, hacc, rfl, HO, HB, HR⟩ := hrel
    rename World => W0
    have hzw := HB.out.size
    obtain ⟨g, hg⟩ : ∃ g, f = g + 1 := ⟨f - 1, by omega⟩
    by_cases hkl : k < s.size
    · have hkl' : (k : Int) < (s.size : Int) := by omega
      have hk0 : 0 ≤ (k : Int) := by omega
      have hdr : s.data.toList.drop k = s[k] :: s.data.toList.drop (k + 1) := by rw [List.drop_eq_getElem_cons (by omega)]; rfl
      have hcb := byte_bd3 s[k]
      have HR1 := Lib.hid (HR.out.trans (by rw [hdr, hg, litF_step]))
      obtain ⟨c, hc⟩ : ∃ c, s[k] = c := ⟨_, rfl⟩
      have hci : (s[k].toNat : Int) = (c.toNat : Int) := by rw [hc]
      rw [hc] at HR1 hcb
      clear hdr HR
      by_cases h10 : c = 10
      · have e1 : ((c.toNat : Int) != 10) = false := by rw [h10]; rfl
        have HF : Hid (R = ([], 0, 4)) := Lib.hid (by rw [HR1.out, if_pos h10])
        clear HR1 h10
        go_wp2
        (try simp only [Exit.inBlock, Exit.then]); refine bodyPost_ret (results_tmp3 rfl _ _ _) rfl ?_
        rw [HF.out]
        exact ⟨rfl, HB.out⟩
      have e1 : ((c.toNat : Int) != 10) = true := by rw [bne_iff_ne]; intro e; exact h10 (UInt8.toNat_inj.1 (by show c.toNat = 10; omega))
      by_cases hcq : c = q
      · have e2 : ((c.toNat : Int) == (q.toNat : Int)) = true := by rw [hcq]; simp
        have HF : Hid (R = (acc, k + 1, 0)) := Lib.hid (by rw [HR1.out, if_neg h10, if_pos hcq])
        have HOD := Lib.hid fun n => own_str (HO.out.drewN n)
        have HBD := Lib.hid fun n => belowDz HB.out n
        clear HR1 h10 hcq
        go_wp2
        go_quiet (fail)
        have hcv := HOD.out nq
        go_wp2
        (try simp only [Exit.inBlock, Exit.then]); refine bodyPost_ret (results_tmp3 rfl _ _ _) rfl ?_
        rw [HF.out]
        exact ⟨rfl, HBD.out _⟩
      have e2 : ((c.toNat : Int) == (q.toNat : Int)) = false := by rw [beq_eq_false_iff_ne]; intro e; exact hcq (UInt8.toNat_inj.1 (by omega))
      have HOD := Lib.hid fun n => HO.out.drewN n
      have HBD := Lib.hid fun n => belowDz HB.out n
      have hwk : IntKind.i64.wrap ((k : Int) + 1) = ((k + 1 : Nat) : Int) := by simp only [IntKind.wrap]; simp [IntKind.signed, IntKind.bits]; omega
      go_wp2
      go_quiet (fail)
      go_upto_region 6 with fail
      go_name_world V hV
      have HOV : Hid (Own w.heap.size V u7 acc) := Lib.hid (by rw [← hV]; exact HOD.out _)
      have HBV : Hid (Below w.heap.size w V) := Lib.hid (by rw [← hV]; exact HBD.out _)
      have hzV := HBV.out.size
      clear hV HO HB HOD HBD
      by_cases h92 : c = 92
      · have e3 : ((c.toNat : Int) == 92) = true := by rw [h92]; rfl
        have HR2 := Lib.hid (HR1.out.trans (by rw [if_neg h10, if_neg hcq, if_pos h92]))
        have E0 := fun (W : World) => rescape_any s k W (by omega) hkl
        unfold RescSaid at E0
        have hbd := escR_bd (s.data.toList.drop (k + 1))
        rw [List.length_drop, hll] at hbd
        rw [List.drop_drop] at HR2
        generalize escR (s.data.toList.drop (k + 1)) = r at *
        obtain ⟨r1, r2, r3⟩ := r
        simp only [] at hbd HR2
        unfold escT at E0
        simp only [] at E0
        clear HR1 h92 h10 hcq
        by_cases hE : r3 = 0
        · subst hE
          rw [if_pos rfl] at E0
          have HE := Lib.hid E0
          clear E0
          by_cases hlim : 4096 ≤ acc.length
          · have l1 : 4096 ≤ (acc.length : Int) := by omega
            have HF : Hid (R = ([], 0, 3)) := Lib.hid (by rw [HR2.out, if_neg (by simp), if_pos hlim])
            have hlen : Hid (∃ p cap, u7 = .slice p acc.length cap) := Lib.hid (by
              rcases ownsRow_forms HOV.out with ⟨e, h0⟩ | ⟨g, cap, e⟩
              · exact ⟨none, 0, by rw [e, h0]⟩
              · exact ⟨_, _, e⟩)
            obtain ⟨p, cap, hv⟩ := hlen.out
            subst hv
            clear HR2 HOV
            go_wp2_with (go_at_call 45; (with_reducible refine (HE.out _).mono ?_); rintro e w5 ⟨rfl, nn, rfl⟩)
            (try simp only [Exit.inBlock, Exit.then]); refine bodyPost_ret (results_tmp3 rfl _ _ _) rfl ?_
            rw [HF.out]
            exact ⟨rfl, belowDz HBV.out _⟩
          · have l1 : ¬ 4096 ≤ (acc.length : Int) := by omega
            have HR5 : Hid (R = litF q g (s.data.toList.drop (k + 1 + r2)) (acc ++ [UInt8.ofNat r1]) (k + 1 + r2)) := Lib.hid (by rw [HR2.out, if_neg (by simp), if_neg hlim])
            obtain ⟨x, hx⟩ : ∃ x, UInt8.ofNat r1 = x := ⟨_, rfl⟩
            have hx1 : (r1 : Int) = (x.toNat : Int) := by rw [← hx]; simp; omega
            rw [hx] at HR5
            rw [hx1] at HE
            obtain ⟨nk, hnk⟩ : ∃ nk, k + 1 + r2 = nk := ⟨_, rfl⟩
            rw [hnk] at HR5 HE
            have HOVD := Lib.hid fun n => (show V.grownBy (V.drewN n) none from grow_drewN (World.grownBy.refl _ _) n)
            clear HR2 hx hx1
            go_upto_region 11 with (go_at_call 45; (with_reducible refine (HE.out _).mono ?_); rintro e w5 ⟨rfl, nn, rfl⟩)
            go_name_world V2 hV2
            have HOV2 : Hid (Own w.heap.size V2 u7 acc) := Lib.hid (by rw [← hV2]; exact HOV.out.drewN _)
            have HBV2 : Hid (Below w.heap.size w V2) := Lib.hid (by rw [← hV2]; exact belowDz HBV.out _)
            have hzV2 := HBV2.out.size
            clear hV2 HOV HBV HOVD HE
            have hOW : V2.ownsRow w.heap.size 5 1 u7 acc.length (acc.map eV) := HOV2.out
            have HOW := Lib.hid hOW
            clear hOW
            have hlen : Hid (∃ p cap, u7 = .slice p acc.length cap) := Lib.hid (by
              rcases ownsRow_forms HOW.out with ⟨e, h0⟩ | ⟨g, cap, e⟩
              · exact ⟨none, 0, by rw [e, h0]⟩
              · exact ⟨_, _, e⟩)
            obtain ⟨p, cap, hv⟩ := hlen.out
            subst hv
            clear hlen
            go_wp2_with (at_builtin; refine wpList_append_own _ rfl _ _ 53 rfl w.heap.size 5 i0 (.int .u8 0) 1 1 Tryz.underlying53 hi hz0 hz1 hz2 rfl (by decide) _ _ _ rfl (HOW.out.alloc _) ⟨_, 0, none⟩ 1 1 [.int .u8 ((x).toNat : Int)] rfl rfl (by intro j u' hj; match j, hj with | 0, hj => (simp at hj; subst hj; simp [Addr.add])) (by intro u' hu'; simp at hu'; subst hu'; rfl) (by unfold maxLen; omega) (by omega) (by simp; omega) ?_)
            intro v1 W2 hown1 hgrow _
            have HO2 : Hid (Own w.heap.size W2 v1 (acc ++ [x])) := Lib.hid (Own.add1 hown1 rfl)
            have HB2 : Hid (Below w.heap.size w W2) := Lib.hid (Below.grown (HBV2.out.alloc (by omega) _) hgrow (by simp; omega) (fun i e => (World.ownsRow.lt HOW.out i e).1))
            clear hown1 hgrow
            go_wp2
            go_roundw
            case rel => exact ⟨nk, g, acc ++ [x], by omega, by omega, by omega, by simp; omega, by first | rfl | go_num, HO2, HB2, HR5⟩
            case measure => simp [intOf]; omega
        · have hE' : (r3 != 0) = true := by rw [bne_iff_ne]; exact hE
          rw [if_neg hE] at E0
          have HF : Hid (R = ([], 0, r3)) := Lib.hid (by rw [HR2.out, if_pos hE])
          have HE := Lib.hid E0
          clear E0 HR2
          go_wp2_with (go_at_call 45; (with_reducible refine (HE.out _).mono ?_); rintro e w5 ⟨rfl, nn, rfl⟩)
          (try simp only [Exit.inBlock, Exit.then]); refine bodyPost_ret (results_tmp3 rfl _ _ _) rfl ?_
          rw [HF.out]
          exact ⟨rfl, belowDz HBV.out _⟩
      · have e3 : ((c.toNat : Int) == 92) = false := by rw [beq_eq_false_iff_ne]; intro e; exact h92 (UInt8.toNat_inj.1 (by show c.toNat = 92; omega))
        have HR2 := Lib.hid (HR1.out.trans (by rw [if_neg h10, if_neg hcq, if_neg h92]))
        clear HR1 h92 h10 hcq
        by_cases hlim : 4096 ≤ acc.length
        · have l1 : 4096 ≤ (acc.length : Int) := by omega
          have HF : Hid (R = ([], 0, 3)) := Lib.hid (by rw [HR2.out, if_pos hlim])
          obtain ⟨p, cap, hv⟩ : ∃ p cap, u7 = .slice p acc.length cap := by
            rcases ownsRow_forms HOV.out with ⟨e, h0⟩ | ⟨g, cap, e⟩
            · exact ⟨none, 0, by rw [e, h0]⟩
            · exact ⟨_, _, e⟩
          subst hv
          clear HR2 HOV
          go_wp2
          (try simp only [Exit.inBlock, Exit.then]); refine bodyPost_ret (results_tmp3 rfl _ _ _) rfl ?_
          rw [HF.out]
          exact ⟨rfl, HBV.out⟩
        · have l1 : ¬ 4096 ≤ (acc.length : Int) := by omega
          have HR5 : Hid (R = litF q g (s.data.toList.drop (k + 1)) (acc ++ [c]) (k + 1)) := Lib.hid (by rw [HR2.out, if_neg hlim])
          clear HR2
          go_upto_region 11 with fail
          go_name_world V2 hV2
          have HOV2 : Hid (Own w.heap.size V2 u7 acc) := Lib.hid (by rw [← hV2]; exact HOV.out)
          have HBV2 : Hid (Below w.heap.size w V2) := Lib.hid (by rw [← hV2]; exact HBV.out)
          have hzV2 := HBV2.out.size
          clear hV2 HOV HBV
          have hOW : V2.ownsRow w.heap.size 5 1 u7 acc.length (acc.map eV) := HOV2.out
          have HOW := Lib.hid hOW
          clear hOW
          have hlen : Hid (∃ p cap, u7 = .slice p acc.length cap) := Lib.hid (by
            rcases ownsRow_forms HOW.out with ⟨e, h0⟩ | ⟨g, cap, e⟩
            · exact ⟨none, 0, by rw [e, h0]⟩
            · exact ⟨_, _, e⟩)
          obtain ⟨p, cap, hv⟩ := hlen.out
          subst hv
          clear hlen
          go_wp2_with (at_builtin; refine wpList_append_own _ rfl _ _ 53 rfl w.heap.size 5 i0 (.int .u8 0) 1 1 Tryz.underlying53 hi hz0 hz1 hz2 rfl (by decide) _ _ _ rfl (HOW.out.alloc _) ⟨_, 0, none⟩ 1 1 [.int .u8 ((c).toNat : Int)] rfl rfl (by intro j u' hj; match j, hj with | 0, hj => (simp at hj; subst hj; simp [Addr.add])) (by intro u' hu'; simp at hu'; subst hu'; rfl) (by unfold maxLen; omega) (by omega) (by simp; omega) ?_)
          intro v1 W2 hown1 hgrow _
          have HO2 : Hid (Own w.heap.size W2 v1 (acc ++ [c])) := Lib.hid (Own.add1 hown1 rfl)
          have HB2 : Hid (Below w.heap.size w W2) := Lib.hid (Below.grown (HBV2.out.alloc (by omega) _) hgrow (by simp; omega) (fun i e => (World.ownsRow.lt HOW.out i e).1))
          clear hown1 hgrow
          go_wp2
          go_roundw
          case rel => exact ⟨k + 1, g, acc ++ [c], by omega, by omega, by omega, by simp; omega, by first | rfl | go_num, HO2, HB2, HR5⟩
          case measure => simp [intOf]; omega
    · have hkl' : ¬ (k : Int) < (s.size : Int) := by omega
      have HF : Hid (R = ([], 0, 4)) := Lib.hid (by rw [HR.out, List.drop_eq_nil_of_le (by omega), hg]; rfl)
      clear HR
      go_wp2
      (try simp only [Exit.inBlock, Exit.then]); refine bodyPost_ret (results_tmp3 rfl _ _ _) rfl ?_
      rw [HF.out]
      exact ⟨rfl, HB.out⟩
end Go.Proofs.YtbcbddglgfakpaaGreatDoor
