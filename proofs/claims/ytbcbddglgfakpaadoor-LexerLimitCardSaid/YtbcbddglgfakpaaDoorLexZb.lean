/- Contracts of layer 3: literals that are read. -/
import Derived.Test.YtbcbddglgfakpaaDoorLexZ
import Derived.Test.YtbcbddglgfakpaaDoorLexO
namespace Go.Proofs.YtbcbddglgfakpaaDoor
open Go.RowKit Go.Joins M3
set_option linter.unusedVariables false
theorem dn_le (l : List UInt8) : dn l ≤ l.length := by
  unfold dn; have := cntP_le dgt (l.take 3); rw [List.length_take] at this; omega
theorem pH_le {c d : UInt8} {u : Nat} (h : pH 0 [c, d] = some u) : u ≤ 255 := by
  unfold pH at h
  cases h3 : hxv c with
  | none => rw [h3] at h; cases h
  | some e =>
    rw [h3] at h
    simp only [] at h
    unfold pH at h
    cases h4 : hxv d with
    | none => rw [h4] at h; cases h
    | some g =>
      rw [h4] at h
      simp only [pH] at h
      injection h with h
      have := hxv_lt h3
      have := hxv_lt h4
      omega
theorem hexR_le {l : List UInt8} {u : Nat} (h : hexR l = some u) : u ≤ 255 ∧ 2 ≤ l.length := by
  unfold hexR at h
  split at h
  · cases h
  · match l, h with
    | c :: d :: t, h => exact ⟨pH_le h, by simp⟩
    | [c], _ => simp at *
    | [], _ => simp at *
/-- The byte is a byte, and what is read is there. -/
theorem escR_bd (l : List UInt8) : (escR l).1 ≤ 255 ∧ (escR l).2.1 ≤ l.length := by
  match l with
  | [] => exact ⟨by decide, Nat.le_refl _⟩
  | c :: t =>
    unfold escR
    simp only []
    have h1 := dn_le (c :: t)
    split
    · split
      · rename_i h; exact ⟨h, h1⟩
      · exact ⟨by show 0 ≤ 255; omega, h1⟩
    · repeat' split
      all_goals first
        | exact ⟨by decide, by simp⟩
        | (rename_i h; obtain ⟨u, hu⟩ := Option.isSome_iff_exists.1 h; have := hexR_le hu; rw [hu]; simp only [Option.getD_some, List.length_cons]; omega)
/-- A literal: the bytes behind its quote from the place k on, with the text so far. -/
def litF (q : UInt8) : Nat → List UInt8 → List UInt8 → Nat → List UInt8 × Nat × Int
  | 0, _, _, _ => ([], 0, 4)
  | _ + 1, [], _, _ => ([], 0, 4)
  | f + 1, c :: t, acc, k =>
    if c = 10 then ([], 0, 4)
    else if c = q then (acc, k + 1, 0)
    else if c = 92 then
      if (escR t).2.2 ≠ 0 then ([], 0, (escR t).2.2)
      else if 4096 ≤ acc.length then ([], 0, 3)
      else litF q f (t.drop (escR t).2.1) (acc ++ [UInt8.ofNat (escR t).1]) (k + 1 + (escR t).2.1)
    else if 4096 ≤ acc.length then ([], 0, 3)
    else litF q f t (acc ++ [c]) (k + 1)
theorem litF_step (q : UInt8) (f : Nat) (c : UInt8) (t acc : List UInt8) (k : Nat) : litF q (f + 1) (c :: t) acc k = if c = 10 then ([], 0, 4) else if c = q then (acc, k + 1, 0) else if c = 92 then if (escR t).2.2 ≠ 0 then ([], 0, (escR t).2.2) else if 4096 ≤ acc.length then ([], 0, 3) else litF q f (t.drop (escR t).2.1) (acc ++ [UInt8.ofNat (escR t).1]) (k + 1 + (escR t).2.1) else if 4096 ≤ acc.length then ([], 0, 3) else litF q f t (acc ++ [c]) (k + 1) := rfl
theorem litF_fuel (q : UInt8) (f : Nat) : ∀ (g : Nat) (l acc : List UInt8) (k : Nat), l.length < f → l.length < g → litF q f l acc k = litF q g l acc k := by
  induction f with
  | zero => intro g l acc k h; omega
  | succ f ih =>
    intro g l acc k hf hg
    obtain ⟨g, rfl⟩ : ∃ g', g = g' + 1 := ⟨g - 1, by omega⟩
    match l with
    | [] => rfl
    | c :: t =>
      rw [List.length_cons] at hf hg
      rw [litF_step, litF_step, ih g (t.drop (escR t).2.1) _ _ (by rw [List.length_drop]; omega) (by rw [List.length_drop]; omega), ih g t _ _ (by omega) (by omega)]
def lqL (q : UInt8) : List UInt8 := [q, 92, 10]
theorem nah_lq {q c : UInt8} : nah (lqL q) c = true ↔ c ≠ q ∧ c ≠ 92 ∧ c ≠ 10 := by
  unfold nah has lqL
  simp only [Bool.not_eq_true', List.contains_cons, List.contains_nil, Bool.or_false, Bool.or_eq_false_iff, beq_eq_false_iff_ne]
/-- A run of plain bytes. -/
theorem litF_run (q : UInt8) (n : Nat) : ∀ (f : Nat) (l acc : List UInt8) (k : Nat), l.length < f → cntP (nah (lqL q)) l = n → acc.length ≤ 4096 →
    litF q f l acc k = if acc.length + n ≤ 4096 then litF q (f - n) (l.drop n) (acc ++ l.take n) (k + n) else ([], 0, 3) := by
  induction n with
  | zero => intro f l acc k hf hn ha; rw [if_pos (by omega)]; simp
  | succ n ih =>
    intro f l acc k hf hn ha
    match l with
    | [] => cases hn
    | c :: t =>
      rw [List.length_cons] at hf
      obtain ⟨f, rfl⟩ : ∃ f', f = f' + 1 := ⟨f - 1, by omega⟩
      cases hP : nah (lqL q) c with
      | false => rw [cntP_no hP] at hn; cases hn
      | true =>
        obtain ⟨h1, h2, h3⟩ := nah_lq.1 hP
        rw [cntP_yes hP] at hn
        rw [litF_step, if_neg h3, if_neg h1, if_neg h2]
        by_cases h4 : 4096 ≤ acc.length
        · rw [if_pos h4, if_neg (by omega)]
        · rw [if_neg h4, ih f t _ _ (by omega) (by omega) (by simp; omega), List.length_append, List.length_singleton, show f + 1 - (n + 1) = f - n by omega, show acc.length + 1 + n = acc.length + (n + 1) by omega, show k + 1 + n = k + (n + 1) by omega, List.append_assoc]
          rfl
def litR (l : List UInt8) (a : Nat) (q : UInt8) : List UInt8 × Nat × Int := litF q (l.length + 1) (l.drop (a + 1)) [] (a + 1)
theorem cntP_stop {P : UInt8 → Bool} {l : List UInt8} (h : cntP P l < l.length) : P (l.getD (cntP P l) 0) = false := by
  induction l with
  | nil => simp at h
  | cons c t ih =>
    cases hP : P c with
    | true =>
      have e := cntP_yes (cs := t) hP
      have h2 : cntP P t < t.length := by rw [e, List.length_cons] at h; omega
      rw [e, List.getD_cons_succ]
      exact ih h2
    | false =>
      rw [cntP_no hP, List.getD_cons_zero]
      exact hP
theorem Bl.kept {B b : Nat} {l : List UInt8} {w w' : World} {r : Option Nat} (h : Bl B b l w) (hg : w.grownBy w' r) (hr : ∀ j, r = some j → j < B) : Bl B b l w' := by
  have key : ∀ p, Lib.BuilderAt 44 5 B b p (Lib.byteCells l) w → Lib.BuilderAt 44 5 B b p (Lib.byteCells l) w' := by
    rintro p ⟨h1, v, h2, h3, h4⟩
    refine ⟨h1, v, (hg.block b (Array.getElem?_eq_some_iff.1 h2).1 (fun e => by have := hr b e.symm; omega)).trans h2, World.ownsRow.kept h3 hg ?_, h4⟩
    cases e : v.ownBlock with
    | none => exact .inl rfl
    | some j => right; intro e2; have := (World.ownsRow.lt h3 j e).1; have := hr j e2.symm; omega
  rcases h with h | h
  · exact .inl (key _ h)
  · exact .inr (key _ h)
theorem Sc.low {b : Nat} {s : ByteArray} {k ln n : Nat} {w w' : World} (h : Sc b s k ln w) (hb : Below n w w') (hn : b < n) : Sc b s k ln w' := by
  unfold Sc at *; rw [hb.block b hn]; exact h
theorem grow_low {w w' w'' : World} {r : Option Nat} (h : w.grownBy w' r) (hb : Below w.heap.size w' w'') : w.grownBy w'' r :=
  ⟨hb.os.trans h.os, hb.tape.trans h.tape, hb.output.trans h.output, Nat.le_trans h.size hb.size, fun k hk hne => (hb.block k hk).trans (h.block k hk hne)⟩

set_option maxHeartbeats 8000000 in
set_option maxRecDepth 100000 in
theorem literal_any (b : Nat) (s : ByteArray) (a ln : Nat) (w : World) (hs : s.size ≤ 70000) (ha : a < s.size) (hq : s[a] = 34 ∨ s[a] = 39) (hSc : Sc b s a ln w) (hE : Vrs w) :
    Calls Tryd.prog 50 #[.pointer (some ⟨b, 0, none⟩)] w fun e w' => e = .returned (.tuple #[.string (bs (litR s.data.toList a s[a]).1), .int .i64 (litR s.data.toList a s[a]).2.2]) ∧ (∃ p, ((litR s.data.toList a s[a]).2.2 = 0 → p = (litR s.data.toList a s[a]).2.1) ∧ Sc b s p ln w') ∧ w.grownBy w' (some b) := by
  have hll : s.data.toList.length = s.size := by simp
  have k0 := hSc.c0
  have k1 := hSc.c1
  have f1 := hSc.fz 1
  have hlt : (a : Int) < (s.size : Int) := by omega
  have ha0 : 0 ≤ (a : Int) := by omega
  have hcb := byte_bd3 s[a]
  obtain ⟨q, hqq⟩ : ∃ q, s[a] = q := ⟨_, rfl⟩
  rw [hqq] at hq hcb ⊢
  have hqi : (s[a].toNat : Int) = (q.toNat : Int) := by rw [hqq]
  obtain ⟨R, hR⟩ : ∃ R, litR s.data.toList a q = R := ⟨_, rfl⟩
  rw [hR]
  have HR0 : Hid (R = litF q (s.size + 1) (s.data.toList.drop (a + 1)) [] (a + 1)) := Lib.hid (by rw [← hR]; unfold litR; rw [hll])
  clear hR
  have HQ := Lib.hid hq
  clear hq
  have hw : IntKind.i64.wrap ((a : Int) + 1) = ((a + 1 : Nat) : Int) := by simp only [IntKind.wrap]; simp [IntKind.signed, IntKind.bits]; omega
  go_enter Tryd.func50, Tryd.ntmps50
  go_wp2
  go_quiet (fail)
  go_upto_region 3 with fail
  go_name_world V hV
  have hsv : Sc b s (a + 1) ln V := by rw [← hV]; exact (hSc.drewN _).set1 (a + 1) _ (by first | rfl | (congr 1; omega))
  have hgv : w.grownBy V (some b) := by rw [← hV]; exact grow_set (grow_drewN (World.grownBy.refl _ _) _) _ _
  clear hV k0 k1 f1 hw
  have N1 : Calls Tryd.prog 47 #[.slice (some ⟨V.heap.size, 0, none⟩) 3 3] (V.alloc (.cells #[.int .u8 (q.toNat : Int), .int .u8 92, .int .u8 10] 5)) _ := noneOf_any V.heap.size (lqL q) (V.alloc (.cells #[.int .u8 (q.toNat : Int), .int .u8 92, .int .u8 10] 5)) (by simp) (fun j hj => by
    have hj1 : j < 3 := hj
    match j, hj1 with
    | 0, _ => simp [lqL]
    | 1, _ => simp [lqL]
    | 2, _ => simp [lqL])
  have hB3 : Below V.heap.size V (V.alloc (.cells #[.int .u8 (q.toNat : Int), .int .u8 92, .int .u8 10] 5)) := (Below.refl _ _).alloc (Nat.le_refl _) _
  generalize (V.alloc (.cells #[.int .u8 (q.toNat : Int), .int .u8 92, .int .u8 10] 5)).heap.size + 1 = L at *
  have HN := Lib.hid N1
  have HB3 := Lib.hid hB3
  clear N1 hB3
  go_upto_region 4 with (go_at_call 47; (with_reducible refine (HN.out).mono ?_); rintro e W2 ⟨rfl, hN, hb4⟩)
  have hbl := hsv.lt
  have hgW : V.grownBy W2 none := grow_below (HB3.out.trans (hb4.mono (HB3.out.size))) none
  have hsW := hsv.kept hgW (by simp)
  have hbW := hsW.lt
  have HNo := Lib.hid hN
  have HGw : Hid (w.grownBy W2 (some b)) := Lib.hid (World.grownBy.trans hgv (grow_below (HB3.out.trans (hb4.mono (HB3.out.size))) _))
  have HEw : Hid (Vrs W2) := Lib.hid ((hE.kept hgv (fun b' e => by cases e; exact ⟨_, _, _, hSc⟩)).kept hgW (fun _ e => by cases e))
  have HSw := Lib.hid hsW
  clear hb4 hgW hsW hN hgv hsv HB3 HN
  go_wp2
  go_loopw [28] (fun _ wr => ∃ (k f : Nat) (acc : List UInt8), a + 1 ≤ k ∧ k ≤ s.size ∧ s.size - k < f ∧ acc.length ≤ 4097 ∧ Hid (Sc b s k ln wr) ∧ Hid (W2.grownBy wr (some b)) ∧ Hid (Bl W2.heap.size W2.heap.size acc wr) ∧ Hid ((acc.length ≤ 4096 → R = litF q f (s.data.toList.drop k) acc k) ∧ (4096 < acc.length → R = ([], 0, 3)))) (fun _ wr => s.size - atOf b wr)
  case atStart =>
    have hbn : Below W2.heap.size W2 (W2.alloc (.cells #[.pointer none, .slice none 0 0] 44)) := (Below.refl _ _).alloc (Nat.le_refl _) _
    exact ⟨a + 1, s.size + 1, [], Nat.le_refl _, by omega, by omega, by simp, Lib.hid (HSw.out.low hbn hbW), Lib.hid (grow_below hbn _), Lib.hid (bl_new W2), Lib.hid ⟨fun _ => HR0.out, fun h => by simp at h⟩⟩
  case round =>
    obtain ⟨k, f, acc, hak, hks, hkf, hacc, HS, HG, HB, HR⟩ := hrel
    rename World => W0
    have hat := HS.out.atOf
    obtain ⟨n, hn⟩ : ∃ n, cntP (nah (lqL q)) (s.data.toList.drop k) = n := ⟨_, rfl⟩
    have hnle := cntP_le (nah (lqL q)) (s.data.toList.drop k)
    rw [hn, List.length_drop, hll] at hnle
    have T0 := take_noneOf b s k ln W0 (by omega) hks HS.out L (lqL q) (HNo.out.kept HG.out (fun b' e => by cases e; exact ⟨_, _, _, HSw.out⟩)) (by show 3 ≤ 1000; decide)
    rw [hn] at T0
    have hrun := litF_run q n f (s.data.toList.drop k) acc k (by rw [List.length_drop, hll]; exact hkf) hn
    rw [List.drop_drop] at hrun
    have hmx : k + n < s.size → (nah (lqL q)) (s.data.toList.getD (k + n) 0) = false := by
      intro h
      have hcd := cntP_stop (P := nah (lqL q)) (l := s.data.toList.drop k) (by rw [hn, List.length_drop, hll]; omega)
      rw [hn, List.getD_eq_getElem?_getD, List.getElem?_drop, ← List.getD_eq_getElem?_getD] at hcd
      exact hcd
    have W1 := fun (W : World) (hg : W0.grownBy W (some b)) => bls W2.heap.size W2.heap.size acc (bs ((s.data.toList.drop k).take n)) W (HB.out.kept hg (fun j e => by cases e; exact hbW)) (by omega) (by rw [bs_size, List.length_take]; omega) (Nat.le_trans HG.out.size hg.size)
    have hyl : ((s.data.toList.drop k).take n).length = n := by rw [List.length_take, List.length_drop, hll]; omega
    have hyl2 : (acc ++ (s.data.toList.drop k).take n).length = acc.length + n := by rw [List.length_append, hyl]
    simp only [bs_list] at W1
    generalize (s.data.toList.drop k).take n = y at *
    obtain ⟨j, hj⟩ : ∃ j, k + n = j := ⟨_, rfl⟩
    rw [hj] at T0 hrun hmx
    have hjs : j ≤ s.size := by omega
    generalize acc ++ y = acc' at *
    have L1 := fun (W : World) (h : Bl W2.heap.size W2.heap.size acc' W) => Tryd.Builder_Len W2.heap.size W2.heap.size (Lib.byteCells acc') W h
    simp only [Lib.byteCells_length] at L1
    have HT := Lib.hid T0
    have HW := Lib.hid W1
    have HL := Lib.hid L1
    clear T0 W1 L1 hn hyl
    by_cases hbig : 4096 < acc'.length
    · have HR1 : Hid (R = ([], 0, 3)) := Lib.hid (by
        by_cases h : acc.length ≤ 4096
        · rw [HR.out.1 h, hrun h, if_neg (by omega)]
        · exact HR.out.2 (by omega))
      have hbig' : 4096 < (acc'.length : Int) := by omega
      clear hrun hmx hbig HR
      go_wp2_with (first | (go_at_call 32; (with_reducible refine (HT.out).mono ?_); rintro e w1 ⟨rfl, h1, g1⟩) | (go_at_call 26; (with_reducible refine (HW.out _ g1).mono ?_); rintro e w2 ⟨rfl, h2, b2⟩) | (go_at_call 27; (with_reducible refine (HL.out _ h2).mono ?_); rintro e w4 ⟨rfl, rfl⟩))
      go_ret2
      rw [HR1.out]
      exact ⟨rfl, ⟨j, fun h => absurd h (by decide), h1.low b2 hbW⟩, World.grownBy.trans HGw.out (grow_low (World.grownBy.trans HG.out g1) b2)⟩
    · have HR1 : Hid (R = litF q (f - n) (s.data.toList.drop j) acc' j) := Lib.hid (by
        rw [HR.out.1 (by omega), hrun (by omega), if_pos (by omega)])
      have hbig' : ¬ 4096 < (acc'.length : Int) := by omega
      have hfn : s.size - j < f - n := by omega
      have HM := Lib.hid hmx
      clear hrun HR hmx
      go_upto_region 8 with (first | (go_at_call 32; (with_reducible refine (HT.out).mono ?_); rintro e w1 ⟨rfl, h1, g1⟩) | (go_at_call 26; (with_reducible refine (HW.out _ g1).mono ?_); rintro e w2 ⟨rfl, h2, b2⟩) | (go_at_call 27; (with_reducible refine (HL.out _ h2).mono ?_); rintro e w4 ⟨rfl, rfl⟩))
      have HS2 := Lib.hid (h1.low b2 hbW)
      have HG2 := Lib.hid (grow_low (World.grownBy.trans HG.out g1) b2)
      have HB2 := Lib.hid h2
      clear h1 b2 h2 g1 HT HW HL HS HG HB
      rename World => W3
      have k0 := HS2.out.c0
      have k1 := HS2.out.c1
      have f1 := HS2.out.fz 1
      have hj0 : 0 ≤ (j : Int) := by omega
      by_cases hje : j = s.size
      · have hqj : ((j : Int) == (s.size : Int)) = true := by rw [beq_iff_eq]; omega
        have HR2 : Hid (R = ([], 0, 4)) := Lib.hid (by
          rw [HR1.out, List.drop_eq_nil_of_le (by omega)]
          obtain ⟨g, hg⟩ : ∃ g, f - n = g + 1 := ⟨f - n - 1, by omega⟩
          rw [hg]; rfl)
        clear HR1 hje
        go_wp2
        go_quiet (fail)
        go_wp2
        go_ret2
        rw [HR2.out]
        exact ⟨rfl, ⟨j, fun h => absurd h (by decide), HS2.out.drewN _⟩, World.grownBy.trans HGw.out (grow_drewN HG2.out _)⟩
      have hjl : j < s.size := by omega
      have hjl' : (j : Int) < (s.size : Int) := by omega
      have hqj : ((j : Int) == (s.size : Int)) = false := by rw [beq_eq_false_iff_ne]; omega
      obtain ⟨g, hg⟩ : ∃ g, f - n = g + 1 := ⟨f - n - 1, by omega⟩
      have hdr : s.data.toList.drop j = s[j] :: s.data.toList.drop (j + 1) := by rw [List.drop_eq_getElem_cons (by omega)]; rfl
      have HR3 := Lib.hid (HR1.out.trans (by rw [hdr, hg, litF_step]))
      have hgd : s.data.toList.getD j 0 = s[j] := by rw [List.getD_eq_getElem?_getD, List.getElem?_eq_getElem (by omega)]; rfl
      have hcj := byte_bd3 s[j]
      have hM := HM.out hjl
      rw [hgd] at hM
      obtain ⟨c, hc⟩ : ∃ c, s[j] = c := ⟨_, rfl⟩
      have hci : (s[j].toNat : Int) = (c.toNat : Int) := by rw [hc]
      rw [hc] at HR3 hcj hM
      clear HR1 hdr hgd HM
      by_cases h10 : c = 10
      · have h10i : ((c.toNat : Int) == 10) = true := by rw [h10]; rfl
        have HR4 : Hid (R = ([], 0, 4)) := Lib.hid (by rw [HR3.out, if_pos h10])
        clear HR3 h10 hM
        go_wp2
        go_quiet (fail)
        go_wp2
        go_ret2
        rw [HR4.out]
        exact ⟨rfl, ⟨j, fun h => absurd h (by decide), HS2.out.drewN _⟩, World.grownBy.trans HGw.out (grow_drewN HG2.out _)⟩
      have h10i : ((c.toNat : Int) == 10) = false := by rw [beq_eq_false_iff_ne]; intro h; exact h10 (UInt8.toNat_inj.1 (by show c.toNat = 10; omega))
      have hwj : IntKind.i64.wrap ((j : Int) + 1) = ((j + 1 : Nat) : Int) := by simp only [IntKind.wrap]; simp [IntKind.signed, IntKind.bits]; omega
      by_cases hcq : c = q
      · have hcqi : ((c.toNat : Int) == (q.toNat : Int)) = true := by rw [hcq]; simp
        have HR4 : Hid (R = (acc', j + 1, 0)) := Lib.hid (by rw [HR3.out, if_neg h10, if_pos hcq])
        have HGS := Lib.hid fun m => grow_set (grow_drewN (World.grownBy.refl W3 (some b)) m) 1 (.int .i64 ((j : Int) + 1))
        have HSS := Lib.hid fun m => (HS2.out.drewN m).set1 (j + 1) (.int .i64 ((j : Int) + 1)) (by push_cast; rfl)
        have hz3 := HG2.out.size
        have HSt := Lib.hid fun (W : World) (h : W3.grownBy W (some b)) => blS W2.heap.size W2.heap.size acc' W (HB2.out.kept h (fun j e => by cases e; exact hbW)) (Nat.le_trans hz3 h.size)
        clear HR3 h10 hcq hM hwj
        go_wp2
        go_quiet (fail)
        go_wp2
        go_quiet (fail)
        go_wp2_with (go_at_call 28; (with_reducible refine (HSt.out _ ?_).mono ?_); exact HGS.out _; rintro e w5 ⟨rfl, b5⟩)
        go_ret2
        rw [HR4.out]
        exact ⟨rfl, ⟨j + 1, fun _ => rfl, (HSS.out _).low b5 hbW⟩, World.grownBy.trans HGw.out (grow_low (World.grownBy.trans HG2.out (HGS.out _)) b5)⟩
      have hc92 : c = 92 := by
        by_cases h : c = 92
        · exact h
        · rw [nah_lq.2 ⟨hcq, h, h10⟩] at hM; cases hM
      have hcqi : ((c.toNat : Int) == (q.toNat : Int)) = false := by rw [beq_eq_false_iff_ne]; intro h; exact hcq (UInt8.toNat_inj.1 (by omega))
      have HR4 := Lib.hid (HR3.out.trans (by rw [if_neg h10, if_neg hcq, if_pos hc92]))
      have E0 := fun (W : World) (h : Sc b s j ln W) (h2 : Vrs W) => escape_any b s j ln W hs (by omega) h h2
      unfold EscSaid at E0
      have hbd := escR_bd (s.data.toList.drop (j + 1))
      rw [List.length_drop, hll] at hbd
      rw [List.drop_drop] at HR4
      have HE2 := Lib.hid fun m => (HEw.out.kept (grow_drewN HG2.out m) (fun b' e => by cases e; exact ⟨_, _, _, HSw.out⟩))
      generalize escR (s.data.toList.drop (j + 1)) = r at *
      have HEs := Lib.hid E0
      clear E0 HR3 h10 hcq hc92 hM hwj
      by_cases hE5 : r.2.2 = 0
      · have hE5' : (r.2.2 != 0) = false := by rw [bne_eq_false_iff_eq]; exact hE5
        have hz3 := HG2.out.size
        have HWb := Lib.hid fun (W : World) (h : W3.grownBy W (some b)) => blb W2.heap.size W2.heap.size acc' (UInt8.ofNat r.1) (r.1 : Int) (by simp; omega) W (HB2.out.kept h (fun j e => by cases e; exact hbW)) (by omega) (Nat.le_trans hz3 h.size)
        have HR5 : Hid (((acc' ++ [UInt8.ofNat r.1]).length ≤ 4096 → R = litF q g (s.data.toList.drop (j + 1 + r.2.1)) (acc' ++ [UInt8.ofNat r.1]) (j + 1 + r.2.1)) ∧ (4096 < (acc' ++ [UInt8.ofNat r.1]).length → R = ([], 0, 3))) := Lib.hid (by
          rw [List.length_append, List.length_singleton]
          constructor
          · intro h; rw [HR4.out, if_neg (by rw [hE5]; simp), if_neg (by omega)]
          · intro h; rw [HR4.out, if_neg (by rw [hE5]; simp), if_pos (by omega)])
        have HAL : Hid ((acc' ++ [UInt8.ofNat r.1]).length = acc'.length + 1) := Lib.hid (by rw [List.length_append, List.length_singleton])
        generalize acc' ++ [UInt8.ofNat r.1] = acc2 at *
        clear HR4 hE5
        go_wp2
        go_quiet (fail)
        go_wp2
        go_quiet (fail)
        go_wp2_with (first | (go_at_call 59; (with_reducible refine (HEs.out _ ?_ ?_).mono ?_); exact HS2.out.drewN _; exact HE2.out _; rintro e w5 ⟨rfl, h5, g5⟩) | (go_at_call 36; (with_reducible refine (HWb.out _ ?_).mono ?_); exact World.grownBy.trans (grow_drewN (World.grownBy.refl _ _) _) g5; rintro e w6 ⟨rfl, h6, b6⟩))
        go_roundw
        case rel =>
          have hs6 := h5.low b6 hbW
          exact ⟨j + 1 + r.2.1, g, acc2, by omega, by omega, by omega, by have := HAL.out; omega, Lib.hid hs6, Lib.hid (grow_low (World.grownBy.trans (grow_drewN HG2.out _) g5) b6), Lib.hid h6, HR5⟩
        case measure => rw [Sc.atOf (h5.low b6 hbW), hat]; omega
      · have hE5' : (r.2.2 != 0) = true := by rw [bne_iff_ne]; exact hE5
        have HR5 : Hid (R = ([], 0, r.2.2)) := Lib.hid (by rw [HR4.out, if_pos hE5])
        clear HR4
        go_wp2
        go_quiet (fail)
        go_wp2
        go_quiet (fail)
        go_wp2_with (go_at_call 59; (with_reducible refine (HEs.out _ ?_ ?_).mono ?_); exact HS2.out.drewN _; exact HE2.out _; rintro e w5 ⟨rfl, h5, g5⟩)
        go_ret2
        rw [HR5.out]
        exact ⟨rfl, ⟨_, fun h => absurd h hE5, h5⟩, World.grownBy.trans HGw.out (World.grownBy.trans (grow_drewN HG2.out _) g5)⟩
end Go.Proofs.YtbcbddglgfakpaaDoor
