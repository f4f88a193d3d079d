/- Contracts of layer 4: an element of a set. -/
import Derived.Test.YtkbcaklleiapdaaDoorPatF
namespace Go.Proofs.YtkbcaklleiapdaaDoor
open Go.RowKit M4
set_option linter.unusedVariables false
/-- The old blocks but some are as they were. -/
structure Ch (S : List Nat) (w W : World) : Prop where
  os : W.os = w.os
  tape : W.tape = w.tape
  output : W.output = w.output
  size : w.heap.size ≤ W.heap.size
  block : ∀ g, g < w.heap.size → g ∉ S → W.heap[g]? = w.heap[g]?
theorem Ch.refl (S : List Nat) (w : World) : Ch S w w := ⟨rfl, rfl, rfl, Nat.le_refl _, fun _ _ _ => rfl⟩
theorem Ch.trans {S : List Nat} {a b c : World} (h : Ch S a b) (k : Ch S b c) : Ch S a c :=
  ⟨k.os.trans h.os, k.tape.trans h.tape, k.output.trans h.output, Nat.le_trans h.size k.size, fun g h1 h2 => (k.block g (Nat.lt_of_lt_of_le h1 h.size) h2).trans (h.block g h1 h2)⟩
theorem Ch.mono {S T : List Nat} {w W : World} (h : Ch S w W) (hs : ∀ g ∈ S, g ∈ T) : Ch T w W := ⟨h.os, h.tape, h.output, h.size, fun g h1 h2 => h.block g h1 (fun e => h2 (hs g e))⟩
theorem Ch.of_grown {S : List Nat} {w W : World} {r : Option Nat} (h : w.grownBy W r) (hs : ∀ b, r = some b → b ∈ S) : Ch S w W := ⟨h.os, h.tape, h.output, h.size, fun g h1 h2 => h.block g h1 (fun e => h2 (hs g e.symm))⟩
theorem Ch.grown {b : Nat} {w W : World} (h : Ch [b] w W) : w.grownBy W (some b) := ⟨h.os, h.tape, h.output, h.size, fun g h1 h2 => h.block g h1 (by simp; intro e; exact h2 (by rw [e]))⟩
theorem Ch.below {w W : World} (h : Ch [] w W) : Below w.heap.size w W := ⟨h.os, h.tape, h.output, h.size, fun g h1 => h.block g h1 (by simp)⟩
theorem Ch.of_below {S : List Nat} {w W : World} (h : Below w.heap.size w W) : Ch S w W := ⟨h.os, h.tape, h.output, h.size, fun g h1 _ => h.block g h1⟩
theorem Ch.drewN {S : List Nat} {w W : World} (h : Ch S w W) (n : Nat) : Ch S w (W.drewN n) := ⟨h.os, by simpa using h.tape, h.output, by simpa using h.size, fun g h1 h2 => by simpa using h.block g h1 h2⟩
theorem Ch.drew {S : List Nat} {w W : World} (h : Ch S w W) : Ch S w W.drew := h.drewN 1
theorem Ch.alloc {S : List Nat} {w W : World} (h : Ch S w W) (o : Obj) : Ch S w (W.alloc o) :=
  ⟨h.os, h.tape, h.output, by have := h.size; simp; omega, fun g h1 h2 => by rw [Below.heap_alloc _ _ _ (by have := h.size; omega)]; exact h.block g h1 h2⟩
theorem Ch.set {S : List Nat} {w W : World} (h : Ch S w W) (b o : Nat) (v : Value) (hs : b ∈ S ∨ w.heap.size ≤ b) : Ch S w (W.setCell ⟨b, o, none⟩ v) :=
  ⟨h.os, h.tape, h.output, by simpa [World.setCell] using h.size, fun g h1 h2 => by
    rw [Below.heap_setCell _ _ _ _ (fun e => by simp at e; rcases hs with h3 | h3; exact h2 (e ▸ h3); omega)]; exact h.block g h1 h2⟩
/-- What changes a block that is new changes nothing old. -/
theorem Ch.new {S : List Nat} {B : Nat} {w w1 W : World} (h : Ch S w w1) (hB : w.heap.size ≤ B) (k : Ch (B :: S) w1 W) : Ch S w W :=
  ⟨k.os.trans h.os, k.tape.trans h.tape, k.output.trans h.output, Nat.le_trans h.size k.size, fun g h1 h2 => (k.block g (Nat.lt_of_lt_of_le h1 h.size) (by simp; exact ⟨by omega, h2⟩)).trans (h.block g h1 h2)⟩
theorem Ch.kp {S : List Nat} {lo hi : Nat} {w W : World} (h : Ch S w W) (hh : hi ≤ w.heap.size) (hs : ∀ g ∈ S, g < lo ∨ hi ≤ g) : Kp lo hi w W := ⟨h.size, fun g h1 h2 => h.block g (by omega) (fun e => by have := hs g e; omega)⟩
theorem Rd.ch {b : Nat} {p : ByteArray} {k : Nat} {st op : Value} {w w' : World} {S : List Nat} (h : Rd b p k st op w) (hg : Ch S w w') (hr : b ∉ S) : Rd b p k st op w' := by
  have := Rd.lt h; unfold Rd at *; rw [hg.block b this hr]; exact h
theorem Rd.heap {b : Nat} {p : ByteArray} {k : Nat} {st op : Value} {w w' : World} (h : Rd b p k st op w) (e : w'.heap = w.heap) : Rd b p k st op w' := by unfold Rd at *; rw [e]; exact h
theorem BSb.ch {B : Nat} {f : Nat → BitVec 64} {w w' : World} {S : List Nat} (h : BSb B f w) (hg : Ch S w w') (hr : B ∉ S) : BSb B f w' := by
  have := h.lt; unfold BSb at *; rw [hg.block B this hr]; exact h
/-- A byte that the code names. -/
theorem skip4_lit (b : Nat) (p : ByteArray) (k : Nat) (st op : Value) (c : UInt8) (n : Int) (hn : (c.toNat : Int) = n) (w : World) (hp : p.size ≤ 1000000) (hk : k ≤ p.size) (h : Rd b p k st op w) :
    Calls Tryd.prog 43 #[.pointer (some ⟨b, 0, none⟩), .int .u8 n] w fun e w' => e = .returned (.bool (decide (p.data.toList[k]? = some c))) ∧ Rd b p (if p.data.toList[k]? = some c then k + 1 else k) st op w' ∧ w.grownBy w' (some b) := by
  subst hn; exact skip4_any b p k st op c w hp hk h
/-- What reading an element leaves. -/
def ElSaid (b B : Nat) (p : ByteArray) (k : Nat) (st op : Value) (f : Nat → BitVec 64) (e : Ending) (w' : World) : Prop := match elemF p.data.toList k with
  | some r => e = .returned (.int .i64 0) ∧ Rd b p r.2 st op w' ∧ ∃ f', BSb B f' w' ∧ ∀ c, bitS f' c = (bitS f c || r.1 c)
  | none => e = .returned (.int .i64 4) ∧ ∃ k', Rd b p k' st op w'

set_option maxHeartbeats 4000000 in
set_option maxRecDepth 100000 in
theorem element_pct (b B : Nat) (p : ByteArray) (k : Nat) (st op : Value) (f : Nat → BitVec 64) (w : World) (hp : p.size ≤ 1000000) (hk : k < p.size) (h : Rd b p k st op w) (hB : BSb B f w) (hbB : b ≠ B) (hc : p.data.toList[k]? = some 37) :
    Calls Tryd.prog 85 #[.pointer (some ⟨b, 0, none⟩), .pointer (some ⟨B, 0, none⟩)] w fun e w' => ElSaid b B p k st op f e w' ∧ Ch [b, B] w w' := by
  have S1 := Lib.hid (skip4_lit b p k st op 37 37 rfl w hp (by omega) h)
  rw [if_pos hc, decide_eq_true hc] at S1
  have hel : elemF p.data.toList k = (pairL p.data.toList (k + 1)).map fun P => (P, k + 2) := by unfold elemF; rw [hc]; rfl
  unfold ElSaid
  rw [hel]
  have P0 := fun W (hW : Rd b p (k + 1) st op W) => pairR_any b p (k + 1) st op W hp (by omega) hW
  have HBh := Lib.hid hB
  clear h hc hel hB
  cases hpl : pairL p.data.toList (k + 1) with
  | some P =>
    rw [hpl] at P0
    simp only [Option.isSome_some, if_true] at P0
    have P1 := Lib.hid P0
    clear P0
    simp only [Option.map_some]
    go_enter Tryd.func85, Tryd.ntmps85
    go_wp2_with (first | (go_at_call 43; (with_reducible refine (S1.out).mono ?_); rintro e w1 ⟨rfl, h1, hg1⟩) | (go_at_call 87; (with_reducible refine (P1.out _ h1).mono ?_); rintro e w2 ⟨v, rfl, h2, hT, hg2⟩) | (go_at_call 96; (with_reducible refine (addAll_any B _ _ f _ P _ ?_ hT ?_).mono ?_); exact (HBh.out.grown hg1 (by simpa using hbB)).grown hg2 (by simpa using hbB); exact Or.inl (by have := HBh.out.lt; have := hg1.size; omega); rintro e w3 ⟨rfl, h3, hg3⟩))
    go_ret
    refine ⟨⟨rfl, h2.kept hg3 (by simp; exact fun e => hbB e.symm), h3⟩, ?_⟩
    exact ((Ch.of_grown hg1 (by simp)).trans (Ch.of_grown hg2 (by simp))).trans (Ch.of_grown hg3 (by simp))
  | none =>
    rw [hpl] at P0
    simp only [Option.isSome_none, Bool.false_eq_true, if_false] at P0
    have P1 := Lib.hid P0
    clear P0
    simp only [Option.map_none]
    go_enter Tryd.func85, Tryd.ntmps85
    go_wp2_with (first | (go_at_call 43; (with_reducible refine (S1.out).mono ?_); rintro e w1 ⟨rfl, h1, hg1⟩) | (go_at_call 87; (with_reducible refine (P1.out _ h1).mono ?_); rintro e w2 ⟨v, rfl, h2, hT, hg2⟩))
    go_ret
    exact ⟨⟨rfl, _, h2⟩, (Ch.of_grown hg1 (by simp)).trans (Ch.of_grown hg2 (by simp))⟩

theorem ext_size (p : ByteArray) (k : Nat) (hk : k ≤ p.size) : (p.extract k p.size).size = p.size - k := by rw [ByteArray.size_extract]; omega
theorem ext_get (p : ByteArray) (k j : Nat) (h : j < (p.extract k p.size).size) : (p.extract k p.size)[j] = p[k + j]'(by rw [ByteArray.size_extract] at h; omega) := ByteArray.getElem_extract h
theorem get_of {p : ByteArray} {k : Nat} {c : UInt8} (h : p.data.toList[k]? = some c) : ∃ hk : k < p.size, p[k] = c := by
  obtain ⟨h1, h2⟩ := List.getElem?_eq_some_iff.1 h
  exact ⟨by simpa using h1, h2⟩
theorem get_some (p : ByteArray) (k : Nat) (h : k < p.size) : p.data.toList[k]? = some p[k] := by
  rw [List.getElem?_eq_getElem (by simpa using h)]; rfl
theorem i64w (x : Int) (h : -9000000000000000000 ≤ x ∧ x ≤ 9000000000000000000) : IntKind.i64.wrap x = x := by simp only [IntKind.wrap]; simp [IntKind.signed, IntKind.bits]; omega

set_option maxHeartbeats 8000000 in
set_option maxRecDepth 100000 in
theorem element_plain (b B : Nat) (p : ByteArray) (k : Nat) (st op : Value) (f : Nat → BitVec 64) (w : World) (hp : p.size ≤ 1000000) (hk : k < p.size) (h : Rd b p k st op w) (hB : BSb B f w) (hbB : b ≠ B) (hc : ¬ p.data.toList[k]? = some 37) :
    Calls Tryd.prog 85 #[.pointer (some ⟨b, 0, none⟩), .pointer (some ⟨B, 0, none⟩)] w fun e w' => ElSaid b B p k st op f e w' ∧ Ch [b, B] w w' := by
  have hll : p.data.toList.length = p.size := Array.length_toList
  have S1 := Lib.hid (skip4_lit b p k st op 37 37 rfl w hp (by omega) h)
  rw [if_neg hc, decide_eq_false hc] at S1
  have hBl := hB.lt
  have HBh := Lib.hid hB
  have hge := get_some p k hk
  have n37 : ¬ p[k] = 37 := fun e => hc (by rw [hge, e])
  obtain ⟨q, hq⟩ : ∃ q, p.extract k p.size = q := ⟨_, rfl⟩
  have hqs : q.size = p.size - k := by rw [← hq]; exact ext_size p k (by omega)
  have hq0 : ∃ h0 : 0 < q.size, q[0] = p[k] := ⟨by omega, by subst hq; rw [ext_get]; rfl⟩
  obtain ⟨h0, hq0⟩ := hq0
  have z0 : (0 : Int) < (q.size : Int) := by omega
  have c0v : (q[0].toNat : Int) = (p[k].toNat : Int) := by rw [hq0]
  have hkk : (k : Int) ≤ (p.size : Int) := by omega
  have HK0 : 0 ≤ (k : Int) := by omega
  unfold ElSaid
  by_cases hr : p.data.toList[k + 1]? = some 45 ∧ k + 2 < p.data.toList.length ∧ p.data.toList[k + 2]? ≠ some 93
  · have hel : elemF p.data.toList k = some (inR [(p[k], p.data.toList.getD (k + 2) 0)], k + 3) := by unfold elemF; rw [hge]; simp only []; rw [if_neg n37, if_pos hr]
    rw [hel]
    obtain ⟨r1, r2, r3⟩ := hr
    rw [hll] at r2
    have g2 := get_some p (k + 2) r2
    have r2d : p.data.toList.getD (k + 2) 0 = p[k + 2] := by rw [List.getD_eq_getElem?_getD, g2]; rfl
    rw [r2d]
    rw [g2] at r3
    obtain ⟨hk1, r1'⟩ := get_of r1
    have w1s : 1 < q.size := by omega
    have w2s : 2 < q.size := by omega
    have hq1 : q[1] = 45 := by rw [← r1']; subst hq; rw [ext_get]
    have hq2 : q[2] = p[k + 2] := by subst hq; rw [ext_get]
    have z1 : (1 : Int) < (q.size : Int) := by omega
    have z2 : (2 : Int) < (q.size : Int) := by omega
    have y1 : ((q[1].toNat : Int) == 45) = true := by rw [hq1]; rfl
    have y2 : ((q[2].toNat : Int) != 93) = true := by rw [bne_iff_ne, hq2]; intro e; exact r3 (congrArg some (UInt8.toNat_inj.1 (by simp; omega)))
    have c2v : (q[2].toNat : Int) = (p[k + 2].toNat : Int) := by rw [hq2]
    have A1 := Lib.hid fun (W : World) (hW : BSb B f W) => addRange_any B f p[k] p[k + 2] W hW
    obtain ⟨x, hx⟩ : ∃ x, p[k] = x := ⟨_, rfl⟩
    obtain ⟨y, hy⟩ : ∃ y, p[k + 2] = y := ⟨_, rfl⟩
    rw [hx] at A1 c0v
    rw [hy] at A1 c2v
    simp only [hx, hy]
    have w3 := i64w ((k : Int) + 3) (by omega)
    have HQ := Lib.hid hq
    clear hq hq0 hq1 hq2 hx hy r1 r2 r3 r1' hge g2 r2d hel h hB hc hqs n37 hll
    go_enter Tryd.func85, Tryd.ntmps85
    go_wp2_with (go_at_call 43; (with_reducible refine (S1.out).mono ?_); rintro e w1 ⟨rfl, h1, hg1⟩)
    have k0 := h1.c0
    have k1 := h1.c1
    have kf := h1.fz 1
    go_quiet (fail)
    rw [HQ.out]
    go_upto_region 7 with fail
    go_name_world V hV
    have HRV : Hid (Rd b p k st op V) := Lib.hid (by rw [← hV]; exact h1.drewN _)
    have HCV : Hid (Ch [b, B] w V) := Lib.hid (by rw [← hV]; exact (Ch.of_grown hg1 (by simp)).drewN _)
    have HBV : Hid (BSb B f V) := Lib.hid (by rw [← hV]; exact (HBh.out.grown hg1 (by simpa using hbB)).drewN _)
    clear hV h1 hg1 k0 k1 kf
    have k0 := HRV.out.c0
    have k1 := HRV.out.c1
    have kf := HRV.out.fz 1
    go_upto_region 9 with fail
    go_name_world V2 hV2
    have HRV2 : Hid (Rd b p (k + 3) st op V2) := Lib.hid (by rw [← hV2]; exact HRV.out.set1 (k + 3) _ (by push_cast; rfl))
    have HCV2 : Hid (Ch [b, B] w V2) := Lib.hid (by rw [← hV2]; exact HCV.out.set b 1 _ (Or.inl (by simp)))
    have HBV2 : Hid (BSb B f V2) := Lib.hid (by rw [← hV2]; exact HBV.out.grown (grow_set4 (World.grownBy.refl V (some b)) 1 _) (by simpa using hbB))
    clear hV2 k0 k1 kf
    go_still_tail 5, (by kernel_rfl)
    change wpList _ _ _ _ _ V2.drew
    have HA := Lib.hid (A1.out V2.drew (HBV2.out.drewN 1))
    go_wp2_with (go_at_call 97; (with_reducible refine (HA.out).mono ?_); rintro e w3 ⟨rfl, h3, hg3⟩)
    go_ret
    have hd : Ch [b, B] V2 w3 := (Ch.drew (Ch.refl [b, B] V2)).trans (Ch.of_grown hg3 (by simp))
    exact ⟨⟨rfl, (HRV2.out.drewN 1).kept hg3 (by simp; exact fun e => hbB e.symm), h3⟩, HCV2.out.trans hd⟩
  · have hel : elemF p.data.toList k = some (inR [(p[k], p[k])], k + 1) := by unfold elemF; rw [hge]; simp only []; rw [if_neg n37, if_neg hr]
    rw [hel]
    have A1 := Lib.hid fun (W : World) (hW : BSb B f W) => addRange_any B f p[k] p[k] W hW
    have HL : Hid (q.size ≤ 2 ∨ (∃ h : 2 < q.size, q[1]'(Nat.lt_trans (by decide) h) = 45 ∧ q[2]'h = 93) ∨ (∃ h : 2 < q.size, q[1]'(Nat.lt_trans (by decide) h) ≠ 45)) := Lib.hid (by
      by_cases h2 : q.size ≤ 2
      · exact Or.inl h2
      · right
        by_cases h45 : q[1] = 45
        · left
          refine ⟨by omega, h45, ?_⟩
          have e2 : q[2] = p[k + 2] := by subst hq; rw [ext_get]
          have e1 : q[1] = p[k + 1] := by subst hq; rw [ext_get]
          have hk2 : k + 2 < p.size := by omega
          by_cases e : p[k + 2] = 93
          · rw [e2, e]
          · exact absurd ⟨by rw [get_some p (k + 1) (by omega), ← e1, h45], by rw [hll]; exact hk2, by rw [get_some p (k + 2) hk2]; intro e3; exact e (Option.some.inj e3)⟩ hr
        · exact Or.inr ⟨by omega, h45⟩)
    obtain ⟨x, hx⟩ : ∃ x, p[k] = x := ⟨_, rfl⟩
    rw [hx] at A1 c0v
    simp only [hx]
    have w3 := i64w ((k : Int) + 1) (by omega)
    have HQ := Lib.hid hq
    clear hq hq0 hx hr hge hel h hB hc hqs n37 hll
    rcases HL.out with hz | ⟨hz, e1, e2⟩ | ⟨hz, e1⟩
    · have z2 : ¬ (2 : Int) < (q.size : Int) := by omega
      clear hz HL
      go_enter Tryd.func85, Tryd.ntmps85
      go_wp2_with (go_at_call 43; (with_reducible refine (S1.out).mono ?_); rintro e w1 ⟨rfl, h1, hg1⟩)
      have k0 := h1.c0
      have k1 := h1.c1
      have kf := h1.fz 1
      go_quiet (fail)
      rw [HQ.out]
      go_upto_region 7 with fail
      go_name_world V hV
      have HRV : Hid (Rd b p k st op V) := Lib.hid (by rw [← hV]; exact h1.drewN _)
      have HCV : Hid (Ch [b, B] w V) := Lib.hid (by rw [← hV]; exact (Ch.of_grown hg1 (by simp)).drewN _)
      have HBV : Hid (BSb B f V) := Lib.hid (by rw [← hV]; exact (HBh.out.grown hg1 (by simpa using hbB)).drewN _)
      clear hV h1 hg1 k0 k1 kf
      have k0 := HRV.out.c0
      have k1 := HRV.out.c1
      have kf := HRV.out.fz 1
      go_upto_region 12 with fail
      go_name_world V2 hV2
      have HRV2 : Hid (Rd b p (k + 1) st op V2) := Lib.hid (by rw [← hV2]; exact HRV.out.set1 (k + 1) _ (by push_cast; rfl))
      have HCV2 : Hid (Ch [b, B] w V2) := Lib.hid (by rw [← hV2]; exact HCV.out.set b 1 _ (Or.inl (by simp)))
      have HBV2 : Hid (BSb B f V2) := Lib.hid (by rw [← hV2]; exact HBV.out.grown (grow_set4 (World.grownBy.refl V (some b)) 1 _) (by simpa using hbB))
      clear hV2 k0 k1 kf
      go_still_tail 5, (by kernel_rfl)
      change wpList _ _ _ _ _ V2.drew
      have HA := Lib.hid (A1.out V2.drew (HBV2.out.drewN 1))
      go_wp2_with (go_at_call 97; (with_reducible refine (HA.out).mono ?_); rintro e w3 ⟨rfl, h3, hg3⟩)
      go_ret
      have hd : Ch [b, B] V2 w3 := (Ch.drew (Ch.refl [b, B] V2)).trans (Ch.of_grown hg3 (by simp))
      exact ⟨⟨rfl, (HRV2.out.drewN 1).kept hg3 (by simp; exact fun e => hbB e.symm), h3⟩, HCV2.out.trans hd⟩
    · have z1 : (1 : Int) < (q.size : Int) := by omega
      have z2 : (2 : Int) < (q.size : Int) := by omega
      have y1 : ((q[1].toNat : Int) == 45) = true := by rw [e1]; rfl
      have y2 : ((q[2].toNat : Int) != 93) = false := by rw [e2]; rfl
      clear e1 e2 HL
      go_enter Tryd.func85, Tryd.ntmps85
      go_wp2_with (go_at_call 43; (with_reducible refine (S1.out).mono ?_); rintro e w1 ⟨rfl, h1, hg1⟩)
      have k0 := h1.c0
      have k1 := h1.c1
      have kf := h1.fz 1
      go_quiet (fail)
      rw [HQ.out]
      go_upto_region 7 with fail
      go_name_world V hV
      have HRV : Hid (Rd b p k st op V) := Lib.hid (by rw [← hV]; exact h1.drewN _)
      have HCV : Hid (Ch [b, B] w V) := Lib.hid (by rw [← hV]; exact (Ch.of_grown hg1 (by simp)).drewN _)
      have HBV : Hid (BSb B f V) := Lib.hid (by rw [← hV]; exact (HBh.out.grown hg1 (by simpa using hbB)).drewN _)
      clear hV h1 hg1 k0 k1 kf
      have k0 := HRV.out.c0
      have k1 := HRV.out.c1
      have kf := HRV.out.fz 1
      go_upto_region 12 with fail
      go_name_world V2 hV2
      have HRV2 : Hid (Rd b p (k + 1) st op V2) := Lib.hid (by rw [← hV2]; exact HRV.out.set1 (k + 1) _ (by push_cast; rfl))
      have HCV2 : Hid (Ch [b, B] w V2) := Lib.hid (by rw [← hV2]; exact HCV.out.set b 1 _ (Or.inl (by simp)))
      have HBV2 : Hid (BSb B f V2) := Lib.hid (by rw [← hV2]; exact HBV.out.grown (grow_set4 (World.grownBy.refl V (some b)) 1 _) (by simpa using hbB))
      clear hV2 k0 k1 kf
      go_still_tail 5, (by kernel_rfl)
      change wpList _ _ _ _ _ V2.drew
      have HA := Lib.hid (A1.out V2.drew (HBV2.out.drewN 1))
      go_wp2_with (go_at_call 97; (with_reducible refine (HA.out).mono ?_); rintro e w3 ⟨rfl, h3, hg3⟩)
      go_ret
      have hd : Ch [b, B] V2 w3 := (Ch.drew (Ch.refl [b, B] V2)).trans (Ch.of_grown hg3 (by simp))
      exact ⟨⟨rfl, (HRV2.out.drewN 1).kept hg3 (by simp; exact fun e => hbB e.symm), h3⟩, HCV2.out.trans hd⟩
    · have z1 : (1 : Int) < (q.size : Int) := by omega
      have z2 : (2 : Int) < (q.size : Int) := by omega
      have y1 : ((q[1].toNat : Int) == 45) = false := by rw [beq_eq_false_iff_ne]; intro e; exact e1 (UInt8.toNat_inj.1 (by simp; omega))
      clear e1 HL
      go_enter Tryd.func85, Tryd.ntmps85
      go_wp2_with (go_at_call 43; (with_reducible refine (S1.out).mono ?_); rintro e w1 ⟨rfl, h1, hg1⟩)
      have k0 := h1.c0
      have k1 := h1.c1
      have kf := h1.fz 1
      go_quiet (fail)
      rw [HQ.out]
      go_upto_region 7 with fail
      go_name_world V hV
      have HRV : Hid (Rd b p k st op V) := Lib.hid (by rw [← hV]; exact h1.drewN _)
      have HCV : Hid (Ch [b, B] w V) := Lib.hid (by rw [← hV]; exact (Ch.of_grown hg1 (by simp)).drewN _)
      have HBV : Hid (BSb B f V) := Lib.hid (by rw [← hV]; exact (HBh.out.grown hg1 (by simpa using hbB)).drewN _)
      clear hV h1 hg1 k0 k1 kf
      have k0 := HRV.out.c0
      have k1 := HRV.out.c1
      have kf := HRV.out.fz 1
      go_upto_region 12 with fail
      go_name_world V2 hV2
      have HRV2 : Hid (Rd b p (k + 1) st op V2) := Lib.hid (by rw [← hV2]; exact HRV.out.set1 (k + 1) _ (by push_cast; rfl))
      have HCV2 : Hid (Ch [b, B] w V2) := Lib.hid (by rw [← hV2]; exact HCV.out.set b 1 _ (Or.inl (by simp)))
      have HBV2 : Hid (BSb B f V2) := Lib.hid (by rw [← hV2]; exact HBV.out.grown (grow_set4 (World.grownBy.refl V (some b)) 1 _) (by simpa using hbB))
      clear hV2 k0 k1 kf
      go_still_tail 5, (by kernel_rfl)
      change wpList _ _ _ _ _ V2.drew
      have HA := Lib.hid (A1.out V2.drew (HBV2.out.drewN 1))
      go_wp2_with (go_at_call 97; (with_reducible refine (HA.out).mono ?_); rintro e w3 ⟨rfl, h3, hg3⟩)
      go_ret
      have hd : Ch [b, B] V2 w3 := (Ch.drew (Ch.refl [b, B] V2)).trans (Ch.of_grown hg3 (by simp))
      exact ⟨⟨rfl, (HRV2.out.drewN 1).kept hg3 (by simp; exact fun e => hbB e.symm), h3⟩, HCV2.out.trans hd⟩
end Go.Proofs.YtkbcaklleiapdaaDoor
