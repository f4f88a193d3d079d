/- Contracts of layer 4: the rest of a set. -/
import Derived.Test.YtkbcaklleiapdaaDoorPatG
namespace Go.Proofs.YtkbcaklleiapdaaDoor
open Go.RowKit M4
set_option linter.unusedVariables false
theorem tv_has {lo hi : Nat} {w : World} {B : Nat} {f : Nat → BitVec 64} (h1 : lo ≤ B) (h2 : B < hi) (h3 : hi ≤ w.heap.size) (h : BSb B f w) : TV lo hi w (.func (.func 83) #[.pointer (some ⟨B, 0, none⟩)] #[]) (bitS f) :=
  ⟨h3, _, _, _, rfl, enters_of Tryd.func83 (by kernel_rfl) rfl, fun W hW c => by rw [app1]; exact (has_any B f c W (h.kept hW h1 h2)).mono fun e w' ⟨h1, h2⟩ => ⟨h1, 0, h2.symm⟩⟩
theorem tv_hasnot {lo hi : Nat} {w : World} {B : Nat} {f : Nat → BitVec 64} (h1 : lo ≤ B) (h2 : B < hi) (h3 : hi ≤ w.heap.size) (h : BSb B f w) : TV lo hi w (.func (.func 84) #[] #[.pointer (some ⟨B, 0, none⟩)]) (fun c => !bitS f c) :=
  ⟨h3, _, _, _, rfl, enters_of Tryd.func84 (by kernel_rfl) rfl, fun W hW c => by rw [app2]; exact (set1_any B f c W (h.kept hW h1 h2)).mono fun e w' ⟨h1, h2⟩ => ⟨h1, 0, h2.symm⟩⟩
theorem TV.congr {lo hi : Nat} {w : World} {v : Value} {P Q : UInt8 → Bool} (h : TV lo hi w v P) (e : ∀ c, P c = Q c) : TV lo hi w v Q := by
  rw [show Q = P from funext fun c => (e c).symm]; exact h
theorem element_any (b B : Nat) (p : ByteArray) (k : Nat) (st op : Value) (f : Nat → BitVec 64) (w : World) (hp : p.size ≤ 1000000) (hk : k < p.size) (h : Rd b p k st op w) (hB : BSb B f w) (hbB : b ≠ B) :
    Calls Tryd.prog 85 #[.pointer (some ⟨b, 0, none⟩), .pointer (some ⟨B, 0, none⟩)] w fun e w' => ElSaid b B p k st op f e w' ∧ Ch [b, B] w w' := by
  by_cases hc : p.data.toList[k]? = some 37
  · exact element_pct b B p k st op f w hp hk h hB hbB hc
  · exact element_plain b B p k st op f w hp hk h hB hbB hc
def f00 : Nat → BitVec 64 := fun _ => 0#64
theorem f00_bit (c : UInt8) : bitS f00 c = false := by unfold bitS f00; simp
/-- What reading a set leaves. -/
def SetSaid (b : Nat) (p : ByteArray) (k : Nat) (st op : Value) (lo : Nat) (e : Ending) (w' : World) : Prop := match setF p.data.toList k with
  | some r => ∃ v, e = .returned (.tuple #[v, .int .i64 0]) ∧ Rd b p r.2 st op w' ∧ TV lo w'.heap.size w' v r.1
  | none => e = .returned (.tuple #[.nilFunc, .int .i64 4]) ∧ ∃ k', Rd b p k' st op w'
/-- What holds at the head of the loop. -/
structure SetInv (b B : Nat) (p : ByteArray) (k1 : Nat) (st op : Value) (w0 : World) (first : Bool) (k : Nat) (f : Nat → BitVec 64) (wr : World) : Prop where
  rd : Rd b p k st op wr
  bs : BSb B f wr
  ch : Ch [b, B] w0 wr
  hk : k ≤ p.size
  e1 : first = true → k = k1 ∧ ∀ c, bitS f c = false
  e2 : first = false → ∃ r, elemF p.data.toList k1 = some r ∧ setL p.data.toList (p.data.toList.length + 1) r.2 r.1 = setL p.data.toList (p.data.toList.length + 1) k (bitS f)
theorem el_none {b B : Nat} {p : ByteArray} {k : Nat} {st op : Value} {f : Nat → BitVec 64} {e : Ending} {w' : World} (h : ElSaid b B p k st op f e w') (hn : elemF p.data.toList k = none) : e = .returned (.int .i64 4) ∧ ∃ k', Rd b p k' st op w' := by
  unfold ElSaid at h; rw [hn] at h; exact h
theorem el_some {b B : Nat} {p : ByteArray} {k : Nat} {st op : Value} {f : Nat → BitVec 64} {e : Ending} {w' : World} {r : (UInt8 → Bool) × Nat} (h : ElSaid b B p k st op f e w') (hn : elemF p.data.toList k = some r) : e = .returned (.int .i64 0) ∧ Rd b p r.2 st op w' ∧ ∃ f', BSb B f' w' ∧ ∀ c, bitS f' c = (bitS f c || r.1 c) := by
  unfold ElSaid at h; rw [hn] at h; exact h
/-- A round of the loop. -/
theorem SetInv.next {b B : Nat} {p : ByteArray} {k1 : Nat} {st op : Value} {w0 : World} {first : Bool} {k : Nat} {f f' : Nat → BitVec 64} {wr w' : World} {r : (UInt8 → Bool) × Nat} (h : SetInv b B p k1 st op w0 first k f wr) (hn : elemF p.data.toList k = some r) (h93 : first = false → ¬ p.data.toList[k]? = some 93)
    (hr : Rd b p r.2 st op w') (hb : BSb B f' w') (hf : ∀ c, bitS f' c = (bitS f c || r.1 c)) (hc : Ch [b, B] wr w') : SetInv b B p k1 st op w0 false r.2 f' w' := by
  have hl := elem_lt hn
  refine ⟨hr, hb, h.ch.trans hc, by simpa using hl.2, (fun e => by cases e), fun _ => ?_⟩
  cases first with
  | true =>
    obtain ⟨rfl, h0⟩ := h.e1 rfl
    refine ⟨r, hn, ?_⟩
    rw [show bitS f' = r.1 from funext fun c => by rw [hf, h0, Bool.false_or]]
  | false =>
    obtain ⟨u, hu, h2⟩ := h.e2 rfl
    refine ⟨u, hu, h2.trans ?_⟩
    rw [show bitS f' = fun c => bitS f c || r.1 c from funext hf]
    rw [setL, if_neg (h93 rfl), hn]
    exact setL_fuel _ _ _ _ (by omega) (by omega)
theorem SetInv.fail {b B : Nat} {p : ByteArray} {k k1 : Nat} {st op : Value} {w0 : World} {first : Bool} {f : Nat → BitVec 64} {wr : World} {k0 : Nat} (h : SetInv b B p k1 st op w0 first k f wr) (hk1 : k1 = if p.data.toList[k0]? = some 94 then k0 + 1 else k0) (h93 : first = false → ¬ p.data.toList[k]? = some 93) (hn : elemF p.data.toList k = none) : setF p.data.toList k0 = none := by
  unfold setF
  rw [← hk1]
  cases first with
  | true =>
    obtain ⟨rfl, _⟩ := h.e1 rfl
    rw [hn]
  | false =>
    obtain ⟨u, hu, h2⟩ := h.e2 rfl
    rw [hu]
    simp only []
    rw [h2, setL, if_neg (h93 rfl), hn]; rfl
theorem SetInv.done {b B : Nat} {p : ByteArray} {k k1 : Nat} {st op : Value} {w0 : World} {f : Nat → BitVec 64} {wr : World} {k0 : Nat} (h : SetInv b B p k1 st op w0 false k f wr) (hk1 : k1 = if p.data.toList[k0]? = some 94 then k0 + 1 else k0) (h93 : p.data.toList[k]? = some 93) : setF p.data.toList k0 = some ((fun c => bitS f c != decide (p.data.toList[k0]? = some 94)), k + 1) := by
  unfold setF
  rw [← hk1]
  obtain ⟨u, hu, h2⟩ := h.e2 rfl
  rw [hu]
  simp only []
  rw [h2, setL, if_pos h93]; rfl
theorem elem_out {l : List UInt8} {k : Nat} (h : l.length ≤ k) : elemF l k = none := by unfold elemF; rw [List.getElem?_eq_none h]
theorem set_new (w : World) (b : Nat) (p : ByteArray) (k : Nat) (st op : Value) (hb : Rd b p k st op w) (hk : k ≤ p.size) : BSb w.heap.size f00 (w.alloc (.cells #[.int .u64 0, .int .u64 0, .int .u64 0, .int .u64 0] 131)) ∧ Rd b p k st op (w.alloc (.cells #[.int .u64 0, .int .u64 0, .int .u64 0, .int .u64 0] 131)) :=
  ⟨by unfold BSb; rw [heap_new]; rfl, by have := hb.lt; unfold Rd at *; rw [Below.heap_alloc _ _ _ this]; exact hb⟩
def atOf4 (b : Nat) (w : World) : Nat := match w.cell? ⟨b, 1, none⟩ with | some v => (intOf v).toNat | none => 0
theorem Rd.atOf {b : Nat} {p : ByteArray} {k : Nat} {st op : Value} {w : World} (h : Rd b p k st op w) : atOf4 b w = k := by unfold atOf4; rw [h.c1]; simp [intOf]

set_option maxHeartbeats 4000000 in
set_option maxRecDepth 100000 in
theorem set_neg (b : Nat) (p : ByteArray) (k : Nat) (st op : Value) (w : World) (hp : p.size ≤ 1000000) (hk : k ≤ p.size) (h : Rd b p k st op w) (hc : p.data.toList[k]? = some 94) :
    Calls Tryd.prog 71 #[.pointer (some ⟨b, 0, none⟩)] w fun e w' => SetSaid b p k st op w.heap.size e w' ∧ Ch [b] w w' := by
  have hmf := mk_func
  have hll : p.data.toList.length = p.size := Array.length_toList
  have hbl := h.lt
  obtain ⟨n1, n2⟩ := set_new w b p k st op h hk
  have S0 := skip4_lit b p k st op 94 94 rfl (w.alloc (.cells #[.int .u64 0, .int .u64 0, .int .u64 0, .int .u64 0] 131)) hp hk n2
  rw [if_pos hc, decide_eq_true hc] at S0
  have S1 := Lib.hid S0
  have HN1 := Lib.hid n1
  have HK1 : Hid (k + 1 = if p.data.toList[k]? = some 94 then k + 1 else k) := Lib.hid (by rw [if_pos hc])
  have HK1s : k + 1 ≤ p.size := by have := getElem?_lt hc; omega
  have HDD : Hid (decide (p.data.toList[k]? = some 94) = true) := Lib.hid (decide_eq_true hc)
  clear S0 n1 n2 h hc
  obtain ⟨B, hBe⟩ : ∃ B, w.heap.size = B := ⟨_, rfl⟩
  rw [hBe]
  go_enter Tryd.func71, Tryd.ntmps71
  go_wp2_with (go_at_call 43; (with_reducible refine (S1.out).mono ?_); rintro e w1 ⟨rfl, h1, hg1⟩)
  have hB1 := HN1.out.grown hg1 (by simp; omega)
  have HS1 : Hid (w.heap.size < w1.heap.size) := Lib.hid (by have := hg1.size; simp at this; omega)
  have HC1 : Hid (Ch [b] w w1) := Lib.hid (Ch.trans ((Ch.refl [b] w).alloc _) (Ch.of_grown hg1 (by simp)))
  have hbB : b ≠ w.heap.size := by omega
  rw [hBe] at hB1 HS1 hbB
  (try simp only [hBe])
  have hBn : b ∉ [B] := by simp; omega
  have HI0 : Hid (SetInv b B p (k + 1) st op w1 true (k + 1) f00 w1) := Lib.hid ⟨h1, hB1, Ch.refl _ _, HK1s, fun _ => ⟨rfl, f00_bit⟩, fun e => by cases e⟩
  have HBE : Hid (w.heap.size ≤ B) := Lib.hid (by omega)
  have HBE2 : Hid (B ≤ w.heap.size) := Lib.hid (by omega)
  clear h1 hg1 hB1 HN1 S1 hBe
  go_loopw [6] (fun vf wr => ∃ (first : Bool) (j : Nat) (f : Nat → BitVec 64), vf = .bool first ∧ Hid (SetInv b B p (k + 1) st op w1 first j f wr)) (fun vf wr => (match vf with | .bool true => 1 | _ => 0) + (2 * p.size + 2 - 2 * atOf4 b wr))
  case atStart => exact ⟨true, _, f00, rfl, HI0⟩
  case round =>
    obtain ⟨first, j, f, rfl, HI⟩ := hrel
    rename World => W0
    clear HI0
    have hj := HI.out.hk
    have hat := HI.out.rd.atOf
    have HAT := Lib.hid hat
    clear hat
    have fail : ∀ (W : World) (kk : Nat), (first = false → ¬ p.data.toList[j]? = some 93) → elemF p.data.toList j = none → Rd b p kk st op W → Ch [b, B] w1 W → (SetSaid b p k st op B (.returned (.tuple #[.nilFunc, .int .i64 4])) W ∧ Ch [b] w W) := fun W kk h93 hn hR hC => by
      have := HI.out.fail HK1.out h93 hn
      refine ⟨?_, Ch.new HC1.out HBE.out (hC.mono (by intro g hg; simp at hg ⊢; omega))⟩
      unfold SetSaid
      rw [this]
      exact ⟨rfl, _, hR⟩
    have FAIL := Lib.hid fail
    clear fail
    cases first with
    | true =>
      have m0 := HI.out.rd.c0
      have m1 := HI.out.rd.c1
      have HD := Lib.hid fun n => HI.out.rd.drewN n
      have HDC := Lib.hid fun n => HI.out.ch.drewN n
      by_cases hjs : j < p.size
      · have q1 : ((j : Int) == (p.size : Int)) = false := by rw [beq_eq_false_iff_ne]; omega
        have E1 := Lib.hid fun (n : Nat) => element_any b B p j st op f (W0.drewN n) hp hjs (HI.out.rd.drewN n) (HI.out.bs.drewN n) hbB
        cases hn : elemF p.data.toList j with
        | none =>
          have HN := Lib.hid hn
          clear hn
          have E2 := Lib.hid fun n => (E1.out n).mono fun e w' (h : _ ∧ _) => (⟨(el_none h.1 HN.out).1, (el_none h.1 HN.out).2, h.2⟩ : e = .returned (.int .i64 4) ∧ (∃ k', Rd b p k' st op w') ∧ Ch [b, B] (W0.drewN n) w')
          go_wp2
          go_quiet (fail)
          go_wp2_with (go_at_call 85; (with_reducible refine (E2.out _).mono ?_); rintro e w2 ⟨rfl, ⟨k', h2⟩, hc2⟩)
          go_ret2
          exact FAIL.out _ _ (fun e => by cases e) HN.out h2 ((HDC.out _).trans hc2)
        | some r =>
          have HN := Lib.hid hn
          clear hn
          have E2 := Lib.hid fun n => (E1.out n).mono fun e w' (h : _ ∧ _) => (⟨(el_some h.1 HN.out).1, (el_some h.1 HN.out).2.1, (el_some h.1 HN.out).2.2, h.2⟩ : e = .returned (.int .i64 0) ∧ Rd b p r.2 st op w' ∧ (∃ f', BSb B f' w' ∧ ∀ c, bitS f' c = (bitS f c || r.1 c)) ∧ Ch [b, B] (W0.drewN n) w')
          go_wp2
          go_quiet (fail)
          go_wp2_with (go_at_call 85; (with_reducible refine (E2.out _).mono ?_); rintro e w2 ⟨rfl, h2, ⟨f', h3, h4⟩, hc2⟩)
          have hl := elem_lt HN.out
          go_roundw
          case rel => exact ⟨false, r.2, f', rfl, Lib.hid (HI.out.next HN.out (fun e => by cases e) h2 h3 h4 ((Ch.drewN (Ch.refl _ _) _).trans hc2))⟩
          case measure => rw [h2.atOf, HAT.out]; simp; omega
      · have q1 : ((j : Int) == (p.size : Int)) = true := by rw [beq_iff_eq]; omega
        go_wp2
        go_quiet (fail)
        go_wp2
        go_ret2
        exact FAIL.out _ _ (fun e => by cases e) (elem_out (by omega)) (HD.out _) (HDC.out _)
    | false =>
      have S2 := skip4_lit b p j st op 93 93 rfl W0 hp hj HI.out.rd
      by_cases h93 : p.data.toList[j]? = some 93
      · rw [if_pos h93, decide_eq_true h93] at S2
        have S3 := Lib.hid S2
        have HF := Lib.hid (HI.out.done HK1.out h93)
        have HL := Lib.hid h93
        clear S2 h93
        go_wp2_with (go_at_call 43; (with_reducible refine (S3.out).mono ?_); rintro e w2 ⟨rfl, h2, hg2⟩)
        go_ret2
        refine ⟨?_, Ch.new HC1.out HBE.out ((HI.out.ch.trans (Ch.of_grown hg2 (by simp))).mono (by intro g hg; simp at hg ⊢; omega))⟩
        unfold SetSaid
        rw [HF.out, HDD.out]
        refine ⟨_, rfl, h2, ?_⟩
        exact (tv_hasnot (Nat.le_refl _) (by have := HS1.out; have := HI.out.ch.size; have := hg2.size; omega) (Nat.le_refl _) (HI.out.bs.grown hg2 (by simp; omega))).congr (fun c => by simp)
      · rw [if_neg h93, decide_eq_false h93] at S2
        have S3 := Lib.hid S2
        have HL := Lib.hid h93
        clear S2 h93
        by_cases hjs : j < p.size
        · have q1 : ((j : Int) == (p.size : Int)) = false := by rw [beq_eq_false_iff_ne]; omega
          cases hn : elemF p.data.toList j with
          | none =>
            have HN := Lib.hid hn
            clear hn
            have E2 := Lib.hid fun (W : World) (h1 : Rd b p j st op W) (h2 : BSb B f W) => (element_any b B p j st op f W hp hjs h1 h2 hbB).mono fun e w' (h : _ ∧ _) => (⟨(el_none h.1 HN.out).1, (el_none h.1 HN.out).2, h.2⟩ : e = .returned (.int .i64 4) ∧ (∃ k', Rd b p k' st op w') ∧ Ch [b, B] W w')
            go_upto_region 8 with (go_at_call 43; (with_reducible refine (S3.out).mono ?_); rintro e w2 ⟨rfl, h2, hg2⟩)
            have m0 := h2.c0
            have m1 := h2.c1
            go_quiet (fail)
            go_upto_region 10 with fail
            go_name_world V hV
            have E3 := Lib.hid (E2.out V (by rw [← hV]; exact h2.drewN _) (by rw [← hV]; exact (HI.out.bs.grown hg2 (by simp; omega)).drewN _))
            have HCV : Hid (Ch [b, B] w1 V) := Lib.hid (by rw [← hV]; exact (HI.out.ch.trans (Ch.of_grown hg2 (by simp))).drewN _)
            clear hV h2 hg2 m0 m1
            go_wp2_with (go_at_call 85; (with_reducible refine (E3.out).mono ?_); rintro e w3 ⟨rfl, ⟨k', h3⟩, hc3⟩)
            go_ret2
            exact FAIL.out _ _ (fun _ => HL.out) HN.out h3 (HCV.out.trans hc3)
          | some r =>
            have HN := Lib.hid hn
            clear hn
            have E2 := Lib.hid fun (W : World) (h1 : Rd b p j st op W) (h2 : BSb B f W) => (element_any b B p j st op f W hp hjs h1 h2 hbB).mono fun e w' (h : _ ∧ _) => (⟨(el_some h.1 HN.out).1, (el_some h.1 HN.out).2.1, (el_some h.1 HN.out).2.2, h.2⟩ : e = .returned (.int .i64 0) ∧ Rd b p r.2 st op w' ∧ (∃ f', BSb B f' w' ∧ ∀ c, bitS f' c = (bitS f c || r.1 c)) ∧ Ch [b, B] W w')
            go_upto_region 8 with (go_at_call 43; (with_reducible refine (S3.out).mono ?_); rintro e w2 ⟨rfl, h2, hg2⟩)
            have m0 := h2.c0
            have m1 := h2.c1
            go_quiet (fail)
            go_upto_region 10 with fail
            go_name_world V hV
            have E3 := Lib.hid (E2.out V (by rw [← hV]; exact h2.drewN _) (by rw [← hV]; exact (HI.out.bs.grown hg2 (by simp; omega)).drewN _))
            have HCV : Hid (Ch [b, B] W0 V) := Lib.hid (by rw [← hV]; exact (Ch.of_grown hg2 (by simp)).drewN _)
            clear hV h2 hg2 m0 m1
            go_wp2_with (go_at_call 85; (with_reducible refine (E3.out).mono ?_); rintro e w3 ⟨rfl, h3, ⟨f', h4, h5⟩, hc3⟩)
            have hl := elem_lt HN.out
            go_roundw
            case rel => exact ⟨false, r.2, f', rfl, Lib.hid (HI.out.next HN.out (fun _ => HL.out) h3 h4 h5 (HCV.out.trans hc3))⟩
            case measure => rw [h3.atOf, HAT.out]; simp; omega
        · have q1 : ((j : Int) == (p.size : Int)) = true := by rw [beq_iff_eq]; omega
          go_upto_region 8 with (go_at_call 43; (with_reducible refine (S3.out).mono ?_); rintro e w2 ⟨rfl, h2, hg2⟩)
          have m0 := h2.c0
          have m1 := h2.c1
          have HCV := Lib.hid fun n => Ch.drewN (HI.out.ch.trans (Ch.of_grown hg2 (by simp))) n
          have HRV := Lib.hid fun n => h2.drewN n
          clear hg2
          go_quiet (fail)
          go_wp2
          go_ret2
          exact FAIL.out _ _ (fun _ => HL.out) (elem_out (by omega)) (HRV.out _) (HCV.out _)

set_option maxHeartbeats 4000000 in
set_option maxRecDepth 100000 in
theorem set_pos (b : Nat) (p : ByteArray) (k : Nat) (st op : Value) (w : World) (hp : p.size ≤ 1000000) (hk : k ≤ p.size) (h : Rd b p k st op w) (hc : ¬ p.data.toList[k]? = some 94) :
    Calls Tryd.prog 71 #[.pointer (some ⟨b, 0, none⟩)] w fun e w' => SetSaid b p k st op w.heap.size e w' ∧ Ch [b] w w' := by
  have hmf := mk_func
  have hll : p.data.toList.length = p.size := Array.length_toList
  have hbl := h.lt
  obtain ⟨n1, n2⟩ := set_new w b p k st op h hk
  have S0 := skip4_lit b p k st op 94 94 rfl (w.alloc (.cells #[.int .u64 0, .int .u64 0, .int .u64 0, .int .u64 0] 131)) hp hk n2
  rw [if_neg hc, decide_eq_false hc] at S0
  have S1 := Lib.hid S0
  have HN1 := Lib.hid n1
  have HK1 : Hid (k = if p.data.toList[k]? = some 94 then k + 1 else k) := Lib.hid (by rw [if_neg hc])
  have HK1s : k ≤ p.size := by exact hk
  have HDD : Hid (decide (p.data.toList[k]? = some 94) = false) := Lib.hid (decide_eq_false hc)
  clear S0 n1 n2 h hc
  obtain ⟨B, hBe⟩ : ∃ B, w.heap.size = B := ⟨_, rfl⟩
  rw [hBe]
  go_enter Tryd.func71, Tryd.ntmps71
  go_wp2_with (go_at_call 43; (with_reducible refine (S1.out).mono ?_); rintro e w1 ⟨rfl, h1, hg1⟩)
  have hB1 := HN1.out.grown hg1 (by simp; omega)
  have HS1 : Hid (w.heap.size < w1.heap.size) := Lib.hid (by have := hg1.size; simp at this; omega)
  have HC1 : Hid (Ch [b] w w1) := Lib.hid (Ch.trans ((Ch.refl [b] w).alloc _) (Ch.of_grown hg1 (by simp)))
  have hbB : b ≠ w.heap.size := by omega
  rw [hBe] at hB1 HS1 hbB
  (try simp only [hBe])
  have hBn : b ∉ [B] := by simp; omega
  have HI0 : Hid (SetInv b B p (k) st op w1 true (k) f00 w1) := Lib.hid ⟨h1, hB1, Ch.refl _ _, HK1s, fun _ => ⟨rfl, f00_bit⟩, fun e => by cases e⟩
  have HBE : Hid (w.heap.size ≤ B) := Lib.hid (by omega)
  have HBE2 : Hid (B ≤ w.heap.size) := Lib.hid (by omega)
  clear h1 hg1 hB1 HN1 S1 hBe
  go_loopw [6] (fun vf wr => ∃ (first : Bool) (j : Nat) (f : Nat → BitVec 64), vf = .bool first ∧ Hid (SetInv b B p (k) st op w1 first j f wr)) (fun vf wr => (match vf with | .bool true => 1 | _ => 0) + (2 * p.size + 2 - 2 * atOf4 b wr))
  case atStart => exact ⟨true, _, f00, rfl, HI0⟩
  case round =>
    obtain ⟨first, j, f, rfl, HI⟩ := hrel
    rename World => W0
    clear HI0
    have hj := HI.out.hk
    have hat := HI.out.rd.atOf
    have HAT := Lib.hid hat
    clear hat
    have fail : ∀ (W : World) (kk : Nat), (first = false → ¬ p.data.toList[j]? = some 93) → elemF p.data.toList j = none → Rd b p kk st op W → Ch [b, B] w1 W → (SetSaid b p k st op B (.returned (.tuple #[.nilFunc, .int .i64 4])) W ∧ Ch [b] w W) := fun W kk h93 hn hR hC => by
      have := HI.out.fail HK1.out h93 hn
      refine ⟨?_, Ch.new HC1.out HBE.out (hC.mono (by intro g hg; simp at hg ⊢; omega))⟩
      unfold SetSaid
      rw [this]
      exact ⟨rfl, _, hR⟩
    have FAIL := Lib.hid fail
    clear fail
    cases first with
    | true =>
      have m0 := HI.out.rd.c0
      have m1 := HI.out.rd.c1
      have HD := Lib.hid fun n => HI.out.rd.drewN n
      have HDC := Lib.hid fun n => HI.out.ch.drewN n
      by_cases hjs : j < p.size
      · have q1 : ((j : Int) == (p.size : Int)) = false := by rw [beq_eq_false_iff_ne]; omega
        have E1 := Lib.hid fun (n : Nat) => element_any b B p j st op f (W0.drewN n) hp hjs (HI.out.rd.drewN n) (HI.out.bs.drewN n) hbB
        cases hn : elemF p.data.toList j with
        | none =>
          have HN := Lib.hid hn
          clear hn
          have E2 := Lib.hid fun n => (E1.out n).mono fun e w' (h : _ ∧ _) => (⟨(el_none h.1 HN.out).1, (el_none h.1 HN.out).2, h.2⟩ : e = .returned (.int .i64 4) ∧ (∃ k', Rd b p k' st op w') ∧ Ch [b, B] (W0.drewN n) w')
          go_wp2
          go_quiet (fail)
          go_wp2_with (go_at_call 85; (with_reducible refine (E2.out _).mono ?_); rintro e w2 ⟨rfl, ⟨k', h2⟩, hc2⟩)
          go_ret2
          exact FAIL.out _ _ (fun e => by cases e) HN.out h2 ((HDC.out _).trans hc2)
        | some r =>
          have HN := Lib.hid hn
          clear hn
          have E2 := Lib.hid fun n => (E1.out n).mono fun e w' (h : _ ∧ _) => (⟨(el_some h.1 HN.out).1, (el_some h.1 HN.out).2.1, (el_some h.1 HN.out).2.2, h.2⟩ : e = .returned (.int .i64 0) ∧ Rd b p r.2 st op w' ∧ (∃ f', BSb B f' w' ∧ ∀ c, bitS f' c = (bitS f c || r.1 c)) ∧ Ch [b, B] (W0.drewN n) w')
          go_wp2
          go_quiet (fail)
          go_wp2_with (go_at_call 85; (with_reducible refine (E2.out _).mono ?_); rintro e w2 ⟨rfl, h2, ⟨f', h3, h4⟩, hc2⟩)
          have hl := elem_lt HN.out
          go_roundw
          case rel => exact ⟨false, r.2, f', rfl, Lib.hid (HI.out.next HN.out (fun e => by cases e) h2 h3 h4 ((Ch.drewN (Ch.refl _ _) _).trans hc2))⟩
          case measure => rw [h2.atOf, HAT.out]; simp; omega
      · have q1 : ((j : Int) == (p.size : Int)) = true := by rw [beq_iff_eq]; omega
        go_wp2
        go_quiet (fail)
        go_wp2
        go_ret2
        exact FAIL.out _ _ (fun e => by cases e) (elem_out (by omega)) (HD.out _) (HDC.out _)
    | false =>
      have S2 := skip4_lit b p j st op 93 93 rfl W0 hp hj HI.out.rd
      by_cases h93 : p.data.toList[j]? = some 93
      · rw [if_pos h93, decide_eq_true h93] at S2
        have S3 := Lib.hid S2
        have HF := Lib.hid (HI.out.done HK1.out h93)
        have HL := Lib.hid h93
        clear S2 h93
        go_wp2_with (go_at_call 43; (with_reducible refine (S3.out).mono ?_); rintro e w2 ⟨rfl, h2, hg2⟩)
        go_ret2
        refine ⟨?_, Ch.new HC1.out HBE.out ((HI.out.ch.trans (Ch.of_grown hg2 (by simp))).mono (by intro g hg; simp at hg ⊢; omega))⟩
        unfold SetSaid
        rw [HF.out, HDD.out]
        refine ⟨_, rfl, h2, ?_⟩
        exact (tv_has (Nat.le_refl _) (by have := HS1.out; have := HI.out.ch.size; have := hg2.size; omega) (Nat.le_refl _) (HI.out.bs.grown hg2 (by simp; omega))).congr (fun c => by simp)
      · rw [if_neg h93, decide_eq_false h93] at S2
        have S3 := Lib.hid S2
        have HL := Lib.hid h93
        clear S2 h93
        by_cases hjs : j < p.size
        · have q1 : ((j : Int) == (p.size : Int)) = false := by rw [beq_eq_false_iff_ne]; omega
          cases hn : elemF p.data.toList j with
          | none =>
            have HN := Lib.hid hn
            clear hn
            have E2 := Lib.hid fun (W : World) (h1 : Rd b p j st op W) (h2 : BSb B f W) => (element_any b B p j st op f W hp hjs h1 h2 hbB).mono fun e w' (h : _ ∧ _) => (⟨(el_none h.1 HN.out).1, (el_none h.1 HN.out).2, h.2⟩ : e = .returned (.int .i64 4) ∧ (∃ k', Rd b p k' st op w') ∧ Ch [b, B] W w')
            go_upto_region 8 with (go_at_call 43; (with_reducible refine (S3.out).mono ?_); rintro e w2 ⟨rfl, h2, hg2⟩)
            have m0 := h2.c0
            have m1 := h2.c1
            go_quiet (fail)
            go_upto_region 10 with fail
            go_name_world V hV
            have E3 := Lib.hid (E2.out V (by rw [← hV]; exact h2.drewN _) (by rw [← hV]; exact (HI.out.bs.grown hg2 (by simp; omega)).drewN _))
            have HCV : Hid (Ch [b, B] w1 V) := Lib.hid (by rw [← hV]; exact (HI.out.ch.trans (Ch.of_grown hg2 (by simp))).drewN _)
            clear hV h2 hg2 m0 m1
            go_wp2_with (go_at_call 85; (with_reducible refine (E3.out).mono ?_); rintro e w3 ⟨rfl, ⟨k', h3⟩, hc3⟩)
            go_ret2
            exact FAIL.out _ _ (fun _ => HL.out) HN.out h3 (HCV.out.trans hc3)
          | some r =>
            have HN := Lib.hid hn
            clear hn
            have E2 := Lib.hid fun (W : World) (h1 : Rd b p j st op W) (h2 : BSb B f W) => (element_any b B p j st op f W hp hjs h1 h2 hbB).mono fun e w' (h : _ ∧ _) => (⟨(el_some h.1 HN.out).1, (el_some h.1 HN.out).2.1, (el_some h.1 HN.out).2.2, h.2⟩ : e = .returned (.int .i64 0) ∧ Rd b p r.2 st op w' ∧ (∃ f', BSb B f' w' ∧ ∀ c, bitS f' c = (bitS f c || r.1 c)) ∧ Ch [b, B] W w')
            go_upto_region 8 with (go_at_call 43; (with_reducible refine (S3.out).mono ?_); rintro e w2 ⟨rfl, h2, hg2⟩)
            have m0 := h2.c0
            have m1 := h2.c1
            go_quiet (fail)
            go_upto_region 10 with fail
            go_name_world V hV
            have E3 := Lib.hid (E2.out V (by rw [← hV]; exact h2.drewN _) (by rw [← hV]; exact (HI.out.bs.grown hg2 (by simp; omega)).drewN _))
            have HCV : Hid (Ch [b, B] W0 V) := Lib.hid (by rw [← hV]; exact (Ch.of_grown hg2 (by simp)).drewN _)
            clear hV h2 hg2 m0 m1
            go_wp2_with (go_at_call 85; (with_reducible refine (E3.out).mono ?_); rintro e w3 ⟨rfl, h3, ⟨f', h4, h5⟩, hc3⟩)
            have hl := elem_lt HN.out
            go_roundw
            case rel => exact ⟨false, r.2, f', rfl, Lib.hid (HI.out.next HN.out (fun _ => HL.out) h3 h4 h5 (HCV.out.trans hc3))⟩
            case measure => rw [h3.atOf, HAT.out]; simp; omega
        · have q1 : ((j : Int) == (p.size : Int)) = true := by rw [beq_iff_eq]; omega
          go_upto_region 8 with (go_at_call 43; (with_reducible refine (S3.out).mono ?_); rintro e w2 ⟨rfl, h2, hg2⟩)
          have m0 := h2.c0
          have m1 := h2.c1
          have HCV := Lib.hid fun n => Ch.drewN (HI.out.ch.trans (Ch.of_grown hg2 (by simp))) n
          have HRV := Lib.hid fun n => h2.drewN n
          clear hg2
          go_quiet (fail)
          go_wp2
          go_ret2
          exact FAIL.out _ _ (fun _ => HL.out) (elem_out (by omega)) (HRV.out _) (HCV.out _)

theorem set_any (b : Nat) (p : ByteArray) (k : Nat) (st op : Value) (w : World) (hp : p.size ≤ 1000000) (hk : k ≤ p.size) (h : Rd b p k st op w) :
    Calls Tryd.prog 71 #[.pointer (some ⟨b, 0, none⟩)] w fun e w' => SetSaid b p k st op w.heap.size e w' ∧ Ch [b] w w' := by
  by_cases hc : p.data.toList[k]? = some 94
  · exact set_neg b p k st op w hp hk h hc
  · exact set_pos b p k st op w hp hk h hc
end Go.Proofs.YtkbcaklleiapdaaDoor
