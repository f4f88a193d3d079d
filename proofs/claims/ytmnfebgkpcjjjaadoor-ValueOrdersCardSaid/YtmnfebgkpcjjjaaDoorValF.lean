/- Contracts of layer 11: numbers of strings, the order of values. -/
import Derived.Test.YtmnfebgkpcjjjaaDoorValE
import Derived.Test.YtmnfebgkpcjjjaaDoorRatF
import Derived.Laws.Strings
namespace Go.Proofs.YtmnfebgkpcjjjaaDoor
open Go.RowKit M1 M2
set_option linter.unusedVariables false
theorem bl_step {a b : List UInt8} {i : Nat} (ha : i < a.length) (hb : i < b.length) : Op.bytesLess (a.drop i) (b.drop i) = (decide (a[i] < b[i]) || (a[i] == b[i] && Op.bytesLess (a.drop (i + 1)) (b.drop (i + 1)))) := by
  rw [List.drop_eq_getElem_cons ha, List.drop_eq_getElem_cons hb]; rfl
theorem bl_end {a b : List UInt8} {i : Nat} (h : ¬ (i < a.length ∧ i < b.length)) (ha : i ≤ a.length) (hb : i ≤ b.length) : Op.bytesLess (a.drop i) (b.drop i) = decide (a.length < b.length) := by
  by_cases h1 : i < b.length
  · have h2 : i = a.length := by omega
    rw [h2, List.drop_length, decide_eq_true (by omega)]
    have : b.drop a.length ≠ [] := by intro e; have := congrArg List.length e; simp at this; omega
    cases hd : b.drop a.length with
    | nil => exact absurd hd this
    | cons x t => rfl
  · have h2 : i = b.length := by omega
    rw [h2, List.drop_length, decide_eq_false (by omega)]
    cases a.drop b.length <;> rfl
set_option maxHeartbeats 1000000 in
theorem before_any (a b : ByteArray) (w : World) (hsa : a.size ≤ 4000000000) (hsb : b.size ≤ 4000000000) :
    Calls Tryd.prog 45 #[.string a, .string b] w fun e w' => e = .returned (.bool (Op.bytesLess a.data.toList b.data.toList)) ∧ Below w.heap.size w w' := by
  have hla : a.data.toList.length = a.size := by simp
  have hlb : b.data.toList.length = b.size := by simp
  have HP := Lib.hid hla
  have HQ := Lib.hid hlb
  clear hla hlb
  go_enter Tryd.func45, Tryd.ntmps45
  go_wp2
  go_loopw [5] (fun i wr => ∃ j : Nat, (j ≤ a.size ∧ j ≤ b.size) ∧ i = .int .i64 j ∧ Hid (Op.bytesLess a.data.toList b.data.toList = Op.bytesLess (a.data.toList.drop j) (b.data.toList.drop j)) ∧ Hid (Below w.heap.size w wr)) (fun i _ => a.size - (intOf i).toNat)
  case atStart => exact ⟨0, ⟨Nat.zero_le _, Nat.zero_le _⟩, rfl, Lib.hid rfl, Lib.hid (Below.refl _ _)⟩
  case round =>
    obtain ⟨j, ⟨hja, hjb⟩, rfl, HL, HB⟩ := hrel
    rename World => W0
    by_cases h1 : j < a.size
    · have d1 : (j : Int) < (a.size : Int) := by omega
      by_cases h2 : j < b.size
      · have d2 : (j : Int) < (b.size : Int) := by omega
        have hst := bl_step (a := a.data.toList) (b := b.data.toList) (i := j) (by have := HP.out; omega) (by have := HQ.out; omega)
        rw [show a.data.toList[j]'(by have := HP.out; omega) = a[j] from rfl, show b.data.toList[j]'(by have := HQ.out; omega) = b[j] from rfl] at hst
        by_cases hc : a[j] = b[j]
        · have c : ((a[j].toNat : Int) != (b[j].toNat : Int)) = false := by rw [bne_eq_false_iff_eq, hc]
          have HL2 : Hid (Op.bytesLess a.data.toList b.data.toList = Op.bytesLess (a.data.toList.drop (j + 1)) (b.data.toList.drop (j + 1))) := Lib.hid (by
            rw [HL.out, hst, hc]; simp)
          have HBD := Lib.hid fun n => below_drewN HB.out n
          clear hst hc HL
          go_wp2
          go_quiet (fail)
          go_wp2
          go_roundw
          case rel => exact ⟨j + 1, ⟨by omega, by omega⟩, by go_num, HL2, Lib.hid (HBD.out _)⟩
          case measure => simp [intOf]; omega
        · have hn : a[j].toNat ≠ b[j].toNat := fun e => hc (UInt8.toNat_inj.1 e)
          have c : ((a[j].toNat : Int) != (b[j].toNat : Int)) = true := by rw [bne_iff_ne]; intro e; exact hn (by omega)
          have HBD := Lib.hid fun n => below_drewN HB.out n
          have HL2 : Hid (Op.bytesLess a.data.toList b.data.toList = decide (a[j].toNat < b[j].toNat)) := Lib.hid (by
            rw [HL.out, hst, show (a[j] == b[j]) = false from by rw [beq_eq_false_iff_ne]; exact hc, Bool.false_and, Bool.or_false]
            exact decide_eq_decide.2 UInt8.lt_iff_toNat_lt)
          by_cases hl : a[j].toNat < b[j].toNat
          · have d3 : (a[j].toNat : Int) < (b[j].toNat : Int) := by omega
            rw [decide_eq_true hl] at HL2
            clear hst hc HL hn
            go_wp2
            go_quiet (fail)
            go_wp2
            go_quiet (fail)
            go_wp2
            go_ret
            exact ⟨by rw [HL2.out] <;> rfl, below_drewN (HBD.out _) _⟩
          · have d3 : ¬ (a[j].toNat : Int) < (b[j].toNat : Int) := by omega
            rw [decide_eq_false hl] at HL2
            clear hst hc HL hn
            go_wp2
            go_quiet (fail)
            go_wp2
            go_quiet (fail)
            go_wp2
            go_ret
            exact ⟨by rw [HL2.out] <;> rfl, below_drewN (HBD.out _) _⟩
      · have d2 : ¬ (j : Int) < (b.size : Int) := by omega
        have HL2 : Hid (Op.bytesLess a.data.toList b.data.toList = false) := Lib.hid (by
          rw [HL.out, bl_end (by have := HP.out; have := HQ.out; omega) (by have := HP.out; omega) (by have := HQ.out; omega), HP.out, HQ.out]; exact decide_eq_false (by omega))
        have d3 : ¬ (a.size : Int) < (b.size : Int) := by omega
        clear HL
        go_wp2
        go_ret
        exact ⟨by rw [HL2.out] <;> rfl, HB.out⟩
    · have d1 : ¬ (j : Int) < (a.size : Int) := by omega
      have HL2 : Hid (Op.bytesLess a.data.toList b.data.toList = decide (a.size < b.size)) := Lib.hid (by
        rw [HL.out, bl_end (by have := HP.out; have := HQ.out; omega) (by have := HP.out; omega) (by have := HQ.out; omega), HP.out, HQ.out])
      by_cases hl : a.size < b.size
      · have d3 : (a.size : Int) < (b.size : Int) := by omega
        rw [decide_eq_true hl] at HL2
        clear HL
        go_wp2
        go_ret
        exact ⟨by rw [HL2.out] <;> rfl, HB.out⟩
      · have d3 : ¬ (a.size : Int) < (b.size : Int) := by omega
        rw [decide_eq_false hl] at HL2
        clear HL
        go_wp2
        go_ret
        exact ⟨by rw [HL2.out] <;> rfl, HB.out⟩
def lessB (k p q : Int) (s : ByteArray) (k' p' q' : Int) (s' : ByteArray) : Bool :=
  if ((decide (k = 2) && vld p q) && (decide (k' = 2) && vld p' q')) = true then decide (ratCmp p q p' q' < 0) else if k = 3 ∧ k' = 3 then Op.bytesLess s.data.toList s'.data.toList else false
def lessE (k p q k' p' q' : Int) : Int :=
  if ((decide (k = 2) && vld p q) && (decide (k' = 2) && vld p' q')) = true then 0 else if k = 3 ∧ k' = 3 then 0 else 8
theorem toList_data (s : ByteArray) : s.toList = s.data.toList := ByteArray.toList_eq s
set_option maxHeartbeats 1000000 in
theorem less_nt (k p q : Int) (s : ByteArray) (r : Int) (k' p' q' : Int) (s' : ByteArray) (r' : Int) (w : World) (h1 : (decide (k = 2) && vld p q) = true) (h2 : (decide (k' = 2) && vld p' q') = true) (hl : ratCmp p q p' q' < 0) :
    Calls Tryd.prog 19 #[.agg #[.int .i64 k, .int .i64 p, .int .i64 q, .string s, .int .i64 r], .agg #[.int .i64 k', .int .i64 p', .int .i64 q', .string s', .int .i64 r']] w fun e w' => e = .returned (.tuple #[.bool true, .int .i64 0]) ∧ Below w.heap.size w w' := by
  have Q1 : Hid (∀ w, Calls Tryd.prog 42 #[.agg #[.int .i64 k, .int .i64 p, .int .i64 q, .string s, .int .i64 r]] w fun e w' => e = .returned (.bool true) ∧ Below w.heap.size w w') := Lib.hid fun w => by rw [← h1]; exact isNum_any k p q s r w
  have Q2 : Hid (∀ w, Calls Tryd.prog 42 #[.agg #[.int .i64 k', .int .i64 p', .int .i64 q', .string s', .int .i64 r']] w fun e w' => e = .returned (.bool true) ∧ Below w.heap.size w w') := Lib.hid fun w => by rw [← h2]; exact isNum_any k' p' q' s' r' w
  have QC := Lib.hid fun w => cmp_any p q p' q' w
  have d : ratCmp p q p' q' < 0 := hl
  generalize ratCmp p q p' q' = c at *
  clear h1 h2 hl
  go_enter Tryd.func19, Tryd.ntmps19
  go_wp2_with (first | (go_at_call 42; (with_reducible refine (Q1.out _).mono ?_); rintro e w1 ⟨rfl, hb1⟩; obtain ⟨hc1, hf1⟩ := bcell hb1; have hz := hb1.size; (try simp at hz); (try (have z1_0 : w.heap.size < w1.heap.size := (by omega))); (try (have z1_1 : w.heap.size + 1 < w1.heap.size := (by omega))); clear hz; (try (have c1_0 : w1.cell? ⟨w.heap.size, 0, none⟩ = some (.int .i64 k) := by go_simp)); (try (have c1_1 : w1.cell? ⟨w.heap.size, 1, none⟩ = some (.int .i64 p) := by go_simp)); (try (have c1_2 : w1.cell? ⟨w.heap.size, 2, none⟩ = some (.int .i64 q) := by go_simp)); (try (have c1_3 : w1.cell? ⟨w.heap.size, 3, none⟩ = some (.string s) := by go_simp)); (try (have c1_4 : w1.cell? ⟨w.heap.size, 4, none⟩ = some (.int .i64 r) := by go_simp)); (try (have x1_0 : w1.cell? ⟨w.heap.size + 1, 0, none⟩ = some (.int .i64 k') := by go_simp)); (try (have x1_1 : w1.cell? ⟨w.heap.size + 1, 1, none⟩ = some (.int .i64 p') := by go_simp)); (try (have x1_2 : w1.cell? ⟨w.heap.size + 1, 2, none⟩ = some (.int .i64 q') := by go_simp)); (try (have x1_3 : w1.cell? ⟨w.heap.size + 1, 3, none⟩ = some (.string s') := by go_simp)); (try (have x1_4 : w1.cell? ⟨w.heap.size + 1, 4, none⟩ = some (.int .i64 r') := by go_simp))) | (go_at_call 42; (with_reducible refine (Q2.out _).mono ?_); rintro e w2 ⟨rfl, hb2⟩; obtain ⟨hc2, hf2⟩ := bcell hb2; have hz := hb2.size; (try simp at hz); (try (have z2_0 : w.heap.size < w2.heap.size := (by omega))); (try (have z2_1 : w.heap.size + 1 < w2.heap.size := (by omega))); (try (have y2_1 : w1.heap.size < w2.heap.size := (by omega))); clear hz; (try (have c2_0 : w2.cell? ⟨w.heap.size, 0, none⟩ = some (.int .i64 k) := by go_simp)); (try (have c2_1 : w2.cell? ⟨w.heap.size, 1, none⟩ = some (.int .i64 p) := by go_simp)); (try (have c2_2 : w2.cell? ⟨w.heap.size, 2, none⟩ = some (.int .i64 q) := by go_simp)); (try (have c2_3 : w2.cell? ⟨w.heap.size, 3, none⟩ = some (.string s) := by go_simp)); (try (have c2_4 : w2.cell? ⟨w.heap.size, 4, none⟩ = some (.int .i64 r) := by go_simp)); (try (have x2_0 : w2.cell? ⟨w.heap.size + 1, 0, none⟩ = some (.int .i64 k') := by go_simp)); (try (have x2_1 : w2.cell? ⟨w.heap.size + 1, 1, none⟩ = some (.int .i64 p') := by go_simp)); (try (have x2_2 : w2.cell? ⟨w.heap.size + 1, 2, none⟩ = some (.int .i64 q') := by go_simp)); (try (have x2_3 : w2.cell? ⟨w.heap.size + 1, 3, none⟩ = some (.string s') := by go_simp)); (try (have x2_4 : w2.cell? ⟨w.heap.size + 1, 4, none⟩ = some (.int .i64 r') := by go_simp))) | (go_at_call 43; (with_reducible refine (QC.out _).mono ?_); rintro e w3 ⟨rfl, hb3⟩; obtain ⟨hc3, hf3⟩ := bcell hb3; have hz := hb3.size; (try simp at hz); (try (have z3_0 : w.heap.size < w3.heap.size := (by omega))); (try (have z3_1 : w.heap.size + 1 < w3.heap.size := (by omega))); (try (have y3_1 : w1.heap.size < w3.heap.size := (by omega))); (try (have y3_2 : w2.heap.size < w3.heap.size := (by omega))); clear hz; (try (have c3_0 : w3.cell? ⟨w.heap.size, 0, none⟩ = some (.int .i64 k) := by go_simp)); (try (have c3_1 : w3.cell? ⟨w.heap.size, 1, none⟩ = some (.int .i64 p) := by go_simp)); (try (have c3_2 : w3.cell? ⟨w.heap.size, 2, none⟩ = some (.int .i64 q) := by go_simp)); (try (have c3_3 : w3.cell? ⟨w.heap.size, 3, none⟩ = some (.string s) := by go_simp)); (try (have c3_4 : w3.cell? ⟨w.heap.size, 4, none⟩ = some (.int .i64 r) := by go_simp)); (try (have x3_0 : w3.cell? ⟨w.heap.size + 1, 0, none⟩ = some (.int .i64 k') := by go_simp)); (try (have x3_1 : w3.cell? ⟨w.heap.size + 1, 1, none⟩ = some (.int .i64 p') := by go_simp)); (try (have x3_2 : w3.cell? ⟨w.heap.size + 1, 2, none⟩ = some (.int .i64 q') := by go_simp)); (try (have x3_3 : w3.cell? ⟨w.heap.size + 1, 3, none⟩ = some (.string s') := by go_simp)); (try (have x3_4 : w3.cell? ⟨w.heap.size + 1, 4, none⟩ = some (.int .i64 r') := by go_simp))))
  go_ret2
  refine ⟨rfl, ?_⟩
  repeat (first | exact Below.refl _ _ | refine below_drewN ?_ _ | refine Below.drew ?_ | refine Below.setCell ?_ (by first | omega | (simp; done) | (simp; omega)) _ | refine Below.alloc ?_ (by first | omega | (simp; done) | (simp; omega)) _ | refine vstep (by assumption) (by first | omega | (simp; done) | (simp; omega)) ?_)
set_option maxHeartbeats 1000000 in
theorem less_nf (k p q : Int) (s : ByteArray) (r : Int) (k' p' q' : Int) (s' : ByteArray) (r' : Int) (w : World) (h1 : (decide (k = 2) && vld p q) = true) (h2 : (decide (k' = 2) && vld p' q') = true) (hl : ¬ ratCmp p q p' q' < 0) :
    Calls Tryd.prog 19 #[.agg #[.int .i64 k, .int .i64 p, .int .i64 q, .string s, .int .i64 r], .agg #[.int .i64 k', .int .i64 p', .int .i64 q', .string s', .int .i64 r']] w fun e w' => e = .returned (.tuple #[.bool false, .int .i64 0]) ∧ Below w.heap.size w w' := by
  have Q1 : Hid (∀ w, Calls Tryd.prog 42 #[.agg #[.int .i64 k, .int .i64 p, .int .i64 q, .string s, .int .i64 r]] w fun e w' => e = .returned (.bool true) ∧ Below w.heap.size w w') := Lib.hid fun w => by rw [← h1]; exact isNum_any k p q s r w
  have Q2 : Hid (∀ w, Calls Tryd.prog 42 #[.agg #[.int .i64 k', .int .i64 p', .int .i64 q', .string s', .int .i64 r']] w fun e w' => e = .returned (.bool true) ∧ Below w.heap.size w w') := Lib.hid fun w => by rw [← h2]; exact isNum_any k' p' q' s' r' w
  have QC := Lib.hid fun w => cmp_any p q p' q' w
  have d : decide (ratCmp p q p' q' < 0) = false := decide_eq_false hl
  generalize ratCmp p q p' q' = c at *
  clear h1 h2 hl
  go_enter Tryd.func19, Tryd.ntmps19
  go_wp2_with (first | (go_at_call 42; (with_reducible refine (Q1.out _).mono ?_); rintro e w1 ⟨rfl, hb1⟩; obtain ⟨hc1, hf1⟩ := bcell hb1; have hz := hb1.size; (try simp at hz); (try (have z1_0 : w.heap.size < w1.heap.size := (by omega))); (try (have z1_1 : w.heap.size + 1 < w1.heap.size := (by omega))); clear hz; (try (have c1_0 : w1.cell? ⟨w.heap.size, 0, none⟩ = some (.int .i64 k) := by go_simp)); (try (have c1_1 : w1.cell? ⟨w.heap.size, 1, none⟩ = some (.int .i64 p) := by go_simp)); (try (have c1_2 : w1.cell? ⟨w.heap.size, 2, none⟩ = some (.int .i64 q) := by go_simp)); (try (have c1_3 : w1.cell? ⟨w.heap.size, 3, none⟩ = some (.string s) := by go_simp)); (try (have c1_4 : w1.cell? ⟨w.heap.size, 4, none⟩ = some (.int .i64 r) := by go_simp)); (try (have x1_0 : w1.cell? ⟨w.heap.size + 1, 0, none⟩ = some (.int .i64 k') := by go_simp)); (try (have x1_1 : w1.cell? ⟨w.heap.size + 1, 1, none⟩ = some (.int .i64 p') := by go_simp)); (try (have x1_2 : w1.cell? ⟨w.heap.size + 1, 2, none⟩ = some (.int .i64 q') := by go_simp)); (try (have x1_3 : w1.cell? ⟨w.heap.size + 1, 3, none⟩ = some (.string s') := by go_simp)); (try (have x1_4 : w1.cell? ⟨w.heap.size + 1, 4, none⟩ = some (.int .i64 r') := by go_simp))) | (go_at_call 42; (with_reducible refine (Q2.out _).mono ?_); rintro e w2 ⟨rfl, hb2⟩; obtain ⟨hc2, hf2⟩ := bcell hb2; have hz := hb2.size; (try simp at hz); (try (have z2_0 : w.heap.size < w2.heap.size := (by omega))); (try (have z2_1 : w.heap.size + 1 < w2.heap.size := (by omega))); (try (have y2_1 : w1.heap.size < w2.heap.size := (by omega))); clear hz; (try (have c2_0 : w2.cell? ⟨w.heap.size, 0, none⟩ = some (.int .i64 k) := by go_simp)); (try (have c2_1 : w2.cell? ⟨w.heap.size, 1, none⟩ = some (.int .i64 p) := by go_simp)); (try (have c2_2 : w2.cell? ⟨w.heap.size, 2, none⟩ = some (.int .i64 q) := by go_simp)); (try (have c2_3 : w2.cell? ⟨w.heap.size, 3, none⟩ = some (.string s) := by go_simp)); (try (have c2_4 : w2.cell? ⟨w.heap.size, 4, none⟩ = some (.int .i64 r) := by go_simp)); (try (have x2_0 : w2.cell? ⟨w.heap.size + 1, 0, none⟩ = some (.int .i64 k') := by go_simp)); (try (have x2_1 : w2.cell? ⟨w.heap.size + 1, 1, none⟩ = some (.int .i64 p') := by go_simp)); (try (have x2_2 : w2.cell? ⟨w.heap.size + 1, 2, none⟩ = some (.int .i64 q') := by go_simp)); (try (have x2_3 : w2.cell? ⟨w.heap.size + 1, 3, none⟩ = some (.string s') := by go_simp)); (try (have x2_4 : w2.cell? ⟨w.heap.size + 1, 4, none⟩ = some (.int .i64 r') := by go_simp))) | (go_at_call 43; (with_reducible refine (QC.out _).mono ?_); rintro e w3 ⟨rfl, hb3⟩; obtain ⟨hc3, hf3⟩ := bcell hb3; have hz := hb3.size; (try simp at hz); (try (have z3_0 : w.heap.size < w3.heap.size := (by omega))); (try (have z3_1 : w.heap.size + 1 < w3.heap.size := (by omega))); (try (have y3_1 : w1.heap.size < w3.heap.size := (by omega))); (try (have y3_2 : w2.heap.size < w3.heap.size := (by omega))); clear hz; (try (have c3_0 : w3.cell? ⟨w.heap.size, 0, none⟩ = some (.int .i64 k) := by go_simp)); (try (have c3_1 : w3.cell? ⟨w.heap.size, 1, none⟩ = some (.int .i64 p) := by go_simp)); (try (have c3_2 : w3.cell? ⟨w.heap.size, 2, none⟩ = some (.int .i64 q) := by go_simp)); (try (have c3_3 : w3.cell? ⟨w.heap.size, 3, none⟩ = some (.string s) := by go_simp)); (try (have c3_4 : w3.cell? ⟨w.heap.size, 4, none⟩ = some (.int .i64 r) := by go_simp)); (try (have x3_0 : w3.cell? ⟨w.heap.size + 1, 0, none⟩ = some (.int .i64 k') := by go_simp)); (try (have x3_1 : w3.cell? ⟨w.heap.size + 1, 1, none⟩ = some (.int .i64 p') := by go_simp)); (try (have x3_2 : w3.cell? ⟨w.heap.size + 1, 2, none⟩ = some (.int .i64 q') := by go_simp)); (try (have x3_3 : w3.cell? ⟨w.heap.size + 1, 3, none⟩ = some (.string s') := by go_simp)); (try (have x3_4 : w3.cell? ⟨w.heap.size + 1, 4, none⟩ = some (.int .i64 r') := by go_simp))))
  go_ret2
  refine ⟨rfl, ?_⟩
  repeat (first | exact Below.refl _ _ | refine below_drewN ?_ _ | refine Below.drew ?_ | refine Below.setCell ?_ (by first | omega | (simp; done) | (simp; omega)) _ | refine Below.alloc ?_ (by first | omega | (simp; done) | (simp; omega)) _ | refine vstep (by assumption) (by first | omega | (simp; done) | (simp; omega)) ?_)
set_option maxHeartbeats 1000000 in
theorem less_s (k p q : Int) (s : ByteArray) (r : Int) (k' p' q' : Int) (s' : ByteArray) (r' : Int) (w : World) (hk : k = 3) (hk' : k' = 3) :
    Calls Tryd.prog 19 #[.agg #[.int .i64 k, .int .i64 p, .int .i64 q, .string s, .int .i64 r], .agg #[.int .i64 k', .int .i64 p', .int .i64 q', .string s', .int .i64 r']] w fun e w' => e = .returned (.tuple #[(.bool (Op.bytesLess s.data.toList s'.data.toList)), .int .i64 0]) ∧ Below w.heap.size w w' := by
  subst hk hk'
  have h1 : (decide ((3 : Int) = 2) && vld p q) = false := rfl
  have Q1 : Hid (∀ w, Calls Tryd.prog 42 #[.agg #[.int .i64 3, .int .i64 p, .int .i64 q, .string s, .int .i64 r]] w fun e w' => e = .returned (.bool false) ∧ Below w.heap.size w w') := Lib.hid fun w => by rw [← h1]; exact isNum_any 3 p q s r w
  rw [← toList_data, ← toList_data]
  generalize hz : Op.bytesLess s.toList s'.toList = z
  clear h1
  go_enter Tryd.func19, Tryd.ntmps19
  go_wp2_with (go_at_call 42; (with_reducible refine (Q1.out _).mono ?_); rintro e w1 ⟨rfl, hb1⟩; obtain ⟨hc1, hf1⟩ := bcell hb1; have hz := hb1.size; (try simp at hz); (try (have z1_0 : w.heap.size < w1.heap.size := (by omega))); (try (have z1_1 : w.heap.size + 1 < w1.heap.size := (by omega))); clear hz; (try (have c1_0 : w1.cell? ⟨w.heap.size, 0, none⟩ = some (.int .i64 3) := by go_simp)); (try (have c1_1 : w1.cell? ⟨w.heap.size, 1, none⟩ = some (.int .i64 p) := by go_simp)); (try (have c1_2 : w1.cell? ⟨w.heap.size, 2, none⟩ = some (.int .i64 q) := by go_simp)); (try (have c1_3 : w1.cell? ⟨w.heap.size, 3, none⟩ = some (.string s) := by go_simp)); (try (have c1_4 : w1.cell? ⟨w.heap.size, 4, none⟩ = some (.int .i64 r) := by go_simp)); (try (have x1_0 : w1.cell? ⟨w.heap.size + 1, 0, none⟩ = some (.int .i64 3) := by go_simp)); (try (have x1_1 : w1.cell? ⟨w.heap.size + 1, 1, none⟩ = some (.int .i64 p') := by go_simp)); (try (have x1_2 : w1.cell? ⟨w.heap.size + 1, 2, none⟩ = some (.int .i64 q') := by go_simp)); (try (have x1_3 : w1.cell? ⟨w.heap.size + 1, 3, none⟩ = some (.string s') := by go_simp)); (try (have x1_4 : w1.cell? ⟨w.heap.size + 1, 4, none⟩ = some (.int .i64 r') := by go_simp)))
  go_ret2
  refine ⟨by simp, ?_⟩
  repeat (first | exact Below.refl _ _ | refine below_drewN ?_ _ | refine Below.drew ?_ | refine Below.setCell ?_ (by first | omega | (simp; done) | (simp; omega)) _ | refine Below.alloc ?_ (by first | omega | (simp; done) | (simp; omega)) _ | refine vstep (by assumption) (by first | omega | (simp; done) | (simp; omega)) ?_)
set_option maxHeartbeats 1000000 in
theorem less_fa (k p q : Int) (s : ByteArray) (r : Int) (k' p' q' : Int) (s' : ByteArray) (r' : Int) (w : World) (h1 : (decide (k = 2) && vld p q) = false) (hk : k ≠ 3) :
    Calls Tryd.prog 19 #[.agg #[.int .i64 k, .int .i64 p, .int .i64 q, .string s, .int .i64 r], .agg #[.int .i64 k', .int .i64 p', .int .i64 q', .string s', .int .i64 r']] w fun e w' => e = .returned (.tuple #[.bool false, .int .i64 8]) ∧ Below w.heap.size w w' := by
  have e3 : (k == 3) = false := by rw [beq_eq_false_iff_ne]; exact hk
  have Q1 : Hid (∀ w, Calls Tryd.prog 42 #[.agg #[.int .i64 k, .int .i64 p, .int .i64 q, .string s, .int .i64 r]] w fun e w' => e = .returned (.bool false) ∧ Below w.heap.size w w') := Lib.hid fun w => by rw [← h1]; exact isNum_any k p q s r w
  clear h1 hk
  go_enter Tryd.func19, Tryd.ntmps19
  go_wp2_with (go_at_call 42; (with_reducible refine (Q1.out _).mono ?_); rintro e w1 ⟨rfl, hb1⟩; obtain ⟨hc1, hf1⟩ := bcell hb1; have hz := hb1.size; (try simp at hz); (try (have z1_0 : w.heap.size < w1.heap.size := (by omega))); (try (have z1_1 : w.heap.size + 1 < w1.heap.size := (by omega))); clear hz; (try (have c1_0 : w1.cell? ⟨w.heap.size, 0, none⟩ = some (.int .i64 k) := by go_simp)); (try (have c1_1 : w1.cell? ⟨w.heap.size, 1, none⟩ = some (.int .i64 p) := by go_simp)); (try (have c1_2 : w1.cell? ⟨w.heap.size, 2, none⟩ = some (.int .i64 q) := by go_simp)); (try (have c1_3 : w1.cell? ⟨w.heap.size, 3, none⟩ = some (.string s) := by go_simp)); (try (have c1_4 : w1.cell? ⟨w.heap.size, 4, none⟩ = some (.int .i64 r) := by go_simp)); (try (have x1_0 : w1.cell? ⟨w.heap.size + 1, 0, none⟩ = some (.int .i64 k') := by go_simp)); (try (have x1_1 : w1.cell? ⟨w.heap.size + 1, 1, none⟩ = some (.int .i64 p') := by go_simp)); (try (have x1_2 : w1.cell? ⟨w.heap.size + 1, 2, none⟩ = some (.int .i64 q') := by go_simp)); (try (have x1_3 : w1.cell? ⟨w.heap.size + 1, 3, none⟩ = some (.string s') := by go_simp)); (try (have x1_4 : w1.cell? ⟨w.heap.size + 1, 4, none⟩ = some (.int .i64 r') := by go_simp)))
  go_ret2
  refine ⟨rfl, ?_⟩
  repeat (first | exact Below.refl _ _ | refine below_drewN ?_ _ | refine Below.drew ?_ | refine Below.setCell ?_ (by first | omega | (simp; done) | (simp; omega)) _ | refine Below.alloc ?_ (by first | omega | (simp; done) | (simp; omega)) _ | refine vstep (by assumption) (by first | omega | (simp; done) | (simp; omega)) ?_)
set_option maxHeartbeats 1000000 in
theorem less_fb (k p q : Int) (s : ByteArray) (r : Int) (k' p' q' : Int) (s' : ByteArray) (r' : Int) (w : World) (h1 : (decide (k = 2) && vld p q) = false) (hk : k = 3) (hk' : k' ≠ 3) :
    Calls Tryd.prog 19 #[.agg #[.int .i64 k, .int .i64 p, .int .i64 q, .string s, .int .i64 r], .agg #[.int .i64 k', .int .i64 p', .int .i64 q', .string s', .int .i64 r']] w fun e w' => e = .returned (.tuple #[.bool false, .int .i64 8]) ∧ Below w.heap.size w w' := by
  subst hk
  have e3 : (k' == 3) = false := by rw [beq_eq_false_iff_ne]; exact hk'
  have Q1 : Hid (∀ w, Calls Tryd.prog 42 #[.agg #[.int .i64 3, .int .i64 p, .int .i64 q, .string s, .int .i64 r]] w fun e w' => e = .returned (.bool false) ∧ Below w.heap.size w w') := Lib.hid fun w => by rw [← h1]; exact isNum_any 3 p q s r w
  clear h1 hk'
  go_enter Tryd.func19, Tryd.ntmps19
  go_wp2_with (go_at_call 42; (with_reducible refine (Q1.out _).mono ?_); rintro e w1 ⟨rfl, hb1⟩; obtain ⟨hc1, hf1⟩ := bcell hb1; have hz := hb1.size; (try simp at hz); (try (have z1_0 : w.heap.size < w1.heap.size := (by omega))); (try (have z1_1 : w.heap.size + 1 < w1.heap.size := (by omega))); clear hz; (try (have c1_0 : w1.cell? ⟨w.heap.size, 0, none⟩ = some (.int .i64 3) := by go_simp)); (try (have c1_1 : w1.cell? ⟨w.heap.size, 1, none⟩ = some (.int .i64 p) := by go_simp)); (try (have c1_2 : w1.cell? ⟨w.heap.size, 2, none⟩ = some (.int .i64 q) := by go_simp)); (try (have c1_3 : w1.cell? ⟨w.heap.size, 3, none⟩ = some (.string s) := by go_simp)); (try (have c1_4 : w1.cell? ⟨w.heap.size, 4, none⟩ = some (.int .i64 r) := by go_simp)); (try (have x1_0 : w1.cell? ⟨w.heap.size + 1, 0, none⟩ = some (.int .i64 k') := by go_simp)); (try (have x1_1 : w1.cell? ⟨w.heap.size + 1, 1, none⟩ = some (.int .i64 p') := by go_simp)); (try (have x1_2 : w1.cell? ⟨w.heap.size + 1, 2, none⟩ = some (.int .i64 q') := by go_simp)); (try (have x1_3 : w1.cell? ⟨w.heap.size + 1, 3, none⟩ = some (.string s') := by go_simp)); (try (have x1_4 : w1.cell? ⟨w.heap.size + 1, 4, none⟩ = some (.int .i64 r') := by go_simp)))
  go_ret2
  refine ⟨rfl, ?_⟩
  repeat (first | exact Below.refl _ _ | refine below_drewN ?_ _ | refine Below.drew ?_ | refine Below.setCell ?_ (by first | omega | (simp; done) | (simp; omega)) _ | refine Below.alloc ?_ (by first | omega | (simp; done) | (simp; omega)) _ | refine vstep (by assumption) (by first | omega | (simp; done) | (simp; omega)) ?_)
set_option maxHeartbeats 1000000 in
theorem less_ga (k p q : Int) (s : ByteArray) (r : Int) (k' p' q' : Int) (s' : ByteArray) (r' : Int) (w : World) (h1 : (decide (k = 2) && vld p q) = true) (h2 : (decide (k' = 2) && vld p' q') = false) (hk : k ≠ 3) :
    Calls Tryd.prog 19 #[.agg #[.int .i64 k, .int .i64 p, .int .i64 q, .string s, .int .i64 r], .agg #[.int .i64 k', .int .i64 p', .int .i64 q', .string s', .int .i64 r']] w fun e w' => e = .returned (.tuple #[.bool false, .int .i64 8]) ∧ Below w.heap.size w w' := by
  have e3 : (k == 3) = false := by rw [beq_eq_false_iff_ne]; exact hk
  have Q1 : Hid (∀ w, Calls Tryd.prog 42 #[.agg #[.int .i64 k, .int .i64 p, .int .i64 q, .string s, .int .i64 r]] w fun e w' => e = .returned (.bool true) ∧ Below w.heap.size w w') := Lib.hid fun w => by rw [← h1]; exact isNum_any k p q s r w
  have Q2 : Hid (∀ w, Calls Tryd.prog 42 #[.agg #[.int .i64 k', .int .i64 p', .int .i64 q', .string s', .int .i64 r']] w fun e w' => e = .returned (.bool false) ∧ Below w.heap.size w w') := Lib.hid fun w => by rw [← h2]; exact isNum_any k' p' q' s' r' w
  clear h1 hk h2
  go_enter Tryd.func19, Tryd.ntmps19
  go_wp2_with (first | (go_at_call 42; (with_reducible refine (Q1.out _).mono ?_); rintro e w1 ⟨rfl, hb1⟩; obtain ⟨hc1, hf1⟩ := bcell hb1; have hz := hb1.size; (try simp at hz); (try (have z1_0 : w.heap.size < w1.heap.size := (by omega))); (try (have z1_1 : w.heap.size + 1 < w1.heap.size := (by omega))); clear hz; (try (have c1_0 : w1.cell? ⟨w.heap.size, 0, none⟩ = some (.int .i64 k) := by go_simp)); (try (have c1_1 : w1.cell? ⟨w.heap.size, 1, none⟩ = some (.int .i64 p) := by go_simp)); (try (have c1_2 : w1.cell? ⟨w.heap.size, 2, none⟩ = some (.int .i64 q) := by go_simp)); (try (have c1_3 : w1.cell? ⟨w.heap.size, 3, none⟩ = some (.string s) := by go_simp)); (try (have c1_4 : w1.cell? ⟨w.heap.size, 4, none⟩ = some (.int .i64 r) := by go_simp)); (try (have x1_0 : w1.cell? ⟨w.heap.size + 1, 0, none⟩ = some (.int .i64 k') := by go_simp)); (try (have x1_1 : w1.cell? ⟨w.heap.size + 1, 1, none⟩ = some (.int .i64 p') := by go_simp)); (try (have x1_2 : w1.cell? ⟨w.heap.size + 1, 2, none⟩ = some (.int .i64 q') := by go_simp)); (try (have x1_3 : w1.cell? ⟨w.heap.size + 1, 3, none⟩ = some (.string s') := by go_simp)); (try (have x1_4 : w1.cell? ⟨w.heap.size + 1, 4, none⟩ = some (.int .i64 r') := by go_simp))) | (go_at_call 42; (with_reducible refine (Q2.out _).mono ?_); rintro e w2 ⟨rfl, hb2⟩; obtain ⟨hc2, hf2⟩ := bcell hb2; have hz := hb2.size; (try simp at hz); (try (have z2_0 : w.heap.size < w2.heap.size := (by omega))); (try (have z2_1 : w.heap.size + 1 < w2.heap.size := (by omega))); (try (have y2_1 : w1.heap.size < w2.heap.size := (by omega))); clear hz; (try (have c2_0 : w2.cell? ⟨w.heap.size, 0, none⟩ = some (.int .i64 k) := by go_simp)); (try (have c2_1 : w2.cell? ⟨w.heap.size, 1, none⟩ = some (.int .i64 p) := by go_simp)); (try (have c2_2 : w2.cell? ⟨w.heap.size, 2, none⟩ = some (.int .i64 q) := by go_simp)); (try (have c2_3 : w2.cell? ⟨w.heap.size, 3, none⟩ = some (.string s) := by go_simp)); (try (have c2_4 : w2.cell? ⟨w.heap.size, 4, none⟩ = some (.int .i64 r) := by go_simp)); (try (have x2_0 : w2.cell? ⟨w.heap.size + 1, 0, none⟩ = some (.int .i64 k') := by go_simp)); (try (have x2_1 : w2.cell? ⟨w.heap.size + 1, 1, none⟩ = some (.int .i64 p') := by go_simp)); (try (have x2_2 : w2.cell? ⟨w.heap.size + 1, 2, none⟩ = some (.int .i64 q') := by go_simp)); (try (have x2_3 : w2.cell? ⟨w.heap.size + 1, 3, none⟩ = some (.string s') := by go_simp)); (try (have x2_4 : w2.cell? ⟨w.heap.size + 1, 4, none⟩ = some (.int .i64 r') := by go_simp))))
  go_ret2
  refine ⟨rfl, ?_⟩
  repeat (first | exact Below.refl _ _ | refine below_drewN ?_ _ | refine Below.drew ?_ | refine Below.setCell ?_ (by first | omega | (simp; done) | (simp; omega)) _ | refine Below.alloc ?_ (by first | omega | (simp; done) | (simp; omega)) _ | refine vstep (by assumption) (by first | omega | (simp; done) | (simp; omega)) ?_)
theorem less_any (k p q : Int) (s : ByteArray) (r : Int) (k' p' q' : Int) (s' : ByteArray) (r' : Int) (w : World) :
    Calls Tryd.prog 19 #[.agg #[.int .i64 k, .int .i64 p, .int .i64 q, .string s, .int .i64 r], .agg #[.int .i64 k', .int .i64 p', .int .i64 q', .string s', .int .i64 r']] w fun e w' => e = .returned (.tuple #[.bool (lessB k p q s k' p' q' s'), .int .i64 (lessE k p q k' p' q')]) ∧ Below w.heap.size w w' := by
  unfold lessB lessE
  cases h1 : (decide (k = 2) && vld p q) with
  | true =>
    cases h2 : (decide (k' = 2) && vld p' q') with
    | true =>
      simp only [Bool.and_self, if_true]
      by_cases hl : ratCmp p q p' q' < 0
      · rw [decide_eq_true hl]; exact less_nt k p q s r k' p' q' s' r' w h1 h2 hl
      · rw [decide_eq_false hl]; exact less_nf k p q s r k' p' q' s' r' w h1 h2 hl
    | false =>
      have hk : k ≠ 3 := by intro e; subst e; simp at h1
      simp only [Bool.and_false, Bool.false_eq_true, if_false]
      rw [if_neg (fun h => hk h.1), if_neg (fun h => hk h.1)]
      exact less_ga k p q s r k' p' q' s' r' w h1 h2 hk
  | false =>
    simp only [Bool.false_and, Bool.false_eq_true, if_false]
    by_cases hk : k = 3
    · by_cases hk' : k' = 3
      · rw [if_pos ⟨hk, hk'⟩, if_pos ⟨hk, hk'⟩]; exact less_s k p q s r k' p' q' s' r' w hk hk'
      · rw [if_neg (fun h => hk' h.2), if_neg (fun h => hk' h.2)]; exact less_fb k p q s r k' p' q' s' r' w h1 hk hk'
    · rw [if_neg (fun h => hk h.1), if_neg (fun h => hk h.1)]; exact less_fa k p q s r k' p' q' s' r' w h1 hk
set_option maxHeartbeats 1000000 in
theorem rless_nt (p q : Int) (s : ByteArray) (r : Int) (p' q' : Int) (s' : ByteArray) (r' : Int) (w : World) (h1 : vld p q = true) (h2 : vld p' q' = true) (hl : ratCmp p q p' q' < 0) :
    Calls Tryd.prog 20 #[.agg #[.int .i64 2, .int .i64 p, .int .i64 q, .string s, .int .i64 r], .agg #[.int .i64 2, .int .i64 p', .int .i64 q', .string s', .int .i64 r']] w fun e w' => e = .returned (.tuple #[.bool true, .int .i64 0]) ∧ Below w.heap.size w w' := by
  have Q1 : Hid (∀ w, Calls Tryd.prog 31 #[.agg #[.int .i64 p, .int .i64 q]] w fun e w' => e = .returned (.bool true) ∧ Below w.heap.size w w') := Lib.hid fun w => by rw [← h1]; exact rvalid_any p q w
  have Q2 : Hid (∀ w, Calls Tryd.prog 31 #[.agg #[.int .i64 p', .int .i64 q']] w fun e w' => e = .returned (.bool true) ∧ Below w.heap.size w w') := Lib.hid fun w => by rw [← h2]; exact rvalid_any p' q' w
  have QC := Lib.hid fun w => rcmp_any p q p' q' w
  have d : ratCmp p q p' q' < 0 := hl
  generalize ratCmp p q p' q' = c at *
  clear h1 h2 hl
  go_enter Tryd.func20, Tryd.ntmps20
  go_wp2_with (first | (go_at_call 31; (with_reducible refine (Q1.out _).mono ?_); rintro e w1 ⟨rfl, hb1⟩; obtain ⟨hc1, hf1⟩ := bcell hb1; have hz := hb1.size; (try simp at hz); (try (have z1_0 : w.heap.size < w1.heap.size := (by omega))); (try (have z1_1 : w.heap.size + 1 < w1.heap.size := (by omega))); clear hz; (try (have c1_0 : w1.cell? ⟨w.heap.size, 0, none⟩ = some (.int .i64 2) := by go_simp)); (try (have c1_1 : w1.cell? ⟨w.heap.size, 1, none⟩ = some (.int .i64 p) := by go_simp)); (try (have c1_2 : w1.cell? ⟨w.heap.size, 2, none⟩ = some (.int .i64 q) := by go_simp)); (try (have c1_3 : w1.cell? ⟨w.heap.size, 3, none⟩ = some (.string s) := by go_simp)); (try (have c1_4 : w1.cell? ⟨w.heap.size, 4, none⟩ = some (.int .i64 r) := by go_simp)); (try (have x1_0 : w1.cell? ⟨w.heap.size + 1, 0, none⟩ = some (.int .i64 2) := by go_simp)); (try (have x1_1 : w1.cell? ⟨w.heap.size + 1, 1, none⟩ = some (.int .i64 p') := by go_simp)); (try (have x1_2 : w1.cell? ⟨w.heap.size + 1, 2, none⟩ = some (.int .i64 q') := by go_simp)); (try (have x1_3 : w1.cell? ⟨w.heap.size + 1, 3, none⟩ = some (.string s') := by go_simp)); (try (have x1_4 : w1.cell? ⟨w.heap.size + 1, 4, none⟩ = some (.int .i64 r') := by go_simp))) | (go_at_call 31; (with_reducible refine (Q2.out _).mono ?_); rintro e w2 ⟨rfl, hb2⟩; obtain ⟨hc2, hf2⟩ := bcell hb2; have hz := hb2.size; (try simp at hz); (try (have z2_0 : w.heap.size < w2.heap.size := (by omega))); (try (have z2_1 : w.heap.size + 1 < w2.heap.size := (by omega))); (try (have y2_1 : w1.heap.size < w2.heap.size := (by omega))); clear hz; (try (have c2_0 : w2.cell? ⟨w.heap.size, 0, none⟩ = some (.int .i64 2) := by go_simp)); (try (have c2_1 : w2.cell? ⟨w.heap.size, 1, none⟩ = some (.int .i64 p) := by go_simp)); (try (have c2_2 : w2.cell? ⟨w.heap.size, 2, none⟩ = some (.int .i64 q) := by go_simp)); (try (have c2_3 : w2.cell? ⟨w.heap.size, 3, none⟩ = some (.string s) := by go_simp)); (try (have c2_4 : w2.cell? ⟨w.heap.size, 4, none⟩ = some (.int .i64 r) := by go_simp)); (try (have x2_0 : w2.cell? ⟨w.heap.size + 1, 0, none⟩ = some (.int .i64 2) := by go_simp)); (try (have x2_1 : w2.cell? ⟨w.heap.size + 1, 1, none⟩ = some (.int .i64 p') := by go_simp)); (try (have x2_2 : w2.cell? ⟨w.heap.size + 1, 2, none⟩ = some (.int .i64 q') := by go_simp)); (try (have x2_3 : w2.cell? ⟨w.heap.size + 1, 3, none⟩ = some (.string s') := by go_simp)); (try (have x2_4 : w2.cell? ⟨w.heap.size + 1, 4, none⟩ = some (.int .i64 r') := by go_simp))) | (go_at_call 44; (with_reducible refine (QC.out _).mono ?_); rintro e w3 ⟨rfl, hb3⟩; obtain ⟨hc3, hf3⟩ := bcell hb3; have hz := hb3.size; (try simp at hz); (try (have z3_0 : w.heap.size < w3.heap.size := (by omega))); (try (have z3_1 : w.heap.size + 1 < w3.heap.size := (by omega))); (try (have y3_1 : w1.heap.size < w3.heap.size := (by omega))); (try (have y3_2 : w2.heap.size < w3.heap.size := (by omega))); clear hz; (try (have c3_0 : w3.cell? ⟨w.heap.size, 0, none⟩ = some (.int .i64 2) := by go_simp)); (try (have c3_1 : w3.cell? ⟨w.heap.size, 1, none⟩ = some (.int .i64 p) := by go_simp)); (try (have c3_2 : w3.cell? ⟨w.heap.size, 2, none⟩ = some (.int .i64 q) := by go_simp)); (try (have c3_3 : w3.cell? ⟨w.heap.size, 3, none⟩ = some (.string s) := by go_simp)); (try (have c3_4 : w3.cell? ⟨w.heap.size, 4, none⟩ = some (.int .i64 r) := by go_simp)); (try (have x3_0 : w3.cell? ⟨w.heap.size + 1, 0, none⟩ = some (.int .i64 2) := by go_simp)); (try (have x3_1 : w3.cell? ⟨w.heap.size + 1, 1, none⟩ = some (.int .i64 p') := by go_simp)); (try (have x3_2 : w3.cell? ⟨w.heap.size + 1, 2, none⟩ = some (.int .i64 q') := by go_simp)); (try (have x3_3 : w3.cell? ⟨w.heap.size + 1, 3, none⟩ = some (.string s') := by go_simp)); (try (have x3_4 : w3.cell? ⟨w.heap.size + 1, 4, none⟩ = some (.int .i64 r') := by go_simp))))
  go_ret2
  refine ⟨rfl, ?_⟩
  repeat (first | exact Below.refl _ _ | refine below_drewN ?_ _ | refine Below.drew ?_ | refine Below.setCell ?_ (by first | omega | (simp; done) | (simp; omega)) _ | refine Below.alloc ?_ (by first | omega | (simp; done) | (simp; omega)) _ | refine vstep (by assumption) (by first | omega | (simp; done) | (simp; omega)) ?_)
set_option maxHeartbeats 1000000 in
theorem rless_nf (p q : Int) (s : ByteArray) (r : Int) (p' q' : Int) (s' : ByteArray) (r' : Int) (w : World) (h1 : vld p q = true) (h2 : vld p' q' = true) (hl : ¬ ratCmp p q p' q' < 0) :
    Calls Tryd.prog 20 #[.agg #[.int .i64 2, .int .i64 p, .int .i64 q, .string s, .int .i64 r], .agg #[.int .i64 2, .int .i64 p', .int .i64 q', .string s', .int .i64 r']] w fun e w' => e = .returned (.tuple #[.bool false, .int .i64 0]) ∧ Below w.heap.size w w' := by
  have Q1 : Hid (∀ w, Calls Tryd.prog 31 #[.agg #[.int .i64 p, .int .i64 q]] w fun e w' => e = .returned (.bool true) ∧ Below w.heap.size w w') := Lib.hid fun w => by rw [← h1]; exact rvalid_any p q w
  have Q2 : Hid (∀ w, Calls Tryd.prog 31 #[.agg #[.int .i64 p', .int .i64 q']] w fun e w' => e = .returned (.bool true) ∧ Below w.heap.size w w') := Lib.hid fun w => by rw [← h2]; exact rvalid_any p' q' w
  have QC := Lib.hid fun w => rcmp_any p q p' q' w
  have d : decide (ratCmp p q p' q' < 0) = false := decide_eq_false hl
  generalize ratCmp p q p' q' = c at *
  clear h1 h2 hl
  go_enter Tryd.func20, Tryd.ntmps20
  go_wp2_with (first | (go_at_call 31; (with_reducible refine (Q1.out _).mono ?_); rintro e w1 ⟨rfl, hb1⟩; obtain ⟨hc1, hf1⟩ := bcell hb1; have hz := hb1.size; (try simp at hz); (try (have z1_0 : w.heap.size < w1.heap.size := (by omega))); (try (have z1_1 : w.heap.size + 1 < w1.heap.size := (by omega))); clear hz; (try (have c1_0 : w1.cell? ⟨w.heap.size, 0, none⟩ = some (.int .i64 2) := by go_simp)); (try (have c1_1 : w1.cell? ⟨w.heap.size, 1, none⟩ = some (.int .i64 p) := by go_simp)); (try (have c1_2 : w1.cell? ⟨w.heap.size, 2, none⟩ = some (.int .i64 q) := by go_simp)); (try (have c1_3 : w1.cell? ⟨w.heap.size, 3, none⟩ = some (.string s) := by go_simp)); (try (have c1_4 : w1.cell? ⟨w.heap.size, 4, none⟩ = some (.int .i64 r) := by go_simp)); (try (have x1_0 : w1.cell? ⟨w.heap.size + 1, 0, none⟩ = some (.int .i64 2) := by go_simp)); (try (have x1_1 : w1.cell? ⟨w.heap.size + 1, 1, none⟩ = some (.int .i64 p') := by go_simp)); (try (have x1_2 : w1.cell? ⟨w.heap.size + 1, 2, none⟩ = some (.int .i64 q') := by go_simp)); (try (have x1_3 : w1.cell? ⟨w.heap.size + 1, 3, none⟩ = some (.string s') := by go_simp)); (try (have x1_4 : w1.cell? ⟨w.heap.size + 1, 4, none⟩ = some (.int .i64 r') := by go_simp))) | (go_at_call 31; (with_reducible refine (Q2.out _).mono ?_); rintro e w2 ⟨rfl, hb2⟩; obtain ⟨hc2, hf2⟩ := bcell hb2; have hz := hb2.size; (try simp at hz); (try (have z2_0 : w.heap.size < w2.heap.size := (by omega))); (try (have z2_1 : w.heap.size + 1 < w2.heap.size := (by omega))); (try (have y2_1 : w1.heap.size < w2.heap.size := (by omega))); clear hz; (try (have c2_0 : w2.cell? ⟨w.heap.size, 0, none⟩ = some (.int .i64 2) := by go_simp)); (try (have c2_1 : w2.cell? ⟨w.heap.size, 1, none⟩ = some (.int .i64 p) := by go_simp)); (try (have c2_2 : w2.cell? ⟨w.heap.size, 2, none⟩ = some (.int .i64 q) := by go_simp)); (try (have c2_3 : w2.cell? ⟨w.heap.size, 3, none⟩ = some (.string s) := by go_simp)); (try (have c2_4 : w2.cell? ⟨w.heap.size, 4, none⟩ = some (.int .i64 r) := by go_simp)); (try (have x2_0 : w2.cell? ⟨w.heap.size + 1, 0, none⟩ = some (.int .i64 2) := by go_simp)); (try (have x2_1 : w2.cell? ⟨w.heap.size + 1, 1, none⟩ = some (.int .i64 p') := by go_simp)); (try (have x2_2 : w2.cell? ⟨w.heap.size + 1, 2, none⟩ = some (.int .i64 q') := by go_simp)); (try (have x2_3 : w2.cell? ⟨w.heap.size + 1, 3, none⟩ = some (.string s') := by go_simp)); (try (have x2_4 : w2.cell? ⟨w.heap.size + 1, 4, none⟩ = some (.int .i64 r') := by go_simp))) | (go_at_call 44; (with_reducible refine (QC.out _).mono ?_); rintro e w3 ⟨rfl, hb3⟩; obtain ⟨hc3, hf3⟩ := bcell hb3; have hz := hb3.size; (try simp at hz); (try (have z3_0 : w.heap.size < w3.heap.size := (by omega))); (try (have z3_1 : w.heap.size + 1 < w3.heap.size := (by omega))); (try (have y3_1 : w1.heap.size < w3.heap.size := (by omega))); (try (have y3_2 : w2.heap.size < w3.heap.size := (by omega))); clear hz; (try (have c3_0 : w3.cell? ⟨w.heap.size, 0, none⟩ = some (.int .i64 2) := by go_simp)); (try (have c3_1 : w3.cell? ⟨w.heap.size, 1, none⟩ = some (.int .i64 p) := by go_simp)); (try (have c3_2 : w3.cell? ⟨w.heap.size, 2, none⟩ = some (.int .i64 q) := by go_simp)); (try (have c3_3 : w3.cell? ⟨w.heap.size, 3, none⟩ = some (.string s) := by go_simp)); (try (have c3_4 : w3.cell? ⟨w.heap.size, 4, none⟩ = some (.int .i64 r) := by go_simp)); (try (have x3_0 : w3.cell? ⟨w.heap.size + 1, 0, none⟩ = some (.int .i64 2) := by go_simp)); (try (have x3_1 : w3.cell? ⟨w.heap.size + 1, 1, none⟩ = some (.int .i64 p') := by go_simp)); (try (have x3_2 : w3.cell? ⟨w.heap.size + 1, 2, none⟩ = some (.int .i64 q') := by go_simp)); (try (have x3_3 : w3.cell? ⟨w.heap.size + 1, 3, none⟩ = some (.string s') := by go_simp)); (try (have x3_4 : w3.cell? ⟨w.heap.size + 1, 4, none⟩ = some (.int .i64 r') := by go_simp))))
  go_ret2
  refine ⟨rfl, ?_⟩
  repeat (first | exact Below.refl _ _ | refine below_drewN ?_ _ | refine Below.drew ?_ | refine Below.setCell ?_ (by first | omega | (simp; done) | (simp; omega)) _ | refine Below.alloc ?_ (by first | omega | (simp; done) | (simp; omega)) _ | refine vstep (by assumption) (by first | omega | (simp; done) | (simp; omega)) ?_)
set_option maxHeartbeats 1000000 in
theorem rless_s (p q : Int) (s : ByteArray) (r : Int) (p' q' : Int) (s' : ByteArray) (r' : Int) (w : World) (hs : s.size ≤ 4000000000) (hs' : s'.size ≤ 4000000000) :
    Calls Tryd.prog 20 #[.agg #[.int .i64 3, .int .i64 p, .int .i64 q, .string s, .int .i64 r], .agg #[.int .i64 3, .int .i64 p', .int .i64 q', .string s', .int .i64 r']] w fun e w' => e = .returned (.tuple #[(.bool (Op.bytesLess s.data.toList s'.data.toList)), .int .i64 0]) ∧ Below w.heap.size w w' := by
  have QB := Lib.hid fun w => before_any s s' w hs hs'
  generalize Op.bytesLess s.data.toList s'.data.toList = z at *
  go_enter Tryd.func20, Tryd.ntmps20
  go_wp2_with (go_at_call 45; (with_reducible refine (QB.out _).mono ?_); rintro e w1 ⟨rfl, hb1⟩; obtain ⟨hc1, hf1⟩ := bcell hb1; have hz := hb1.size; (try simp at hz); (try (have z1_0 : w.heap.size < w1.heap.size := (by omega))); (try (have z1_1 : w.heap.size + 1 < w1.heap.size := (by omega))); clear hz; (try (have c1_0 : w1.cell? ⟨w.heap.size, 0, none⟩ = some (.int .i64 3) := by go_simp)); (try (have c1_1 : w1.cell? ⟨w.heap.size, 1, none⟩ = some (.int .i64 p) := by go_simp)); (try (have c1_2 : w1.cell? ⟨w.heap.size, 2, none⟩ = some (.int .i64 q) := by go_simp)); (try (have c1_3 : w1.cell? ⟨w.heap.size, 3, none⟩ = some (.string s) := by go_simp)); (try (have c1_4 : w1.cell? ⟨w.heap.size, 4, none⟩ = some (.int .i64 r) := by go_simp)); (try (have x1_0 : w1.cell? ⟨w.heap.size + 1, 0, none⟩ = some (.int .i64 3) := by go_simp)); (try (have x1_1 : w1.cell? ⟨w.heap.size + 1, 1, none⟩ = some (.int .i64 p') := by go_simp)); (try (have x1_2 : w1.cell? ⟨w.heap.size + 1, 2, none⟩ = some (.int .i64 q') := by go_simp)); (try (have x1_3 : w1.cell? ⟨w.heap.size + 1, 3, none⟩ = some (.string s') := by go_simp)); (try (have x1_4 : w1.cell? ⟨w.heap.size + 1, 4, none⟩ = some (.int .i64 r') := by go_simp)))
  go_ret2
  refine ⟨rfl, ?_⟩
  repeat (first | exact Below.refl _ _ | refine below_drewN ?_ _ | refine Below.drew ?_ | refine Below.setCell ?_ (by first | omega | (simp; done) | (simp; omega)) _ | refine Below.alloc ?_ (by first | omega | (simp; done) | (simp; omega)) _ | refine vstep (by assumption) (by first | omega | (simp; done) | (simp; omega)) ?_)
set_option maxHeartbeats 1000000 in
theorem rless_A (k p q : Int) (s : ByteArray) (r : Int) (k' p' q' : Int) (s' : ByteArray) (r' : Int) (w : World) (h2 : k ≠ 2) (h3 : k ≠ 3) :
    Calls Tryd.prog 20 #[.agg #[.int .i64 k, .int .i64 p, .int .i64 q, .string s, .int .i64 r], .agg #[.int .i64 k', .int .i64 p', .int .i64 q', .string s', .int .i64 r']] w fun e w' => e = .returned (.tuple #[.bool false, .int .i64 8]) ∧ Below w.heap.size w w' := by
  have e2 : (k == 2) = false := by rw [beq_eq_false_iff_ne]; exact h2
  have e3 : (k == 3) = false := by rw [beq_eq_false_iff_ne]; exact h3
  clear h2 h3
  go_enter Tryd.func20, Tryd.ntmps20
  go_wp2
  go_ret2
  refine ⟨rfl, ?_⟩
  repeat (first | exact Below.refl _ _ | refine below_drewN ?_ _ | refine Below.drew ?_ | refine Below.setCell ?_ (by first | omega | (simp; done) | (simp; omega)) _ | refine Below.alloc ?_ (by first | omega | (simp; done) | (simp; omega)) _ | refine vstep (by assumption) (by first | omega | (simp; done) | (simp; omega)) ?_)
set_option maxHeartbeats 1000000 in
theorem rless_B (p q : Int) (s : ByteArray) (r : Int) (k' p' q' : Int) (s' : ByteArray) (r' : Int) (w : World) (h3 : k' ≠ 3) :
    Calls Tryd.prog 20 #[.agg #[.int .i64 3, .int .i64 p, .int .i64 q, .string s, .int .i64 r], .agg #[.int .i64 k', .int .i64 p', .int .i64 q', .string s', .int .i64 r']] w fun e w' => e = .returned (.tuple #[.bool false, .int .i64 8]) ∧ Below w.heap.size w w' := by
  have e3 : (k' == 3) = false := by rw [beq_eq_false_iff_ne]; exact h3
  clear h3
  go_enter Tryd.func20, Tryd.ntmps20
  go_wp2
  go_ret2
  refine ⟨rfl, ?_⟩
  repeat (first | exact Below.refl _ _ | refine below_drewN ?_ _ | refine Below.drew ?_ | refine Below.setCell ?_ (by first | omega | (simp; done) | (simp; omega)) _ | refine Below.alloc ?_ (by first | omega | (simp; done) | (simp; omega)) _ | refine vstep (by assumption) (by first | omega | (simp; done) | (simp; omega)) ?_)
set_option maxHeartbeats 1000000 in
theorem rless_C (p q : Int) (s : ByteArray) (r : Int) (k' p' q' : Int) (s' : ByteArray) (r' : Int) (w : World) (h2 : k' ≠ 2) :
    Calls Tryd.prog 20 #[.agg #[.int .i64 2, .int .i64 p, .int .i64 q, .string s, .int .i64 r], .agg #[.int .i64 k', .int .i64 p', .int .i64 q', .string s', .int .i64 r']] w fun e w' => e = .returned (.tuple #[.bool false, .int .i64 8]) ∧ Below w.heap.size w w' := by
  have e2 : (k' == 2) = false := by rw [beq_eq_false_iff_ne]; exact h2
  clear h2
  go_enter Tryd.func20, Tryd.ntmps20
  go_wp2
  go_ret2
  refine ⟨rfl, ?_⟩
  repeat (first | exact Below.refl _ _ | refine below_drewN ?_ _ | refine Below.drew ?_ | refine Below.setCell ?_ (by first | omega | (simp; done) | (simp; omega)) _ | refine Below.alloc ?_ (by first | omega | (simp; done) | (simp; omega)) _ | refine vstep (by assumption) (by first | omega | (simp; done) | (simp; omega)) ?_)
set_option maxHeartbeats 1000000 in
theorem rless_D (p q : Int) (s : ByteArray) (r : Int) (p' q' : Int) (s' : ByteArray) (r' : Int) (w : World) (h1 : vld p q = false) :
    Calls Tryd.prog 20 #[.agg #[.int .i64 2, .int .i64 p, .int .i64 q, .string s, .int .i64 r], .agg #[.int .i64 2, .int .i64 p', .int .i64 q', .string s', .int .i64 r']] w fun e w' => e = .returned (.tuple #[.bool false, .int .i64 8]) ∧ Below w.heap.size w w' := by
  have Q1 : Hid (∀ w, Calls Tryd.prog 31 #[.agg #[.int .i64 p, .int .i64 q]] w fun e w' => e = .returned (.bool false) ∧ Below w.heap.size w w') := Lib.hid fun w => by rw [← h1]; exact rvalid_any p q w
  clear h1
  go_enter Tryd.func20, Tryd.ntmps20
  go_wp2_with (go_at_call 31; (with_reducible refine (Q1.out _).mono ?_); rintro e w1 ⟨rfl, hb1⟩; obtain ⟨hc1, hf1⟩ := bcell hb1; have hz := hb1.size; (try simp at hz); (try (have z1_0 : w.heap.size < w1.heap.size := (by omega))); (try (have z1_1 : w.heap.size + 1 < w1.heap.size := (by omega))); clear hz; (try (have c1_0 : w1.cell? ⟨w.heap.size, 0, none⟩ = some (.int .i64 2) := by go_simp)); (try (have c1_1 : w1.cell? ⟨w.heap.size, 1, none⟩ = some (.int .i64 p) := by go_simp)); (try (have c1_2 : w1.cell? ⟨w.heap.size, 2, none⟩ = some (.int .i64 q) := by go_simp)); (try (have c1_3 : w1.cell? ⟨w.heap.size, 3, none⟩ = some (.string s) := by go_simp)); (try (have c1_4 : w1.cell? ⟨w.heap.size, 4, none⟩ = some (.int .i64 r) := by go_simp)); (try (have x1_0 : w1.cell? ⟨w.heap.size + 1, 0, none⟩ = some (.int .i64 2) := by go_simp)); (try (have x1_1 : w1.cell? ⟨w.heap.size + 1, 1, none⟩ = some (.int .i64 p') := by go_simp)); (try (have x1_2 : w1.cell? ⟨w.heap.size + 1, 2, none⟩ = some (.int .i64 q') := by go_simp)); (try (have x1_3 : w1.cell? ⟨w.heap.size + 1, 3, none⟩ = some (.string s') := by go_simp)); (try (have x1_4 : w1.cell? ⟨w.heap.size + 1, 4, none⟩ = some (.int .i64 r') := by go_simp)))
  go_ret2
  refine ⟨rfl, ?_⟩
  repeat (first | exact Below.refl _ _ | refine below_drewN ?_ _ | refine Below.drew ?_ | refine Below.setCell ?_ (by first | omega | (simp; done) | (simp; omega)) _ | refine Below.alloc ?_ (by first | omega | (simp; done) | (simp; omega)) _ | refine vstep (by assumption) (by first | omega | (simp; done) | (simp; omega)) ?_)
set_option maxHeartbeats 1000000 in
theorem rless_E (p q : Int) (s : ByteArray) (r : Int) (p' q' : Int) (s' : ByteArray) (r' : Int) (w : World) (h1 : vld p q = true) (h2 : vld p' q' = false) :
    Calls Tryd.prog 20 #[.agg #[.int .i64 2, .int .i64 p, .int .i64 q, .string s, .int .i64 r], .agg #[.int .i64 2, .int .i64 p', .int .i64 q', .string s', .int .i64 r']] w fun e w' => e = .returned (.tuple #[.bool false, .int .i64 8]) ∧ Below w.heap.size w w' := by
  have Q1 : Hid (∀ w, Calls Tryd.prog 31 #[.agg #[.int .i64 p, .int .i64 q]] w fun e w' => e = .returned (.bool true) ∧ Below w.heap.size w w') := Lib.hid fun w => by rw [← h1]; exact rvalid_any p q w
  have Q2 : Hid (∀ w, Calls Tryd.prog 31 #[.agg #[.int .i64 p', .int .i64 q']] w fun e w' => e = .returned (.bool false) ∧ Below w.heap.size w w') := Lib.hid fun w => by rw [← h2]; exact rvalid_any p' q' w
  clear h1 h2
  go_enter Tryd.func20, Tryd.ntmps20
  go_wp2_with (first | (go_at_call 31; (with_reducible refine (Q1.out _).mono ?_); rintro e w1 ⟨rfl, hb1⟩; obtain ⟨hc1, hf1⟩ := bcell hb1; have hz := hb1.size; (try simp at hz); (try (have z1_0 : w.heap.size < w1.heap.size := (by omega))); (try (have z1_1 : w.heap.size + 1 < w1.heap.size := (by omega))); clear hz; (try (have c1_0 : w1.cell? ⟨w.heap.size, 0, none⟩ = some (.int .i64 2) := by go_simp)); (try (have c1_1 : w1.cell? ⟨w.heap.size, 1, none⟩ = some (.int .i64 p) := by go_simp)); (try (have c1_2 : w1.cell? ⟨w.heap.size, 2, none⟩ = some (.int .i64 q) := by go_simp)); (try (have c1_3 : w1.cell? ⟨w.heap.size, 3, none⟩ = some (.string s) := by go_simp)); (try (have c1_4 : w1.cell? ⟨w.heap.size, 4, none⟩ = some (.int .i64 r) := by go_simp)); (try (have x1_0 : w1.cell? ⟨w.heap.size + 1, 0, none⟩ = some (.int .i64 2) := by go_simp)); (try (have x1_1 : w1.cell? ⟨w.heap.size + 1, 1, none⟩ = some (.int .i64 p') := by go_simp)); (try (have x1_2 : w1.cell? ⟨w.heap.size + 1, 2, none⟩ = some (.int .i64 q') := by go_simp)); (try (have x1_3 : w1.cell? ⟨w.heap.size + 1, 3, none⟩ = some (.string s') := by go_simp)); (try (have x1_4 : w1.cell? ⟨w.heap.size + 1, 4, none⟩ = some (.int .i64 r') := by go_simp))) | (go_at_call 31; (with_reducible refine (Q2.out _).mono ?_); rintro e w2 ⟨rfl, hb2⟩; obtain ⟨hc2, hf2⟩ := bcell hb2; have hz := hb2.size; (try simp at hz); (try (have z2_0 : w.heap.size < w2.heap.size := (by omega))); (try (have z2_1 : w.heap.size + 1 < w2.heap.size := (by omega))); (try (have y2_1 : w1.heap.size < w2.heap.size := (by omega))); clear hz; (try (have c2_0 : w2.cell? ⟨w.heap.size, 0, none⟩ = some (.int .i64 2) := by go_simp)); (try (have c2_1 : w2.cell? ⟨w.heap.size, 1, none⟩ = some (.int .i64 p) := by go_simp)); (try (have c2_2 : w2.cell? ⟨w.heap.size, 2, none⟩ = some (.int .i64 q) := by go_simp)); (try (have c2_3 : w2.cell? ⟨w.heap.size, 3, none⟩ = some (.string s) := by go_simp)); (try (have c2_4 : w2.cell? ⟨w.heap.size, 4, none⟩ = some (.int .i64 r) := by go_simp)); (try (have x2_0 : w2.cell? ⟨w.heap.size + 1, 0, none⟩ = some (.int .i64 2) := by go_simp)); (try (have x2_1 : w2.cell? ⟨w.heap.size + 1, 1, none⟩ = some (.int .i64 p') := by go_simp)); (try (have x2_2 : w2.cell? ⟨w.heap.size + 1, 2, none⟩ = some (.int .i64 q') := by go_simp)); (try (have x2_3 : w2.cell? ⟨w.heap.size + 1, 3, none⟩ = some (.string s') := by go_simp)); (try (have x2_4 : w2.cell? ⟨w.heap.size + 1, 4, none⟩ = some (.int .i64 r') := by go_simp))))
  go_ret2
  refine ⟨rfl, ?_⟩
  repeat (first | exact Below.refl _ _ | refine below_drewN ?_ _ | refine Below.drew ?_ | refine Below.setCell ?_ (by first | omega | (simp; done) | (simp; omega)) _ | refine Below.alloc ?_ (by first | omega | (simp; done) | (simp; omega)) _ | refine vstep (by assumption) (by first | omega | (simp; done) | (simp; omega)) ?_)
theorem rless_any (k p q : Int) (s : ByteArray) (r : Int) (k' p' q' : Int) (s' : ByteArray) (r' : Int) (w : World) (hs : s.size ≤ 4000000000) (hs' : s'.size ≤ 4000000000) :
    Calls Tryd.prog 20 #[.agg #[.int .i64 k, .int .i64 p, .int .i64 q, .string s, .int .i64 r], .agg #[.int .i64 k', .int .i64 p', .int .i64 q', .string s', .int .i64 r']] w fun e w' => e = .returned (.tuple #[.bool (lessB k p q s k' p' q' s'), .int .i64 (lessE k p q k' p' q')]) ∧ Below w.heap.size w w' := by
  unfold lessB lessE
  by_cases h2 : k = 2
  · subst h2
    have h3 : ¬ ((2 : Int) = 3 ∧ k' = 3) := fun h => absurd h.1 (by decide)
    rw [decide_eq_true (rfl : (2 : Int) = 2), Bool.true_and]
    by_cases h2' : k' = 2
    · subst h2'
      rw [decide_eq_true (rfl : (2 : Int) = 2), Bool.true_and]
      cases hv : vld p q with
      | false =>
        simp only [Bool.false_and, Bool.false_eq_true, if_false]
        rw [if_neg h3, if_neg h3]; exact rless_D p q s r p' q' s' r' w hv
      | true =>
        cases hv' : vld p' q' with
        | false =>
          simp only [Bool.and_false, Bool.false_eq_true, if_false]
          rw [if_neg h3, if_neg h3]; exact rless_E p q s r p' q' s' r' w hv hv'
        | true =>
          simp only [Bool.and_self, if_true]
          by_cases hl : ratCmp p q p' q' < 0
          · rw [decide_eq_true hl]; exact rless_nt p q s r p' q' s' r' w hv hv' hl
          · rw [decide_eq_false hl]; exact rless_nf p q s r p' q' s' r' w hv hv' hl
    · rw [decide_eq_false h2', Bool.false_and, Bool.and_false]
      simp only [Bool.false_eq_true, if_false]
      rw [if_neg h3, if_neg h3]; exact rless_C p q s r k' p' q' s' r' w h2'
  · rw [decide_eq_false h2, Bool.false_and, Bool.false_and]
    simp only [Bool.false_eq_true, if_false]
    by_cases hk : k = 3
    · subst hk
      by_cases hk' : k' = 3
      · subst hk'
        rw [if_pos ⟨rfl, rfl⟩, if_pos ⟨rfl, rfl⟩]; exact rless_s p q s r p' q' s' r' w hs hs'
      · rw [if_neg (fun h => hk' h.2), if_neg (fun h => hk' h.2)]; exact rless_B p q s r k' p' q' s' r' w hk'
    · rw [if_neg (fun h => hk h.1), if_neg (fun h => hk h.1)]; exact rless_A k p q s r k' p' q' s' r' w h2 hk
end Go.Proofs.YtmnfebgkpcjjjaaDoor
