/- Contracts of layer 11: valid values. -/
import Derived.Test.YtdgdpckjcpgoaaaValB
import Derived.Deep.DeepCutAuto
import Derived.Deep.CutBlock
namespace Go.Proofs.Ytdgdpckjcpgoaaa
open Go.RowKit M1
set_option linter.unusedVariables false
def validF (k p q : Int) (s : ByteArray) (r : Int) : Bool :=
  if k = 0 then eqV k p q s r 0 0 0 ⟨#[]⟩ 0
  else if k = 1 then eqV k p q s r 1 0 0 ⟨#[]⟩ (if r = 0 then 0 else 1)
  else if k = 2 then vld p q && eqV k p q s r 2 p q ⟨#[]⟩ 0
  else if k = 3 then decide (s.size ≤ 4096) && eqV k p q s r 3 0 0 s 0
  else if k = 6 then decide (1 ≤ s.size) && (decide (s.size ≤ 4096) && eqV k p q s r 6 0 0 s 0)
  else if k = 4 ∨ k = 5 ∨ k = 7 ∨ k = 8 then decide (1 ≤ r) && eqV k p q s r k 0 0 ⟨#[]⟩ r
  else false
theorem vv_0 (p q : Int) (s : ByteArray) (r : Int) (b : Bool) (w : World) (h : eqV 0 p q s r 0 0 0 ⟨#[]⟩ 0 = b) :
    Calls Try.prog 44 #[.agg #[.int .i64 0, .int .i64 p, .int .i64 q, .string s, .int .i64 r]] w fun e w' => e = .returned (.bool b) ∧ Below w.heap.size w w' := by
  have E : ∀ W, (binOp .eql 26 (.agg #[.int .i64 0, .int .i64 p, .int .i64 q, .string s, .int .i64 r]) (.agg #[.int .i64 0, .int .i64 0, .int .i64 0, .string ⟨#[]⟩, .int .i64 0])).run Try.prog W = .ok (.bool b) W := fun W => by rw [eq_val, h]
  clear h
  go_enter Try.func44, Try.ntmps44
  go_wp2
  go_ret
  refine ⟨rfl, ?_⟩
  repeat (first | exact Below.refl _ _ | refine below_drewN ?_ _ | refine Below.drew ?_ | refine Below.setCell ?_ (by first | omega | (simp; done) | (simp; omega)) _ | refine Below.alloc ?_ (by first | omega | (simp; done) | (simp; omega)) _ | refine vstep (by assumption) (by first | omega | (simp; done) | (simp; omega)) ?_)
theorem vv_10 (p q : Int) (s : ByteArray) (r : Int) (b : Bool) (w : World) (hr : r = 0) (h : eqV 1 p q s r 1 0 0 ⟨#[]⟩ 0 = b) :
    Calls Try.prog 44 #[.agg #[.int .i64 1, .int .i64 p, .int .i64 q, .string s, .int .i64 r]] w fun e w' => e = .returned (.bool b) ∧ Below w.heap.size w w' := by
  have Q := Lib.hid fun w => ofBool_any false w
  have E : ∀ W, (binOp .eql 26 (.agg #[.int .i64 1, .int .i64 p, .int .i64 q, .string s, .int .i64 r]) (.agg #[.int .i64 1, .int .i64 0, .int .i64 0, .string ⟨#[]⟩, .int .i64 0])).run Try.prog W = .ok (.bool b) W := fun W => by rw [eq_val, h]
  subst hr
  simp only [if_false, Bool.false_eq_true] at Q
  clear h
  go_enter Try.func44, Try.ntmps44
  go_upto_region 5 with fail
  go_region_law (first | (go_simp; go_at_call 46; (with_reducible refine (Q.out _).mono ?_); rintro e w1 ⟨rfl, hb1⟩; obtain ⟨hc1, hf1⟩ := bcell hb1; have hz := hb1.size; (try simp at hz); (try (have z1_0 : w.heap.size < w1.heap.size := (by omega))); clear hz; (try (have c1_0 : w1.cell? ⟨w.heap.size, 0, none⟩ = some (.int .i64 1) := by go_simp)); (try (have c1_1 : w1.cell? ⟨w.heap.size, 1, none⟩ = some (.int .i64 p) := by go_simp)); (try (have c1_2 : w1.cell? ⟨w.heap.size, 2, none⟩ = some (.int .i64 q) := by go_simp)); (try (have c1_3 : w1.cell? ⟨w.heap.size, 3, none⟩ = some (.string s) := by go_simp)); (try (have c1_4 : w1.cell? ⟨w.heap.size, 4, none⟩ = some (.int .i64 0) := by go_simp))))
  all_goals (
    go_wp2
    go_ret
    refine ⟨rfl, ?_⟩
    repeat (first | exact Below.refl _ _ | refine below_drewN ?_ _ | refine Below.drew ?_ | refine Below.setCell ?_ (by first | omega | (simp; done) | (simp; omega)) _ | refine Below.alloc ?_ (by first | omega | (simp; done) | (simp; omega)) _ | refine vstep (by assumption) (by first | omega | (simp; done) | (simp; omega)) ?_))
theorem vv_11 (p q : Int) (s : ByteArray) (r : Int) (b : Bool) (w : World) (hr : ¬ r = 0) (h : eqV 1 p q s r 1 0 0 ⟨#[]⟩ 1 = b) :
    Calls Try.prog 44 #[.agg #[.int .i64 1, .int .i64 p, .int .i64 q, .string s, .int .i64 r]] w fun e w' => e = .returned (.bool b) ∧ Below w.heap.size w w' := by
  have Q := Lib.hid fun w => ofBool_any true w
  have E : ∀ W, (binOp .eql 26 (.agg #[.int .i64 1, .int .i64 p, .int .i64 q, .string s, .int .i64 r]) (.agg #[.int .i64 1, .int .i64 0, .int .i64 0, .string ⟨#[]⟩, .int .i64 1])).run Try.prog W = .ok (.bool b) W := fun W => by rw [eq_val, h]
  have g : (r != 0) = true := by rw [bne_iff_ne]; exact hr
  simp only [if_true] at Q
  clear h hr
  go_enter Try.func44, Try.ntmps44
  go_upto_region 5 with fail
  go_region_law (first | (go_simp; go_at_call 46; (with_reducible refine (Q.out _).mono ?_); rintro e w1 ⟨rfl, hb1⟩; obtain ⟨hc1, hf1⟩ := bcell hb1; have hz := hb1.size; (try simp at hz); (try (have z1_0 : w.heap.size < w1.heap.size := (by omega))); clear hz; (try (have c1_0 : w1.cell? ⟨w.heap.size, 0, none⟩ = some (.int .i64 1) := by go_simp)); (try (have c1_1 : w1.cell? ⟨w.heap.size, 1, none⟩ = some (.int .i64 p) := by go_simp)); (try (have c1_2 : w1.cell? ⟨w.heap.size, 2, none⟩ = some (.int .i64 q) := by go_simp)); (try (have c1_3 : w1.cell? ⟨w.heap.size, 3, none⟩ = some (.string s) := by go_simp)); (try (have c1_4 : w1.cell? ⟨w.heap.size, 4, none⟩ = some (.int .i64 r) := by go_simp))))
  all_goals (
    go_wp2
    go_ret
    refine ⟨rfl, ?_⟩
    repeat (first | exact Below.refl _ _ | refine below_drewN ?_ _ | refine Below.drew ?_ | refine Below.setCell ?_ (by first | omega | (simp; done) | (simp; omega)) _ | refine Below.alloc ?_ (by first | omega | (simp; done) | (simp; omega)) _ | refine vstep (by assumption) (by first | omega | (simp; done) | (simp; omega)) ?_))
theorem vv_20 (p q : Int) (s : ByteArray) (r : Int) (b : Bool) (w : World) (hv : vld p q = false) (h : false = b) :
    Calls Try.prog 44 #[.agg #[.int .i64 2, .int .i64 p, .int .i64 q, .string s, .int .i64 r]] w fun e w' => e = .returned (.bool b) ∧ Below w.heap.size w w' := by
  have Q := Lib.hid fun w => ofNum_no p q w hv
  have E : ∀ W, (binOp .eql 26 (.agg #[.int .i64 2, .int .i64 p, .int .i64 q, .string s, .int .i64 r]) (.agg #[.int .i64 0, .int .i64 0, .int .i64 0, .string ⟨#[]⟩, .int .i64 0])).run Try.prog W = .ok (.bool false) W := fun W => by rw [eq_val]; rfl
  subst h
  clear hv
  go_enter Try.func44, Try.ntmps44
  go_upto_region 7 with fail
  go_region_law (first | (go_simp; go_at_call 47; (with_reducible refine (Q.out _).mono ?_); rintro e w1 ⟨rfl, hb1⟩; obtain ⟨hc1, hf1⟩ := bcell hb1; have hz := hb1.size; (try simp at hz); (try (have z1_0 : w.heap.size < w1.heap.size := (by omega))); clear hz; (try (have c1_0 : w1.cell? ⟨w.heap.size, 0, none⟩ = some (.int .i64 2) := by go_simp)); (try (have c1_1 : w1.cell? ⟨w.heap.size, 1, none⟩ = some (.int .i64 p) := by go_simp)); (try (have c1_2 : w1.cell? ⟨w.heap.size, 2, none⟩ = some (.int .i64 q) := by go_simp)); (try (have c1_3 : w1.cell? ⟨w.heap.size, 3, none⟩ = some (.string s) := by go_simp)); (try (have c1_4 : w1.cell? ⟨w.heap.size, 4, none⟩ = some (.int .i64 r) := by go_simp))))
  all_goals (
    go_wp2
    go_ret
    refine ⟨rfl, ?_⟩
    repeat (first | exact Below.refl _ _ | refine below_drewN ?_ _ | refine Below.drew ?_ | refine Below.setCell ?_ (by first | omega | (simp; done) | (simp; omega)) _ | refine Below.alloc ?_ (by first | omega | (simp; done) | (simp; omega)) _ | refine vstep (by assumption) (by first | omega | (simp; done) | (simp; omega)) ?_))
theorem vv_21 (p q : Int) (s : ByteArray) (r : Int) (b : Bool) (w : World) (hv : vld p q = true) (h : eqV 2 p q s r 2 p q ⟨#[]⟩ 0 = b) :
    Calls Try.prog 44 #[.agg #[.int .i64 2, .int .i64 p, .int .i64 q, .string s, .int .i64 r]] w fun e w' => e = .returned (.bool b) ∧ Below w.heap.size w w' := by
  have Q := Lib.hid fun w => ofNum_ok p q w hv
  have E : ∀ W, (binOp .eql 26 (.agg #[.int .i64 2, .int .i64 p, .int .i64 q, .string s, .int .i64 r]) (.agg #[.int .i64 2, .int .i64 p, .int .i64 q, .string ⟨#[]⟩, .int .i64 0])).run Try.prog W = .ok (.bool b) W := fun W => by rw [eq_val, h]
  clear h hv
  go_enter Try.func44, Try.ntmps44
  go_upto_region 7 with fail
  go_region_law (first | (go_simp; go_at_call 47; (with_reducible refine (Q.out _).mono ?_); rintro e w1 ⟨rfl, hb1⟩; obtain ⟨hc1, hf1⟩ := bcell hb1; have hz := hb1.size; (try simp at hz); (try (have z1_0 : w.heap.size < w1.heap.size := (by omega))); clear hz; (try (have c1_0 : w1.cell? ⟨w.heap.size, 0, none⟩ = some (.int .i64 2) := by go_simp)); (try (have c1_1 : w1.cell? ⟨w.heap.size, 1, none⟩ = some (.int .i64 p) := by go_simp)); (try (have c1_2 : w1.cell? ⟨w.heap.size, 2, none⟩ = some (.int .i64 q) := by go_simp)); (try (have c1_3 : w1.cell? ⟨w.heap.size, 3, none⟩ = some (.string s) := by go_simp)); (try (have c1_4 : w1.cell? ⟨w.heap.size, 4, none⟩ = some (.int .i64 r) := by go_simp))))
  all_goals (
    go_wp2
    go_ret
    refine ⟨rfl, ?_⟩
    repeat (first | exact Below.refl _ _ | refine below_drewN ?_ _ | refine Below.drew ?_ | refine Below.setCell ?_ (by first | omega | (simp; done) | (simp; omega)) _ | refine Below.alloc ?_ (by first | omega | (simp; done) | (simp; omega)) _ | refine vstep (by assumption) (by first | omega | (simp; done) | (simp; omega)) ?_))
theorem vv_30 (p q : Int) (s : ByteArray) (r : Int) (b : Bool) (w : World) (hs : ¬ s.size ≤ 4096) (h : false = b) :
    Calls Try.prog 44 #[.agg #[.int .i64 3, .int .i64 p, .int .i64 q, .string s, .int .i64 r]] w fun e w' => e = .returned (.bool b) ∧ Below w.heap.size w w' := by
  have d0 : ¬ (s.size : Int) ≤ 4096 := by omega
  subst h
  clear hs
  go_enter Try.func44, Try.ntmps44
  go_upto_region 9 with fail
  go_region
  all_goals (
    go_wp2
    go_ret
    refine ⟨rfl, ?_⟩
    repeat (first | exact Below.refl _ _ | refine below_drewN ?_ _ | refine Below.drew ?_ | refine Below.setCell ?_ (by first | omega | (simp; done) | (simp; omega)) _ | refine Below.alloc ?_ (by first | omega | (simp; done) | (simp; omega)) _ | refine vstep (by assumption) (by first | omega | (simp; done) | (simp; omega)) ?_))
theorem vv_31 (p q : Int) (s : ByteArray) (r : Int) (b : Bool) (w : World) (hs : s.size ≤ 4096) (h : eqV 3 p q s r 3 0 0 s 0 = b) :
    Calls Try.prog 44 #[.agg #[.int .i64 3, .int .i64 p, .int .i64 q, .string s, .int .i64 r]] w fun e w' => e = .returned (.bool b) ∧ Below w.heap.size w w' := by
  have d0 : (s.size : Int) ≤ 4096 := by omega
  have E : ∀ W, (binOp .eql 26 (.agg #[.int .i64 3, .int .i64 p, .int .i64 q, .string s, .int .i64 r]) (.agg #[.int .i64 3, .int .i64 0, .int .i64 0, .string s, .int .i64 0])).run Try.prog W = .ok (.bool b) W := fun W => by rw [eq_val, h]
  clear h hs
  have Q := Lib.hid fun w => ofStr_any s w
  go_enter Try.func44, Try.ntmps44
  go_upto_region 9 with fail
  go_region_law (first | (go_simp; go_at_call 35; (with_reducible refine (Q.out _).mono ?_); rintro e w1 ⟨rfl, hb1⟩; obtain ⟨hc1, hf1⟩ := bcell hb1; have hz := hb1.size; (try simp at hz); (try (have z1_0 : w.heap.size < w1.heap.size := (by omega))); clear hz; (try (have c1_0 : w1.cell? ⟨w.heap.size, 0, none⟩ = some (.int .i64 3) := by go_simp)); (try (have c1_1 : w1.cell? ⟨w.heap.size, 1, none⟩ = some (.int .i64 p) := by go_simp)); (try (have c1_2 : w1.cell? ⟨w.heap.size, 2, none⟩ = some (.int .i64 q) := by go_simp)); (try (have c1_3 : w1.cell? ⟨w.heap.size, 3, none⟩ = some (.string s) := by go_simp)); (try (have c1_4 : w1.cell? ⟨w.heap.size, 4, none⟩ = some (.int .i64 r) := by go_simp))))
  all_goals (
    go_wp2
    go_ret
    refine ⟨rfl, ?_⟩
    repeat (first | exact Below.refl _ _ | refine below_drewN ?_ _ | refine Below.drew ?_ | refine Below.setCell ?_ (by first | omega | (simp; done) | (simp; omega)) _ | refine Below.alloc ?_ (by first | omega | (simp; done) | (simp; omega)) _ | refine vstep (by assumption) (by first | omega | (simp; done) | (simp; omega)) ?_))
theorem vv_60 (p q : Int) (s : ByteArray) (r : Int) (b : Bool) (w : World) (hs : s.size = 0) (h : false = b) :
    Calls Try.prog 44 #[.agg #[.int .i64 6, .int .i64 p, .int .i64 q, .string s, .int .i64 r]] w fun e w' => e = .returned (.bool b) ∧ Below w.heap.size w w' := by
  obtain rfl : s = ⟨#[]⟩ := by
    obtain ⟨⟨l⟩⟩ := s
    cases l with
    | nil => rfl
    | cons x t => simp [ByteArray.size] at hs
  subst h
  clear hs
  go_enter Try.func44, Try.ntmps44
  go_wp2
  go_ret
  refine ⟨rfl, ?_⟩
  repeat (first | exact Below.refl _ _ | refine below_drewN ?_ _ | refine Below.drew ?_ | refine Below.setCell ?_ (by first | omega | (simp; done) | (simp; omega)) _ | refine Below.alloc ?_ (by first | omega | (simp; done) | (simp; omega)) _ | refine vstep (by assumption) (by first | omega | (simp; done) | (simp; omega)) ?_)
theorem vv_61 (p q : Int) (s : ByteArray) (r : Int) (b : Bool) (w : World) (hs : s.size ≠ 0) (ht : ¬ s.size ≤ 4096) (h : false = b) :
    Calls Try.prog 44 #[.agg #[.int .i64 6, .int .i64 p, .int .i64 q, .string s, .int .i64 r]] w fun e w' => e = .returned (.bool b) ∧ Below w.heap.size w w' := by
  have d0 : ¬ (s.size : Int) ≤ 4096 := by omega
  have d1 : (1 : Int) ≤ (s.size : Int) := by omega
  subst h
  have n0 : s.toList.isEmpty = false := by
    rw [ByteArray.toList_eq, List.isEmpty_eq_false_iff]; intro e; apply hs; show s.data.size = 0; rw [← Array.length_toList, e]; rfl
  clear hs ht
  go_enter Try.func44, Try.ntmps44
  go_wp2
  go_ret
  refine ⟨rfl, ?_⟩
  repeat (first | exact Below.refl _ _ | refine below_drewN ?_ _ | refine Below.drew ?_ | refine Below.setCell ?_ (by first | omega | (simp; done) | (simp; omega)) _ | refine Below.alloc ?_ (by first | omega | (simp; done) | (simp; omega)) _ | refine vstep (by assumption) (by first | omega | (simp; done) | (simp; omega)) ?_)
theorem vv_62 (p q : Int) (s : ByteArray) (r : Int) (b : Bool) (w : World) (hs : s.size ≠ 0) (ht : s.size ≤ 4096) (h : eqV 6 p q s r 6 0 0 s 0 = b) :
    Calls Try.prog 44 #[.agg #[.int .i64 6, .int .i64 p, .int .i64 q, .string s, .int .i64 r]] w fun e w' => e = .returned (.bool b) ∧ Below w.heap.size w w' := by
  have d0 : (s.size : Int) ≤ 4096 := by omega
  have d1 : (1 : Int) ≤ (s.size : Int) := by omega
  have n0 : s.toList.isEmpty = false := by
    rw [ByteArray.toList_eq, List.isEmpty_eq_false_iff]; intro e; apply hs; show s.data.size = 0; rw [← Array.length_toList, e]; rfl
  have E : ∀ W, (binOp .eql 26 (.agg #[.int .i64 6, .int .i64 p, .int .i64 q, .string s, .int .i64 r]) (.agg #[.int .i64 6, .int .i64 0, .int .i64 0, .string s, .int .i64 0])).run Try.prog W = .ok (.bool b) W := fun W => by rw [eq_val, h]
  clear h hs ht
  go_enter Try.func44, Try.ntmps44
  go_wp2
  go_ret
  refine ⟨rfl, ?_⟩
  repeat (first | exact Below.refl _ _ | refine below_drewN ?_ _ | refine Below.drew ?_ | refine Below.setCell ?_ (by first | omega | (simp; done) | (simp; omega)) _ | refine Below.alloc ?_ (by first | omega | (simp; done) | (simp; omega)) _ | refine vstep (by assumption) (by first | omega | (simp; done) | (simp; omega)) ?_)
theorem vv_40 (p q : Int) (s : ByteArray) (r : Int) (b : Bool) (w : World) (hs : ¬ 1 ≤ r) (h : false = b) :
    Calls Try.prog 44 #[.agg #[.int .i64 4, .int .i64 p, .int .i64 q, .string s, .int .i64 r]] w fun e w' => e = .returned (.bool b) ∧ Below w.heap.size w w' := by
  have d0 : ¬ (1 : Int) ≤ r := by omega
  subst h
  clear hs
  go_enter Try.func44, Try.ntmps44
  go_wp2
  go_ret
  refine ⟨rfl, ?_⟩
  repeat (first | exact Below.refl _ _ | refine below_drewN ?_ _ | refine Below.drew ?_ | refine Below.setCell ?_ (by first | omega | (simp; done) | (simp; omega)) _ | refine Below.alloc ?_ (by first | omega | (simp; done) | (simp; omega)) _ | refine vstep (by assumption) (by first | omega | (simp; done) | (simp; omega)) ?_)
theorem vv_41 (p q : Int) (s : ByteArray) (r : Int) (b : Bool) (w : World) (hs : 1 ≤ r) (h : eqV 4 p q s r 4 0 0 ⟨#[]⟩ r = b) :
    Calls Try.prog 44 #[.agg #[.int .i64 4, .int .i64 p, .int .i64 q, .string s, .int .i64 r]] w fun e w' => e = .returned (.bool b) ∧ Below w.heap.size w w' := by
  have d0 : (1 : Int) ≤ r := by omega
  have E : ∀ W, (binOp .eql 26 (.agg #[.int .i64 4, .int .i64 p, .int .i64 q, .string s, .int .i64 r]) (.agg #[.int .i64 4, .int .i64 0, .int .i64 0, .string ⟨#[]⟩, .int .i64 r])).run Try.prog W = .ok (.bool b) W := fun W => by rw [eq_val, h]
  clear h hs
  go_enter Try.func44, Try.ntmps44
  go_wp2
  go_ret
  refine ⟨rfl, ?_⟩
  repeat (first | exact Below.refl _ _ | refine below_drewN ?_ _ | refine Below.drew ?_ | refine Below.setCell ?_ (by first | omega | (simp; done) | (simp; omega)) _ | refine Below.alloc ?_ (by first | omega | (simp; done) | (simp; omega)) _ | refine vstep (by assumption) (by first | omega | (simp; done) | (simp; omega)) ?_)
theorem vv_50 (p q : Int) (s : ByteArray) (r : Int) (b : Bool) (w : World) (hs : ¬ 1 ≤ r) (h : false = b) :
    Calls Try.prog 44 #[.agg #[.int .i64 5, .int .i64 p, .int .i64 q, .string s, .int .i64 r]] w fun e w' => e = .returned (.bool b) ∧ Below w.heap.size w w' := by
  have d0 : ¬ (1 : Int) ≤ r := by omega
  subst h
  clear hs
  go_enter Try.func44, Try.ntmps44
  go_wp2
  go_ret
  refine ⟨rfl, ?_⟩
  repeat (first | exact Below.refl _ _ | refine below_drewN ?_ _ | refine Below.drew ?_ | refine Below.setCell ?_ (by first | omega | (simp; done) | (simp; omega)) _ | refine Below.alloc ?_ (by first | omega | (simp; done) | (simp; omega)) _ | refine vstep (by assumption) (by first | omega | (simp; done) | (simp; omega)) ?_)
theorem vv_51 (p q : Int) (s : ByteArray) (r : Int) (b : Bool) (w : World) (hs : 1 ≤ r) (h : eqV 5 p q s r 5 0 0 ⟨#[]⟩ r = b) :
    Calls Try.prog 44 #[.agg #[.int .i64 5, .int .i64 p, .int .i64 q, .string s, .int .i64 r]] w fun e w' => e = .returned (.bool b) ∧ Below w.heap.size w w' := by
  have d0 : (1 : Int) ≤ r := by omega
  have E : ∀ W, (binOp .eql 26 (.agg #[.int .i64 5, .int .i64 p, .int .i64 q, .string s, .int .i64 r]) (.agg #[.int .i64 5, .int .i64 0, .int .i64 0, .string ⟨#[]⟩, .int .i64 r])).run Try.prog W = .ok (.bool b) W := fun W => by rw [eq_val, h]
  clear h hs
  go_enter Try.func44, Try.ntmps44
  go_wp2
  go_ret
  refine ⟨rfl, ?_⟩
  repeat (first | exact Below.refl _ _ | refine below_drewN ?_ _ | refine Below.drew ?_ | refine Below.setCell ?_ (by first | omega | (simp; done) | (simp; omega)) _ | refine Below.alloc ?_ (by first | omega | (simp; done) | (simp; omega)) _ | refine vstep (by assumption) (by first | omega | (simp; done) | (simp; omega)) ?_)
theorem vv_70 (p q : Int) (s : ByteArray) (r : Int) (b : Bool) (w : World) (hs : ¬ 1 ≤ r) (h : false = b) :
    Calls Try.prog 44 #[.agg #[.int .i64 7, .int .i64 p, .int .i64 q, .string s, .int .i64 r]] w fun e w' => e = .returned (.bool b) ∧ Below w.heap.size w w' := by
  have d0 : ¬ (1 : Int) ≤ r := by omega
  subst h
  clear hs
  go_enter Try.func44, Try.ntmps44
  go_wp2
  go_ret
  refine ⟨rfl, ?_⟩
  repeat (first | exact Below.refl _ _ | refine below_drewN ?_ _ | refine Below.drew ?_ | refine Below.setCell ?_ (by first | omega | (simp; done) | (simp; omega)) _ | refine Below.alloc ?_ (by first | omega | (simp; done) | (simp; omega)) _ | refine vstep (by assumption) (by first | omega | (simp; done) | (simp; omega)) ?_)
theorem vv_71 (p q : Int) (s : ByteArray) (r : Int) (b : Bool) (w : World) (hs : 1 ≤ r) (h : eqV 7 p q s r 7 0 0 ⟨#[]⟩ r = b) :
    Calls Try.prog 44 #[.agg #[.int .i64 7, .int .i64 p, .int .i64 q, .string s, .int .i64 r]] w fun e w' => e = .returned (.bool b) ∧ Below w.heap.size w w' := by
  have d0 : (1 : Int) ≤ r := by omega
  have E : ∀ W, (binOp .eql 26 (.agg #[.int .i64 7, .int .i64 p, .int .i64 q, .string s, .int .i64 r]) (.agg #[.int .i64 7, .int .i64 0, .int .i64 0, .string ⟨#[]⟩, .int .i64 r])).run Try.prog W = .ok (.bool b) W := fun W => by rw [eq_val, h]
  clear h hs
  go_enter Try.func44, Try.ntmps44
  go_wp2
  go_ret
  refine ⟨rfl, ?_⟩
  repeat (first | exact Below.refl _ _ | refine below_drewN ?_ _ | refine Below.drew ?_ | refine Below.setCell ?_ (by first | omega | (simp; done) | (simp; omega)) _ | refine Below.alloc ?_ (by first | omega | (simp; done) | (simp; omega)) _ | refine vstep (by assumption) (by first | omega | (simp; done) | (simp; omega)) ?_)
theorem vv_80 (p q : Int) (s : ByteArray) (r : Int) (b : Bool) (w : World) (hs : ¬ 1 ≤ r) (h : false = b) :
    Calls Try.prog 44 #[.agg #[.int .i64 8, .int .i64 p, .int .i64 q, .string s, .int .i64 r]] w fun e w' => e = .returned (.bool b) ∧ Below w.heap.size w w' := by
  have d0 : ¬ (1 : Int) ≤ r := by omega
  subst h
  clear hs
  go_enter Try.func44, Try.ntmps44
  go_wp2
  go_ret
  refine ⟨rfl, ?_⟩
  repeat (first | exact Below.refl _ _ | refine below_drewN ?_ _ | refine Below.drew ?_ | refine Below.setCell ?_ (by first | omega | (simp; done) | (simp; omega)) _ | refine Below.alloc ?_ (by first | omega | (simp; done) | (simp; omega)) _ | refine vstep (by assumption) (by first | omega | (simp; done) | (simp; omega)) ?_)
theorem vv_81 (p q : Int) (s : ByteArray) (r : Int) (b : Bool) (w : World) (hs : 1 ≤ r) (h : eqV 8 p q s r 8 0 0 ⟨#[]⟩ r = b) :
    Calls Try.prog 44 #[.agg #[.int .i64 8, .int .i64 p, .int .i64 q, .string s, .int .i64 r]] w fun e w' => e = .returned (.bool b) ∧ Below w.heap.size w w' := by
  have d0 : (1 : Int) ≤ r := by omega
  have E : ∀ W, (binOp .eql 26 (.agg #[.int .i64 8, .int .i64 p, .int .i64 q, .string s, .int .i64 r]) (.agg #[.int .i64 8, .int .i64 0, .int .i64 0, .string ⟨#[]⟩, .int .i64 r])).run Try.prog W = .ok (.bool b) W := fun W => by rw [eq_val, h]
  clear h hs
  go_enter Try.func44, Try.ntmps44
  go_wp2
  go_ret
  refine ⟨rfl, ?_⟩
  repeat (first | exact Below.refl _ _ | refine below_drewN ?_ _ | refine Below.drew ?_ | refine Below.setCell ?_ (by first | omega | (simp; done) | (simp; omega)) _ | refine Below.alloc ?_ (by first | omega | (simp; done) | (simp; omega)) _ | refine vstep (by assumption) (by first | omega | (simp; done) | (simp; omega)) ?_)
theorem vv_no (k p q : Int) (s : ByteArray) (r : Int) (b : Bool) (w : World) (h0 : k ≠ 0) (h1 : k ≠ 1) (h2 : k ≠ 2) (h3 : k ≠ 3) (h4 : k ≠ 4) (h5 : k ≠ 5) (h6 : k ≠ 6) (h7 : k ≠ 7) (h8 : k ≠ 8) (h : false = b) :
    Calls Try.prog 44 #[.agg #[.int .i64 k, .int .i64 p, .int .i64 q, .string s, .int .i64 r]] w fun e w' => e = .returned (.bool b) ∧ Below w.heap.size w w' := by
  have e0 : (k == 0) = false := by rw [beq_eq_false_iff_ne]; exact h0
  have e1 : (k == 1) = false := by rw [beq_eq_false_iff_ne]; exact h1
  have e2 : (k == 2) = false := by rw [beq_eq_false_iff_ne]; exact h2
  have e3 : (k == 3) = false := by rw [beq_eq_false_iff_ne]; exact h3
  have e4 : (k == 4) = false := by rw [beq_eq_false_iff_ne]; exact h4
  have e5 : (k == 5) = false := by rw [beq_eq_false_iff_ne]; exact h5
  have e6 : (k == 6) = false := by rw [beq_eq_false_iff_ne]; exact h6
  have e7 : (k == 7) = false := by rw [beq_eq_false_iff_ne]; exact h7
  have e8 : (k == 8) = false := by rw [beq_eq_false_iff_ne]; exact h8
  subst h
  clear h0 h1 h2 h3 h4 h5 h6 h7 h8
  go_enter Try.func44, Try.ntmps44
  go_wp2
  go_ret
  refine ⟨rfl, ?_⟩
  repeat (first | exact Below.refl _ _ | refine below_drewN ?_ _ | refine Below.drew ?_ | refine Below.setCell ?_ (by first | omega | (simp; done) | (simp; omega)) _ | refine Below.alloc ?_ (by first | omega | (simp; done) | (simp; omega)) _ | refine vstep (by assumption) (by first | omega | (simp; done) | (simp; omega)) ?_)
theorem valid5 (k p q : Int) (s : ByteArray) (r : Int) (w : World) :
    Calls Try.prog 44 #[.agg #[.int .i64 k, .int .i64 p, .int .i64 q, .string s, .int .i64 r]] w fun e w' => e = .returned (.bool (validF k p q s r)) ∧ Below w.heap.size w w' := by
  unfold validF
  by_cases h0 : k = 0
  · subst h0; rw [if_pos rfl]; exact vv_0 p q s r _ w rfl
  rw [if_neg h0]
  by_cases h1 : k = 1
  · subst h1; rw [if_pos rfl]
    by_cases hr : r = 0
    · rw [if_pos hr]; exact vv_10 p q s r _ w hr rfl
    · rw [if_neg hr]; exact vv_11 p q s r _ w hr rfl
  rw [if_neg h1]
  by_cases h2 : k = 2
  · subst h2; rw [if_pos rfl]
    cases hv : vld p q with
    | false => exact vv_20 p q s r _ w hv rfl
    | true => exact vv_21 p q s r _ w hv rfl
  rw [if_neg h2]
  by_cases h3 : k = 3
  · subst h3; rw [if_pos rfl]
    by_cases hs : s.size ≤ 4096
    · rw [decide_eq_true hs]; exact vv_31 p q s r _ w hs rfl
    · rw [decide_eq_false hs]; exact vv_30 p q s r _ w hs rfl
  rw [if_neg h3]
  by_cases h6 : k = 6
  · subst h6; rw [if_pos rfl]
    by_cases hs : s.size = 0
    · rw [decide_eq_false (show ¬ 1 ≤ s.size by omega)]; exact vv_60 p q s r _ w hs rfl
    · rw [decide_eq_true (show 1 ≤ s.size by omega)]
      by_cases ht : s.size ≤ 4096
      · rw [decide_eq_true ht]; exact vv_62 p q s r _ w hs ht rfl
      · rw [decide_eq_false ht]; exact vv_61 p q s r _ w hs ht rfl
  rw [if_neg h6]
  by_cases h4 : k = 4
  · subst h4; rw [if_pos (.inl rfl)]
    by_cases hs : 1 ≤ r
    · rw [decide_eq_true hs]; exact vv_41 p q s r _ w hs rfl
    · rw [decide_eq_false hs]; exact vv_40 p q s r _ w hs rfl
  by_cases h5 : k = 5
  · subst h5; rw [if_pos (.inr (.inl rfl))]
    by_cases hs : 1 ≤ r
    · rw [decide_eq_true hs]; exact vv_51 p q s r _ w hs rfl
    · rw [decide_eq_false hs]; exact vv_50 p q s r _ w hs rfl
  by_cases h7 : k = 7
  · subst h7; rw [if_pos (.inr (.inr (.inl rfl)))]
    by_cases hs : 1 ≤ r
    · rw [decide_eq_true hs]; exact vv_71 p q s r _ w hs rfl
    · rw [decide_eq_false hs]; exact vv_70 p q s r _ w hs rfl
  by_cases h8 : k = 8
  · subst h8; rw [if_pos (.inr (.inr (.inr rfl)))]
    by_cases hs : 1 ≤ r
    · rw [decide_eq_true hs]; exact vv_81 p q s r _ w hs rfl
    · rw [decide_eq_false hs]; exact vv_80 p q s r _ w hs rfl
  rw [if_neg (by rintro (h | h | h | h) <;> contradiction)]
  exact vv_no k p q s r _ w h0 h1 h2 h3 h4 h5 h6 h7 h8 rfl
theorem rvv_0 (p q : Int) (s : ByteArray) (r : Int) (b : Bool) (w : World) (h : eqV 0 p q s r 0 0 0 ⟨#[]⟩ 0 = b) :
    Calls Try.prog 39 #[.agg #[.int .i64 0, .int .i64 p, .int .i64 q, .string s, .int .i64 r]] w fun e w' => e = .returned (.bool b) ∧ Below w.heap.size w w' := by
  have E : ∀ W, (binOp .eql 26 (.agg #[.int .i64 0, .int .i64 p, .int .i64 q, .string s, .int .i64 r]) (.agg #[.int .i64 0, .int .i64 0, .int .i64 0, .string ⟨#[]⟩, .int .i64 0])).run Try.prog W = .ok (.bool b) W := fun W => by rw [eq_val, h]
  clear h
  go_enter Try.func39, Try.ntmps39
  go_wp2
  go_ret
  refine ⟨rfl, ?_⟩
  repeat (first | exact Below.refl _ _ | refine below_drewN ?_ _ | refine Below.drew ?_ | refine Below.setCell ?_ (by first | omega | (simp; done) | (simp; omega)) _ | refine Below.alloc ?_ (by first | omega | (simp; done) | (simp; omega)) _ | refine vstep (by assumption) (by first | omega | (simp; done) | (simp; omega)) ?_)
theorem rvv_10 (p q : Int) (s : ByteArray) (r : Int) (b : Bool) (w : World) (hr : r = 0) (h : eqV 1 p q s r 1 0 0 ⟨#[]⟩ 0 = b) :
    Calls Try.prog 39 #[.agg #[.int .i64 1, .int .i64 p, .int .i64 q, .string s, .int .i64 r]] w fun e w' => e = .returned (.bool b) ∧ Below w.heap.size w w' := by
  have E : ∀ W, (binOp .eql 26 (.agg #[.int .i64 1, .int .i64 p, .int .i64 q, .string s, .int .i64 r]) (.agg #[.int .i64 1, .int .i64 0, .int .i64 0, .string ⟨#[]⟩, .int .i64 r])).run Try.prog W = .ok (.bool (eqV 1 p q s r 1 0 0 ⟨#[]⟩ r)) W := fun W => eq_val _ _ _ _ _ _ _ _ _ _ W
  subst hr
  rw [h] at E
  clear h
  cases b
  · go_enter Try.func39, Try.ntmps39
    go_wp2
    go_ret
    refine ⟨rfl, ?_⟩
    repeat (first | exact Below.refl _ _ | refine below_drewN ?_ _ | refine Below.drew ?_ | refine Below.setCell ?_ (by first | omega | (simp; done) | (simp; omega)) _ | refine Below.alloc ?_ (by first | omega | (simp; done) | (simp; omega)) _ | refine vstep (by assumption) (by first | omega | (simp; done) | (simp; omega)) ?_)
  · go_enter Try.func39, Try.ntmps39
    go_wp2
    go_ret
    refine ⟨rfl, ?_⟩
    repeat (first | exact Below.refl _ _ | refine below_drewN ?_ _ | refine Below.drew ?_ | refine Below.setCell ?_ (by first | omega | (simp; done) | (simp; omega)) _ | refine Below.alloc ?_ (by first | omega | (simp; done) | (simp; omega)) _ | refine vstep (by assumption) (by first | omega | (simp; done) | (simp; omega)) ?_)
theorem rvv_11 (p q : Int) (s : ByteArray) (r : Int) (b : Bool) (w : World) (hr : ¬ r = 0) (h : eqV 1 p q s r 1 0 0 ⟨#[]⟩ 1 = b) :
    Calls Try.prog 39 #[.agg #[.int .i64 1, .int .i64 p, .int .i64 q, .string s, .int .i64 r]] w fun e w' => e = .returned (.bool b) ∧ Below w.heap.size w w' := by
  have E : ∀ W, (binOp .eql 26 (.agg #[.int .i64 1, .int .i64 p, .int .i64 q, .string s, .int .i64 r]) (.agg #[.int .i64 1, .int .i64 0, .int .i64 0, .string ⟨#[]⟩, .int .i64 r])).run Try.prog W = .ok (.bool (eqV 1 p q s r 1 0 0 ⟨#[]⟩ r)) W := fun W => eq_val _ _ _ _ _ _ _ _ _ _ W
  have e0 : (r == 0) = false := by rw [beq_eq_false_iff_ne]; exact hr
  by_cases h1 : r = 1
  · subst h1
    rw [h] at E
    clear h hr
    cases b
    · go_enter Try.func39, Try.ntmps39
      go_wp2
      go_ret
      refine ⟨rfl, ?_⟩
      repeat (first | exact Below.refl _ _ | refine below_drewN ?_ _ | refine Below.drew ?_ | refine Below.setCell ?_ (by first | omega | (simp; done) | (simp; omega)) _ | refine Below.alloc ?_ (by first | omega | (simp; done) | (simp; omega)) _ | refine vstep (by assumption) (by first | omega | (simp; done) | (simp; omega)) ?_)
    · go_enter Try.func39, Try.ntmps39
      go_wp2
      go_ret
      refine ⟨rfl, ?_⟩
      repeat (first | exact Below.refl _ _ | refine below_drewN ?_ _ | refine Below.drew ?_ | refine Below.setCell ?_ (by first | omega | (simp; done) | (simp; omega)) _ | refine Below.alloc ?_ (by first | omega | (simp; done) | (simp; omega)) _ | refine vstep (by assumption) (by first | omega | (simp; done) | (simp; omega)) ?_)
  · have hb : b = false := by rw [← h]; unfold eqV; simp [h1]
    subst hb
    have e1 : (r == 1) = false := by rw [beq_eq_false_iff_ne]; exact h1
    clear h h1 hr
    cases hx : eqV 1 p q s r 1 0 0 ⟨#[]⟩ r
    · rw [hx] at E
      clear hx
      go_enter Try.func39, Try.ntmps39
      go_wp2
      go_ret
      refine ⟨rfl, ?_⟩
      repeat (first | exact Below.refl _ _ | refine below_drewN ?_ _ | refine Below.drew ?_ | refine Below.setCell ?_ (by first | omega | (simp; done) | (simp; omega)) _ | refine Below.alloc ?_ (by first | omega | (simp; done) | (simp; omega)) _ | refine vstep (by assumption) (by first | omega | (simp; done) | (simp; omega)) ?_)
    · rw [hx] at E
      clear hx
      go_enter Try.func39, Try.ntmps39
      go_wp2
      go_ret
      refine ⟨rfl, ?_⟩
      repeat (first | exact Below.refl _ _ | refine below_drewN ?_ _ | refine Below.drew ?_ | refine Below.setCell ?_ (by first | omega | (simp; done) | (simp; omega)) _ | refine Below.alloc ?_ (by first | omega | (simp; done) | (simp; omega)) _ | refine vstep (by assumption) (by first | omega | (simp; done) | (simp; omega)) ?_)
theorem rvv_20 (p q : Int) (s : ByteArray) (r : Int) (b : Bool) (w : World) (hv : vld p q = false) (h : false = b) :
    Calls Try.prog 39 #[.agg #[.int .i64 2, .int .i64 p, .int .i64 q, .string s, .int .i64 r]] w fun e w' => e = .returned (.bool b) ∧ Below w.heap.size w w' := by
  have Q : Hid (∀ w, Calls Try.prog 45 #[.agg #[.int .i64 p, .int .i64 q]] w fun e w' => e = .returned (.bool false) ∧ Below w.heap.size w w') := Lib.hid fun w => by rw [← hv]; exact rvalid_any p q w
  clear hv
  have E : ∀ W, (binOp .eql 26 (.agg #[.int .i64 2, .int .i64 p, .int .i64 q, .string s, .int .i64 r]) (.agg #[.int .i64 2, .int .i64 p, .int .i64 q, .string ⟨#[]⟩, .int .i64 0])).run Try.prog W = .ok (.bool (eqV 2 p q s r 2 p q ⟨#[]⟩ 0)) W := fun W => eq_val _ _ _ _ _ _ _ _ _ _ W
  subst h
  cases hx : eqV 2 p q s r 2 p q ⟨#[]⟩ 0
  · rw [hx] at E
    clear hx
    go_enter Try.func39, Try.ntmps39
    go_wp2_with (go_at_call 45; (with_reducible refine (Q.out _).mono ?_); rintro e w1 ⟨rfl, hb1⟩; obtain ⟨hc1, hf1⟩ := bcell hb1; have hz := hb1.size; (try simp at hz); (try (have z1_0 : w.heap.size < w1.heap.size := (by omega))); clear hz; (try (have c1_0 : w1.cell? ⟨w.heap.size, 0, none⟩ = some (.int .i64 2) := by go_simp)); (try (have c1_1 : w1.cell? ⟨w.heap.size, 1, none⟩ = some (.int .i64 p) := by go_simp)); (try (have c1_2 : w1.cell? ⟨w.heap.size, 2, none⟩ = some (.int .i64 q) := by go_simp)); (try (have c1_3 : w1.cell? ⟨w.heap.size, 3, none⟩ = some (.string s) := by go_simp)); (try (have c1_4 : w1.cell? ⟨w.heap.size, 4, none⟩ = some (.int .i64 r) := by go_simp)))
    go_ret
    refine ⟨rfl, ?_⟩
    repeat (first | exact Below.refl _ _ | refine below_drewN ?_ _ | refine Below.drew ?_ | refine Below.setCell ?_ (by first | omega | (simp; done) | (simp; omega)) _ | refine Below.alloc ?_ (by first | omega | (simp; done) | (simp; omega)) _ | refine vstep (by assumption) (by first | omega | (simp; done) | (simp; omega)) ?_)
  · rw [hx] at E
    clear hx
    go_enter Try.func39, Try.ntmps39
    go_wp2_with (go_at_call 45; (with_reducible refine (Q.out _).mono ?_); rintro e w1 ⟨rfl, hb1⟩; obtain ⟨hc1, hf1⟩ := bcell hb1; have hz := hb1.size; (try simp at hz); (try (have z1_0 : w.heap.size < w1.heap.size := (by omega))); clear hz; (try (have c1_0 : w1.cell? ⟨w.heap.size, 0, none⟩ = some (.int .i64 2) := by go_simp)); (try (have c1_1 : w1.cell? ⟨w.heap.size, 1, none⟩ = some (.int .i64 p) := by go_simp)); (try (have c1_2 : w1.cell? ⟨w.heap.size, 2, none⟩ = some (.int .i64 q) := by go_simp)); (try (have c1_3 : w1.cell? ⟨w.heap.size, 3, none⟩ = some (.string s) := by go_simp)); (try (have c1_4 : w1.cell? ⟨w.heap.size, 4, none⟩ = some (.int .i64 r) := by go_simp)))
    go_ret
    refine ⟨rfl, ?_⟩
    repeat (first | exact Below.refl _ _ | refine below_drewN ?_ _ | refine Below.drew ?_ | refine Below.setCell ?_ (by first | omega | (simp; done) | (simp; omega)) _ | refine Below.alloc ?_ (by first | omega | (simp; done) | (simp; omega)) _ | refine vstep (by assumption) (by first | omega | (simp; done) | (simp; omega)) ?_)
theorem rvv_21 (p q : Int) (s : ByteArray) (r : Int) (b : Bool) (w : World) (hv : vld p q = true) (h : eqV 2 p q s r 2 p q ⟨#[]⟩ 0 = b) :
    Calls Try.prog 39 #[.agg #[.int .i64 2, .int .i64 p, .int .i64 q, .string s, .int .i64 r]] w fun e w' => e = .returned (.bool b) ∧ Below w.heap.size w w' := by
  have Q : Hid (∀ w, Calls Try.prog 45 #[.agg #[.int .i64 p, .int .i64 q]] w fun e w' => e = .returned (.bool true) ∧ Below w.heap.size w w') := Lib.hid fun w => by rw [← hv]; exact rvalid_any p q w
  clear hv
  have E : ∀ W, (binOp .eql 26 (.agg #[.int .i64 2, .int .i64 p, .int .i64 q, .string s, .int .i64 r]) (.agg #[.int .i64 2, .int .i64 p, .int .i64 q, .string ⟨#[]⟩, .int .i64 0])).run Try.prog W = .ok (.bool (eqV 2 p q s r 2 p q ⟨#[]⟩ 0)) W := fun W => eq_val _ _ _ _ _ _ _ _ _ _ W
  rw [h] at E
  clear h
  cases b
  · go_enter Try.func39, Try.ntmps39
    go_wp2_with (go_at_call 45; (with_reducible refine (Q.out _).mono ?_); rintro e w1 ⟨rfl, hb1⟩; obtain ⟨hc1, hf1⟩ := bcell hb1; have hz := hb1.size; (try simp at hz); (try (have z1_0 : w.heap.size < w1.heap.size := (by omega))); clear hz; (try (have c1_0 : w1.cell? ⟨w.heap.size, 0, none⟩ = some (.int .i64 2) := by go_simp)); (try (have c1_1 : w1.cell? ⟨w.heap.size, 1, none⟩ = some (.int .i64 p) := by go_simp)); (try (have c1_2 : w1.cell? ⟨w.heap.size, 2, none⟩ = some (.int .i64 q) := by go_simp)); (try (have c1_3 : w1.cell? ⟨w.heap.size, 3, none⟩ = some (.string s) := by go_simp)); (try (have c1_4 : w1.cell? ⟨w.heap.size, 4, none⟩ = some (.int .i64 r) := by go_simp)))
    go_ret
    refine ⟨rfl, ?_⟩
    repeat (first | exact Below.refl _ _ | refine below_drewN ?_ _ | refine Below.drew ?_ | refine Below.setCell ?_ (by first | omega | (simp; done) | (simp; omega)) _ | refine Below.alloc ?_ (by first | omega | (simp; done) | (simp; omega)) _ | refine vstep (by assumption) (by first | omega | (simp; done) | (simp; omega)) ?_)
  · go_enter Try.func39, Try.ntmps39
    go_wp2_with (go_at_call 45; (with_reducible refine (Q.out _).mono ?_); rintro e w1 ⟨rfl, hb1⟩; obtain ⟨hc1, hf1⟩ := bcell hb1; have hz := hb1.size; (try simp at hz); (try (have z1_0 : w.heap.size < w1.heap.size := (by omega))); clear hz; (try (have c1_0 : w1.cell? ⟨w.heap.size, 0, none⟩ = some (.int .i64 2) := by go_simp)); (try (have c1_1 : w1.cell? ⟨w.heap.size, 1, none⟩ = some (.int .i64 p) := by go_simp)); (try (have c1_2 : w1.cell? ⟨w.heap.size, 2, none⟩ = some (.int .i64 q) := by go_simp)); (try (have c1_3 : w1.cell? ⟨w.heap.size, 3, none⟩ = some (.string s) := by go_simp)); (try (have c1_4 : w1.cell? ⟨w.heap.size, 4, none⟩ = some (.int .i64 r) := by go_simp)))
    go_ret
    refine ⟨rfl, ?_⟩
    repeat (first | exact Below.refl _ _ | refine below_drewN ?_ _ | refine Below.drew ?_ | refine Below.setCell ?_ (by first | omega | (simp; done) | (simp; omega)) _ | refine Below.alloc ?_ (by first | omega | (simp; done) | (simp; omega)) _ | refine vstep (by assumption) (by first | omega | (simp; done) | (simp; omega)) ?_)
theorem rvv_30 (p q : Int) (s : ByteArray) (r : Int) (b : Bool) (w : World) (hs : ¬ s.size ≤ 4096) (h : false = b) :
    Calls Try.prog 39 #[.agg #[.int .i64 3, .int .i64 p, .int .i64 q, .string s, .int .i64 r]] w fun e w' => e = .returned (.bool b) ∧ Below w.heap.size w w' := by
  have d0 : ¬ (s.size : Int) ≤ 4096 := by omega
  subst h
  clear hs
  go_enter Try.func39, Try.ntmps39
  go_wp2
  go_ret
  refine ⟨rfl, ?_⟩
  repeat (first | exact Below.refl _ _ | refine below_drewN ?_ _ | refine Below.drew ?_ | refine Below.setCell ?_ (by first | omega | (simp; done) | (simp; omega)) _ | refine Below.alloc ?_ (by first | omega | (simp; done) | (simp; omega)) _ | refine vstep (by assumption) (by first | omega | (simp; done) | (simp; omega)) ?_)
theorem rvv_31 (p q : Int) (s : ByteArray) (r : Int) (b : Bool) (w : World) (hs : s.size ≤ 4096) (h : eqV 3 p q s r 3 0 0 s 0 = b) :
    Calls Try.prog 39 #[.agg #[.int .i64 3, .int .i64 p, .int .i64 q, .string s, .int .i64 r]] w fun e w' => e = .returned (.bool b) ∧ Below w.heap.size w w' := by
  have d0 : (s.size : Int) ≤ 4096 := by omega
  have E : ∀ W, (binOp .eql 26 (.agg #[.int .i64 3, .int .i64 p, .int .i64 q, .string s, .int .i64 r]) (.agg #[.int .i64 3, .int .i64 0, .int .i64 0, .string s, .int .i64 0])).run Try.prog W = .ok (.bool b) W := fun W => by rw [eq_val, h]
  clear h hs
  go_enter Try.func39, Try.ntmps39
  go_wp2
  go_ret
  refine ⟨rfl, ?_⟩
  repeat (first | exact Below.refl _ _ | refine below_drewN ?_ _ | refine Below.drew ?_ | refine Below.setCell ?_ (by first | omega | (simp; done) | (simp; omega)) _ | refine Below.alloc ?_ (by first | omega | (simp; done) | (simp; omega)) _ | refine vstep (by assumption) (by first | omega | (simp; done) | (simp; omega)) ?_)
theorem rvv_60 (p q : Int) (s : ByteArray) (r : Int) (b : Bool) (w : World) (hs : s.size = 0) (h : false = b) :
    Calls Try.prog 39 #[.agg #[.int .i64 6, .int .i64 p, .int .i64 q, .string s, .int .i64 r]] w fun e w' => e = .returned (.bool b) ∧ Below w.heap.size w w' := by
  obtain rfl : s = ⟨#[]⟩ := by
    obtain ⟨⟨l⟩⟩ := s
    cases l with
    | nil => rfl
    | cons x t => simp [ByteArray.size] at hs
  subst h
  clear hs
  go_enter Try.func39, Try.ntmps39
  go_wp2
  go_ret
  refine ⟨rfl, ?_⟩
  repeat (first | exact Below.refl _ _ | refine below_drewN ?_ _ | refine Below.drew ?_ | refine Below.setCell ?_ (by first | omega | (simp; done) | (simp; omega)) _ | refine Below.alloc ?_ (by first | omega | (simp; done) | (simp; omega)) _ | refine vstep (by assumption) (by first | omega | (simp; done) | (simp; omega)) ?_)
theorem rvv_61 (p q : Int) (s : ByteArray) (r : Int) (b : Bool) (w : World) (hs : s.size ≠ 0) (ht : ¬ s.size ≤ 4096) (h : false = b) :
    Calls Try.prog 39 #[.agg #[.int .i64 6, .int .i64 p, .int .i64 q, .string s, .int .i64 r]] w fun e w' => e = .returned (.bool b) ∧ Below w.heap.size w w' := by
  have d0 : ¬ (s.size : Int) ≤ 4096 := by omega
  have d1 : (1 : Int) ≤ (s.size : Int) := by omega
  subst h
  clear hs ht
  go_enter Try.func39, Try.ntmps39
  go_wp2
  go_ret
  refine ⟨rfl, ?_⟩
  repeat (first | exact Below.refl _ _ | refine below_drewN ?_ _ | refine Below.drew ?_ | refine Below.setCell ?_ (by first | omega | (simp; done) | (simp; omega)) _ | refine Below.alloc ?_ (by first | omega | (simp; done) | (simp; omega)) _ | refine vstep (by assumption) (by first | omega | (simp; done) | (simp; omega)) ?_)
theorem rvv_62 (p q : Int) (s : ByteArray) (r : Int) (b : Bool) (w : World) (hs : s.size ≠ 0) (ht : s.size ≤ 4096) (h : eqV 6 p q s r 6 0 0 s 0 = b) :
    Calls Try.prog 39 #[.agg #[.int .i64 6, .int .i64 p, .int .i64 q, .string s, .int .i64 r]] w fun e w' => e = .returned (.bool b) ∧ Below w.heap.size w w' := by
  have d0 : (s.size : Int) ≤ 4096 := by omega
  have d1 : (1 : Int) ≤ (s.size : Int) := by omega
  have E : ∀ W, (binOp .eql 26 (.agg #[.int .i64 6, .int .i64 p, .int .i64 q, .string s, .int .i64 r]) (.agg #[.int .i64 6, .int .i64 0, .int .i64 0, .string s, .int .i64 0])).run Try.prog W = .ok (.bool b) W := fun W => by rw [eq_val, h]
  clear h hs ht
  go_enter Try.func39, Try.ntmps39
  go_wp2
  go_ret
  refine ⟨rfl, ?_⟩
  repeat (first | exact Below.refl _ _ | refine below_drewN ?_ _ | refine Below.drew ?_ | refine Below.setCell ?_ (by first | omega | (simp; done) | (simp; omega)) _ | refine Below.alloc ?_ (by first | omega | (simp; done) | (simp; omega)) _ | refine vstep (by assumption) (by first | omega | (simp; done) | (simp; omega)) ?_)
theorem rvv_40 (p q : Int) (s : ByteArray) (r : Int) (b : Bool) (w : World) (hs : ¬ 1 ≤ r) (h : false = b) :
    Calls Try.prog 39 #[.agg #[.int .i64 4, .int .i64 p, .int .i64 q, .string s, .int .i64 r]] w fun e w' => e = .returned (.bool b) ∧ Below w.heap.size w w' := by
  have d0 : ¬ (1 : Int) ≤ r := by omega
  subst h
  clear hs
  have E : ∀ W, (binOp .eql 26 (.agg #[.int .i64 4, .int .i64 p, .int .i64 q, .string s, .int .i64 r]) (.agg #[.int .i64 4, .int .i64 0, .int .i64 0, .string ⟨#[]⟩, .int .i64 r])).run Try.prog W = .ok (.bool (eqV 4 p q s r 4 0 0 ⟨#[]⟩ r)) W := fun W => eq_val _ _ _ _ _ _ _ _ _ _ W
  cases hx : eqV 4 p q s r 4 0 0 ⟨#[]⟩ r
  · rw [hx] at E
    clear hx
    go_enter Try.func39, Try.ntmps39
    go_wp2
    go_ret
    refine ⟨rfl, ?_⟩
    repeat (first | exact Below.refl _ _ | refine below_drewN ?_ _ | refine Below.drew ?_ | refine Below.setCell ?_ (by first | omega | (simp; done) | (simp; omega)) _ | refine Below.alloc ?_ (by first | omega | (simp; done) | (simp; omega)) _ | refine vstep (by assumption) (by first | omega | (simp; done) | (simp; omega)) ?_)
  · rw [hx] at E
    clear hx
    go_enter Try.func39, Try.ntmps39
    go_wp2
    go_ret
    refine ⟨rfl, ?_⟩
    repeat (first | exact Below.refl _ _ | refine below_drewN ?_ _ | refine Below.drew ?_ | refine Below.setCell ?_ (by first | omega | (simp; done) | (simp; omega)) _ | refine Below.alloc ?_ (by first | omega | (simp; done) | (simp; omega)) _ | refine vstep (by assumption) (by first | omega | (simp; done) | (simp; omega)) ?_)
theorem rvv_41 (p q : Int) (s : ByteArray) (r : Int) (b : Bool) (w : World) (hs : 1 ≤ r) (h : eqV 4 p q s r 4 0 0 ⟨#[]⟩ r = b) :
    Calls Try.prog 39 #[.agg #[.int .i64 4, .int .i64 p, .int .i64 q, .string s, .int .i64 r]] w fun e w' => e = .returned (.bool b) ∧ Below w.heap.size w w' := by
  have d0 : (1 : Int) ≤ r := by omega
  have E : ∀ W, (binOp .eql 26 (.agg #[.int .i64 4, .int .i64 p, .int .i64 q, .string s, .int .i64 r]) (.agg #[.int .i64 4, .int .i64 0, .int .i64 0, .string ⟨#[]⟩, .int .i64 r])).run Try.prog W = .ok (.bool b) W := fun W => by rw [eq_val, h]
  clear h hs
  cases b
  · go_enter Try.func39, Try.ntmps39
    go_wp2
    go_ret
    refine ⟨rfl, ?_⟩
    repeat (first | exact Below.refl _ _ | refine below_drewN ?_ _ | refine Below.drew ?_ | refine Below.setCell ?_ (by first | omega | (simp; done) | (simp; omega)) _ | refine Below.alloc ?_ (by first | omega | (simp; done) | (simp; omega)) _ | refine vstep (by assumption) (by first | omega | (simp; done) | (simp; omega)) ?_)
  · go_enter Try.func39, Try.ntmps39
    go_wp2
    go_ret
    refine ⟨rfl, ?_⟩
    repeat (first | exact Below.refl _ _ | refine below_drewN ?_ _ | refine Below.drew ?_ | refine Below.setCell ?_ (by first | omega | (simp; done) | (simp; omega)) _ | refine Below.alloc ?_ (by first | omega | (simp; done) | (simp; omega)) _ | refine vstep (by assumption) (by first | omega | (simp; done) | (simp; omega)) ?_)
theorem rvv_50 (p q : Int) (s : ByteArray) (r : Int) (b : Bool) (w : World) (hs : ¬ 1 ≤ r) (h : false = b) :
    Calls Try.prog 39 #[.agg #[.int .i64 5, .int .i64 p, .int .i64 q, .string s, .int .i64 r]] w fun e w' => e = .returned (.bool b) ∧ Below w.heap.size w w' := by
  have d0 : ¬ (1 : Int) ≤ r := by omega
  subst h
  clear hs
  have E : ∀ W, (binOp .eql 26 (.agg #[.int .i64 5, .int .i64 p, .int .i64 q, .string s, .int .i64 r]) (.agg #[.int .i64 5, .int .i64 0, .int .i64 0, .string ⟨#[]⟩, .int .i64 r])).run Try.prog W = .ok (.bool (eqV 5 p q s r 5 0 0 ⟨#[]⟩ r)) W := fun W => eq_val _ _ _ _ _ _ _ _ _ _ W
  cases hx : eqV 5 p q s r 5 0 0 ⟨#[]⟩ r
  · rw [hx] at E
    clear hx
    go_enter Try.func39, Try.ntmps39
    go_wp2
    go_ret
    refine ⟨rfl, ?_⟩
    repeat (first | exact Below.refl _ _ | refine below_drewN ?_ _ | refine Below.drew ?_ | refine Below.setCell ?_ (by first | omega | (simp; done) | (simp; omega)) _ | refine Below.alloc ?_ (by first | omega | (simp; done) | (simp; omega)) _ | refine vstep (by assumption) (by first | omega | (simp; done) | (simp; omega)) ?_)
  · rw [hx] at E
    clear hx
    go_enter Try.func39, Try.ntmps39
    go_wp2
    go_ret
    refine ⟨rfl, ?_⟩
    repeat (first | exact Below.refl _ _ | refine below_drewN ?_ _ | refine Below.drew ?_ | refine Below.setCell ?_ (by first | omega | (simp; done) | (simp; omega)) _ | refine Below.alloc ?_ (by first | omega | (simp; done) | (simp; omega)) _ | refine vstep (by assumption) (by first | omega | (simp; done) | (simp; omega)) ?_)
theorem rvv_51 (p q : Int) (s : ByteArray) (r : Int) (b : Bool) (w : World) (hs : 1 ≤ r) (h : eqV 5 p q s r 5 0 0 ⟨#[]⟩ r = b) :
    Calls Try.prog 39 #[.agg #[.int .i64 5, .int .i64 p, .int .i64 q, .string s, .int .i64 r]] w fun e w' => e = .returned (.bool b) ∧ Below w.heap.size w w' := by
  have d0 : (1 : Int) ≤ r := by omega
  have E : ∀ W, (binOp .eql 26 (.agg #[.int .i64 5, .int .i64 p, .int .i64 q, .string s, .int .i64 r]) (.agg #[.int .i64 5, .int .i64 0, .int .i64 0, .string ⟨#[]⟩, .int .i64 r])).run Try.prog W = .ok (.bool b) W := fun W => by rw [eq_val, h]
  clear h hs
  cases b
  · go_enter Try.func39, Try.ntmps39
    go_wp2
    go_ret
    refine ⟨rfl, ?_⟩
    repeat (first | exact Below.refl _ _ | refine below_drewN ?_ _ | refine Below.drew ?_ | refine Below.setCell ?_ (by first | omega | (simp; done) | (simp; omega)) _ | refine Below.alloc ?_ (by first | omega | (simp; done) | (simp; omega)) _ | refine vstep (by assumption) (by first | omega | (simp; done) | (simp; omega)) ?_)
  · go_enter Try.func39, Try.ntmps39
    go_wp2
    go_ret
    refine ⟨rfl, ?_⟩
    repeat (first | exact Below.refl _ _ | refine below_drewN ?_ _ | refine Below.drew ?_ | refine Below.setCell ?_ (by first | omega | (simp; done) | (simp; omega)) _ | refine Below.alloc ?_ (by first | omega | (simp; done) | (simp; omega)) _ | refine vstep (by assumption) (by first | omega | (simp; done) | (simp; omega)) ?_)
theorem rvv_70 (p q : Int) (s : ByteArray) (r : Int) (b : Bool) (w : World) (hs : ¬ 1 ≤ r) (h : false = b) :
    Calls Try.prog 39 #[.agg #[.int .i64 7, .int .i64 p, .int .i64 q, .string s, .int .i64 r]] w fun e w' => e = .returned (.bool b) ∧ Below w.heap.size w w' := by
  have d0 : ¬ (1 : Int) ≤ r := by omega
  subst h
  clear hs
  have E : ∀ W, (binOp .eql 26 (.agg #[.int .i64 7, .int .i64 p, .int .i64 q, .string s, .int .i64 r]) (.agg #[.int .i64 7, .int .i64 0, .int .i64 0, .string ⟨#[]⟩, .int .i64 r])).run Try.prog W = .ok (.bool (eqV 7 p q s r 7 0 0 ⟨#[]⟩ r)) W := fun W => eq_val _ _ _ _ _ _ _ _ _ _ W
  cases hx : eqV 7 p q s r 7 0 0 ⟨#[]⟩ r
  · rw [hx] at E
    clear hx
    go_enter Try.func39, Try.ntmps39
    go_wp2
    go_ret
    refine ⟨rfl, ?_⟩
    repeat (first | exact Below.refl _ _ | refine below_drewN ?_ _ | refine Below.drew ?_ | refine Below.setCell ?_ (by first | omega | (simp; done) | (simp; omega)) _ | refine Below.alloc ?_ (by first | omega | (simp; done) | (simp; omega)) _ | refine vstep (by assumption) (by first | omega | (simp; done) | (simp; omega)) ?_)
  · rw [hx] at E
    clear hx
    go_enter Try.func39, Try.ntmps39
    go_wp2
    go_ret
    refine ⟨rfl, ?_⟩
    repeat (first | exact Below.refl _ _ | refine below_drewN ?_ _ | refine Below.drew ?_ | refine Below.setCell ?_ (by first | omega | (simp; done) | (simp; omega)) _ | refine Below.alloc ?_ (by first | omega | (simp; done) | (simp; omega)) _ | refine vstep (by assumption) (by first | omega | (simp; done) | (simp; omega)) ?_)
theorem rvv_71 (p q : Int) (s : ByteArray) (r : Int) (b : Bool) (w : World) (hs : 1 ≤ r) (h : eqV 7 p q s r 7 0 0 ⟨#[]⟩ r = b) :
    Calls Try.prog 39 #[.agg #[.int .i64 7, .int .i64 p, .int .i64 q, .string s, .int .i64 r]] w fun e w' => e = .returned (.bool b) ∧ Below w.heap.size w w' := by
  have d0 : (1 : Int) ≤ r := by omega
  have E : ∀ W, (binOp .eql 26 (.agg #[.int .i64 7, .int .i64 p, .int .i64 q, .string s, .int .i64 r]) (.agg #[.int .i64 7, .int .i64 0, .int .i64 0, .string ⟨#[]⟩, .int .i64 r])).run Try.prog W = .ok (.bool b) W := fun W => by rw [eq_val, h]
  clear h hs
  cases b
  · go_enter Try.func39, Try.ntmps39
    go_wp2
    go_ret
    refine ⟨rfl, ?_⟩
    repeat (first | exact Below.refl _ _ | refine below_drewN ?_ _ | refine Below.drew ?_ | refine Below.setCell ?_ (by first | omega | (simp; done) | (simp; omega)) _ | refine Below.alloc ?_ (by first | omega | (simp; done) | (simp; omega)) _ | refine vstep (by assumption) (by first | omega | (simp; done) | (simp; omega)) ?_)
  · go_enter Try.func39, Try.ntmps39
    go_wp2
    go_ret
    refine ⟨rfl, ?_⟩
    repeat (first | exact Below.refl _ _ | refine below_drewN ?_ _ | refine Below.drew ?_ | refine Below.setCell ?_ (by first | omega | (simp; done) | (simp; omega)) _ | refine Below.alloc ?_ (by first | omega | (simp; done) | (simp; omega)) _ | refine vstep (by assumption) (by first | omega | (simp; done) | (simp; omega)) ?_)
theorem rvv_80 (p q : Int) (s : ByteArray) (r : Int) (b : Bool) (w : World) (hs : ¬ 1 ≤ r) (h : false = b) :
    Calls Try.prog 39 #[.agg #[.int .i64 8, .int .i64 p, .int .i64 q, .string s, .int .i64 r]] w fun e w' => e = .returned (.bool b) ∧ Below w.heap.size w w' := by
  have d0 : ¬ (1 : Int) ≤ r := by omega
  subst h
  clear hs
  have E : ∀ W, (binOp .eql 26 (.agg #[.int .i64 8, .int .i64 p, .int .i64 q, .string s, .int .i64 r]) (.agg #[.int .i64 8, .int .i64 0, .int .i64 0, .string ⟨#[]⟩, .int .i64 r])).run Try.prog W = .ok (.bool (eqV 8 p q s r 8 0 0 ⟨#[]⟩ r)) W := fun W => eq_val _ _ _ _ _ _ _ _ _ _ W
  cases hx : eqV 8 p q s r 8 0 0 ⟨#[]⟩ r
  · rw [hx] at E
    clear hx
    go_enter Try.func39, Try.ntmps39
    go_wp2
    go_ret
    refine ⟨rfl, ?_⟩
    repeat (first | exact Below.refl _ _ | refine below_drewN ?_ _ | refine Below.drew ?_ | refine Below.setCell ?_ (by first | omega | (simp; done) | (simp; omega)) _ | refine Below.alloc ?_ (by first | omega | (simp; done) | (simp; omega)) _ | refine vstep (by assumption) (by first | omega | (simp; done) | (simp; omega)) ?_)
  · rw [hx] at E
    clear hx
    go_enter Try.func39, Try.ntmps39
    go_wp2
    go_ret
    refine ⟨rfl, ?_⟩
    repeat (first | exact Below.refl _ _ | refine below_drewN ?_ _ | refine Below.drew ?_ | refine Below.setCell ?_ (by first | omega | (simp; done) | (simp; omega)) _ | refine Below.alloc ?_ (by first | omega | (simp; done) | (simp; omega)) _ | refine vstep (by assumption) (by first | omega | (simp; done) | (simp; omega)) ?_)
theorem rvv_81 (p q : Int) (s : ByteArray) (r : Int) (b : Bool) (w : World) (hs : 1 ≤ r) (h : eqV 8 p q s r 8 0 0 ⟨#[]⟩ r = b) :
    Calls Try.prog 39 #[.agg #[.int .i64 8, .int .i64 p, .int .i64 q, .string s, .int .i64 r]] w fun e w' => e = .returned (.bool b) ∧ Below w.heap.size w w' := by
  have d0 : (1 : Int) ≤ r := by omega
  have E : ∀ W, (binOp .eql 26 (.agg #[.int .i64 8, .int .i64 p, .int .i64 q, .string s, .int .i64 r]) (.agg #[.int .i64 8, .int .i64 0, .int .i64 0, .string ⟨#[]⟩, .int .i64 r])).run Try.prog W = .ok (.bool b) W := fun W => by rw [eq_val, h]
  clear h hs
  cases b
  · go_enter Try.func39, Try.ntmps39
    go_wp2
    go_ret
    refine ⟨rfl, ?_⟩
    repeat (first | exact Below.refl _ _ | refine below_drewN ?_ _ | refine Below.drew ?_ | refine Below.setCell ?_ (by first | omega | (simp; done) | (simp; omega)) _ | refine Below.alloc ?_ (by first | omega | (simp; done) | (simp; omega)) _ | refine vstep (by assumption) (by first | omega | (simp; done) | (simp; omega)) ?_)
  · go_enter Try.func39, Try.ntmps39
    go_wp2
    go_ret
    refine ⟨rfl, ?_⟩
    repeat (first | exact Below.refl _ _ | refine below_drewN ?_ _ | refine Below.drew ?_ | refine Below.setCell ?_ (by first | omega | (simp; done) | (simp; omega)) _ | refine Below.alloc ?_ (by first | omega | (simp; done) | (simp; omega)) _ | refine vstep (by assumption) (by first | omega | (simp; done) | (simp; omega)) ?_)
theorem rvv_no (k p q : Int) (s : ByteArray) (r : Int) (b : Bool) (w : World) (h0 : k ≠ 0) (h1 : k ≠ 1) (h2 : k ≠ 2) (h3 : k ≠ 3) (h4 : k ≠ 4) (h5 : k ≠ 5) (h6 : k ≠ 6) (h7 : k ≠ 7) (h8 : k ≠ 8) (h : false = b) :
    Calls Try.prog 39 #[.agg #[.int .i64 k, .int .i64 p, .int .i64 q, .string s, .int .i64 r]] w fun e w' => e = .returned (.bool b) ∧ Below w.heap.size w w' := by
  have e0 : (k == 0) = false := by rw [beq_eq_false_iff_ne]; exact h0
  have e1 : (k == 1) = false := by rw [beq_eq_false_iff_ne]; exact h1
  have e2 : (k == 2) = false := by rw [beq_eq_false_iff_ne]; exact h2
  have e3 : (k == 3) = false := by rw [beq_eq_false_iff_ne]; exact h3
  have e4 : (k == 4) = false := by rw [beq_eq_false_iff_ne]; exact h4
  have e5 : (k == 5) = false := by rw [beq_eq_false_iff_ne]; exact h5
  have e6 : (k == 6) = false := by rw [beq_eq_false_iff_ne]; exact h6
  have e7 : (k == 7) = false := by rw [beq_eq_false_iff_ne]; exact h7
  have e8 : (k == 8) = false := by rw [beq_eq_false_iff_ne]; exact h8
  subst h
  clear h0 h1 h2 h3 h4 h5 h6 h7 h8
  go_enter Try.func39, Try.ntmps39
  go_wp2
  go_ret
  refine ⟨rfl, ?_⟩
  repeat (first | exact Below.refl _ _ | refine below_drewN ?_ _ | refine Below.drew ?_ | refine Below.setCell ?_ (by first | omega | (simp; done) | (simp; omega)) _ | refine Below.alloc ?_ (by first | omega | (simp; done) | (simp; omega)) _ | refine vstep (by assumption) (by first | omega | (simp; done) | (simp; omega)) ?_)
theorem rvalid5 (k p q : Int) (s : ByteArray) (r : Int) (w : World) :
    Calls Try.prog 39 #[.agg #[.int .i64 k, .int .i64 p, .int .i64 q, .string s, .int .i64 r]] w fun e w' => e = .returned (.bool (validF k p q s r)) ∧ Below w.heap.size w w' := by
  unfold validF
  by_cases h0 : k = 0
  · subst h0; rw [if_pos rfl]; exact rvv_0 p q s r _ w rfl
  rw [if_neg h0]
  by_cases h1 : k = 1
  · subst h1; rw [if_pos rfl]
    by_cases hr : r = 0
    · rw [if_pos hr]; exact rvv_10 p q s r _ w hr rfl
    · rw [if_neg hr]; exact rvv_11 p q s r _ w hr rfl
  rw [if_neg h1]
  by_cases h2 : k = 2
  · subst h2; rw [if_pos rfl]
    cases hv : vld p q with
    | false => exact rvv_20 p q s r _ w hv rfl
    | true => exact rvv_21 p q s r _ w hv rfl
  rw [if_neg h2]
  by_cases h3 : k = 3
  · subst h3; rw [if_pos rfl]
    by_cases hs : s.size ≤ 4096
    · rw [decide_eq_true hs]; exact rvv_31 p q s r _ w hs rfl
    · rw [decide_eq_false hs]; exact rvv_30 p q s r _ w hs rfl
  rw [if_neg h3]
  by_cases h6 : k = 6
  · subst h6; rw [if_pos rfl]
    by_cases hs : s.size = 0
    · rw [decide_eq_false (show ¬ 1 ≤ s.size by omega)]; exact rvv_60 p q s r _ w hs rfl
    · rw [decide_eq_true (show 1 ≤ s.size by omega)]
      by_cases ht : s.size ≤ 4096
      · rw [decide_eq_true ht]; exact rvv_62 p q s r _ w hs ht rfl
      · rw [decide_eq_false ht]; exact rvv_61 p q s r _ w hs ht rfl
  rw [if_neg h6]
  by_cases h4 : k = 4
  · subst h4; rw [if_pos (.inl rfl)]
    by_cases hs : 1 ≤ r
    · rw [decide_eq_true hs]; exact rvv_41 p q s r _ w hs rfl
    · rw [decide_eq_false hs]; exact rvv_40 p q s r _ w hs rfl
  by_cases h5 : k = 5
  · subst h5; rw [if_pos (.inr (.inl rfl))]
    by_cases hs : 1 ≤ r
    · rw [decide_eq_true hs]; exact rvv_51 p q s r _ w hs rfl
    · rw [decide_eq_false hs]; exact rvv_50 p q s r _ w hs rfl
  by_cases h7 : k = 7
  · subst h7; rw [if_pos (.inr (.inr (.inl rfl)))]
    by_cases hs : 1 ≤ r
    · rw [decide_eq_true hs]; exact rvv_71 p q s r _ w hs rfl
    · rw [decide_eq_false hs]; exact rvv_70 p q s r _ w hs rfl
  by_cases h8 : k = 8
  · subst h8; rw [if_pos (.inr (.inr (.inr rfl)))]
    by_cases hs : 1 ≤ r
    · rw [decide_eq_true hs]; exact rvv_81 p q s r _ w hs rfl
    · rw [decide_eq_false hs]; exact rvv_80 p q s r _ w hs rfl
  rw [if_neg (by rintro (h | h | h | h) <;> contradiction)]
  exact rvv_no k p q s r _ w h0 h1 h2 h3 h4 h5 h6 h7 h8 rfl
end Go.Proofs.Ytdgdpckjcpgoaaa
