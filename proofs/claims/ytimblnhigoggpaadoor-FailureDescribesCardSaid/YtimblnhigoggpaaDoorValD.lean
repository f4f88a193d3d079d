/- Contracts of layer 11: types. -/
import Derived.Test.YtimblnhigoggpaaDoorValB
import Derived.Maps.StringElems
import Derived.Maps.OwnOps
import Derived.Carry
import Derived.Deep.DeepCutAuto
import Derived.Deep.CutBlock
namespace Go.Proofs.YtimblnhigoggpaaDoor
open Go.RowKit M1
open Go.Maps (Keyed int_keyed keyOf_int_mk)
set_option linter.unusedVariables false
def typeN (k : Int) : List UInt8 := if k = 0 then [110, 105, 108] else if k = 1 then [98, 111, 111, 108, 101, 97, 110] else if k = 2 then [110, 117, 109, 98, 101, 114] else if k = 3 then [115, 116, 114, 105, 110, 103] else if k = 4 then [116, 97, 98, 108, 101] else if k = 5 then [102, 117, 110, 99, 116, 105, 111, 110] else if k = 6 then [102, 117, 110, 99, 116, 105, 111, 110] else if k = 7 then [116, 104, 114, 101, 97, 100] else if k = 8 then [117, 115, 101, 114, 100, 97, 116, 97] else []
def typeS (k : Int) : ByteArray := ⟨(typeN k).toArray⟩
theorem lit_inj {a b : List UInt8} {p q : List MemPlace} (h : ((.lit (.string a), p) : DataW Unit × List MemPlace) = (.lit (.string b), q)) : a = b := by cases h; rfl
theorem law47 : Keyed Tryd.prog 3 := int_keyed Tryd.underlying3
theorem zeroS (w : World) : (zeroValue 9).run Tryd.prog w = .ok (.string ⟨#[]⟩) w := by kernel_rfl
def namesD : DataW Unit := (((((((((DataW.map (H := Unit) []).put (.int .i64 0) (.lit (.string [110, 105, 108]))).put (.int .i64 1) (.lit (.string [98, 111, 111, 108, 101, 97, 110]))).put (.int .i64 2) (.lit (.string [110, 117, 109, 98, 101, 114]))).put (.int .i64 3) (.lit (.string [115, 116, 114, 105, 110, 103]))).put (.int .i64 4) (.lit (.string [116, 97, 98, 108, 101]))).put (.int .i64 5) (.lit (.string [102, 117, 110, 99, 116, 105, 111, 110]))).put (.int .i64 6) (.lit (.string [102, 117, 110, 99, 116, 105, 111, 110]))).put (.int .i64 7) (.lit (.string [116, 104, 114, 101, 97, 100]))).put (.int .i64 8) (.lit (.string [117, 115, 101, 114, 100, 97, 116, 97]))
theorem namesD_at (k : Int) : namesD.atKey (.int .i64 k) (.lit (.string [])) = .lit (.string (typeN k)) := by
  by_cases h0 : k = 0
  · subst h0; rfl
  by_cases h1 : k = 1
  · subst h1; rfl
  by_cases h2 : k = 2
  · subst h2; rfl
  by_cases h3 : k = 3
  · subst h3; rfl
  by_cases h4 : k = 4
  · subst h4; rfl
  by_cases h5 : k = 5
  · subst h5; rfl
  by_cases h6 : k = 6
  · subst h6; rfl
  by_cases h7 : k = 7
  · subst h7; rfl
  by_cases h8 : k = 8
  · subst h8; rfl
  unfold namesD typeN
  rw [if_neg h0, if_neg h1, if_neg h2, if_neg h3, if_neg h4, if_neg h5, if_neg h6, if_neg h7, if_neg h8]
  repeat rw [Go.Maps.atKey_put_other (by intro e; injection e; contradiction)]
  rfl
set_option maxHeartbeats 1000000 in
set_option maxRecDepth 100000 in
theorem names_any (w : World) : Calls Tryd.prog 55 #[] w fun e w' => ∃ b, e = .returned (.map (some b)) ∧ w'.ownsMap Tryd.prog 3 (plainElem (H := Unit) Tryd.prog 9) b 9 namesD ∧ Below w.heap.size w w' := by
  have o0 := World.ownsMap_made w Tryd.prog 3 (plainElem (H := Unit) Tryd.prog 9)
  have hmm := @run_makeMap Tryd.prog
  obtain ⟨w1, r1, o1, g1⟩ := o0.update law47 Tryd.underlying68 (by unfold maxLen; omega) (val := .string ⟨#[110, 105, 108]⟩) (keyOf_int_mk Tryd.underlying3 (by decide : (Lit.int .i64 0).wf = true)) (plainElem_string Tryd.underlying9 (by decide))
  obtain ⟨w2, r2, o2, g2⟩ := o1.update law47 Tryd.underlying68 (by unfold maxLen; omega) (val := .string ⟨#[98, 111, 111, 108, 101, 97, 110]⟩) (keyOf_int_mk Tryd.underlying3 (by decide : (Lit.int .i64 1).wf = true)) (plainElem_string Tryd.underlying9 (by decide))
  obtain ⟨w3, r3, o3, g3⟩ := o2.update law47 Tryd.underlying68 (by unfold maxLen; omega) (val := .string ⟨#[110, 117, 109, 98, 101, 114]⟩) (keyOf_int_mk Tryd.underlying3 (by decide : (Lit.int .i64 2).wf = true)) (plainElem_string Tryd.underlying9 (by decide))
  obtain ⟨w4, r4, o4, g4⟩ := o3.update law47 Tryd.underlying68 (by unfold maxLen; omega) (val := .string ⟨#[115, 116, 114, 105, 110, 103]⟩) (keyOf_int_mk Tryd.underlying3 (by decide : (Lit.int .i64 3).wf = true)) (plainElem_string Tryd.underlying9 (by decide))
  obtain ⟨w5, r5, o5, g5⟩ := o4.update law47 Tryd.underlying68 (by unfold maxLen; omega) (val := .string ⟨#[116, 97, 98, 108, 101]⟩) (keyOf_int_mk Tryd.underlying3 (by decide : (Lit.int .i64 4).wf = true)) (plainElem_string Tryd.underlying9 (by decide))
  obtain ⟨w6, r6, o6, g6⟩ := o5.update law47 Tryd.underlying68 (by unfold maxLen; omega) (val := .string ⟨#[102, 117, 110, 99, 116, 105, 111, 110]⟩) (keyOf_int_mk Tryd.underlying3 (by decide : (Lit.int .i64 5).wf = true)) (plainElem_string Tryd.underlying9 (by decide))
  obtain ⟨w7, r7, o7, g7⟩ := o6.update law47 Tryd.underlying68 (by unfold maxLen; omega) (val := .string ⟨#[102, 117, 110, 99, 116, 105, 111, 110]⟩) (keyOf_int_mk Tryd.underlying3 (by decide : (Lit.int .i64 6).wf = true)) (plainElem_string Tryd.underlying9 (by decide))
  obtain ⟨w8, r8, o8, g8⟩ := o7.update law47 Tryd.underlying68 (by unfold maxLen; omega) (val := .string ⟨#[116, 104, 114, 101, 97, 100]⟩) (keyOf_int_mk Tryd.underlying3 (by decide : (Lit.int .i64 7).wf = true)) (plainElem_string Tryd.underlying9 (by decide))
  obtain ⟨w9, r9, o9, g9⟩ := o8.update law47 Tryd.underlying68 (by unfold maxLen; omega) (val := .string ⟨#[117, 115, 101, 114, 100, 97, 116, 97]⟩) (keyOf_int_mk Tryd.underlying3 (by decide : (Lit.int .i64 8).wf = true)) (plainElem_string Tryd.underlying9 (by decide))
  have HB : Hid (Below w.heap.size w w9) := Lib.hid (by
    have hb := (Below.refl w.heap.size w).alloc (Nat.le_refl _) (.map #[] 0)
    have hz : w.heap.size ≤ (w.alloc (.map #[] 0)).heap.size := by simp
    have k1 := hb.grown g1 hz (fun k e => by cases e; exact Nat.le_refl _)
    have k2 := k1.grown g2 k1.size (fun k e => by cases e; exact Nat.le_refl _)
    have k3 := k2.grown g3 k2.size (fun k e => by cases e; exact Nat.le_refl _)
    have k4 := k3.grown g4 k3.size (fun k e => by cases e; exact Nat.le_refl _)
    have k5 := k4.grown g5 k4.size (fun k e => by cases e; exact Nat.le_refl _)
    have k6 := k5.grown g6 k5.size (fun k e => by cases e; exact Nat.le_refl _)
    have k7 := k6.grown g7 k6.size (fun k e => by cases e; exact Nat.le_refl _)
    have k8 := k7.grown g8 k7.size (fun k e => by cases e; exact Nat.le_refl _)
    exact k8.grown g9 k8.size (fun k e => by cases e; exact Nat.le_refl _))
  have HO : Hid (w9.ownsMap Tryd.prog 3 (plainElem (H := Unit) Tryd.prog 9) w.heap.size 9 namesD) := Lib.hid o9
  clear o0 o1 o2 o3 o4 o5 o6 o7 o8 o9 g1 g2 g3 g4 g5 g6 g7 g8 g9
  go_enter Tryd.func55, Tryd.ntmps55
  go_wp2
  go_ret
  exact ⟨_, rfl, HO.out, HB.out⟩
theorem type_any (k p q : Int) (s : ByteArray) (r : Int) (w : World) (hk : (Lit.int .i64 k).wf = true) :
    Calls Tryd.prog 41 #[.agg #[.int .i64 k, .int .i64 p, .int .i64 q, .string s, .int .i64 r]] w fun e w' => e = .returned (.string (typeS k)) ∧ Below w.heap.size w w' := by
  have hK := keyOf_int_mk Tryd.underlying3 hk
  have Q := Lib.hid names_any
  have QL : Hid (∀ W b, W.ownsMap Tryd.prog 3 (plainElem (H := Unit) Tryd.prog 9) b 9 namesD → (Instr.lookup 68 (.map (some b)) (.int .i64 k) false).run Tryd.prog W = .ok (.string (typeS k)) W) := Lib.hid fun W b ho => by
    obtain ⟨v, ps, hr, hv⟩ := ho.lookup law47 Tryd.underlying68 (zeroS W) (plainElem_string Tryd.underlying9 (by decide)) hK
    rw [show (⟨#[]⟩ : ByteArray).data.toList = [] from rfl, namesD_at] at hv
    obtain ⟨s, rfl, e, _⟩ := plainElem_string_inv Tryd.underlying9 hv
    rw [hr, show typeS k = s from by unfold typeS; rw [lit_inj e]]
  clear hK hk
  generalize typeS k = z at *
  go_enter Tryd.func41, Tryd.ntmps41
  go_upto_region 1 with fail
  go_region_law (go_simp; go_at_call 55; (with_reducible refine (Q.out _).mono ?_); rintro e w1 ⟨b, rfl, ho, hb1⟩; have L1 := QL.out _ _ ho; obtain ⟨hc1, hf1⟩ := bcell hb1; have hz := hb1.size; (try simp at hz); (try (have z1_0 : w.heap.size < w1.heap.size := (by omega))); clear hz; (try (have c1_0 : w1.cell? ⟨w.heap.size, 0, none⟩ = some (.int .i64 k) := by go_simp)); (try (have c1_1 : w1.cell? ⟨w.heap.size, 1, none⟩ = some (.int .i64 p) := by go_simp)); (try (have c1_2 : w1.cell? ⟨w.heap.size, 2, none⟩ = some (.int .i64 q) := by go_simp)); (try (have c1_3 : w1.cell? ⟨w.heap.size, 3, none⟩ = some (.string s) := by go_simp)); (try (have c1_4 : w1.cell? ⟨w.heap.size, 4, none⟩ = some (.int .i64 r) := by go_simp)); clear ho)
  all_goals (
    go_wp2
    go_ret
    refine ⟨rfl, ?_⟩
    repeat (first | exact Below.refl _ _ | refine below_drewN ?_ _ | refine Below.drew ?_ | refine Below.setCell ?_ (by first | omega | (simp; done) | (simp; omega)) _ | refine Below.alloc ?_ (by first | omega | (simp; done) | (simp; omega)) _ | refine vstep (by assumption) (by first | omega | (simp; done) | (simp; omega)) ?_))
theorem rtype_any (k p q : Int) (s : ByteArray) (r : Int) (w : World) :
    Calls Tryd.prog 51 #[.agg #[.int .i64 k, .int .i64 p, .int .i64 q, .string s, .int .i64 r]] w fun e w' => e = .returned (.string (typeS k)) ∧ Below w.heap.size w w' := by
  by_cases h0 : k = 0
  · subst h0
    rw [show typeS 0 = ⟨#[110, 105, 108]⟩ from rfl]
    go_enter Tryd.func51, Tryd.ntmps51
    go_wp2
    go_ret
    refine ⟨rfl, ?_⟩
    repeat (first | exact Below.refl _ _ | refine below_drewN ?_ _ | refine Below.drew ?_ | refine Below.setCell ?_ (by first | omega | (simp; done) | (simp; omega)) _ | refine Below.alloc ?_ (by first | omega | (simp; done) | (simp; omega)) _ | refine vstep (by assumption) (by first | omega | (simp; done) | (simp; omega)) ?_)
  by_cases h1 : k = 1
  · subst h1
    rw [show typeS 1 = ⟨#[98, 111, 111, 108, 101, 97, 110]⟩ from rfl]
    clear h0
    go_enter Tryd.func51, Tryd.ntmps51
    go_wp2
    go_ret
    refine ⟨rfl, ?_⟩
    repeat (first | exact Below.refl _ _ | refine below_drewN ?_ _ | refine Below.drew ?_ | refine Below.setCell ?_ (by first | omega | (simp; done) | (simp; omega)) _ | refine Below.alloc ?_ (by first | omega | (simp; done) | (simp; omega)) _ | refine vstep (by assumption) (by first | omega | (simp; done) | (simp; omega)) ?_)
  by_cases h2 : k = 2
  · subst h2
    rw [show typeS 2 = ⟨#[110, 117, 109, 98, 101, 114]⟩ from rfl]
    clear h0
    clear h1
    go_enter Tryd.func51, Tryd.ntmps51
    go_wp2
    go_ret
    refine ⟨rfl, ?_⟩
    repeat (first | exact Below.refl _ _ | refine below_drewN ?_ _ | refine Below.drew ?_ | refine Below.setCell ?_ (by first | omega | (simp; done) | (simp; omega)) _ | refine Below.alloc ?_ (by first | omega | (simp; done) | (simp; omega)) _ | refine vstep (by assumption) (by first | omega | (simp; done) | (simp; omega)) ?_)
  by_cases h3 : k = 3
  · subst h3
    rw [show typeS 3 = ⟨#[115, 116, 114, 105, 110, 103]⟩ from rfl]
    clear h0
    clear h1
    clear h2
    go_enter Tryd.func51, Tryd.ntmps51
    go_wp2
    go_ret
    refine ⟨rfl, ?_⟩
    repeat (first | exact Below.refl _ _ | refine below_drewN ?_ _ | refine Below.drew ?_ | refine Below.setCell ?_ (by first | omega | (simp; done) | (simp; omega)) _ | refine Below.alloc ?_ (by first | omega | (simp; done) | (simp; omega)) _ | refine vstep (by assumption) (by first | omega | (simp; done) | (simp; omega)) ?_)
  by_cases h4 : k = 4
  · subst h4
    rw [show typeS 4 = ⟨#[116, 97, 98, 108, 101]⟩ from rfl]
    clear h0
    clear h1
    clear h2
    clear h3
    go_enter Tryd.func51, Tryd.ntmps51
    go_wp2
    go_ret
    refine ⟨rfl, ?_⟩
    repeat (first | exact Below.refl _ _ | refine below_drewN ?_ _ | refine Below.drew ?_ | refine Below.setCell ?_ (by first | omega | (simp; done) | (simp; omega)) _ | refine Below.alloc ?_ (by first | omega | (simp; done) | (simp; omega)) _ | refine vstep (by assumption) (by first | omega | (simp; done) | (simp; omega)) ?_)
  by_cases h5 : k = 5
  · subst h5
    rw [show typeS 5 = ⟨#[102, 117, 110, 99, 116, 105, 111, 110]⟩ from rfl]
    clear h0
    clear h1
    clear h2
    clear h3
    clear h4
    go_enter Tryd.func51, Tryd.ntmps51
    go_wp2
    go_ret
    refine ⟨rfl, ?_⟩
    repeat (first | exact Below.refl _ _ | refine below_drewN ?_ _ | refine Below.drew ?_ | refine Below.setCell ?_ (by first | omega | (simp; done) | (simp; omega)) _ | refine Below.alloc ?_ (by first | omega | (simp; done) | (simp; omega)) _ | refine vstep (by assumption) (by first | omega | (simp; done) | (simp; omega)) ?_)
  by_cases h6 : k = 6
  · subst h6
    rw [show typeS 6 = ⟨#[102, 117, 110, 99, 116, 105, 111, 110]⟩ from rfl]
    clear h0
    clear h1
    clear h2
    clear h3
    clear h4
    clear h5
    go_enter Tryd.func51, Tryd.ntmps51
    go_wp2
    go_ret
    refine ⟨rfl, ?_⟩
    repeat (first | exact Below.refl _ _ | refine below_drewN ?_ _ | refine Below.drew ?_ | refine Below.setCell ?_ (by first | omega | (simp; done) | (simp; omega)) _ | refine Below.alloc ?_ (by first | omega | (simp; done) | (simp; omega)) _ | refine vstep (by assumption) (by first | omega | (simp; done) | (simp; omega)) ?_)
  by_cases h7 : k = 7
  · subst h7
    rw [show typeS 7 = ⟨#[116, 104, 114, 101, 97, 100]⟩ from rfl]
    clear h0
    clear h1
    clear h2
    clear h3
    clear h4
    clear h5
    clear h6
    go_enter Tryd.func51, Tryd.ntmps51
    go_wp2
    go_ret
    refine ⟨rfl, ?_⟩
    repeat (first | exact Below.refl _ _ | refine below_drewN ?_ _ | refine Below.drew ?_ | refine Below.setCell ?_ (by first | omega | (simp; done) | (simp; omega)) _ | refine Below.alloc ?_ (by first | omega | (simp; done) | (simp; omega)) _ | refine vstep (by assumption) (by first | omega | (simp; done) | (simp; omega)) ?_)
  by_cases h8 : k = 8
  · subst h8
    rw [show typeS 8 = ⟨#[117, 115, 101, 114, 100, 97, 116, 97]⟩ from rfl]
    clear h0
    clear h1
    clear h2
    clear h3
    clear h4
    clear h5
    clear h6
    clear h7
    go_enter Tryd.func51, Tryd.ntmps51
    go_wp2
    go_ret
    refine ⟨rfl, ?_⟩
    repeat (first | exact Below.refl _ _ | refine below_drewN ?_ _ | refine Below.drew ?_ | refine Below.setCell ?_ (by first | omega | (simp; done) | (simp; omega)) _ | refine Below.alloc ?_ (by first | omega | (simp; done) | (simp; omega)) _ | refine vstep (by assumption) (by first | omega | (simp; done) | (simp; omega)) ?_)
  have e0 : (k == 0) = false := by rw [beq_eq_false_iff_ne]; exact h0
  have e1 : (k == 1) = false := by rw [beq_eq_false_iff_ne]; exact h1
  have e2 : (k == 2) = false := by rw [beq_eq_false_iff_ne]; exact h2
  have e3 : (k == 3) = false := by rw [beq_eq_false_iff_ne]; exact h3
  have e4 : (k == 4) = false := by rw [beq_eq_false_iff_ne]; exact h4
  have e5 : (k == 5) = false := by rw [beq_eq_false_iff_ne]; exact h5
  have e6 : (k == 6) = false := by rw [beq_eq_false_iff_ne]; exact h6
  have e7 : (k == 7) = false := by rw [beq_eq_false_iff_ne]; exact h7
  have e8 : (k == 8) = false := by rw [beq_eq_false_iff_ne]; exact h8
  have hn : typeS k = ⟨#[]⟩ := by unfold typeS typeN; rw [if_neg h0, if_neg h1, if_neg h2, if_neg h3, if_neg h4, if_neg h5, if_neg h6, if_neg h7, if_neg h8]
  rw [hn]
  clear hn h0 h1 h2 h3 h4 h5 h6 h7 h8
  go_enter Tryd.func51, Tryd.ntmps51
  go_wp2
  go_ret
  refine ⟨rfl, ?_⟩
  repeat (first | exact Below.refl _ _ | refine below_drewN ?_ _ | refine Below.drew ?_ | refine Below.setCell ?_ (by first | omega | (simp; done) | (simp; omega)) _ | refine Below.alloc ?_ (by first | omega | (simp; done) | (simp; omega)) _ | refine vstep (by assumption) (by first | omega | (simp; done) | (simp; omega)) ?_)
end Go.Proofs.YtimblnhigoggpaaDoor
